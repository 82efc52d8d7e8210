/- The program's Put: a frame's words, where it may be. -/
import Derived.Test.YtcpgigmnmlmpjaaDoorFldB
import Derived.Test.YtcpgigmnmlmpjaaDoorFrmA
import Derived.Test.YtcpgigmnmlmpjaaDoorFrmT
import Derived.Test.YtcpgigmnmlmpjaaDoorFrmLaid
import Derived.StillTailTactics
import Derived.Deep.CutRange
import Derived.Deep.DeepCutAuto
namespace Go.Proofs.YtcpgigmnmlmpjaaDoor
open Go.RowKit

/-- In the midst of Put: the fields, the frame's block, the answer's block, the words that are laid one behind the other. -/
structure Half (w wk : World) (b1 b2 b4 : Nat) (bx : Array Value) (x0 x1 x2 : Nat) : Prop where
  lay : Lay wk
  below : Below w.heap.size w wk
  box : wk.heap[b1]? = some (.cells bx 24 (0, 0))
  res : wk.heap[b2]? = some (.cells #[.int .u64 0, .int .u64 0, .int .u64 0] 28 (0, 0))
  wds : wk.heap[b4]? = some (.cells #[.int .u64 (x0 : Int), .int .u64 (x1 : Int), .int .u64 (x2 : Int)] 28 (0, 0))
  ge1 : w.heap.size ≤ b1
  ge2 : w.heap.size ≤ b2
  ge4 : w.heap.size ≤ b4
  ne1 : b1 ≠ b4
  ne2 : b2 ≠ b4
  big : 11 ≤ w.heap.size

theorem block_lt {w : World} {b : Nat} {o : Obj} (h : w.heap[b]? = some o) : b < w.heap.size := by
  by_cases hb : b < w.heap.size
  · exact hb
  · have : w.heap[b]? = none := Array.getElem?_eq_none (by omega)
    rw [this] at h; cases h

theorem Half.kept {w wk wn : World} {b1 b2 b4 : Nat} {bx : Array Value} {x0 x1 x2 : Nat} (h : Half w wk b1 b2 b4 bx x0 x1 x2) (hb : Below wk.heap.size wk wn) : Half w wn b1 b2 b4 bx x0 x1 x2 where
  lay := h.lay.kept hb
  below := h.below.trans (hb.mono h.below.size)
  box := (hb.block _ (block_lt h.box)).trans h.box
  res := (hb.block _ (block_lt h.res)).trans h.res
  wds := (hb.block _ (block_lt h.wds)).trans h.wds
  ge1 := h.ge1
  ge2 := h.ge2
  ge4 := h.ge4
  ne1 := h.ne1
  ne2 := h.ne2
  big := h.big

theorem Lay.set {w : World} (h : Lay w) {B o : Nat} (hB : 11 ≤ B) (v : Value) : Lay (w.setCell ⟨B, o, none⟩ v) := by
  have hb : Below B w (w.setCell ⟨B, o, none⟩ v) := (Below.refl B w).setCell (Nat.le_refl _) v
  have k : ∀ {g : Nat} {a b : Int}, Fd w g a b → g < 11 → Fd (w.setCell ⟨B, o, none⟩ v) g a b := fun h hg =>
    ⟨(hb.cell (show _ < B by dsimp; omega)).trans h.1, (hb.cell (show _ < B by dsimp; omega)).trans h.2⟩
  exact ⟨k h.kind_ (by omega), k h.client_ (by omega), k h.service_ (by omega), k h.slot_ (by omega), k h.try_ (by omega), k h.sure_ (by omega), k h.stream_ (by omega), k h.gen_ (by omega), k h.call_ (by omega), k h.value_ (by omega), k h.seq_ (by omega)⟩

theorem Half.set {w wk : World} {b1 b2 b4 : Nat} {bx : Array Value} {x0 x1 x2 : Nat} (h : Half w wk b1 b2 b4 bx x0 x1 x2) (i : Nat) (y y0 y1 y2 : Nat)
    (e : #[Value.int .u64 (x0 : Int), .int .u64 (x1 : Int), .int .u64 (x2 : Int)].setIfInBounds i (.int .u64 (y : Int)) = #[Value.int .u64 (y0 : Int), .int .u64 (y1 : Int), .int .u64 (y2 : Int)]) :
    Half w (wk.setCell ⟨b4, i, none⟩ (.int .u64 (y : Int))) b1 b2 b4 bx y0 y1 y2 where
  lay := h.lay.set (Nat.le_trans h.big h.ge4) _
  below := h.below.setCell h.ge4 _
  box := by rw [heap_setCell_other _ _ _ _ h.ne1]; exact h.box
  res := by rw [heap_setCell_other _ _ _ _ h.ne2]; exact h.res
  wds := by rw [heap_setCell_same _ _ _ _ _ _ h.wds, e]
  ge1 := h.ge1
  ge2 := h.ge2
  ge4 := h.ge4
  ne1 := h.ne1
  ne2 := h.ne2
  big := h.big

theorem Half.boxAt {w wk : World} {b1 b2 b4 : Nat} {bx : Array Value} {x0 x1 x2 : Nat} (h : Half w wk b1 b2 b4 bx x0 x1 x2) (i : Nat) : wk.cell? ⟨b1, i, none⟩ = bx[i]? := cell_of_row _ _ _ _ _ _ h.box
theorem Half.wdsAt {w wk : World} {b1 b2 b4 : Nat} {bx : Array Value} {x0 x1 x2 : Nat} (h : Half w wk b1 b2 b4 bx x0 x1 x2) (i : Nat) : wk.cell? ⟨b4, i, none⟩ = (#[Value.int .u64 (x0 : Int), .int .u64 (x1 : Int), .int .u64 (x2 : Int)])[i]? := cell_of_row _ _ _ _ _ _ h.wds
theorem Half.free {w wk : World} {b1 b2 b4 : Nat} {bx : Array Value} {x0 x1 x2 : Nat} (h : Half w wk b1 b2 b4 bx x0 x1 x2) (i : Nat) : wk.frozen? ⟨b4, i, none⟩ = false := frozen_of_row _ _ _ _ _ h.wds

theorem Half.resAt {w wk : World} {b1 b2 b4 : Nat} {bx : Array Value} {x0 x1 x2 : Nat} (h : Half w wk b1 b2 b4 bx x0 x1 x2) (i : Nat) : wk.cell? ⟨b2, i, none⟩ = (#[Value.int .u64 0, .int .u64 0, .int .u64 0])[i]? := cell_of_row _ _ _ _ _ _ h.res
theorem Half.resFree {w wk : World} {b1 b2 b4 : Nat} {bx : Array Value} {x0 x1 x2 : Nat} (h : Half w wk b1 b2 b4 bx x0 x1 x2) (i : Nat) : wk.frozen? ⟨b2, i, none⟩ = false := frozen_of_row _ _ _ _ _ h.res
theorem Half.wds3 {w wk : World} {b1 b2 b4 : Nat} {bx : Array Value} {x0 x1 x2 : Nat} (h : Half w wk b1 b2 b4 bx x0 x1 x2) : wk.cell? ⟨b4, 0, none⟩ = some (.int .u64 (x0 : Int)) ∧ wk.cell? ⟨b4, 1, none⟩ = some (.int .u64 (x1 : Int)) ∧ wk.cell? ⟨b4, 2, none⟩ = some (.int .u64 (x2 : Int)) := ⟨h.wdsAt 0, h.wdsAt 1, h.wdsAt 2⟩
theorem Half.res3 {w wk : World} {b1 b2 b4 : Nat} {bx : Array Value} {x0 x1 x2 : Nat} (h : Half w wk b1 b2 b4 bx x0 x1 x2) : wk.cell? ⟨b2, 0, none⟩ = some (.int .u64 0) ∧ wk.cell? ⟨b2, 1, none⟩ = some (.int .u64 0) ∧ wk.cell? ⟨b2, 2, none⟩ = some (.int .u64 0) := ⟨h.resAt 0, h.resAt 1, h.resAt 2⟩
theorem Half.free3 {w wk : World} {b1 b2 b4 : Nat} {bx : Array Value} {x0 x1 x2 : Nat} (h : Half w wk b1 b2 b4 bx x0 x1 x2) : wk.frozen? ⟨b2, 0, none⟩ = false ∧ wk.frozen? ⟨b2, 1, none⟩ = false ∧ wk.frozen? ⟨b2, 2, none⟩ = false := ⟨h.resFree 0, h.resFree 1, h.resFree 2⟩
/-- The words are laid where the answer is. -/
theorem Half.final {w wk : World} {b1 b2 b4 : Nat} {bx : Array Value} {x0 x1 x2 : Nat} (h : Half w wk b1 b2 b4 bx x0 x1 x2) :
    (((wk.setCell ⟨b2, 0, none⟩ (.int .u64 (x0 : Int))).setCell ⟨b2, 1, none⟩ (.int .u64 (x1 : Int))).setCell ⟨b2, 2, none⟩ (.int .u64 (x2 : Int))).heap[b2]? = some (.cells #[.int .u64 (x0 : Int), .int .u64 (x1 : Int), .int .u64 (x2 : Int)] 28 (0, 0))
      ∧ Below w.heap.size w (((wk.setCell ⟨b2, 0, none⟩ (.int .u64 (x0 : Int))).setCell ⟨b2, 1, none⟩ (.int .u64 (x1 : Int))).setCell ⟨b2, 2, none⟩ (.int .u64 (x2 : Int))) :=
  ⟨heap_setCell_same _ _ _ _ _ _ (heap_setCell_same _ _ _ _ _ _ (heap_setCell_same _ _ _ _ _ _ h.res)), ((h.below.setCell h.ge2 _).setCell h.ge2 _).setCell h.ge2 _⟩
/-- A draw turns nothing of it. -/
theorem Half.drew {w wk : World} {b1 b2 b4 : Nat} {bx : Array Value} {x0 x1 x2 : Nat} (h : Half w wk b1 b2 b4 bx x0 x1 x2) : Half w wk.drew b1 b2 b4 bx x0 x1 x2 :=
  ⟨⟨h.lay.kind_, h.lay.client_, h.lay.service_, h.lay.slot_, h.lay.try_, h.lay.sure_, h.lay.stream_, h.lay.gen_, h.lay.call_, h.lay.value_, h.lay.seq_⟩, h.below.drew, h.box, h.res, h.wds, h.ge1, h.ge2, h.ge4, h.ne1, h.ne2, h.big⟩

/-- A frame's block. -/
def fcells (f : Fm.Fr) : Array Value := #[.int .i64 (f.kind : Int), .int .i64 (f.client : Int), .int .i64 (f.service : Int), .int .i64 (f.slot : Int), .int .i64 (f.gen : Int), .int .u32 (f.call : Int), .int .i64 (f.tr : Int), .bool f.sure, .bool f.stream, .int .i64 (f.seq : Int), .int .u32 (f.value : Int)]

/-- Half, as Put begins to lay the words. -/
theorem Half.start {w w1 : World} (f : Fm.Fr) (hL : Lay w) (hb : Below ((w.alloc (.cells (fcells f) 24)).alloc (.cells #[.int .u64 0, .int .u64 0, .int .u64 0] 28)).heap.size ((w.alloc (.cells (fcells f) 24)).alloc (.cells #[.int .u64 0, .int .u64 0, .int .u64 0] 28)) w1) :
    Half w (w1.alloc (.cells #[.int .u64 0, .int .u64 0, .int .u64 0] 28)) w.heap.size (w.heap.size + 1) w1.heap.size (fcells f) 0 0 0 := by
  have hs := hb.size
  simp only [World.size_alloc] at hs
  have hbel : Below w.heap.size w w1 := (((Below.refl _ w).alloc (Nat.le_refl _) _).alloc (by simp) _).trans (hb.mono (by simp; omega))
  exact {
    lay := hL.kept (hbel.alloc (by omega) _)
    below := hbel.alloc (by omega) _
    box := by rw [Below.heap_alloc _ _ _ (by omega), hb.block _ (by simp; omega), heap_alloc2_old]
    res := by rw [Below.heap_alloc _ _ _ (by omega), hb.block _ (by simp), heap_alloc2_new]
    wds := heap_alloc_new _ _
    ge1 := Nat.le_refl _
    ge2 := by omega
    ge4 := by omega
    ne1 := by omega
    ne2 := by omega
    big := hL.size }

set_option maxRecDepth 100000 in
set_option maxHeartbeats 4000000 in
/-- Put: the frame's words. -/
theorem fput_yes (f : Fm.Fr) (h : f.Ok) (w : World) (hL : Lay w) :
    Calls Tryd.prog 7 #[.agg #[.int .i64 (f.kind : Int), .int .i64 (f.client : Int), .int .i64 (f.service : Int), .int .i64 (f.slot : Int), .int .i64 (f.gen : Int), .int .u32 (f.call : Int), .int .i64 (f.tr : Int), .bool f.sure, .bool f.stream, .int .i64 (f.seq : Int), .int .u32 (f.value : Int)]] w fun e w' => e = .returned (.tuple #[.agg #[.int .u64 (Fm.w0 f : Nat), .int .u64 (Fm.w1 f : Nat), .int .u64 (Fm.w2 f : Nat)], .bool true]) ∧ Below w.heap.size w w' := by
  have hm : Fm.May f.kind f.client f.service f.slot f.gen f.tr f.seq := by unfold Fm.Fr.Ok at h; unfold Fm.May; omega
  obtain ⟨-, h1, h2, h3, h4, h5, h6, h7, h8, h9⟩ := h
  go_enter Tryd.func7, Tryd.ntmps7
  go_wp2_with fail
  refine (fmay_yes _ _ _ _ _ _ _ _ _ _ _ hm _).mono ?_
  rintro e w1 ⟨rfl, hb1⟩
  have hh := Lib.hid (Half.start f hL hb1)
  clear hb1 hm
  obtain ⟨c0, c1⟩ := hh.out.lay.kind_
  have cw : (_ : Option Value) = some (.int .u64 0) := hh.out.wdsAt 0
  have cb : (_ : Option Value) = some (.int .i64 (f.kind : Int)) := hh.out.boxAt 0
  go_wp2_with fail
  refine (put_yes 0 f.kind 0 4 (by omega) (by omega) (by omega) (by omega) _).mono ?_
  rintro e w2 ⟨rfl, hb2⟩
  have hn := hh.out.kept hb2
  clear hb2 hh c0 c1 cw cb
  have fz := hn.free 0
  have cn : (_ : Option Value) = some (.int .u64 0) := hn.wdsAt 0
  have hh := Lib.hid (hn.set 0 (Fld.put 0 0 4 f.kind) (Fm.a1 f) 0 0 rfl)
  clear hn
  obtain ⟨c0, c1⟩ := hh.out.lay.client_
  have cw : (_ : Option Value) = some (.int .u64 (Fm.a1 f : Nat)) := hh.out.wdsAt 0
  have cb : (_ : Option Value) = some (.int .i64 (f.client : Int)) := hh.out.boxAt 1
  go_wp2_with fail
  refine (put_yes (Fm.a1 f) f.client 4 4 (Fm.a1_small f) (by omega) (by omega) (by omega) _).mono ?_
  rintro e w3 ⟨rfl, hb2⟩
  have hn := hh.out.kept hb2
  clear hb2 hh c0 c1 cw cb
  clear fz cn
  have fz := hn.free 0
  have cn : (_ : Option Value) = some (.int .u64 (Fm.a1 f : Nat)) := hn.wdsAt 0
  have hh := Lib.hid (hn.set 0 (Fld.put (Fm.a1 f) 4 4 f.client) (Fm.a2 f) 0 0 rfl)
  clear hn
  obtain ⟨c0, c1⟩ := hh.out.lay.service_
  have cw : (_ : Option Value) = some (.int .u64 (Fm.a2 f : Nat)) := hh.out.wdsAt 0
  have cb : (_ : Option Value) = some (.int .i64 (f.service : Int)) := hh.out.boxAt 2
  go_wp2_with fail
  refine (put_yes (Fm.a2 f) f.service 8 4 (Fm.a2_small f) (by omega) (by omega) (by omega) _).mono ?_
  rintro e w4 ⟨rfl, hb2⟩
  have hn := hh.out.kept hb2
  clear hb2 hh c0 c1 cw cb
  clear fz cn
  have fz := hn.free 0
  have cn : (_ : Option Value) = some (.int .u64 (Fm.a2 f : Nat)) := hn.wdsAt 0
  have hh := Lib.hid (hn.set 0 (Fld.put (Fm.a2 f) 8 4 f.service) (Fm.a3 f) 0 0 rfl)
  clear hn
  obtain ⟨c0, c1⟩ := hh.out.lay.slot_
  have cw : (_ : Option Value) = some (.int .u64 (Fm.a3 f : Nat)) := hh.out.wdsAt 0
  have cb : (_ : Option Value) = some (.int .i64 (f.slot : Int)) := hh.out.boxAt 3
  go_wp2_with fail
  refine (put_yes (Fm.a3 f) f.slot 12 8 (Fm.a3_small f) (by omega) (by omega) (by omega) _).mono ?_
  rintro e w5 ⟨rfl, hb2⟩
  have hn := hh.out.kept hb2
  clear hb2 hh c0 c1 cw cb
  clear fz cn
  have fz := hn.free 0
  have cn : (_ : Option Value) = some (.int .u64 (Fm.a3 f : Nat)) := hn.wdsAt 0
  have hh := Lib.hid (hn.set 0 (Fld.put (Fm.a3 f) 12 8 f.slot) (Fm.a4 f) 0 0 rfl)
  clear hn
  obtain ⟨c0, c1⟩ := hh.out.lay.try_
  have cw : (_ : Option Value) = some (.int .u64 (Fm.a4 f : Nat)) := hh.out.wdsAt 0
  have cb : (_ : Option Value) = some (.int .i64 (f.tr : Int)) := hh.out.boxAt 6
  go_wp2_with fail
  refine (put_yes (Fm.a4 f) f.tr 20 4 (Fm.a4_small f) (by omega) (by omega) (by omega) _).mono ?_
  rintro e w6 ⟨rfl, hb2⟩
  have hn := hh.out.kept hb2
  clear hb2 hh c0 c1 cw cb
  clear fz cn
  have fz := hn.free 0
  have cn : (_ : Option Value) = some (.int .u64 (Fm.a4 f : Nat)) := hn.wdsAt 0
  have hh := Lib.hid (hn.set 0 (Fld.put (Fm.a4 f) 20 4 f.tr) (Fm.a5 f) 0 0 rfl)
  clear hn
  go_upto_region 9 with fail
  go_cut [] (fun wx => Hid (Half w wx w.heap.size (w.heap.size + 1) w1.heap.size (fcells f) (Fm.a6 f) 0 0))
  case first =>
    obtain ⟨c0, c1⟩ := hh.out.lay.sure_
    have cw : (_ : Option Value) = some (.int .u64 (Fm.a5 f : Nat)) := hh.out.wdsAt 0
    have cb : (_ : Option Value) = some (.bool f.sure) := hh.out.boxAt 7
    clear c0 c1 cw cb
    generalize w6.setCell ⟨w1.heap.size, 0, none⟩ (.int .u64 ((Fld.put (Fm.a4 f) 20 4 f.tr : Nat) : Int)) = wc at hh ⊢
    have hd := hh.out.drew
    refine wp_region_still_tail 6 (by kernel_rfl) (by kernel_rfl) ?_
    change wpStill _ _ wc.drew (fun a => wpList _ _ _ _ a wc.drew) _ _
    generalize wc.drew = wd at hd ⊢
    obtain ⟨c0, c1⟩ := hd.lay.sure_
    have cw : (_ : Option Value) = some (.int .u64 (Fm.a5 f : Nat)) := hd.wdsAt 0
    have cb : (_ : Option Value) = some (.bool f.sure) := hd.boxAt 7
    have HD := Lib.hid hd
    clear hd hh
    simp only [List.take_succ_cons, List.take_zero, List.drop_succ_cons, List.drop_zero]
    still_step
    still_step
    still_step
    still_step
    still_step
    still_call ((bit_of f.sure _).mono (fun _ _ h => ⟨h.1, h.2.symm⟩))
    refine wpStill_nil ?_
    go_wp2_with fail
    refine (put_yes (Fm.a5 f) f.sure.toNat 24 1 (Fm.a5_small f) (by have := Fm.toNat_le f.sure; omega) (by omega) (by omega) _).mono ?_
    rintro e w2 ⟨rfl, hb2⟩
    have hn := HD.out.kept hb2
    have fz := hn.free 0
    have cn : (_ : Option Value) = some (.int .u64 (Fm.a5 f : Nat)) := hn.wdsAt 0
    have HN := Lib.hid hn
    clear hb2 hn
    go_wp2_with fail
    go_meet
    exact Lib.hid (HN.out.set 0 _ (Fm.a6 f) 0 0 rfl)
  clear hh
  have hh := hcut
  clear hcut
  go_upto_region 10 with fail
  go_cut [] (fun wx => Hid (Half w wx w.heap.size (w.heap.size + 1) w1.heap.size (fcells f) (Fm.a7 f) 0 0))
  case first =>
    obtain ⟨c0, c1⟩ := hh.out.lay.stream_
    have cw : (_ : Option Value) = some (.int .u64 (Fm.a6 f : Nat)) := hh.out.wdsAt 0
    have cb : (_ : Option Value) = some (.bool f.stream) := hh.out.boxAt 8
    clear c0 c1 cw cb
    have hd := hh.out.drew
    refine wp_region_still_tail 6 (by kernel_rfl) (by kernel_rfl) ?_
    change wpStill _ _ wc.drew (fun a => wpList _ _ _ _ a wc.drew) _ _
    generalize wc.drew = wd at hd ⊢
    obtain ⟨c0, c1⟩ := hd.lay.stream_
    have cw : (_ : Option Value) = some (.int .u64 (Fm.a6 f : Nat)) := hd.wdsAt 0
    have cb : (_ : Option Value) = some (.bool f.stream) := hd.boxAt 8
    have HD := Lib.hid hd
    clear hd hh
    simp only [List.take_succ_cons, List.take_zero, List.drop_succ_cons, List.drop_zero]
    still_step
    still_step
    still_step
    still_step
    still_step
    still_call ((bit_of f.stream _).mono (fun _ _ h => ⟨h.1, h.2.symm⟩))
    refine wpStill_nil ?_
    go_wp2_with fail
    refine (put_yes (Fm.a6 f) f.stream.toNat 25 1 (Fm.a6_small f) (by have := Fm.toNat_le f.stream; omega) (by omega) (by omega) _).mono ?_
    rintro e w2 ⟨rfl, hb2⟩
    have hn := HD.out.kept hb2
    have fz := hn.free 0
    have cn : (_ : Option Value) = some (.int .u64 (Fm.a6 f : Nat)) := hn.wdsAt 0
    have HN := Lib.hid hn
    clear hb2 hn
    go_wp2_with fail
    go_meet
    exact Lib.hid (HN.out.set 0 _ (Fm.a7 f) 0 0 rfl)
  clear hh
  have hh := hcut
  clear hcut
  obtain ⟨c0, c1⟩ := hh.out.lay.gen_
  have cw : (_ : Option Value) = some (.int .u64 (Fm.a7 f : Nat)) := hh.out.wdsAt 0
  have cb : (_ : Option Value) = some (.int .i64 (f.gen : Int)) := hh.out.boxAt 4
  go_wp2_with fail
  refine (put_yes (Fm.a7 f) f.gen 26 24 (Fm.a7_small f) (by omega) (by omega) (by omega) _).mono ?_
  rintro e w9 ⟨rfl, hb2⟩
  have hn := hh.out.kept hb2
  clear hb2 hh c0 c1 cw cb
  have fz := hn.free 0
  have cn : (_ : Option Value) = some (.int .u64 (Fm.a7 f : Nat)) := hn.wdsAt 0
  have hh := Lib.hid (hn.set 0 (Fld.put (Fm.a7 f) 26 24 f.gen) (Fm.w0 f) 0 0 rfl)
  clear hn
  obtain ⟨c0, c1⟩ := hh.out.lay.call_
  have cw : (_ : Option Value) = some (.int .u64 0) := hh.out.wdsAt 1
  have cb : (_ : Option Value) = some (.int .u32 (f.call : Int)) := hh.out.boxAt 5
  go_wp2_with fail
  refine (put_yes 0 f.call 0 32 (by omega) (by omega) (by omega) (by omega) _).mono ?_
  rintro e w10 ⟨rfl, hb2⟩
  have hn := hh.out.kept hb2
  clear hb2 hh c0 c1 cw cb
  clear fz cn
  have fz := hn.free 1
  have cn : (_ : Option Value) = some (.int .u64 0) := hn.wdsAt 1
  have hh := Lib.hid (hn.set 1 (Fld.put 0 0 32 f.call) (Fm.w0 f) (Fm.b1 f) 0 rfl)
  clear hn
  obtain ⟨c0, c1⟩ := hh.out.lay.value_
  have cw : (_ : Option Value) = some (.int .u64 (Fm.b1 f : Nat)) := hh.out.wdsAt 1
  have cb : (_ : Option Value) = some (.int .u32 (f.value : Int)) := hh.out.boxAt 10
  go_wp2_with fail
  refine (put_yes (Fm.b1 f) f.value 32 32 (Fm.b1_small f) (by omega) (by omega) (by omega) _).mono ?_
  rintro e w11 ⟨rfl, hb2⟩
  have hn := hh.out.kept hb2
  clear hb2 hh c0 c1 cw cb
  clear fz cn
  have fz := hn.free 1
  have cn : (_ : Option Value) = some (.int .u64 (Fm.b1 f : Nat)) := hn.wdsAt 1
  have hh := Lib.hid (hn.set 1 (Fld.put (Fm.b1 f) 32 32 f.value) (Fm.w0 f) (Fm.w1 f) 0 rfl)
  clear hn
  obtain ⟨c0, c1⟩ := hh.out.lay.seq_
  have cw : (_ : Option Value) = some (.int .u64 0) := hh.out.wdsAt 2
  have cb : (_ : Option Value) = some (.int .i64 (f.seq : Int)) := hh.out.boxAt 9
  go_wp2_with fail
  refine (put_yes 0 f.seq 0 16 (by omega) (by omega) (by omega) (by omega) _).mono ?_
  rintro e w12 ⟨rfl, hb2⟩
  have hn := hh.out.kept hb2
  clear hb2 hh c0 c1 cw cb
  clear fz cn
  have fz := hn.free 2
  have cn : (_ : Option Value) = some (.int .u64 0) := hn.wdsAt 2
  have hh := Lib.hid (hn.set 2 (Fld.put 0 0 16 f.seq) (Fm.w0 f) (Fm.w1 f) (Fm.w2 f) rfl)
  clear hn
  obtain ⟨c0, c1, c2⟩ : _ ∧ _ ∧ _ := hh.out.wds3
  obtain ⟨r0, r1, r2⟩ : _ ∧ _ ∧ _ := hh.out.res3
  obtain ⟨f0, f1, f2⟩ : _ ∧ _ ∧ _ := hh.out.free3
  obtain ⟨p1, p2⟩ := hh.out.final
  have HP := Lib.hid p1
  have HQ := Lib.hid p2
  clear hh p1 p2
  go_wp2_with fail
  refine bodyPost_ret (results_row_tmp Tryd.results7 _ _ (w.heap.size + 1) 28 _ (0, 0) _ rfl HP.out Tryd.underlying28 rfl Tryd.sizeWords) rfl ⟨rfl, HQ.out⟩

end Go.Proofs.YtcpgigmnmlmpjaaDoor
