/- The document's own Put, with any frame: its words where it may be, none where it may not. -/
import Derived.Test.YtcpgigmnmlmpjaaDoorFrmR
import Derived.Test.YtcpgigmnmlmpjaaDoorFrmT
import Derived.Test.YtcpgigmnmlmpjaaDoorWalkC
import Derived.Deep.RegionHeld3
import Derived.Deep.LoopGhost
namespace Go.Proofs.YtcpgigmnmlmpjaaDoor
open Go.RowKit

/-- Two blocks that were laid are there behind all that lays its own blocks. -/
theorem one_kept {w wk : World} {A B : Obj} (h : Below ((w.alloc A).alloc B).heap.size ((w.alloc A).alloc B) wk) : wk.heap[w.heap.size]? = some A := by
  rw [h.block _ (by simp; omega), heap_alloc2_old]
theorem two_kept {w wk : World} {A B : Obj} (h : Below ((w.alloc A).alloc B).heap.size ((w.alloc A).alloc B) wk) : wk.heap[w.heap.size + 1]? = some B := by
  rw [h.block _ (by simp), heap_alloc2_new]
theorem both_below {w wk : World} {A B : Obj} (h : Below ((w.alloc A).alloc B).heap.size ((w.alloc A).alloc B) wk) : Below w.heap.size w wk := (below_two w A B).trans (h.mono (by simp; omega))
theorem words_there {wk : World} {b : Nat} {y0 y1 y2 x0 x1 x2 : Value} {t : TypeId} (h : wk.heap[b]? = some (.cells #[y0, y1, y2] t (0, 0))) :
    (((wk.setCell ⟨b, 0, none⟩ x0).setCell ⟨b, 1, none⟩ x1).setCell ⟨b, 2, none⟩ x2).heap[b]? = some (.cells #[x0, x1, x2] t (0, 0)) :=
  heap_setCell_same _ _ _ _ _ _ (heap_setCell_same _ _ _ _ _ _ (heap_setCell_same _ _ _ _ _ _ h))
theorem block_there {w : World} {b : Nat} {o : Obj} (h : w.heap[b]? = some o) : b < w.heap.size := by
  by_cases hb : b < w.heap.size
  · exact hb
  · have : w.heap[b]? = none := Array.getElem?_eq_none (by omega)
    rw [this] at h; cases h

set_option maxRecDepth 100000 in
set_option maxHeartbeats 1000000 in
/-- The document's Put: no words. -/
theorem fput2_no (k c s t g a r q v : Int) (su st : Bool) (h : ¬ Fm.May k c s t g r q) (w : World) :
    Calls Tryd.prog 8 #[.agg #[.int .i64 k, .int .i64 c, .int .i64 s, .int .i64 t, .int .i64 g, .int .u32 a, .int .i64 r, .bool su, .bool st, .int .i64 q, .int .u32 v]] w fun e w' => e = .returned (.tuple #[.agg #[.int .u64 0, .int .u64 0, .int .u64 0], .bool false]) ∧ Below w.heap.size w w' := by
  go_enter Tryd.func8, Tryd.ntmps8
  go_wp2_with fail
  refine (fmay2_no _ _ _ _ _ _ _ _ _ _ _ h _).mono ?_
  rintro e w1 ⟨rfl, hb1⟩
  have hr := two_kept hb1
  obtain ⟨r0, r1, r2⟩ : w1.cell? ⟨w.heap.size + 1, 0, none⟩ = some (.int .u64 0) ∧ w1.cell? ⟨w.heap.size + 1, 1, none⟩ = some (.int .u64 0) ∧ w1.cell? ⟨w.heap.size + 1, 2, none⟩ = some (.int .u64 0) := ⟨cell_of_row _ _ _ _ _ _ hr, cell_of_row _ _ _ _ _ _ hr, cell_of_row _ _ _ _ _ _ hr⟩
  obtain ⟨f0, f1, f2⟩ : w1.frozen? ⟨w.heap.size + 1, 0, none⟩ = false ∧ w1.frozen? ⟨w.heap.size + 1, 1, none⟩ = false ∧ w1.frozen? ⟨w.heap.size + 1, 2, none⟩ = false := ⟨frozen_of_row _ _ _ _ _ hr, frozen_of_row _ _ _ _ _ hr, frozen_of_row _ _ _ _ _ hr⟩
  have HR := Lib.hid hr
  have HB := Lib.hid (both_below hb1)
  clear hr hb1 h
  go_wp2_with fail
  refine bodyPost_ret (results_row_tmp Tryd.results8 _ _ (w.heap.size + 1) 28 _ (0, 0) _ rfl (words_there HR.out) Tryd.underlying28 rfl Tryd.sizeWords) rfl ⟨rfl, ?_⟩
  exact ((HB.out.setCell (by simp) _).setCell (by simp) _).setCell (by simp) _

theorem ret_words {a b c a' b' c' : Int} {v : Value} (h0 : a = a') (h1 : b = b') (h2 : c = c') :
    Ending.returned (.tuple #[.agg #[.int .u64 a, .int .u64 b, .int .u64 c], v]) = .returned (.tuple #[.agg #[.int .u64 a', .int .u64 b', .int .u64 c'], v]) := by rw [h0, h1, h2]

/-- A frame's block. -/
def dcells (f : Fm.Fr) : Array Value := #[.int .i64 (f.kind : Int), .int .i64 (f.client : Int), .int .i64 (f.service : Int), .int .i64 (f.slot : Int), .int .i64 (f.gen : Int), .int .u32 (f.call : Int), .int .i64 (f.tr : Int), .bool f.sure, .bool f.stream, .int .i64 (f.seq : Int), .int .u32 (f.value : Int)]

/-- In the midst of the document's Put: the frame's block, the answer's. -/
structure Doc (f : Fm.Fr) (w wk : World) : Prop where
  below : Below w.heap.size w wk
  box : wk.heap[w.heap.size]? = some (.cells (dcells f) 24 (0, 0))
  res : wk.heap[w.heap.size + 1]? = some (.cells #[.int .u64 0, .int .u64 0, .int .u64 0] 28 (0, 0))
theorem Doc.kept {f : Fm.Fr} {w wk wn : World} (h : Doc f w wk) (hb : Below wk.heap.size wk wn) : Doc f w wn :=
  ⟨h.below.trans (hb.mono h.below.size), (hb.block _ (block_there h.box)).trans h.box, (hb.block _ (block_there h.res)).trans h.res⟩
theorem Doc.alloc {f : Fm.Fr} {w wk : World} (h : Doc f w wk) (o : Obj) : Doc f w (wk.alloc o) := h.kept (below_box wk o)
theorem Doc.drew {f : Fm.Fr} {w wk : World} (h : Doc f w wk) : Doc f w wk.drew := ⟨h.below.drew, h.box, h.res⟩
theorem Doc.cell {f : Fm.Fr} {w wk : World} (h : Doc f w wk) (i : Nat) : wk.cell? ⟨w.heap.size, i, none⟩ = (dcells f)[i]? := cell_of_row _ _ _ _ _ _ h.box
theorem Doc.all {f : Fm.Fr} {w wk : World} (h : Doc f w wk) : wk.cell? ⟨w.heap.size, 0, none⟩ = some (.int .i64 (f.kind : Int)) ∧ wk.cell? ⟨w.heap.size, 1, none⟩ = some (.int .i64 (f.client : Int)) ∧ wk.cell? ⟨w.heap.size, 2, none⟩ = some (.int .i64 (f.service : Int)) ∧ wk.cell? ⟨w.heap.size, 3, none⟩ = some (.int .i64 (f.slot : Int)) ∧ wk.cell? ⟨w.heap.size, 4, none⟩ = some (.int .i64 (f.gen : Int)) ∧ wk.cell? ⟨w.heap.size, 5, none⟩ = some (.int .u32 (f.call : Int)) ∧ wk.cell? ⟨w.heap.size, 6, none⟩ = some (.int .i64 (f.tr : Int)) ∧ wk.cell? ⟨w.heap.size, 7, none⟩ = some (.bool f.sure) ∧ wk.cell? ⟨w.heap.size, 8, none⟩ = some (.bool f.stream) ∧ wk.cell? ⟨w.heap.size, 9, none⟩ = some (.int .i64 (f.seq : Int)) ∧ wk.cell? ⟨w.heap.size, 10, none⟩ = some (.int .u32 (f.value : Int)) ∧ Hid (Doc f w wk) :=
  ⟨h.cell 0, h.cell 1, h.cell 2, h.cell 3, h.cell 4, h.cell 5, h.cell 6, h.cell 7, h.cell 8, h.cell 9, h.cell 10, Lib.hid h⟩

/-- The numbers that are laid, one behind the other: where, how many bits, which, and the word behind so many of them. -/
def atk : Nat → Nat | 0 => 0 | 1 => 4 | 2 => 8 | 3 => 12 | 4 => 20 | 5 => 24 | 6 => 25 | 7 => 26 | _ => 50
def btk : Nat → Nat | 0 => 4 | 1 => 4 | 2 => 4 | 3 => 8 | 4 => 4 | 5 => 1 | 6 => 1 | _ => 24
def nk (f : Fm.Fr) : Nat → Nat | 0 => f.kind | 1 => f.client | 2 => f.service | 3 => f.slot | 4 => f.tr | 5 => f.sure.toNat | 6 => f.stream.toNat | _ => f.gen
def ck (f : Fm.Fr) : Nat → Nat | 0 => 0 | 1 => Fm.a1 f | 2 => Fm.a2 f | 3 => Fm.a3 f | 4 => Fm.a4 f | 5 => Fm.a5 f | 6 => Fm.a6 f | 7 => Fm.a7 f | _ => Fm.w0 f
theorem below8 {P : Nat → Prop} (h0 : P 0) (h1 : P 1) (h2 : P 2) (h3 : P 3) (h4 : P 4) (h5 : P 5) (h6 : P 6) (h7 : P 7) (k : Nat) (h : k < 8) : P k :=
  match k, h with
  | 0, _ => h0 | 1, _ => h1 | 2, _ => h2 | 3, _ => h3 | 4, _ => h4 | 5, _ => h5 | 6, _ => h6 | 7, _ => h7
theorem ck_step (f : Fm.Fr) (k : Nat) (h : k < 8) : Fld.put (ck f k) (atk k) (btk k) (nk f k) = ck f (k + 1) := below8 (P := fun k => Fld.put (ck f k) (atk k) (btk k) (nk f k) = ck f (k + 1)) rfl rfl rfl rfl rfl rfl rfl rfl k h
theorem at_step (k : Nat) (h : k < 8) : atk k + btk k = atk (k + 1) ∧ 1 ≤ btk k ∧ atk k + btk k ≤ 64 := below8 (P := fun k => atk k + btk k = atk (k + 1) ∧ 1 ≤ btk k ∧ atk k + btk k ≤ 64) (by decide) (by decide) (by decide) (by decide) (by decide) (by decide) (by decide) (by decide) k h
theorem ck_small (f : Fm.Fr) (k : Nat) (h : k < 8) : ck f k < 18446744073709551616 := below8 (P := fun k => ck f k < 18446744073709551616) (show 0 < _ by omega) (Fm.a1_small f) (Fm.a2_small f) (Fm.a3_small f) (Fm.a4_small f) (Fm.a5_small f) (Fm.a6_small f) (Fm.a7_small f) k h
theorem nk_small {f : Fm.Fr} (hf : f.Fits) (k : Nat) (h : k < 8) : nk f k < 18446744073709551616 := by
  obtain ⟨h1, h2, h3, h4, h5, h6, h7, h8, h9⟩ := hf
  have g1 := Fm.toNat_le f.sure
  have g2 := Fm.toNat_le f.stream
  exact below8 (P := fun k => nk f k < 18446744073709551616) (by show f.kind < _; omega) (by show f.client < _; omega) (by show f.service < _; omega) (by show f.slot < _; omega) (by show f.tr < _; omega) (by show f.sure.toNat < _; omega) (by show f.stream.toNat < _; omega) (by show f.gen < _; omega) k h

/-- The two rows that the loop reads. -/
def nrow (f : Fm.Fr) : Array Value := #[.int .u64 (f.kind : Int), .int .u64 (f.client : Int), .int .u64 (f.service : Int), .int .u64 (f.slot : Int), .int .u64 (f.tr : Int), .int .u64 (f.sure.toNat : Int), .int .u64 (f.stream.toNat : Int), .int .u64 (f.gen : Int)]
def brow : Array Value := #[.int .i64 4, .int .i64 4, .int .i64 4, .int .i64 8, .int .i64 4, .int .i64 1, .int .i64 1, .int .i64 24]
theorem nrow_at (f : Fm.Fr) (k : Nat) (h : k < 8) : (nrow f)[k]? = some (.int .u64 (nk f k : Nat)) := below8 (P := fun k => (nrow f)[k]? = some (.int .u64 (nk f k : Nat))) rfl rfl rfl rfl rfl rfl rfl rfl k h
theorem brow_at (k : Nat) (h : k < 8) : brow[k]? = some (.int .i64 (btk k : Nat)) := below8 (P := fun k => brow[k]? = some (.int .i64 (btk k : Nat))) rfl rfl rfl rfl rfl rfl rfl rfl k h

/-- .. and the two rows. -/
structure Docs (f : Fm.Fr) (w wk : World) (n b : Nat) : Prop where
  doc : Doc f w wk
  nums : wk.heap[n]? = some (.cells (nrow f) 26 (0, 0))
  lens : wk.heap[b]? = some (.cells brow 3 (0, 0))
theorem Docs.drew {f : Fm.Fr} {w wk : World} {n b : Nat} (h : Docs f w wk n b) : Docs f w wk.drew n b := ⟨h.doc.drew, h.nums, h.lens⟩
theorem Docs.num {f : Fm.Fr} {w wk : World} {n b : Nat} (h : Docs f w wk n b) (k : Nat) (hk : k < 8) : wk.cell? ⟨n, k, none⟩ = some (.int .u64 (nk f k : Nat)) := by rw [cell_of_row _ _ _ _ _ _ h.nums, nrow_at f k hk]
theorem Docs.len {f : Fm.Fr} {w wk : World} {n b : Nat} (h : Docs f w wk n b) (k : Nat) (hk : k < 8) : wk.cell? ⟨b, k, none⟩ = some (.int .i64 (btk k : Nat)) := by rw [cell_of_row _ _ _ _ _ _ h.lens, brow_at k hk]
theorem Docs.start {f : Fm.Fr} {w wk : World} (h : Doc f w wk) : Docs f w ((wk.alloc (.cells (nrow f) 26)).alloc (.cells brow 3)) wk.heap.size (wk.heap.size + 1) :=
  ⟨(h.alloc _).alloc _, heap_alloc2_old _ _ _, heap_alloc2_new _ _ _⟩

set_option maxRecDepth 100000 in
set_option maxHeartbeats 4000000 in
/-- The document's Put: the frame's words. -/
theorem fput2_yes (f : Fm.Fr) (h : f.Ok) (w : World) :
    Calls Tryd.prog 8 #[.agg #[.int .i64 (f.kind : Int), .int .i64 (f.client : Int), .int .i64 (f.service : Int), .int .i64 (f.slot : Int), .int .i64 (f.gen : Int), .int .u32 (f.call : Int), .int .i64 (f.tr : Int), .bool f.sure, .bool f.stream, .int .i64 (f.seq : Int), .int .u32 (f.value : Int)]] w fun e w' => e = .returned (.tuple #[.agg #[.int .u64 (Fm.w0 f : Nat), .int .u64 (Fm.w1 f : Nat), .int .u64 (Fm.w2 f : Nat)], .bool true]) ∧ Below w.heap.size w w' := by
  have hm : Fm.May f.kind f.client f.service f.slot f.gen f.tr f.seq := by unfold Fm.Fr.Ok at h; unfold Fm.May; omega
  have HF := Lib.hid h.fits
  obtain ⟨-, h1, h2, h3, h4, h5, h6, h7, h8, h9⟩ := h
  have s1 := Lib.hid (Fm.w1_sum HF.out)
  have s2 := Lib.hid (Fm.w2_sum HF.out)
  have r1 : IntKind.u64.wrap (f.kind : Int) = f.kind := by rw [IntKind.wrap_u64]; omega
  have r2 : IntKind.u64.wrap (f.client : Int) = f.client := by rw [IntKind.wrap_u64]; omega
  have r3 : IntKind.u64.wrap (f.service : Int) = f.service := by rw [IntKind.wrap_u64]; omega
  have r4 : IntKind.u64.wrap (f.slot : Int) = f.slot := by rw [IntKind.wrap_u64]; omega
  have r5 : IntKind.u64.wrap (f.tr : Int) = f.tr := by rw [IntKind.wrap_u64]; omega
  have r6 : IntKind.u64.wrap (f.gen : Int) = f.gen := by rw [IntKind.wrap_u64]; omega
  go_enter Tryd.func8, Tryd.ntmps8
  go_wp2_with fail
  refine (fmay2_yes _ _ _ _ _ _ _ _ _ _ _ hm _).mono ?_
  rintro e w1 ⟨rfl, hb1⟩
  have hS : Hid (Doc f w w1) := Lib.hid ⟨both_below hb1, one_kept hb1, two_kept hb1⟩
  clear hb1 hm
  go_wp2_with fail
  go_region_held3 (fun w' => w'.cell? ⟨w.heap.size, 0, none⟩ = some (.int .i64 (f.kind : Int)) ∧ w'.cell? ⟨w.heap.size, 1, none⟩ = some (.int .i64 (f.client : Int)) ∧ w'.cell? ⟨w.heap.size, 2, none⟩ = some (.int .i64 (f.service : Int)) ∧ w'.cell? ⟨w.heap.size, 3, none⟩ = some (.int .i64 (f.slot : Int)) ∧ w'.cell? ⟨w.heap.size, 4, none⟩ = some (.int .i64 (f.gen : Int)) ∧ w'.cell? ⟨w.heap.size, 5, none⟩ = some (.int .u32 (f.call : Int)) ∧ w'.cell? ⟨w.heap.size, 6, none⟩ = some (.int .i64 (f.tr : Int)) ∧ w'.cell? ⟨w.heap.size, 7, none⟩ = some (.bool f.sure) ∧ w'.cell? ⟨w.heap.size, 8, none⟩ = some (.bool f.stream) ∧ w'.cell? ⟨w.heap.size, 9, none⟩ = some (.int .i64 (f.seq : Int)) ∧ w'.cell? ⟨w.heap.size, 10, none⟩ = some (.int .u32 (f.value : Int)) ∧ Hid (Doc f w w'))
    (first | assumption | exact hS.out.drew.all | exact (hS.out.drew.alloc _).all)
    (first | (go_at_call 19; refine (one_of _ _).mono ?_; rintro e w2 ⟨rfl, rfl⟩))
  have HD := Lib.hid (Docs.start hS.out).drew
  clear hS r1 r2 r3 r4 r5 r6
  go_wp2_with fail
  go_loopg [6, 7, 8] 8 (fun g s6 s7 s8 wr => ∃ k : Nat, k ≤ 8 ∧ g = 8 - k ∧ s6 = .int .u64 (ck f k : Nat) ∧ s7 = .int .i64 (atk k : Nat) ∧ s8 = .int .i64 k ∧ Hid (Docs f w wr w1.heap.size (w1.heap.size + 1)))
  case atStart => exact ⟨0, by omega, rfl, rfl, rfl, rfl, HD⟩
  case round =>
    obtain ⟨k, hk, rfl, rfl, rfl, rfl, hd⟩ := hrel
    by_cases hlt : k < 8
    · have c0 := hd.out.num k hlt
      have c1 := hd.out.len k hlt
      obtain ⟨t1, t2, t3⟩ := at_step k hlt
      have T1 := Lib.hid t1
      have hc := ck_small f k hlt
      have hn := nk_small HF.out k hlt
      have hst := Lib.hid (ck_step f k hlt)
      clear t1
      go_wp2_with fail
      go_region_held3 (fun w' => w'.cell? ⟨w1.heap.size, k, none⟩ = some (.int .u64 (nk f k : Nat)) ∧ w'.cell? ⟨w1.heap.size + 1, k, none⟩ = some (.int .i64 (btk k : Nat)) ∧ Hid (Docs f w w' w1.heap.size (w1.heap.size + 1)))
        (first | assumption | exact ⟨c0, c1, Lib.hid hd.out.drew⟩)
        (first | (go_at_call 20; refine (rput_yes (ck f k) (nk f k) (atk k) (btk k) hc hn t2 t3 _).mono ?_; rintro e w2 ⟨rfl, rfl⟩))
      go_wp2_with fail
      go_roundg (8 - (k + 1))
      case measure => omega
      case rel => exact ⟨k + 1, by omega, rfl, by rw [hst.out], by rw [← T1.out]; go_num, by go_num, Lib.hid hd.out.drew⟩
    · obtain rfl : k = 8 := by omega
      have b0 := hd.out.doc.all
      obtain ⟨-, -, -, -, -, b5, -, -, -, b9, b10, -⟩ := b0
      have hr := hd.out.doc.res
      obtain ⟨r0, r1, r2⟩ : wr.cell? ⟨w.heap.size + 1, 0, none⟩ = some (.int .u64 0) ∧ wr.cell? ⟨w.heap.size + 1, 1, none⟩ = some (.int .u64 0) ∧ wr.cell? ⟨w.heap.size + 1, 2, none⟩ = some (.int .u64 0) := ⟨cell_of_row _ _ _ _ _ _ hr, cell_of_row _ _ _ _ _ _ hr, cell_of_row _ _ _ _ _ _ hr⟩
      obtain ⟨f0, f1, f2⟩ : wr.frozen? ⟨w.heap.size + 1, 0, none⟩ = false ∧ wr.frozen? ⟨w.heap.size + 1, 1, none⟩ = false ∧ wr.frozen? ⟨w.heap.size + 1, 2, none⟩ = false := ⟨frozen_of_row _ _ _ _ _ hr, frozen_of_row _ _ _ _ _ hr, frozen_of_row _ _ _ _ _ hr⟩
      clear hr
      go_wp2_with fail
      refine bodyPost_ret (results_row_tmp Tryd.results8 _ _ (w.heap.size + 1) 28 _ (0, 0) _ rfl (words_there hd.out.doc.res) Tryd.underlying28 rfl Tryd.sizeWords) rfl ⟨?_, ?_⟩
      · exact ret_words rfl (by rw [s1.out]; go_num) (by rw [s2.out])
      · exact ((hd.out.doc.below.setCell (by simp) _).setCell (by simp) _).setCell (by simp) _

end Go.Proofs.YtcpgigmnmlmpjaaDoor
