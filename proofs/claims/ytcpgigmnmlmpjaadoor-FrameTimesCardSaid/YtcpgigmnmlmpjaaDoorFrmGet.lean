/- The program's Get: the frame of three words, or none. -/
import Derived.Test.YtcpgigmnmlmpjaaDoorFldC
import Derived.Test.YtcpgigmnmlmpjaaDoorFrmG
namespace Go.Proofs.YtcpgigmnmlmpjaaDoor
open Go.RowKit

theorem each8 {P : Nat → Prop} (h0 : P 0) (h1 : P 1) (h2 : P 2) (h3 : P 3) (h4 : P 4) (h5 : P 5) (h6 : P 6) (h7 : P 7) (k : Nat) (h : k < 8) : P k :=
  match k, h with
  | 0, _ => h0 | 1, _ => h1 | 2, _ => h2 | 3, _ => h3 | 4, _ => h4 | 5, _ => h5 | 6, _ => h6 | 7, _ => h7
theorem each2 {P : Nat → Prop} (h0 : P 0) (h1 : P 1) (k : Nat) (h : k < 2) : P k :=
  match k, h with
  | 0, _ => h0 | 1, _ => h1
theorem each1 {P : Nat → Prop} (h0 : P 0) (k : Nat) (h : k < 1) : P k :=
  match k, h with
  | 0, _ => h0

/-- The row of word 0's fields. -/
def row0 : Array Value := #[.int .i64 0, .int .i64 4, .int .i64 4, .int .i64 4, .int .i64 8, .int .i64 4, .int .i64 12, .int .i64 8, .int .i64 20, .int .i64 4, .int .i64 24, .int .i64 1, .int .i64 25, .int .i64 1, .int .i64 26, .int .i64 24]
theorem rest0_call (x : Nat) (hx : x < 18446744073709551616) (n : Nat) (w : World) (h : w.heap[n]? = some (.cells row0 47 (0, 0))) :
    Calls Tryd.prog 21 #[.int .u64 (x : Int), .slice (some ⟨n, 0, none⟩) 8 8] w fun e w' => e = .returned (.int .u64 (Fld.rest Fm.A0 Fm.B0 x 8 : Nat)) ∧ Below w.heap.size w w' :=
  rest_any Fm.A0 Fm.B0 (some ⟨n, 0, none⟩) x 8 8 n 0 hx (by omega) (fun _ => rfl) w
    (each8 (P := fun i => w.cell? ⟨n, 0 + i * 2, none⟩ = some (.int .i64 (Fm.A0 i)) ∧ w.cell? ⟨n, 0 + i * 2 + 1, none⟩ = some (.int .i64 (Fm.B0 i))) ⟨cell_of_row _ _ _ _ _ _ h, cell_of_row _ _ _ _ _ _ h⟩ ⟨cell_of_row _ _ _ _ _ _ h, cell_of_row _ _ _ _ _ _ h⟩ ⟨cell_of_row _ _ _ _ _ _ h, cell_of_row _ _ _ _ _ _ h⟩ ⟨cell_of_row _ _ _ _ _ _ h, cell_of_row _ _ _ _ _ _ h⟩ ⟨cell_of_row _ _ _ _ _ _ h, cell_of_row _ _ _ _ _ _ h⟩ ⟨cell_of_row _ _ _ _ _ _ h, cell_of_row _ _ _ _ _ _ h⟩ ⟨cell_of_row _ _ _ _ _ _ h, cell_of_row _ _ _ _ _ _ h⟩ ⟨cell_of_row _ _ _ _ _ _ h, cell_of_row _ _ _ _ _ _ h⟩)
    (each8 (P := fun i => (-9223372036854775808 ≤ Fm.A0 i ∧ Fm.A0 i ≤ 9223372036854775807) ∧ (-9223372036854775808 ≤ Fm.B0 i ∧ Fm.B0 i ≤ 9223372036854775807)) (by decide) (by decide) (by decide) (by decide) (by decide) (by decide) (by decide) (by decide))
/-- The row of word 1's fields. -/
def row1 : Array Value := #[.int .i64 0, .int .i64 32, .int .i64 32, .int .i64 32]
theorem rest1_call (x : Nat) (hx : x < 18446744073709551616) (n : Nat) (w : World) (h : w.heap[n]? = some (.cells row1 47 (0, 0))) :
    Calls Tryd.prog 21 #[.int .u64 (x : Int), .slice (some ⟨n, 0, none⟩) 2 2] w fun e w' => e = .returned (.int .u64 (Fld.rest Fm.A1 Fm.B1 x 2 : Nat)) ∧ Below w.heap.size w w' :=
  rest_any Fm.A1 Fm.B1 (some ⟨n, 0, none⟩) x 2 2 n 0 hx (by omega) (fun _ => rfl) w
    (each2 (P := fun i => w.cell? ⟨n, 0 + i * 2, none⟩ = some (.int .i64 (Fm.A1 i)) ∧ w.cell? ⟨n, 0 + i * 2 + 1, none⟩ = some (.int .i64 (Fm.B1 i))) ⟨cell_of_row _ _ _ _ _ _ h, cell_of_row _ _ _ _ _ _ h⟩ ⟨cell_of_row _ _ _ _ _ _ h, cell_of_row _ _ _ _ _ _ h⟩)
    (each2 (P := fun i => (-9223372036854775808 ≤ Fm.A1 i ∧ Fm.A1 i ≤ 9223372036854775807) ∧ (-9223372036854775808 ≤ Fm.B1 i ∧ Fm.B1 i ≤ 9223372036854775807)) (by decide) (by decide))
/-- The row of word 2's fields. -/
def row2 : Array Value := #[.int .i64 0, .int .i64 16]
theorem rest2_call (x : Nat) (hx : x < 18446744073709551616) (n : Nat) (w : World) (h : w.heap[n]? = some (.cells row2 47 (0, 0))) :
    Calls Tryd.prog 21 #[.int .u64 (x : Int), .slice (some ⟨n, 0, none⟩) 1 1] w fun e w' => e = .returned (.int .u64 (Fld.rest Fm.A2 Fm.B2 x 1 : Nat)) ∧ Below w.heap.size w w' :=
  rest_any Fm.A2 Fm.B2 (some ⟨n, 0, none⟩) x 1 1 n 0 hx (by omega) (fun _ => rfl) w
    (each1 (P := fun i => w.cell? ⟨n, 0 + i * 2, none⟩ = some (.int .i64 (Fm.A2 i)) ∧ w.cell? ⟨n, 0 + i * 2 + 1, none⟩ = some (.int .i64 (Fm.B2 i))) ⟨cell_of_row _ _ _ _ _ _ h, cell_of_row _ _ _ _ _ _ h⟩)
    (each1 (P := fun i => (-9223372036854775808 ≤ Fm.A2 i ∧ Fm.A2 i ≤ 9223372036854775807) ∧ (-9223372036854775808 ≤ Fm.B2 i ∧ Fm.B2 i ≤ 9223372036854775807)) (by decide))

theorem heap3_new (w : World) (A B C : Obj) : (((w.alloc A).alloc B).alloc C).heap[w.heap.size + 1 + 1]? = some C := by
  have h := heap_alloc_new ((w.alloc A).alloc B) C
  simp only [World.size_alloc] at h
  exact h

/-- In the midst of Get: the fields, the words, the answer's block. -/
structure Gets (x0 x1 x2 : Nat) (w wk : World) : Prop where
  lay : Lay wk
  below : Below w.heap.size w wk
  words : wk.heap[w.heap.size]? = some (.cells #[.int .u64 (x0 : Int), .int .u64 (x1 : Int), .int .u64 (x2 : Int)] 28 (0, 0))
  res : wk.heap[w.heap.size + 1]? = some (.cells zcells 24 (0, 0))
theorem Gets.kept {x0 x1 x2 : Nat} {w wk wn : World} (h : Gets x0 x1 x2 w wk) (hb : Below wk.heap.size wk wn) : Gets x0 x1 x2 w wn :=
  ⟨h.lay.kept hb, h.below.trans (hb.mono h.below.size), (hb.block _ (heap_lt h.words)).trans h.words, (hb.block _ (heap_lt h.res)).trans h.res⟩
theorem Gets.alloc {x0 x1 x2 : Nat} {w wk : World} (h : Gets x0 x1 x2 w wk) (o : Obj) : Gets x0 x1 x2 w (wk.alloc o) := h.kept (below_box wk o)
theorem Gets.start (x0 x1 x2 : Nat) {w : World} (hL : Lay w) : Gets x0 x1 x2 w ((w.alloc (.cells #[.int .u64 (x0 : Int), .int .u64 (x1 : Int), .int .u64 (x2 : Int)] 28)).alloc (.cells #[.int .i64 0, .int .i64 0, .int .i64 0, .int .i64 0, .int .i64 0, .int .u32 0, .int .i64 0, .bool false, .bool false, .int .i64 0, .int .u32 0] 24)) :=
  ⟨hL.kept (below_two _ _ _), below_two _ _ _, heap_alloc2_old _ _ _, heap_alloc2_new _ _ _⟩
theorem Gets.word {x0 x1 x2 : Nat} {w wk : World} (h : Gets x0 x1 x2 w wk) (i : Nat) : wk.cell? ⟨w.heap.size, i, none⟩ = (#[Value.int .u64 (x0 : Int), .int .u64 (x1 : Int), .int .u64 (x2 : Int)])[i]? := cell_of_row _ _ _ _ _ _ h.words

set_option maxRecDepth 100000 in
set_option maxHeartbeats 400000 in
/-- Get: other bits in the first word. -/
theorem fget_bits0 (x0 x1 x2 : Nat) (hx0 : x0 < 18446744073709551616) (hbad : ¬ x0 < 1125899906842624) (w : World) (hL : Lay w) :
    Calls Tryd.prog 9 #[.agg #[.int .u64 (x0 : Int), .int .u64 (x1 : Int), .int .u64 (x2 : Int)]] w fun e w' => e = .returned (.tuple #[.agg #[.int .i64 0, .int .i64 0, .int .i64 0, .int .i64 0, .int .i64 0, .int .u32 0, .int .i64 0, .bool false, .bool false, .int .i64 0, .int .u32 0], .int .i64 2]) ∧ Below w.heap.size w w' := by
  have hd : (((Fld.rest Fm.A0 Fm.B0 x0 8 : Nat) : Int) != 0) = true := by
    have := mt (Fm.rest0 hx0).1 hbad
    simp; omega
  clear hbad
  have hG := Lib.hid (Gets.start x0 x1 x2 hL)
  obtain ⟨k0, l0⟩ := hG.out.lay.kind_
  obtain ⟨k1, l1⟩ := hG.out.lay.client_
  obtain ⟨k2, l2⟩ := hG.out.lay.service_
  obtain ⟨k3, l3⟩ := hG.out.lay.slot_
  obtain ⟨k4, l4⟩ := hG.out.lay.try_
  obtain ⟨k5, l5⟩ := hG.out.lay.sure_
  obtain ⟨k6, l6⟩ := hG.out.lay.stream_
  obtain ⟨k7, l7⟩ := hG.out.lay.gen_
  have cw : (_ : Option Value) = some (.int .u64 (x0 : Int)) := hG.out.word 0
  go_enter Tryd.func9, Tryd.ntmps9
  go_wp2_with fail
  refine (rest0_call x0 hx0 _ _ ?hr).mono ?_
  case hr => exact heap3_new _ _ _ _
  rintro e w3 ⟨rfl, hb⟩
  replace hG := Lib.hid ((hG.out.alloc _).kept hb)
  clear k0 l0 k1 l1 k2 l2 k3 l3 k4 l4 k5 l5 k6 l6 k7 l7 cw
  clear hb
  obtain ⟨⟨z0, z1, z2, z3, z4, z5, z6, z7, z8, z9, z10⟩, y0, y1, y2, y3, y4, y5, y6, y7, y8, y9, y10⟩ := zero_cells hG.out.res
  go_wp2_with fail
  refine bodyPost_ret (results_row_tmp Tryd.results9 _ _ (w.heap.size + 1) 24 _ (0, 0) _ rfl (frame_laid rfl hG.out.res) Tryd.underlying24 rfl Tryd.sizeFrame) rfl ⟨rfl, frame_below hG.out.below (by simp)⟩

set_option maxRecDepth 100000 in
set_option maxHeartbeats 400000 in
/-- Get: other bits in the third word. -/
theorem fget_bits2 (x0 x1 x2 : Nat) (hx0 : x0 < 18446744073709551616) (hx1 : x1 < 18446744073709551616) (hx2 : x2 < 18446744073709551616) (hin : x0 < 1125899906842624) (hbad : ¬ x2 < 65536) (w : World) (hL : Lay w) :
    Calls Tryd.prog 9 #[.agg #[.int .u64 (x0 : Int), .int .u64 (x1 : Int), .int .u64 (x2 : Int)]] w fun e w' => e = .returned (.tuple #[.agg #[.int .i64 0, .int .i64 0, .int .i64 0, .int .i64 0, .int .i64 0, .int .u32 0, .int .i64 0, .bool false, .bool false, .int .i64 0, .int .u32 0], .int .i64 2]) ∧ Below w.heap.size w w' := by
  have e0 := (Fm.rest0 hx0).2 hin
  have e1 := Fm.rest1 hx1
  have hd : (((Fld.rest Fm.A2 Fm.B2 x2 1 : Nat) : Int) != 0) = true := by
    have := mt (Fm.rest2 hx2).1 hbad
    simp; omega
  clear hbad hin
  have hG := Lib.hid (Gets.start x0 x1 x2 hL)
  obtain ⟨k0, l0⟩ := hG.out.lay.kind_
  obtain ⟨k1, l1⟩ := hG.out.lay.client_
  obtain ⟨k2, l2⟩ := hG.out.lay.service_
  obtain ⟨k3, l3⟩ := hG.out.lay.slot_
  obtain ⟨k4, l4⟩ := hG.out.lay.try_
  obtain ⟨k5, l5⟩ := hG.out.lay.sure_
  obtain ⟨k6, l6⟩ := hG.out.lay.stream_
  obtain ⟨k7, l7⟩ := hG.out.lay.gen_
  have cw : (_ : Option Value) = some (.int .u64 (x0 : Int)) := hG.out.word 0
  go_enter Tryd.func9, Tryd.ntmps9
  go_wp2_with fail
  refine (rest0_call x0 hx0 _ _ ?hr).mono ?_
  case hr => exact heap3_new _ _ _ _
  rintro e w3 ⟨rfl, hb⟩
  replace hG := Lib.hid ((hG.out.alloc _).kept hb)
  clear k0 l0 k1 l1 k2 l2 k3 l3 k4 l4 k5 l5 k6 l6 k7 l7 cw
  clear hb
  rw [e0]
  obtain ⟨k0, l0⟩ := hG.out.lay.call_
  obtain ⟨k1, l1⟩ := hG.out.lay.value_
  have cw : (_ : Option Value) = some (.int .u64 (x1 : Int)) := hG.out.word 1
  go_wp2_with fail
  refine (rest1_call x1 hx1 _ _ ?hr).mono ?_
  case hr => exact heap_alloc_new _ _
  rintro e w4 ⟨rfl, hb⟩
  replace hG := Lib.hid ((hG.out.alloc _).kept hb)
  clear hb k0 l0 k1 l1 cw
  rw [e1]
  obtain ⟨k0, l0⟩ := hG.out.lay.seq_
  have cw : (_ : Option Value) = some (.int .u64 (x2 : Int)) := hG.out.word 2
  go_wp2_with fail
  refine (rest2_call x2 hx2 _ _ ?hr).mono ?_
  case hr => exact heap_alloc_new _ _
  rintro e w5 ⟨rfl, hb⟩
  replace hG := Lib.hid ((hG.out.alloc _).kept hb)
  clear hb k0 l0 cw
  obtain ⟨⟨z0, z1, z2, z3, z4, z5, z6, z7, z8, z9, z10⟩, y0, y1, y2, y3, y4, y5, y6, y7, y8, y9, y10⟩ := zero_cells hG.out.res
  go_wp2_with fail
  refine bodyPost_ret (results_row_tmp Tryd.results9 _ _ (w.heap.size + 1) 24 _ (0, 0) _ rfl (frame_laid rfl hG.out.res) Tryd.underlying24 rfl Tryd.sizeFrame) rfl ⟨rfl, frame_below hG.out.below (by simp)⟩

set_option maxRecDepth 100000 in
set_option maxHeartbeats 400000 in
/-- Get: what the fields have may not be. -/
theorem fget_no (x0 x1 x2 : Nat) (hx0 : x0 < 18446744073709551616) (hx1 : x1 < 18446744073709551616) (hx2 : x2 < 18446744073709551616) (hin : x0 < 1125899906842624) (hin2 : x2 < 65536) (hm : ¬ Fm.May (Fm.rd x0 x1 x2).kind (Fm.rd x0 x1 x2).client (Fm.rd x0 x1 x2).service (Fm.rd x0 x1 x2).slot (Fm.rd x0 x1 x2).gen (Fm.rd x0 x1 x2).tr (Fm.rd x0 x1 x2).seq) (w : World) (hL : Lay w) :
    Calls Tryd.prog 9 #[.agg #[.int .u64 (x0 : Int), .int .u64 (x1 : Int), .int .u64 (x2 : Int)]] w fun e w' => e = .returned (.tuple #[.agg #[.int .i64 0, .int .i64 0, .int .i64 0, .int .i64 0, .int .i64 0, .int .u32 0, .int .i64 0, .bool false, .bool false, .int .i64 0, .int .u32 0], .int .i64 2]) ∧ Below w.heap.size w w' := by
  have e0 := (Fm.rest0 hx0).2 hin
  have e1 := Fm.rest1 hx1
  have e2 := (Fm.rest2 hx2).2 hin2
  have HM := Lib.hid hm
  clear hin hin2 hm
  have hG := Lib.hid (Gets.start x0 x1 x2 hL)
  obtain ⟨k0, l0⟩ := hG.out.lay.kind_
  obtain ⟨k1, l1⟩ := hG.out.lay.client_
  obtain ⟨k2, l2⟩ := hG.out.lay.service_
  obtain ⟨k3, l3⟩ := hG.out.lay.slot_
  obtain ⟨k4, l4⟩ := hG.out.lay.try_
  obtain ⟨k5, l5⟩ := hG.out.lay.sure_
  obtain ⟨k6, l6⟩ := hG.out.lay.stream_
  obtain ⟨k7, l7⟩ := hG.out.lay.gen_
  have cw : (_ : Option Value) = some (.int .u64 (x0 : Int)) := hG.out.word 0
  go_enter Tryd.func9, Tryd.ntmps9
  go_wp2_with fail
  refine (rest0_call x0 hx0 _ _ ?hr).mono ?_
  case hr => exact heap3_new _ _ _ _
  rintro e w3 ⟨rfl, hb⟩
  replace hG := Lib.hid ((hG.out.alloc _).kept hb)
  clear k0 l0 k1 l1 k2 l2 k3 l3 k4 l4 k5 l5 k6 l6 k7 l7 cw
  clear hb
  rw [e0]
  obtain ⟨k0, l0⟩ := hG.out.lay.call_
  obtain ⟨k1, l1⟩ := hG.out.lay.value_
  have cw : (_ : Option Value) = some (.int .u64 (x1 : Int)) := hG.out.word 1
  go_wp2_with fail
  refine (rest1_call x1 hx1 _ _ ?hr).mono ?_
  case hr => exact heap_alloc_new _ _
  rintro e w4 ⟨rfl, hb⟩
  replace hG := Lib.hid ((hG.out.alloc _).kept hb)
  clear hb k0 l0 k1 l1 cw
  rw [e1]
  obtain ⟨k0, l0⟩ := hG.out.lay.seq_
  have cw : (_ : Option Value) = some (.int .u64 (x2 : Int)) := hG.out.word 2
  go_wp2_with fail
  refine (rest2_call x2 hx2 _ _ ?hr).mono ?_
  case hr => exact heap_alloc_new _ _
  rintro e w5 ⟨rfl, hb⟩
  replace hG := Lib.hid ((hG.out.alloc _).kept hb)
  clear hb k0 l0 cw
  rw [e2]
  obtain ⟨c0, c1, c2⟩ : w5.cell? ⟨w.heap.size, 0, none⟩ = some (.int .u64 (x0 : Int)) ∧ w5.cell? ⟨w.heap.size, 1, none⟩ = some (.int .u64 (x1 : Int)) ∧ w5.cell? ⟨w.heap.size, 2, none⟩ = some (.int .u64 (x2 : Int)) := ⟨hG.out.word 0, hG.out.word 1, hG.out.word 2⟩
  go_wp2_with fail
  refine (fread_any x0 x1 x2 hx0 hx1 hx2 _ hG.out.lay).mono ?_
  rintro e w6 ⟨rfl, hb⟩
  replace hG := Lib.hid (hG.out.kept hb)
  clear hb c0 c1 c2
  go_wp2_with fail
  refine (fmay_no _ _ _ _ _ _ _ _ _ _ _ HM.out _).mono ?_
  rintro e w7 ⟨rfl, hb⟩
  replace hG := Lib.hid ((hG.out.alloc _).kept hb)
  clear hb
  obtain ⟨⟨z0, z1, z2, z3, z4, z5, z6, z7, z8, z9, z10⟩, y0, y1, y2, y3, y4, y5, y6, y7, y8, y9, y10⟩ := zero_cells hG.out.res
  go_wp2_with fail
  refine bodyPost_ret (results_row_tmp Tryd.results9 _ _ (w.heap.size + 1) 24 _ (0, 0) _ rfl (frame_laid rfl hG.out.res) Tryd.underlying24 rfl Tryd.sizeFrame) rfl ⟨rfl, frame_below hG.out.below (by simp)⟩

set_option maxRecDepth 100000 in
set_option maxHeartbeats 400000 in
/-- Get: the frame. -/
theorem fget_yes (x0 x1 x2 : Nat) (hx0 : x0 < 18446744073709551616) (hx1 : x1 < 18446744073709551616) (hx2 : x2 < 18446744073709551616) (hin : x0 < 1125899906842624) (hin2 : x2 < 65536) (hm : Fm.May (Fm.rd x0 x1 x2).kind (Fm.rd x0 x1 x2).client (Fm.rd x0 x1 x2).service (Fm.rd x0 x1 x2).slot (Fm.rd x0 x1 x2).gen (Fm.rd x0 x1 x2).tr (Fm.rd x0 x1 x2).seq) (w : World) (hL : Lay w) :
    Calls Tryd.prog 9 #[.agg #[.int .u64 (x0 : Int), .int .u64 (x1 : Int), .int .u64 (x2 : Int)]] w fun e w' => e = .returned (.tuple #[.agg #[.int .i64 ((Fm.rd x0 x1 x2).kind : Int), .int .i64 ((Fm.rd x0 x1 x2).client : Int), .int .i64 ((Fm.rd x0 x1 x2).service : Int), .int .i64 ((Fm.rd x0 x1 x2).slot : Int), .int .i64 ((Fm.rd x0 x1 x2).gen : Int), .int .u32 ((Fm.rd x0 x1 x2).call : Int), .int .i64 ((Fm.rd x0 x1 x2).tr : Int), .bool (Fm.rd x0 x1 x2).sure, .bool (Fm.rd x0 x1 x2).stream, .int .i64 ((Fm.rd x0 x1 x2).seq : Int), .int .u32 ((Fm.rd x0 x1 x2).value : Int)], .int .i64 0]) ∧ Below w.heap.size w w' := by
  have e0 := (Fm.rest0 hx0).2 hin
  have e1 := Fm.rest1 hx1
  have e2 := (Fm.rest2 hx2).2 hin2
  have HM := Lib.hid hm
  clear hin hin2 hm
  have hG := Lib.hid (Gets.start x0 x1 x2 hL)
  obtain ⟨k0, l0⟩ := hG.out.lay.kind_
  obtain ⟨k1, l1⟩ := hG.out.lay.client_
  obtain ⟨k2, l2⟩ := hG.out.lay.service_
  obtain ⟨k3, l3⟩ := hG.out.lay.slot_
  obtain ⟨k4, l4⟩ := hG.out.lay.try_
  obtain ⟨k5, l5⟩ := hG.out.lay.sure_
  obtain ⟨k6, l6⟩ := hG.out.lay.stream_
  obtain ⟨k7, l7⟩ := hG.out.lay.gen_
  have cw : (_ : Option Value) = some (.int .u64 (x0 : Int)) := hG.out.word 0
  go_enter Tryd.func9, Tryd.ntmps9
  go_wp2_with fail
  refine (rest0_call x0 hx0 _ _ ?hr).mono ?_
  case hr => exact heap3_new _ _ _ _
  rintro e w3 ⟨rfl, hb⟩
  replace hG := Lib.hid ((hG.out.alloc _).kept hb)
  clear k0 l0 k1 l1 k2 l2 k3 l3 k4 l4 k5 l5 k6 l6 k7 l7 cw
  clear hb
  rw [e0]
  obtain ⟨k0, l0⟩ := hG.out.lay.call_
  obtain ⟨k1, l1⟩ := hG.out.lay.value_
  have cw : (_ : Option Value) = some (.int .u64 (x1 : Int)) := hG.out.word 1
  go_wp2_with fail
  refine (rest1_call x1 hx1 _ _ ?hr).mono ?_
  case hr => exact heap_alloc_new _ _
  rintro e w4 ⟨rfl, hb⟩
  replace hG := Lib.hid ((hG.out.alloc _).kept hb)
  clear hb k0 l0 k1 l1 cw
  rw [e1]
  obtain ⟨k0, l0⟩ := hG.out.lay.seq_
  have cw : (_ : Option Value) = some (.int .u64 (x2 : Int)) := hG.out.word 2
  go_wp2_with fail
  refine (rest2_call x2 hx2 _ _ ?hr).mono ?_
  case hr => exact heap_alloc_new _ _
  rintro e w5 ⟨rfl, hb⟩
  replace hG := Lib.hid ((hG.out.alloc _).kept hb)
  clear hb k0 l0 cw
  rw [e2]
  obtain ⟨c0, c1, c2⟩ : w5.cell? ⟨w.heap.size, 0, none⟩ = some (.int .u64 (x0 : Int)) ∧ w5.cell? ⟨w.heap.size, 1, none⟩ = some (.int .u64 (x1 : Int)) ∧ w5.cell? ⟨w.heap.size, 2, none⟩ = some (.int .u64 (x2 : Int)) := ⟨hG.out.word 0, hG.out.word 1, hG.out.word 2⟩
  go_wp2_with fail
  refine (fread_any x0 x1 x2 hx0 hx1 hx2 _ hG.out.lay).mono ?_
  rintro e w6 ⟨rfl, hb⟩
  replace hG := Lib.hid (hG.out.kept hb)
  clear hb c0 c1 c2
  go_wp2_with fail
  refine (fmay_yes _ _ _ _ _ _ _ _ _ _ _ HM.out _).mono ?_
  rintro e w7 ⟨rfl, hb⟩
  have hf := (hb.block w6.heap.size (by simp)).trans (heap_alloc_new _ _)
  replace hG := Lib.hid ((hG.out.alloc _).kept hb)
  clear hb
  obtain ⟨j0, j1, j2, j3, j4, j5, j6, j7, j8, j9, j10⟩ : w7.cell? ⟨w6.heap.size, 0, none⟩ = some (.int .i64 ((Fm.rd x0 x1 x2).kind : Int)) ∧ w7.cell? ⟨w6.heap.size, 1, none⟩ = some (.int .i64 ((Fm.rd x0 x1 x2).client : Int)) ∧ w7.cell? ⟨w6.heap.size, 2, none⟩ = some (.int .i64 ((Fm.rd x0 x1 x2).service : Int)) ∧ w7.cell? ⟨w6.heap.size, 3, none⟩ = some (.int .i64 ((Fm.rd x0 x1 x2).slot : Int)) ∧ w7.cell? ⟨w6.heap.size, 4, none⟩ = some (.int .i64 ((Fm.rd x0 x1 x2).gen : Int)) ∧ w7.cell? ⟨w6.heap.size, 5, none⟩ = some (.int .u32 ((Fm.rd x0 x1 x2).call : Int)) ∧ w7.cell? ⟨w6.heap.size, 6, none⟩ = some (.int .i64 ((Fm.rd x0 x1 x2).tr : Int)) ∧ w7.cell? ⟨w6.heap.size, 7, none⟩ = some (.bool (Fm.rd x0 x1 x2).sure) ∧ w7.cell? ⟨w6.heap.size, 8, none⟩ = some (.bool (Fm.rd x0 x1 x2).stream) ∧ w7.cell? ⟨w6.heap.size, 9, none⟩ = some (.int .i64 ((Fm.rd x0 x1 x2).seq : Int)) ∧ w7.cell? ⟨w6.heap.size, 10, none⟩ = some (.int .u32 ((Fm.rd x0 x1 x2).value : Int)) := ⟨cell_of_row _ _ _ _ _ _ hf, cell_of_row _ _ _ _ _ _ hf, cell_of_row _ _ _ _ _ _ hf, cell_of_row _ _ _ _ _ _ hf, cell_of_row _ _ _ _ _ _ hf, cell_of_row _ _ _ _ _ _ hf, cell_of_row _ _ _ _ _ _ hf, cell_of_row _ _ _ _ _ _ hf, cell_of_row _ _ _ _ _ _ hf, cell_of_row _ _ _ _ _ _ hf, cell_of_row _ _ _ _ _ _ hf⟩
  clear hf
  obtain ⟨⟨z0, z1, z2, z3, z4, z5, z6, z7, z8, z9, z10⟩, y0, y1, y2, y3, y4, y5, y6, y7, y8, y9, y10⟩ := zero_cells hG.out.res
  go_wp2_with fail
  refine bodyPost_ret (results_row_tmp Tryd.results9 _ _ (w.heap.size + 1) 24 _ (0, 0) _ rfl (frame_laid rfl hG.out.res) Tryd.underlying24 rfl Tryd.sizeFrame) rfl ⟨rfl, frame_below hG.out.below (by simp)⟩

end Go.Proofs.YtcpgigmnmlmpjaaDoor
