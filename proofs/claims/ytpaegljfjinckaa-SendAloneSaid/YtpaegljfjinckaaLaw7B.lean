/- The law on what is sent into a ring that may not be. -/
import Derived.Test.YtpaegljfjinckaaLaw7A
import Derived.Test.YtpaegljfjinckaaSkip
import Derived.ChangeKeysEq
namespace Go.Proofs.Ytpaegljfjinckaa
open Go.RowKit
attribute [local go_sem ↓] Go.wp_at_zero Go.wp_at_succ

/-- With its lowest bit a number is odd. -/
theorem or_odd (p : Int) : bits .or .i64 p 1 % 2 = 1 ∧ -9223372036854775808 ≤ bits .or .i64 p 1 ∧ bits .or .i64 p 1 ≤ 9223372036854775807 := by
  have key : (BitVec.ofInt 64 p ||| BitVec.ofInt 64 1).toNat % 2 = 1 := by
    rw [BitVec.toNat_or, show (BitVec.ofInt 64 1).toNat = 1 by decide]
    simp
  have hlt := (BitVec.ofInt 64 p ||| BitVec.ofInt 64 1).isLt
  have e : bits .or .i64 p 1 = IntKind.i64.wrap ((BitVec.ofInt 64 p ||| BitVec.ofInt 64 1).toNat : Nat) := rfl
  rw [e, IntKind.wrap_i64]
  generalize (BitVec.ofInt 64 p ||| BitVec.ofInt 64 1).toNat = m at *
  omega

theorem odd_no (b : Int) {q : Int} (h : q % 2 = 1) : ¬ Rg.May b q := by
  rintro ⟨h1, _, _⟩
  unfold Rg.Pow at h1
  omega

theorem block_held {w w1 : World} {k : Nat} {o : Obj} (h : w.heap[k]? = some o) (hb : Below w.heap.size w w1) : w1.heap[k]? = some o := (hb.block _ (lt_of_block h)).trans h

theorem Try.cellsWordEq : Try.prog.cellsOf 31 = 1 := by kernel_rfl
theorem Try.sizeWordEq : (Try.prog.info? 31).map (·.size) = some 1 := by kernel_rfl
/-- Three words are what they are. -/
theorem words_same (w : World) (a0 a1 a2 : Int) :
    (Op.equalIn 9999 33 (.agg #[.int .u64 a0, .int .u64 a1, .int .u64 a2]) (.agg #[.int .u64 a0, .int .u64 a1, .int .u64 a2])).run Try.prog w = .ok true w := by
  cases hi : Try.prog.info? 31 with
  | none => have := Try.sizeWordEq; rw [hi] at this; cases this
  | some i =>
    rw [run_equalIn_array w 9998 _ _ Try.underlying33 hi, Try.cellsWordEq]
    rw [show List.range 3 = [0, 1, 2] from rfl]
    simp [Op.eqItems, go_sem, Try.underlying31]

/-- A ring and words that lie in blocks of their own. -/
structure Seat7 (w wk : World) (b q x y z : Int) : Prop where
  ring : wk.heap[w.heap.size + 1 + 1]? = some (.cells #[.int .i64 b, .int .i64 q] 25 (0, 0))
  words : wk.heap[w.heap.size + 1]? = some (.cells #[.int .u64 x, .int .u64 y, .int .u64 z] 33 (0, 0))
  below : Below w.heap.size w wk
theorem Seat7.kept {w wk wn : World} {b q x y z : Int} (h : Seat7 w wk b q x y z) (hb : Below wk.heap.size wk wn) : Seat7 w wn b q x y z :=
  ⟨block_held h.ring hb, block_held h.words hb, h.below.trans (hb.mono h.below.size)⟩
theorem Seat7.cells {w wk : World} {b q x y z : Int} (h : Seat7 w wk b q x y z) : wk.cell? ⟨w.heap.size + 1 + 1, 0, none⟩ = some (.int .i64 b) ∧ wk.cell? ⟨w.heap.size + 1 + 1, 1, none⟩ = some (.int .i64 q) ∧
    wk.cell? ⟨w.heap.size + 1, 0, none⟩ = some (.int .u64 x) ∧ wk.cell? ⟨w.heap.size + 1, 1, none⟩ = some (.int .u64 y) ∧ wk.cell? ⟨w.heap.size + 1, 2, none⟩ = some (.int .u64 z) :=
  ⟨cell_of_row _ _ _ _ _ _ h.ring, cell_of_row _ _ _ _ _ _ h.ring, cell_of_row _ _ _ _ _ _ h.words, cell_of_row _ _ _ _ _ _ h.words, cell_of_row _ _ _ _ _ _ h.words⟩
theorem Seat7.start (w : World) (A : Obj) (b q x y z : Int) : Seat7 w (((w.alloc A).alloc (.cells #[.int .u64 x, .int .u64 y, .int .u64 z] 33)).alloc (.cells #[.int .i64 b, .int .i64 q] 25)) b q x y z :=
  ⟨heap_three _ _ _ _, by rw [Below.heap_alloc _ _ _ (by simp)]; exact heap_alloc2_new _ _ _, below_three _ _ _ _⟩

theorem sdone_lit (b p x y z t j : Int) (l : Bool) (w : World) : Calls Try.prog 11 #[.agg #[.int .i64 b, .int .i64 p, .int .u64 x, .int .u64 y, .int .u64 z, .bool l, .int .u64 t, .int .i64 6, .int .i64 j]] w fun e w' => e = .returned (.tuple #[.int .i64 3, .bool true]) ∧ Below w.heap.size w w' := sdone_any b p x y z t 6 j l w
theorem sdone_new (b p x y z : Int) (w : World) : Calls Try.prog 11 #[.agg #[.int .i64 b, .int .i64 p, .int .u64 x, .int .u64 y, .int .u64 z, .bool false, .int .u64 0, .int .i64 0, .int .i64 0]] w fun e w' => e = .returned (.tuple #[.int .i64 0, .bool false]) ∧ Below w.heap.size w w' := sdone_any b p x y z 0 0 0 false w
theorem sclaimed_lit (b p x y z t j : Int) (l : Bool) (w : World) : Calls Try.prog 12 #[.agg #[.int .i64 b, .int .i64 p, .int .u64 x, .int .u64 y, .int .u64 z, .bool l, .int .u64 t, .int .i64 6, .int .i64 j]] w fun e w' => e = .returned (.bool false) ∧ Below w.heap.size w w' := sclaimed_any b p x y z t 6 j l w

set_option maxRecDepth 100000 in
set_option maxHeartbeats 2000000 in
theorem input_law (b p x y z t : Int) (hb : -9223372036854775808 ≤ b ∧ b ≤ 9223372036854775807) (w : World) :
    Calls Try.prog 4 #[.agg #[.int .i64 b, .int .i64 p], .agg #[.int .u64 x, .int .u64 y, .int .u64 z], .int .u64 t] w fun e w' => e = .returned (.bool true) ∧ Below w.heap.size w w' := by
  obtain ⟨hq1, hq2⟩ := or_odd p
  generalize hq : bits BinOp.or IntKind.i64 p 1 = q at hq1 hq2
  have HQ := Lib.hid (odd_no b hq1)
  have HB := Lib.hid hb
  have heq := fun w' : World => words_same w' x y z
  clear hq1 hb
  go_enter Try.func4, Try.ntmps4
  go_wp2_with fail
  refine (new_yes 20 _ (by omega) (by omega)).mono ?_
  rintro e w1 ⟨s, rfl, -, hR1⟩
  have H1 := Lib.hid ((Seat7.start w (.cells #[.int .i64 b, .int .i64 p] 25) b q x y z).kept (hR1.below (Nat.le_refl _) (fun k hk => hk.elim)))
  clear hR1 hq
  obtain ⟨c0, c1, d0, d1, d2⟩ := H1.out.cells
  go_wp2_with fail
  refine (snew_any b q x y z _).mono ?_
  rintro e w2 ⟨rfl, hb2⟩
  have H2 := Lib.hid (H1.out.kept hb2)
  clear c0 c1 d0 d1 d2 hb2 H1
  go_wp2_with fail
  refine (sstep_bad b q x y z 0 0 0 false _ HQ.out HB.out _).mono ?_
  rintro e w3 ⟨rfl, hb3⟩
  have H3 := Lib.hid (H2.out.kept hb3)
  clear hb3 H2
  obtain ⟨c0, c1, d0, d1, d2⟩ := H3.out.cells
  have hs3 := lt_of_block H3.out.ring
  have hs3' := lt_of_block H3.out.words
  go_wp2_with fail
  refine (slone_any b q x y z t _).mono ?_
  rintro e w4 ⟨rfl, hb4⟩
  have h94 := block_held (heap_alloc_new w3 _) hb4
  have H4 := Lib.hid ((H3.out.kept (below_box _ _)).kept hb4)
  clear c0 c1 d0 d1 d2 hb4 H3 hs3 hs3'
  go_wp2_with fail
  refine (sstep_bad b q x y z t 1 0 true _ HQ.out HB.out _).mono ?_
  rintro e w5 ⟨rfl, hb5⟩
  have h95 := block_held h94 hb5
  have H5 := Lib.hid (H4.out.kept hb5)
  clear hb5 H4 h94
  have hs5 := lt_of_block h95
  obtain ⟨c0, c1, c2, c3, c4, c5, c6, c7, c8⟩ := nine_cells h95
  go_wp2_with fail
  refine (sdone_lit b q x y z 0 0 false _).mono ?_
  rintro e w6 ⟨rfl, hb6⟩
  have h96 := block_held (block_held h95 (below_box w5 (.cells #[.int .i64 b, .int .i64 q, .int .u64 x, .int .u64 y, .int .u64 z, .bool true, .int .u64 t, .int .i64 6, .int .i64 0] 35))) hb6
  have ha6 := block_held (heap_alloc_new w5 _) hb6
  have H6 := Lib.hid ((H5.out.kept (below_box _ _)).kept hb6)
  clear c0 c1 c2 c3 c4 c5 c6 c7 c8 hb6 H5 h95 hs5
  obtain ⟨c0, c1, c2, c3, c4, c5, c6, c7, c8⟩ := nine_cells ha6
  go_wp2_with fail
  refine (sdone_lit b q x y z t 0 true _).mono ?_
  rintro e w7 ⟨rfl, hb7⟩
  have h97 := block_held h96 hb7
  have H7 := Lib.hid (H6.out.kept hb7)
  clear c0 c1 c2 c3 c4 c5 c6 c7 c8 hb7 H6 h96 ha6
  obtain ⟨c0, c1, d0, d1, d2⟩ := H7.out.cells
  go_wp2_with fail
  refine (snew_any b q x y z _).mono ?_
  rintro e w8 ⟨rfl, hb8⟩
  have h98 := block_held h97 hb8
  have H8 := Lib.hid (H7.out.kept hb8)
  clear c0 c1 d0 d1 d2 hb8 H7 h97
  go_wp2_with fail
  refine (sdone_new b q x y z _).mono ?_
  rintro e w9 ⟨rfl, hb9⟩
  have h99 := block_held h98 hb9
  have HE0 := Lib.hid (H8.out.below.trans (hb9.mono H8.out.below.size)).drew
  have hT1 := block_held h99 ((Below.refl _ _).drew)
  clear hb9 H8 h98 h99
  go_wp2_with fail
  refine wp_region_held_drew (S := (fun w' => w'.cell? ⟨w3.heap.size, 0, none⟩ = some (.int .i64 b) ∧ w'.cell? ⟨w3.heap.size, 1, none⟩ = some (.int .i64 q) ∧ w'.cell? ⟨w3.heap.size, 2, none⟩ = some (.int .u64 x) ∧ w'.cell? ⟨w3.heap.size, 3, none⟩ = some (.int .u64 y) ∧ w'.cell? ⟨w3.heap.size, 4, none⟩ = some (.int .u64 z) ∧ w'.cell? ⟨w3.heap.size, 5, none⟩ = some (.bool false) ∧ w'.cell? ⟨w3.heap.size, 6, none⟩ = some (.int .u64 0) ∧ w'.cell? ⟨w3.heap.size, 7, none⟩ = some (.int .i64 6) ∧ w'.cell? ⟨w3.heap.size, 8, none⟩ = some (.int .i64 0))) (by kernel_rfl) (nine_cells hT1) (fun hHeld => ?_)
  refine wpAnyH_ready (rs := [0]) (by kernel_rfl) (by simp) (AllReadyH.cons rfl (fun K hK => ?_) AllReadyH.nil)
  go_simp
  go_at_call 17
  refine (awake7_any _).mono ?_
  rintro e v1 ⟨rfl, hv1⟩
  have hT2 := block_held hT1 hv1
  have HE1 := Lib.hid (HE0.out.trans (hv1.mono HE0.out.size))
  clear hv1
  refine hK.out _ _ (nine_cells hT2) (fun hHeld => ?_)
  clear hK K
  try simp only [Act.put, List.setIfInBounds_toArray, List.set_cons_zero, List.set_cons_succ]
  refine wpAnyH_yield 1 (.bool true) rfl (by kernel_rfl) (by kernel_rfl) (by kernel_rfl) (fun d _ _ _ h => by cases d <;> exact h) (by rfl) (by assumption) (fun _ _ => by go_simp) ?_
  simp only [Act.put, List.setIfInBounds_toArray, List.set_cons_zero, List.set_cons_succ]
  refine wpAnyH_yield 2 (.bool true) rfl (by kernel_rfl) (by kernel_rfl) (by kernel_rfl) (fun d _ _ _ h => by cases d <;> exact h) (by rfl) (by assumption) (fun _ _ => by go_simp) ?_
  simp only [Act.put, List.setIfInBounds_toArray, List.set_cons_zero, List.set_cons_succ]
  refine wpAnyH_yield 3 (.bool true) rfl (by kernel_rfl) (by kernel_rfl) (by kernel_rfl) (fun d _ _ _ h => by cases d <;> exact h) (by rfl) (by assumption) (fun _ _ => by go_simp) ?_
  simp only [Act.put, List.setIfInBounds_toArray, List.set_cons_zero, List.set_cons_succ]
  refine wpAnyH_yield 4 (.bool true) rfl (by kernel_rfl) (by kernel_rfl) (by kernel_rfl) (fun d _ _ _ h => by cases d <;> exact h) (by rfl) (by assumption) (fun _ _ => by go_simp) ?_
  simp only [Act.put, List.setIfInBounds_toArray, List.set_cons_zero, List.set_cons_succ]
  refine wpAnyH_yield 5 (.int .i64 3) rfl (by kernel_rfl) (by kernel_rfl) (by kernel_rfl) (fun d _ _ _ h => by cases d <;> exact h) (by rfl) (by assumption) (fun _ _ => by go_simp) ?_
  simp only [Act.put, List.setIfInBounds_toArray, List.set_cons_zero, List.set_cons_succ]
  refine wpAnyH_yield 6 (.bool true) rfl (by kernel_rfl) (by kernel_rfl) (by kernel_rfl) (fun d _ _ _ h => by cases d <;> exact h) (by rfl) (by assumption) (fun _ _ => by go_simp) ?_
  simp only [Act.put, List.setIfInBounds_toArray, List.set_cons_zero, List.set_cons_succ]
  refine wpAnyH_yield 7 (.bool true) rfl (by kernel_rfl) (by kernel_rfl) (by kernel_rfl) (fun d _ _ _ h => by cases d <;> exact h) (by rfl) (by assumption) (fun _ _ => by go_simp) ?_
  simp only [Act.put, List.setIfInBounds_toArray, List.set_cons_zero, List.set_cons_succ]
  refine wpAnyH_yield 8 (.bool true) rfl (by kernel_rfl) (by kernel_rfl) (by kernel_rfl) (fun d _ _ _ h => by cases d <;> exact h) (by rfl) (by assumption) (fun _ _ => by go_simp) ?_
  simp only [Act.put, List.setIfInBounds_toArray, List.set_cons_zero, List.set_cons_succ]
  refine wpAnyH_yield 9 (.bool true) rfl (by kernel_rfl) (by kernel_rfl) (by kernel_rfl) (fun d _ _ _ h => by cases d <;> exact h) (by rfl) (by assumption) (fun _ _ => by go_simp) ?_
  simp only [Act.put, List.setIfInBounds_toArray, List.set_cons_zero, List.set_cons_succ]
  refine wpAnyH_yield 10 (.bool true) rfl (by kernel_rfl) (by kernel_rfl) (by kernel_rfl) (fun d _ _ _ h => by cases d <;> exact h) (by rfl) (by assumption) (fun _ _ => by go_simp) ?_
  simp only [Act.put, List.setIfInBounds_toArray, List.set_cons_zero, List.set_cons_succ]
  refine wpAnyH_yield 11 (.bool true) rfl (by kernel_rfl) (by kernel_rfl) (by kernel_rfl) (fun d _ _ _ h => by cases d <;> exact h) (by rfl) (by assumption) (fun _ _ => by go_simp) ?_
  simp only [Act.put, List.setIfInBounds_toArray, List.set_cons_zero, List.set_cons_succ]
  refine wpAnyH_yield 12 (.int .i64 3) rfl (by kernel_rfl) (by kernel_rfl) (by kernel_rfl) (fun d _ _ _ h => by cases d <;> exact h) (by rfl) (by assumption) (fun _ _ => by go_simp) ?_
  simp only [Act.put, List.setIfInBounds_toArray, List.set_cons_zero, List.set_cons_succ]
  refine wpAnyH_yield 13 (.bool true) rfl (by kernel_rfl) (by kernel_rfl) (by kernel_rfl) (fun d _ _ _ h => by cases d <;> exact h) (by rfl) (by assumption) (fun _ _ => by go_simp) ?_
  simp only [Act.put, List.setIfInBounds_toArray, List.set_cons_zero, List.set_cons_succ]
  refine wpAnyH_yield 14 (.bool true) rfl (by kernel_rfl) (by kernel_rfl) (by kernel_rfl) (fun d _ _ _ h => by cases d <;> exact h) (by rfl) (by assumption) (fun _ _ => by go_simp) ?_
  simp only [Act.put, List.setIfInBounds_toArray, List.set_cons_zero, List.set_cons_succ]
  refine wpAnyH_yield 15 (.bool true) rfl (by kernel_rfl) (by kernel_rfl) (by kernel_rfl) (fun d _ _ _ h => by cases d <;> exact h) (by rfl) (by assumption) (fun _ _ => by go_simp) ?_
  simp only [Act.put, List.setIfInBounds_toArray, List.set_cons_zero, List.set_cons_succ]
  refine wpAnyH_yield 16 (.agg #[.int .i64 b, .int .i64 q, .int .u64 x, .int .u64 y, .int .u64 z, .bool false, .int .u64 0, .int .i64 6, .int .i64 0]) rfl (by kernel_rfl) (by kernel_rfl) (by kernel_rfl) (fun d _ _ _ h => by cases d <;> exact h) (by rfl) (by assumption) (fun _ hSw => by (try dsimp only at hSw); go_simp) ?_
  simp only [Act.put, List.setIfInBounds_toArray, List.set_cons_zero, List.set_cons_succ]
  refine wpAnyH_yield 17 (.pointer (some ⟨s.P, 0, none⟩)) rfl (by kernel_rfl) (by kernel_rfl) (by kernel_rfl) (fun d _ _ _ h => by cases d <;> exact h) (by rfl) (by assumption) (fun _ _ => by go_simp) ?_
  simp only [Act.put, List.setIfInBounds_toArray, List.set_cons_zero, List.set_cons_succ]
  refine wpAnyH_yield 19 (.agg #[.int .i64 b, .int .i64 q, .int .u64 x, .int .u64 y, .int .u64 z, .bool false, .int .u64 0, .int .i64 6, .int .i64 0]) rfl (by kernel_rfl) (by kernel_rfl) (by kernel_rfl) (fun d _ _ _ h => by cases d <;> exact h) (by rfl) (by assumption) (fun _ hSw => by (try dsimp only at hSw); go_simp) ?_
  simp only [Act.put, List.setIfInBounds_toArray, List.set_cons_zero, List.set_cons_succ]
  refine wpAnyH_ready (rs := [18]) (by kernel_rfl) (by simp) (AllReadyH.cons rfl (fun K hK => ?_) AllReadyH.nil)
  go_simp
  go_at_call 18
  refine (sstep_bad b q x y z 0 6 0 false _ HQ.out HB.out _).mono ?_
  rintro e v2 ⟨rfl, hv2⟩
  have hT3 := block_held hT2 hv2
  have HE2 := Lib.hid (HE1.out.trans (hv2.mono HE1.out.size))
  clear hv2
  refine hK.out _ _ (nine_cells hT3) (fun hHeld => ?_)
  clear hK K
  try simp only [Act.put, List.setIfInBounds_toArray, List.set_cons_zero, List.set_cons_succ]
  refine wpAnyH_yield 20 (.bool true) rfl (by kernel_rfl) (by kernel_rfl) (by kernel_rfl) (fun d _ _ _ h => by cases d <;> exact h) (by rfl) (by assumption) (fun _ _ => by go_simp) ?_
  simp only [Act.put, List.setIfInBounds_toArray, List.set_cons_zero, List.set_cons_succ]
  refine wpAnyH_yield 21 (.bool true) rfl (by kernel_rfl) (by kernel_rfl) (by kernel_rfl) (fun d _ _ _ h => by cases d <;> exact h) (by rfl) (by assumption) (fun _ _ => by go_simp) ?_
  simp only [Act.put, List.setIfInBounds_toArray, List.set_cons_zero, List.set_cons_succ]
  refine wpAnyH_yield 22 (.bool true) rfl (by kernel_rfl) (by kernel_rfl) (by kernel_rfl) (fun d _ _ _ h => by cases d <;> exact h) (by rfl) (by assumption) (fun _ _ => by go_simp) ?_
  simp only [Act.put, List.setIfInBounds_toArray, List.set_cons_zero, List.set_cons_succ]
  refine wpAnyH_yield 23 (.bool false) rfl (by kernel_rfl) (by kernel_rfl) (by kernel_rfl) (fun d _ _ _ h => by cases d <;> exact h) (by rfl) (by assumption) (fun _ _ => by go_simp) ?_
  simp only [Act.put, List.setIfInBounds_toArray, List.set_cons_zero, List.set_cons_succ]
  refine wpAnyH_yield 24 (.bool true) rfl (by kernel_rfl) (by kernel_rfl) (by kernel_rfl) (fun d _ _ _ h => by cases d <;> exact h) (by rfl) (by assumption) (fun _ _ => by go_simp) ?_
  simp only [Act.put, List.setIfInBounds_toArray, List.set_cons_zero, List.set_cons_succ]
  refine wpAnyH_yield 25 (.bool true) rfl (by kernel_rfl) (by kernel_rfl) (by kernel_rfl) (fun d _ _ _ h => by cases d <;> exact h) (by rfl) (by assumption) (fun _ _ => by go_simp) ?_
  simp only [Act.put, List.setIfInBounds_toArray, List.set_cons_zero, List.set_cons_succ]
  refine wpAnyH_yield 26 (.bool true) rfl (by kernel_rfl) (by kernel_rfl) (by kernel_rfl) (fun d _ _ _ h => by cases d <;> exact h) (by rfl) (by assumption) (fun _ _ => by go_simp) ?_
  simp only [Act.put, List.setIfInBounds_toArray, List.set_cons_zero, List.set_cons_succ]
  refine wpAnyH_yield 27 (.agg #[.int .i64 b, .int .i64 q, .int .u64 x, .int .u64 y, .int .u64 z, .bool false, .int .u64 0, .int .i64 6, .int .i64 0]) rfl (by kernel_rfl) (by kernel_rfl) (by kernel_rfl) (fun d _ _ _ h => by cases d <;> exact h) (by rfl) (by assumption) (fun _ hSw => by (try dsimp only at hSw); go_simp) ?_
  simp only [Act.put, List.setIfInBounds_toArray, List.set_cons_zero, List.set_cons_succ]
  refine wpAnyH_ready (rs := [28]) (by kernel_rfl) (by simp) (AllReadyH.cons rfl (fun K hK => ?_) AllReadyH.nil)
  go_simp
  go_at_call 12
  refine (sclaimed_lit b q x y z 0 0 false _).mono ?_
  rintro e v3 ⟨rfl, hv3⟩
  have hT4 := block_held hT3 hv3
  have HE3 := Lib.hid (HE2.out.trans (hv3.mono HE2.out.size))
  clear hv3
  refine hK.out _ _ (nine_cells hT4) (fun hHeld => ?_)
  clear hK K
  try simp only [Act.put, List.setIfInBounds_toArray, List.set_cons_zero, List.set_cons_succ]
  refine wpAnyH_yield 29 (.bool true) rfl (by kernel_rfl) (by kernel_rfl) (by kernel_rfl) (fun d _ _ _ h => by cases d <;> exact h) (by rfl) (by assumption) (fun _ _ => by go_simp) ?_
  simp only [Act.put, List.setIfInBounds_toArray, List.set_cons_zero, List.set_cons_succ]
  refine wpAnyH_yield 30 (.bool true) rfl (by kernel_rfl) (by kernel_rfl) (by kernel_rfl) (fun d _ _ _ h => by cases d <;> exact h) (by rfl) (by assumption) (fun _ _ => by go_simp) ?_
  simp only [Act.put, List.setIfInBounds_toArray, List.set_cons_zero, List.set_cons_succ]
  refine wpAnyH_yield 31 (.bool true) rfl (by kernel_rfl) (by kernel_rfl) (by kernel_rfl) (fun d _ _ _ h => by cases d <;> exact h) (by rfl) (by assumption) (fun _ _ => by go_simp) ?_
  simp only [Act.put, List.setIfInBounds_toArray, List.set_cons_zero, List.set_cons_succ]
  refine wpAnyH_done (by kernel_rfl) ?_ _
  go_wp2
  go_ret
  exact ⟨rfl, HE3.out⟩

end Go.Proofs.Ytpaegljfjinckaa
