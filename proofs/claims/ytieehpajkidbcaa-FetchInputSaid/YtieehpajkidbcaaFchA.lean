/- What the program's calls over a fetching come to, with any numbers: one that begins, what it tells. -/
import Derived.Test.YtieehpajkidbcaaDesk
import Derived.Test.YtieehpajkidbcaaSndA
namespace Go.Proofs.Ytieehpajkidbcaa
open Go.RowKit

theorem Try.sizeFch : (Try.prog.info? 43).map (·.size) = some 8 := by kernel_rfl
theorem Try.sizeWd : (Try.prog.info? 34).map (·.size) = some 3 := by kernel_rfl

/-- New. -/
theorem ftnew_any (b p t : Int) (w : World) : Calls Try.prog 13 #[.agg #[.int .i64 b, .int .i64 p], .int .u64 t] w fun e w' => e = .returned (.agg #[.int .i64 b, .int .i64 p, .int .u64 t, .int .i64 0, .int .i64 0, .int .u64 0, .int .u64 0, .int .u64 0]) ∧ Below w.heap.size w w' := by
  go_enter Try.func13, Try.ntmps13
  go_wp2
  refine bodyPost_ret (results_cell_row Try.results13 _ _ (w.heap.size + 1) 43 _ (0, 0) _ rfl (heap_alloc2_new _ _ _) Try.underlying43 rfl Try.sizeFch) rfl ⟨rfl, below_duo _ _ _⟩

/-- Done. -/
theorem ftdone_any (b p t k j x y z : Int) (w : World) : Calls Try.prog 14 #[.agg #[.int .i64 b, .int .i64 p, .int .u64 t, .int .i64 k, .int .i64 j, .int .u64 x, .int .u64 y, .int .u64 z]] w fun e w' => e = .returned (.tuple #[.int .i64 (if k = 4 then 4 else 0), .bool (decide (k = 3 ∨ k = 4))]) ∧ Below w.heap.size w w' := by
  by_cases h : k = 4
  · subst h
    go_enter Try.func14, Try.ntmps14
    go_wp2
    go_ret2
    exact ⟨rfl, below_box _ _⟩
  · have hk : (k == 4) = false := by simpa using h
    go_enter Try.func14, Try.ntmps14
    go_wp2
    go_quiet (fail)
    go_wp2
    go_ret2
    exact ⟨congrArg (fun u => Ending.returned (.tuple #[.int .i64 0, .bool u])) (by rw [Bool.eq_iff_iff]; simp), below_drewNs (below_box _ _) _⟩

theorem ftdone_no (b p t k j : Nat) (x y z : Int) (h : k ≠ 3 ∧ k ≠ 4) (w : World) : Calls Try.prog 14 #[.agg #[.int .i64 b, .int .i64 p, .int .u64 t, .int .i64 k, .int .i64 j, .int .u64 x, .int .u64 y, .int .u64 z]] w fun e w' => e = .returned (.tuple #[.int .i64 0, .bool false]) ∧ Below w.heap.size w w' := by
  refine (ftdone_any b p t k j x y z w).mono ?_
  rintro e w' ⟨rfl, hb⟩
  refine ⟨?_, hb⟩
  rw [if_neg (by omega), show decide ((k : Int) = 3 ∨ (k : Int) = 4) = false by simp; omega]
theorem ftdone_yes (b p t k j : Nat) (x y z : Int) (h : k = 3 ∨ k = 4) (w : World) : Calls Try.prog 14 #[.agg #[.int .i64 b, .int .i64 p, .int .u64 t, .int .i64 k, .int .i64 j, .int .u64 x, .int .u64 y, .int .u64 z]] w fun e w' => e = .returned (.tuple #[.int .i64 (if k = 4 then 4 else 0), .bool true]) ∧ Below w.heap.size w w' := by
  refine (ftdone_any b p t k j x y z w).mono ?_
  rintro e w' ⟨rfl, hb⟩
  refine ⟨?_, hb⟩
  rw [show decide ((k : Int) = 3 ∨ (k : Int) = 4) = true by simp; omega]
  have : ((k : Int) = 4) ↔ k = 4 := by omega
  simp only [this]

/-- Begun. -/
theorem ftbegun_any (b p t k j x y z : Int) (w : World) : Calls Try.prog 15 #[.agg #[.int .i64 b, .int .i64 p, .int .u64 t, .int .i64 k, .int .i64 j, .int .u64 x, .int .u64 y, .int .u64 z]] w fun e w' => e = .returned (.bool (decide (1 ≤ k ∧ k ≠ 4))) ∧ Below w.heap.size w w' := by
  by_cases h : 1 ≤ k
  · have hk : decide (1 ≤ k) = true := by simpa using h
    go_enter Try.func15, Try.ntmps15
    go_wp2
    go_ret
    exact ⟨ret_bool (by rw [Bool.eq_iff_iff]; simp [h]), below_box _ _⟩
  · have hk : decide (1 ≤ k) = false := by simpa using h
    go_enter Try.func15, Try.ntmps15
    go_wp2
    go_ret
    exact ⟨rfl, below_box _ _⟩

/-- Words: it is not fetched. -/
theorem ftwords_no (b p t k j x y z : Int) (h : k ≠ 3) (w : World) : Calls Try.prog 16 #[.agg #[.int .i64 b, .int .i64 p, .int .u64 t, .int .i64 k, .int .i64 j, .int .u64 x, .int .u64 y, .int .u64 z]] w fun e w' => e = .returned (.agg #[.int .u64 0, .int .u64 0, .int .u64 0]) ∧ Below w.heap.size w w' := by
  have hk : (k != 3) = true := by simpa using h
  go_enter Try.func16, Try.ntmps16
  go_wp2
  refine bodyPost_ret (results_cell_row Try.results16 _ _ (w.heap.size + 1) 34 _ (0, 0) _ rfl (heap_alloc2_new _ _ _) Try.underlying34 rfl Try.sizeWd) rfl ⟨rfl, below_duo _ _ _⟩
/-- .. it is. -/
theorem ftwords_yes (b p t j x y z : Int) (w : World) : Calls Try.prog 16 #[.agg #[.int .i64 b, .int .i64 p, .int .u64 t, .int .i64 3, .int .i64 j, .int .u64 x, .int .u64 y, .int .u64 z]] w fun e w' => e = .returned (.agg #[.int .u64 x, .int .u64 y, .int .u64 z]) ∧ Below w.heap.size w w' := by
  go_enter Try.func16, Try.ntmps16
  go_wp2
  refine bodyPost_ret (results_cell_row Try.results16 _ _ (w.heap.size + 1) 34 _ (0, 0) _ rfl (heap_alloc2_new _ _ _) Try.underlying34 rfl Try.sizeWd) rfl ⟨rfl, below_duo _ _ _⟩

/-- Eight cells of a block, and that they may be written. -/
theorem eight_cells {w : World} {B : Nat} {t : TypeId} {c0 c1 c2 c3 c4 c5 c6 c7 : Value} (h : w.heap[B]? = some (.cells #[c0, c1, c2, c3, c4, c5, c6, c7] t (0, 0))) :
    w.cell? ⟨B, 0, none⟩ = some c0 ∧ w.cell? ⟨B, 1, none⟩ = some c1 ∧ w.cell? ⟨B, 2, none⟩ = some c2 ∧ w.cell? ⟨B, 3, none⟩ = some c3 ∧ w.cell? ⟨B, 4, none⟩ = some c4 ∧ w.cell? ⟨B, 5, none⟩ = some c5 ∧ w.cell? ⟨B, 6, none⟩ = some c6 ∧ w.cell? ⟨B, 7, none⟩ = some c7 :=
  ⟨cell_of_row _ _ _ _ _ _ h, cell_of_row _ _ _ _ _ _ h, cell_of_row _ _ _ _ _ _ h, cell_of_row _ _ _ _ _ _ h, cell_of_row _ _ _ _ _ _ h, cell_of_row _ _ _ _ _ _ h, cell_of_row _ _ _ _ _ _ h, cell_of_row _ _ _ _ _ _ h⟩
theorem eight_free {w : World} {B : Nat} {t : TypeId} {c0 c1 c2 c3 c4 c5 c6 c7 : Value} (h : w.heap[B]? = some (.cells #[c0, c1, c2, c3, c4, c5, c6, c7] t (0, 0))) :
    w.frozen? ⟨B, 0, none⟩ = false ∧ w.frozen? ⟨B, 1, none⟩ = false ∧ w.frozen? ⟨B, 2, none⟩ = false ∧ w.frozen? ⟨B, 3, none⟩ = false ∧ w.frozen? ⟨B, 4, none⟩ = false ∧ w.frozen? ⟨B, 5, none⟩ = false ∧ w.frozen? ⟨B, 6, none⟩ = false ∧ w.frozen? ⟨B, 7, none⟩ = false :=
  ⟨frozen_of_row _ _ _ _ _ h, frozen_of_row _ _ _ _ _ h, frozen_of_row _ _ _ _ _ h, frozen_of_row _ _ _ _ _ h, frozen_of_row _ _ _ _ _ h, frozen_of_row _ _ _ _ _ h, frozen_of_row _ _ _ _ _ h, frozen_of_row _ _ _ _ _ h⟩
/-- Eight cells are laid over eight cells. -/
theorem eight_laid {w : World} {B : Nat} {t : TypeId} {d0 d1 d2 d3 d4 d5 d6 d7 c0 c1 c2 c3 c4 c5 c6 c7 : Value} (h : w.heap[B]? = some (.cells #[d0, d1, d2, d3, d4, d5, d6, d7] t (0, 0))) :
    ((((((((w.setCell ⟨B, 0, none⟩ c0).setCell ⟨B, 1, none⟩ c1).setCell ⟨B, 2, none⟩ c2).setCell ⟨B, 3, none⟩ c3).setCell ⟨B, 4, none⟩ c4).setCell ⟨B, 5, none⟩ c5).setCell ⟨B, 6, none⟩ c6).setCell ⟨B, 7, none⟩ c7).heap[B]? = some (.cells #[c0, c1, c2, c3, c4, c5, c6, c7] t (0, 0)) := by
  have e0 : (w.setCell ⟨B, 0, none⟩ c0).heap[B]? = some (.cells #[c0, d1, d2, d3, d4, d5, d6, d7] t (0, 0)) := heap_setCell_same _ _ 0 _ _ c0 h
  have e1 : ((w.setCell ⟨B, 0, none⟩ c0).setCell ⟨B, 1, none⟩ c1).heap[B]? = some (.cells #[c0, c1, d2, d3, d4, d5, d6, d7] t (0, 0)) := heap_setCell_same _ _ 1 _ _ c1 e0
  have e2 : (((w.setCell ⟨B, 0, none⟩ c0).setCell ⟨B, 1, none⟩ c1).setCell ⟨B, 2, none⟩ c2).heap[B]? = some (.cells #[c0, c1, c2, d3, d4, d5, d6, d7] t (0, 0)) := heap_setCell_same _ _ 2 _ _ c2 e1
  have e3 : ((((w.setCell ⟨B, 0, none⟩ c0).setCell ⟨B, 1, none⟩ c1).setCell ⟨B, 2, none⟩ c2).setCell ⟨B, 3, none⟩ c3).heap[B]? = some (.cells #[c0, c1, c2, c3, d4, d5, d6, d7] t (0, 0)) := heap_setCell_same _ _ 3 _ _ c3 e2
  have e4 : (((((w.setCell ⟨B, 0, none⟩ c0).setCell ⟨B, 1, none⟩ c1).setCell ⟨B, 2, none⟩ c2).setCell ⟨B, 3, none⟩ c3).setCell ⟨B, 4, none⟩ c4).heap[B]? = some (.cells #[c0, c1, c2, c3, c4, d5, d6, d7] t (0, 0)) := heap_setCell_same _ _ 4 _ _ c4 e3
  have e5 : ((((((w.setCell ⟨B, 0, none⟩ c0).setCell ⟨B, 1, none⟩ c1).setCell ⟨B, 2, none⟩ c2).setCell ⟨B, 3, none⟩ c3).setCell ⟨B, 4, none⟩ c4).setCell ⟨B, 5, none⟩ c5).heap[B]? = some (.cells #[c0, c1, c2, c3, c4, c5, d6, d7] t (0, 0)) := heap_setCell_same _ _ 5 _ _ c5 e4
  have e6 : (((((((w.setCell ⟨B, 0, none⟩ c0).setCell ⟨B, 1, none⟩ c1).setCell ⟨B, 2, none⟩ c2).setCell ⟨B, 3, none⟩ c3).setCell ⟨B, 4, none⟩ c4).setCell ⟨B, 5, none⟩ c5).setCell ⟨B, 6, none⟩ c6).heap[B]? = some (.cells #[c0, c1, c2, c3, c4, c5, c6, d7] t (0, 0)) := heap_setCell_same _ _ 6 _ _ c6 e5
  exact heap_setCell_same _ _ 7 _ _ c7 e6
theorem eight_below {a w : World} {A B : Nat} {c0 c1 c2 c3 c4 c5 c6 c7 : Value} (h : Below A a w) (hB : A ≤ B) :
    Below A a ((((((((w.setCell ⟨B, 0, none⟩ c0).setCell ⟨B, 1, none⟩ c1).setCell ⟨B, 2, none⟩ c2).setCell ⟨B, 3, none⟩ c3).setCell ⟨B, 4, none⟩ c4).setCell ⟨B, 5, none⟩ c5).setCell ⟨B, 6, none⟩ c6).setCell ⟨B, 7, none⟩ c7) :=
  (((((((h.setCell hB _).setCell hB _).setCell hB _).setCell hB _).setCell hB _).setCell hB _).setCell hB _).setCell hB _
theorem eight_rest {w : World} {B : Nat} {c0 c1 c2 c3 c4 c5 c6 c7 : Value} {own : Nat → Prop} (h : own B) :
    Rest own w ((((((((w.setCell ⟨B, 0, none⟩ c0).setCell ⟨B, 1, none⟩ c1).setCell ⟨B, 2, none⟩ c2).setCell ⟨B, 3, none⟩ c3).setCell ⟨B, 4, none⟩ c4).setCell ⟨B, 5, none⟩ c5).setCell ⟨B, 6, none⟩ c6).setCell ⟨B, 7, none⟩ c7) := by
  have s : ∀ (w : World) (i : Nat) (v : Value), Rest own w (w.setCell ⟨B, i, none⟩ v) := fun w i v => Rest.setCell _ _ _ h
  have t : ∀ {a b c : World}, Rest own a b → Rest own b c → Rest own a c := fun h k => h.trans k (fun _ _ x => x) (fun _ _ x => x)
  exact t (t (t (t (t (t (t (s _ _ _) (s _ _ _)) (s _ _ _)) (s _ _ _)) (s _ _ _)) (s _ _ _)) (s _ _ _)) (s _ _ _)
/-- Eight cells of the answer are written. -/
theorem Desk.eightR {w wk : World} {B : Nat} {s : Spot} {a : Ar} {X : Obj} {t : TypeId} {d0 d1 d2 d3 d4 d5 d6 d7 c0 c1 c2 c3 c4 c5 c6 c7 : Value} (h : Desk w wk B s a X (.cells #[d0, d1, d2, d3, d4, d5, d6, d7] t (0, 0))) :
    Desk w ((((((((wk.setCell ⟨w.heap.size + 1, 0, none⟩ c0).setCell ⟨w.heap.size + 1, 1, none⟩ c1).setCell ⟨w.heap.size + 1, 2, none⟩ c2).setCell ⟨w.heap.size + 1, 3, none⟩ c3).setCell ⟨w.heap.size + 1, 4, none⟩ c4).setCell ⟨w.heap.size + 1, 5, none⟩ c5).setCell ⟨w.heap.size + 1, 6, none⟩ c6).setCell ⟨w.heap.size + 1, 7, none⟩ c7) B s a X (.cells #[c0, c1, c2, c3, c4, c5, c6, c7] t (0, 0)) := by
  have e0 := h.setR 0 c0 (cs' := #[c0, d1, d2, d3, d4, d5, d6, d7]) rfl
  have e1 := e0.setR 1 c1 (cs' := #[c0, c1, d2, d3, d4, d5, d6, d7]) rfl
  have e2 := e1.setR 2 c2 (cs' := #[c0, c1, c2, d3, d4, d5, d6, d7]) rfl
  have e3 := e2.setR 3 c3 (cs' := #[c0, c1, c2, c3, d4, d5, d6, d7]) rfl
  have e4 := e3.setR 4 c4 (cs' := #[c0, c1, c2, c3, c4, d5, d6, d7]) rfl
  have e5 := e4.setR 5 c5 (cs' := #[c0, c1, c2, c3, c4, c5, d6, d7]) rfl
  have e6 := e5.setR 6 c6 (cs' := #[c0, c1, c2, c3, c4, c5, c6, d7]) rfl
  exact e6.setR 7 c7 rfl

end Go.Proofs.Ytieehpajkidbcaa
