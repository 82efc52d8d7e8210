/- What the program's calls over a sending come to, with any numbers: one that begins, what it tells, one that begins again, how its turn's place was found. -/
import Derived.Test.YtieehpajkidbcaaBox
import Derived.Test.YtieehpajkidbcaaRest
import Derived.Laws.ResultCell
import Derived.Laws.Rows
import Derived.BigQuiet
import Derived.Deep.QuietTactic
import Derived.Deep.DrawnRows
namespace Go.Proofs.Ytieehpajkidbcaa
open Go.RowKit

theorem Try.sizeTask : (Try.prog.info? 36).map (·.size) = some 9 := by kernel_rfl
theorem heap_three (w : World) (x y z : Obj) : (((w.alloc x).alloc y).alloc z).heap[w.heap.size + 1 + 1]? = some z := by
  have h := heap_alloc_new ((w.alloc x).alloc y) z
  rwa [show ((w.alloc x).alloc y).heap.size = w.heap.size + 1 + 1 by simp] at h
theorem below_duo (w : World) (x y : Obj) : Below w.heap.size w ((w.alloc x).alloc y) := (below_box w x).alloc (by simp) y
theorem below_three (w : World) (x y z : Obj) : Below w.heap.size w (((w.alloc x).alloc y).alloc z) := (below_duo w x y).alloc (by simp; omega) z

theorem below_drewNs {B : Nat} {a w : World} (h : Below B a w) (n : Nat) : Below B a (w.drewN n) := ⟨h.os, h.tape, h.output, h.size, h.block⟩

/-- New. -/
theorem snew_any (b p x y z : Int) (w : World) : Calls Try.prog 10 #[.agg #[.int .i64 b, .int .i64 p], .agg #[.int .u64 x, .int .u64 y, .int .u64 z]] w fun e w' => e = .returned (.agg #[.int .i64 b, .int .i64 p, .int .u64 x, .int .u64 y, .int .u64 z, .bool false, .int .u64 0, .int .i64 0, .int .i64 0]) ∧ Below w.heap.size w w' := by
  go_enter Try.func10, Try.ntmps10
  go_wp2
  refine bodyPost_ret (results_cell_row Try.results10 _ _ (w.heap.size + 1 + 1) 36 _ (0, 0) _ rfl (heap_three _ _ _ _) Try.underlying36 rfl Try.sizeTask) rfl ⟨rfl, below_three _ _ _ _⟩


/-- Done. -/
theorem sdone_any (b p x y z t k j : Int) (l : Bool) (w : World) : Calls Try.prog 11 #[.agg #[.int .i64 b, .int .i64 p, .int .u64 x, .int .u64 y, .int .u64 z, .bool l, .int .u64 t, .int .i64 k, .int .i64 j]] w fun e w' => e = .returned (.tuple #[.int .i64 (if k = 6 then 3 else 0), .bool (decide (k = 5 ∨ k = 6))]) ∧ Below w.heap.size w w' := by
  by_cases h : k = 6
  · subst h
    go_enter Try.func11, Try.ntmps11
    go_wp2
    go_ret2
    exact ⟨rfl, below_box _ _⟩
  · have hk : (k == 6) = false := by simpa using h
    go_enter Try.func11, Try.ntmps11
    go_wp2
    go_quiet (fail)
    go_wp2
    go_ret2
    exact ⟨congrArg (fun u => Ending.returned (.tuple #[.int .i64 0, .bool u])) (by rw [Bool.eq_iff_iff]; simp), below_drewNs (below_box _ _) _⟩


/-- Nine cells of a block, and that they may be written. -/
theorem nine_cells {w : World} {B : Nat} {t : TypeId} {c0 c1 c2 c3 c4 c5 c6 c7 c8 : Value} (h : w.heap[B]? = some (.cells #[c0, c1, c2, c3, c4, c5, c6, c7, c8] t (0, 0))) :
    w.cell? ⟨B, 0, none⟩ = some c0 ∧ w.cell? ⟨B, 1, none⟩ = some c1 ∧ w.cell? ⟨B, 2, none⟩ = some c2 ∧ w.cell? ⟨B, 3, none⟩ = some c3 ∧ w.cell? ⟨B, 4, none⟩ = some c4 ∧ w.cell? ⟨B, 5, none⟩ = some c5 ∧ w.cell? ⟨B, 6, none⟩ = some c6 ∧ w.cell? ⟨B, 7, none⟩ = some c7 ∧ w.cell? ⟨B, 8, none⟩ = some c8 :=
  ⟨cell_of_row _ _ _ _ _ _ h, cell_of_row _ _ _ _ _ _ h, cell_of_row _ _ _ _ _ _ h, cell_of_row _ _ _ _ _ _ h, cell_of_row _ _ _ _ _ _ h, cell_of_row _ _ _ _ _ _ h, cell_of_row _ _ _ _ _ _ h, cell_of_row _ _ _ _ _ _ h, cell_of_row _ _ _ _ _ _ h⟩
theorem nine_free {w : World} {B : Nat} {t : TypeId} {c0 c1 c2 c3 c4 c5 c6 c7 c8 : Value} (h : w.heap[B]? = some (.cells #[c0, c1, c2, c3, c4, c5, c6, c7, c8] t (0, 0))) :
    w.frozen? ⟨B, 0, none⟩ = false ∧ w.frozen? ⟨B, 1, none⟩ = false ∧ w.frozen? ⟨B, 2, none⟩ = false ∧ w.frozen? ⟨B, 3, none⟩ = false ∧ w.frozen? ⟨B, 4, none⟩ = false ∧ w.frozen? ⟨B, 5, none⟩ = false ∧ w.frozen? ⟨B, 6, none⟩ = false ∧ w.frozen? ⟨B, 7, none⟩ = false ∧ w.frozen? ⟨B, 8, none⟩ = false :=
  ⟨frozen_of_row _ _ _ _ _ h, frozen_of_row _ _ _ _ _ h, frozen_of_row _ _ _ _ _ h, frozen_of_row _ _ _ _ _ h, frozen_of_row _ _ _ _ _ h, frozen_of_row _ _ _ _ _ h, frozen_of_row _ _ _ _ _ h, frozen_of_row _ _ _ _ _ h, frozen_of_row _ _ _ _ _ h⟩
/-- Nine cells are laid over nine cells. -/
theorem nine_laid {w : World} {B : Nat} {t : TypeId} {d0 d1 d2 d3 d4 d5 d6 d7 d8 c0 c1 c2 c3 c4 c5 c6 c7 c8 : Value} (h : w.heap[B]? = some (.cells #[d0, d1, d2, d3, d4, d5, d6, d7, d8] t (0, 0))) :
    (((((((((w.setCell ⟨B, 0, none⟩ c0).setCell ⟨B, 1, none⟩ c1).setCell ⟨B, 2, none⟩ c2).setCell ⟨B, 3, none⟩ c3).setCell ⟨B, 4, none⟩ c4).setCell ⟨B, 5, none⟩ c5).setCell ⟨B, 6, none⟩ c6).setCell ⟨B, 7, none⟩ c7).setCell ⟨B, 8, none⟩ c8).heap[B]? = some (.cells #[c0, c1, c2, c3, c4, c5, c6, c7, c8] t (0, 0)) := by
  have e0 : (w.setCell ⟨B, 0, none⟩ c0).heap[B]? = some (.cells #[c0, d1, d2, d3, d4, d5, d6, d7, d8] t (0, 0)) := heap_setCell_same _ _ 0 _ _ c0 h
  have e1 : ((w.setCell ⟨B, 0, none⟩ c0).setCell ⟨B, 1, none⟩ c1).heap[B]? = some (.cells #[c0, c1, d2, d3, d4, d5, d6, d7, d8] t (0, 0)) := heap_setCell_same _ _ 1 _ _ c1 e0
  have e2 : (((w.setCell ⟨B, 0, none⟩ c0).setCell ⟨B, 1, none⟩ c1).setCell ⟨B, 2, none⟩ c2).heap[B]? = some (.cells #[c0, c1, c2, d3, d4, d5, d6, d7, d8] t (0, 0)) := heap_setCell_same _ _ 2 _ _ c2 e1
  have e3 : ((((w.setCell ⟨B, 0, none⟩ c0).setCell ⟨B, 1, none⟩ c1).setCell ⟨B, 2, none⟩ c2).setCell ⟨B, 3, none⟩ c3).heap[B]? = some (.cells #[c0, c1, c2, c3, d4, d5, d6, d7, d8] t (0, 0)) := heap_setCell_same _ _ 3 _ _ c3 e2
  have e4 : (((((w.setCell ⟨B, 0, none⟩ c0).setCell ⟨B, 1, none⟩ c1).setCell ⟨B, 2, none⟩ c2).setCell ⟨B, 3, none⟩ c3).setCell ⟨B, 4, none⟩ c4).heap[B]? = some (.cells #[c0, c1, c2, c3, c4, d5, d6, d7, d8] t (0, 0)) := heap_setCell_same _ _ 4 _ _ c4 e3
  have e5 : ((((((w.setCell ⟨B, 0, none⟩ c0).setCell ⟨B, 1, none⟩ c1).setCell ⟨B, 2, none⟩ c2).setCell ⟨B, 3, none⟩ c3).setCell ⟨B, 4, none⟩ c4).setCell ⟨B, 5, none⟩ c5).heap[B]? = some (.cells #[c0, c1, c2, c3, c4, c5, d6, d7, d8] t (0, 0)) := heap_setCell_same _ _ 5 _ _ c5 e4
  have e6 : (((((((w.setCell ⟨B, 0, none⟩ c0).setCell ⟨B, 1, none⟩ c1).setCell ⟨B, 2, none⟩ c2).setCell ⟨B, 3, none⟩ c3).setCell ⟨B, 4, none⟩ c4).setCell ⟨B, 5, none⟩ c5).setCell ⟨B, 6, none⟩ c6).heap[B]? = some (.cells #[c0, c1, c2, c3, c4, c5, c6, d7, d8] t (0, 0)) := heap_setCell_same _ _ 6 _ _ c6 e5
  have e7 : ((((((((w.setCell ⟨B, 0, none⟩ c0).setCell ⟨B, 1, none⟩ c1).setCell ⟨B, 2, none⟩ c2).setCell ⟨B, 3, none⟩ c3).setCell ⟨B, 4, none⟩ c4).setCell ⟨B, 5, none⟩ c5).setCell ⟨B, 6, none⟩ c6).setCell ⟨B, 7, none⟩ c7).heap[B]? = some (.cells #[c0, c1, c2, c3, c4, c5, c6, c7, d8] t (0, 0)) := heap_setCell_same _ _ 7 _ _ c7 e6
  exact heap_setCell_same _ _ 8 _ _ c8 e7
theorem nine_below {a w : World} {A B : Nat} {c0 c1 c2 c3 c4 c5 c6 c7 c8 : Value} (h : Below A a w) (hB : A ≤ B) :
    Below A a (((((((((w.setCell ⟨B, 0, none⟩ c0).setCell ⟨B, 1, none⟩ c1).setCell ⟨B, 2, none⟩ c2).setCell ⟨B, 3, none⟩ c3).setCell ⟨B, 4, none⟩ c4).setCell ⟨B, 5, none⟩ c5).setCell ⟨B, 6, none⟩ c6).setCell ⟨B, 7, none⟩ c7).setCell ⟨B, 8, none⟩ c8) :=
  ((((((((h.setCell hB _).setCell hB _).setCell hB _).setCell hB _).setCell hB _).setCell hB _).setCell hB _).setCell hB _).setCell hB _
theorem nine_rest {w : World} {B : Nat} {c0 c1 c2 c3 c4 c5 c6 c7 c8 : Value} {own : Nat → Prop} (h : own B) :
    Rest own w (((((((((w.setCell ⟨B, 0, none⟩ c0).setCell ⟨B, 1, none⟩ c1).setCell ⟨B, 2, none⟩ c2).setCell ⟨B, 3, none⟩ c3).setCell ⟨B, 4, none⟩ c4).setCell ⟨B, 5, none⟩ c5).setCell ⟨B, 6, none⟩ c6).setCell ⟨B, 7, none⟩ c7).setCell ⟨B, 8, none⟩ c8) := by
  have s : ∀ (w : World) (i : Nat) (v : Value), Rest own w (w.setCell ⟨B, i, none⟩ v) := fun w i v => Rest.setCell _ _ _ h
  have t : ∀ {a b c : World}, Rest own a b → Rest own b c → Rest own a c := fun h k => h.trans k (fun _ _ x => x) (fun _ _ x => x)
  exact t (t (t (t (t (t (t (t (s _ _ _) (s _ _ _)) (s _ _ _)) (s _ _ _)) (s _ _ _)) (s _ _ _)) (s _ _ _)) (s _ _ _)) (s _ _ _)

/-- A block that was laid, and one behind it, are there behind all that lays its own blocks. -/
theorem duo_kept {w wk : World} {A B : Obj} (h : Below ((w.alloc A).alloc B).heap.size ((w.alloc A).alloc B) wk) : wk.heap[w.heap.size]? = some A ∧ wk.heap[w.heap.size + 1]? = some B ∧ Below w.heap.size w wk := by
  refine ⟨?_, ?_, (below_duo w A B).trans (h.mono (by simp; omega))⟩
  · rw [h.block _ (by simp; omega), heap_alloc2_old]
  · rw [h.block _ (by simp), heap_alloc2_new]

/-- Again: it stands as a new one does. -/
theorem sagain_any (b p x y z t k j : Int) (l : Bool) (w : World) : Calls Try.prog 33 #[.agg #[.int .i64 b, .int .i64 p, .int .u64 x, .int .u64 y, .int .u64 z, .bool l, .int .u64 t, .int .i64 k, .int .i64 j]] w fun e w' => e = .returned (.agg #[.int .i64 b, .int .i64 p, .int .u64 x, .int .u64 y, .int .u64 z, .bool false, .int .u64 0, .int .i64 0, .int .i64 0]) ∧ Below w.heap.size w w' := by
  go_enter Try.func33, Try.ntmps33
  go_wp2_with fail
  refine (snew_any b p x y z _).mono ?_
  rintro e w1 ⟨rfl, hb1⟩
  obtain ⟨-, hr, hb⟩ := duo_kept hb1
  obtain ⟨r0, r1, r2, r3, r4, r5, r6, r7, r8⟩ := nine_cells hr
  obtain ⟨f0, f1, f2, f3, f4, f5, f6, f7, f8⟩ := nine_free hr
  have HR := Lib.hid hr
  have HB := Lib.hid hb
  clear hr hb hb1
  go_wp2_with fail
  refine bodyPost_ret (results_cell_row Try.results33 _ _ (w.heap.size + 1) 36 _ (0, 0) _ rfl (nine_laid HR.out) Try.underlying36 rfl Try.sizeTask) rfl ⟨rfl, nine_below HB.out (by simp)⟩

/-- Found: its place is empty for a lone one. -/
theorem sfound_lone (b p x y z t k j : Int) (w : World) : Calls Try.prog 31 #[.agg #[.int .i64 b, .int .i64 p, .int .u64 x, .int .u64 y, .int .u64 z, .bool true, .int .u64 t, .int .i64 k, .int .i64 j], .int .u64 t] w fun e w' => e = .returned (.agg #[.int .i64 b, .int .i64 p, .int .u64 x, .int .u64 y, .int .u64 z, .bool true, .int .u64 t, .int .i64 3, .int .i64 j]) ∧ Below w.heap.size w w' := by
  go_enter Try.func31, Try.ntmps31
  go_wp2
  refine bodyPost_ret (results_cell_row Try.results31 _ _ (w.heap.size + 1) 36 _ (0, 0) _ rfl (heap_alloc2_new _ _ _) Try.underlying36 rfl Try.sizeTask) rfl ⟨rfl, below_duo _ _ _⟩
/-- .. for one that is not alone. -/
theorem sfound_open (b p x y z t k j : Int) (w : World) : Calls Try.prog 31 #[.agg #[.int .i64 b, .int .i64 p, .int .u64 x, .int .u64 y, .int .u64 z, .bool false, .int .u64 t, .int .i64 k, .int .i64 j], .int .u64 t] w fun e w' => e = .returned (.agg #[.int .i64 b, .int .i64 p, .int .u64 x, .int .u64 y, .int .u64 z, .bool false, .int .u64 t, .int .i64 2, .int .i64 j]) ∧ Below w.heap.size w w' := by
  go_enter Try.func31, Try.ntmps31
  go_wp2
  refine bodyPost_ret (results_cell_row Try.results31 _ _ (w.heap.size + 1) 36 _ (0, 0) _ rfl (heap_alloc2_new _ _ _) Try.underlying36 rfl Try.sizeTask) rfl ⟨rfl, below_duo _ _ _⟩
/-- .. it stands below the turn. -/
theorem sfound_below (b p x y z t k j n : Int) (l : Bool) (h : n < t) (w : World) : Calls Try.prog 31 #[.agg #[.int .i64 b, .int .i64 p, .int .u64 x, .int .u64 y, .int .u64 z, .bool l, .int .u64 t, .int .i64 k, .int .i64 j], .int .u64 n] w fun e w' => e = .returned (.agg #[.int .i64 b, .int .i64 p, .int .u64 x, .int .u64 y, .int .u64 z, .bool l, .int .u64 t, .int .i64 6, .int .i64 j]) ∧ Below w.heap.size w w' := by
  have h1 : (n == t) = false := by rw [beq_eq_false_iff_ne]; omega
  have h2 : decide (n < t) = true := by simpa using h
  go_enter Try.func31, Try.ntmps31
  go_wp2
  refine bodyPost_ret (results_cell_row Try.results31 _ _ (w.heap.size + 1) 36 _ (0, 0) _ rfl (heap_alloc2_new _ _ _) Try.underlying36 rfl Try.sizeTask) rfl ⟨rfl, below_duo _ _ _⟩
/-- .. it stands above the turn of a lone one. -/
theorem sfound_past (b p x y z t k j n : Int) (h : t < n) (w : World) : Calls Try.prog 31 #[.agg #[.int .i64 b, .int .i64 p, .int .u64 x, .int .u64 y, .int .u64 z, .bool true, .int .u64 t, .int .i64 k, .int .i64 j], .int .u64 n] w fun e w' => e = .returned (.agg #[.int .i64 b, .int .i64 p, .int .u64 x, .int .u64 y, .int .u64 z, .bool true, .int .u64 t, .int .i64 6, .int .i64 j]) ∧ Below w.heap.size w w' := by
  have h1 : (n == t) = false := by rw [beq_eq_false_iff_ne]; omega
  have h2 : decide (n < t) = false := by simp; omega
  go_enter Try.func31, Try.ntmps31
  go_wp2
  refine bodyPost_ret (results_cell_row Try.results31 _ _ (w.heap.size + 1) 36 _ (0, 0) _ rfl (heap_alloc2_new _ _ _) Try.underlying36 rfl Try.sizeTask) rfl ⟨rfl, below_duo _ _ _⟩
/-- .. it stands above the turn: others took it. -/
theorem sfound_over (b p x y z t k j n : Int) (h : t < n) (w : World) : Calls Try.prog 31 #[.agg #[.int .i64 b, .int .i64 p, .int .u64 x, .int .u64 y, .int .u64 z, .bool false, .int .u64 t, .int .i64 k, .int .i64 j], .int .u64 n] w fun e w' => e = .returned (.agg #[.int .i64 b, .int .i64 p, .int .u64 x, .int .u64 y, .int .u64 z, .bool false, .int .u64 0, .int .i64 0, .int .i64 0]) ∧ Below w.heap.size w w' := by
  have h1 : (n == t) = false := by rw [beq_eq_false_iff_ne]; omega
  have h2 : decide (n < t) = false := by simp; omega
  go_enter Try.func31, Try.ntmps31
  go_wp2_with fail
  refine (sagain_any b p x y z t k j false _).mono ?_
  rintro e w1 ⟨rfl, hb1⟩
  obtain ⟨-, hr, hb⟩ := duo_kept hb1
  obtain ⟨r0, r1, r2, r3, r4, r5, r6, r7, r8⟩ := nine_cells hr
  obtain ⟨f0, f1, f2, f3, f4, f5, f6, f7, f8⟩ := nine_free hr
  have HR := Lib.hid hr
  have HB := Lib.hid hb
  clear hr hb hb1
  go_wp2_with fail
  refine bodyPost_ret (results_cell_row Try.results31 _ _ (w.heap.size + 1) 36 _ (0, 0) _ rfl (nine_laid HR.out) Try.underlying36 rfl Try.sizeTask) rfl ⟨rfl, nine_below HB.out (by simp)⟩

end Go.Proofs.Ytieehpajkidbcaa
