/- The ending of a slot's turn, as a program's task: five cells by value; what New, Done, Word and found come to, with any numbers. -/
import Derived.Test.YteijikcggflaoaaDoorSltB
import Derived.Test.YteijikcggflaoaaDoorRest
import Derived.Test.YteijikcggflaoaaDoorDesk
import Derived.Laws.ResultCell
import Derived.Laws.Rows
import Derived.BigQuiet
import Derived.Deep.QuietTactic
import Derived.Deep.DrawnRows
namespace Go.Proofs.YteijikcggflaoaaDoor
open Go.RowKit

theorem Tryd.sizeStl : (Tryd.prog.info? 27).map (·.size) = some 5 := by kernel_rfl
theorem below_duo5 (w : World) (x y : Obj) : Below w.heap.size w ((w.alloc x).alloc y) := (below_box w x).alloc (by simp) y
theorem below_drew5 {B : Nat} {a w : World} (h : Below B a w) (n : Nat) : Below B a (w.drewN n) := ⟨h.os, h.tape, h.output, h.size, h.block⟩

/-- Five cells of a block, and that they may be written. -/
theorem five_cells {w : World} {B : Nat} {t : TypeId} {c0 c1 c2 c3 c4 : Value} (h : w.heap[B]? = some (.cells #[c0, c1, c2, c3, c4] t (0, 0))) :
    w.cell? ⟨B, 0, none⟩ = some c0 ∧ w.cell? ⟨B, 1, none⟩ = some c1 ∧ w.cell? ⟨B, 2, none⟩ = some c2 ∧ w.cell? ⟨B, 3, none⟩ = some c3 ∧ w.cell? ⟨B, 4, none⟩ = some c4 :=
  ⟨cell_of_row _ _ _ _ _ _ h, cell_of_row _ _ _ _ _ _ h, cell_of_row _ _ _ _ _ _ h, cell_of_row _ _ _ _ _ _ h, cell_of_row _ _ _ _ _ _ h⟩
theorem five_free {w : World} {B : Nat} {t : TypeId} {c0 c1 c2 c3 c4 : Value} (h : w.heap[B]? = some (.cells #[c0, c1, c2, c3, c4] t (0, 0))) :
    w.frozen? ⟨B, 0, none⟩ = false ∧ w.frozen? ⟨B, 1, none⟩ = false ∧ w.frozen? ⟨B, 2, none⟩ = false ∧ w.frozen? ⟨B, 3, none⟩ = false ∧ w.frozen? ⟨B, 4, none⟩ = false :=
  ⟨frozen_of_row _ _ _ _ _ h, frozen_of_row _ _ _ _ _ h, frozen_of_row _ _ _ _ _ h, frozen_of_row _ _ _ _ _ h, frozen_of_row _ _ _ _ _ h⟩
/-- Five cells are laid over five cells. -/
theorem five_laid {w : World} {B : Nat} {t : TypeId} {d0 d1 d2 d3 d4 c0 c1 c2 c3 c4 : Value} (h : w.heap[B]? = some (.cells #[d0, d1, d2, d3, d4] t (0, 0))) :
    (((((w.setCell ⟨B, 0, none⟩ c0).setCell ⟨B, 1, none⟩ c1).setCell ⟨B, 2, none⟩ c2).setCell ⟨B, 3, none⟩ c3).setCell ⟨B, 4, none⟩ c4).heap[B]? = some (.cells #[c0, c1, c2, c3, c4] t (0, 0)) := by
  have e0 : (w.setCell ⟨B, 0, none⟩ c0).heap[B]? = some (.cells #[c0, d1, d2, d3, d4] t (0, 0)) := heap_setCell_same _ _ 0 _ _ c0 h
  have e1 : ((w.setCell ⟨B, 0, none⟩ c0).setCell ⟨B, 1, none⟩ c1).heap[B]? = some (.cells #[c0, c1, d2, d3, d4] t (0, 0)) := heap_setCell_same _ _ 1 _ _ c1 e0
  have e2 : (((w.setCell ⟨B, 0, none⟩ c0).setCell ⟨B, 1, none⟩ c1).setCell ⟨B, 2, none⟩ c2).heap[B]? = some (.cells #[c0, c1, c2, d3, d4] t (0, 0)) := heap_setCell_same _ _ 2 _ _ c2 e1
  have e3 : ((((w.setCell ⟨B, 0, none⟩ c0).setCell ⟨B, 1, none⟩ c1).setCell ⟨B, 2, none⟩ c2).setCell ⟨B, 3, none⟩ c3).heap[B]? = some (.cells #[c0, c1, c2, c3, d4] t (0, 0)) := heap_setCell_same _ _ 3 _ _ c3 e2
  exact heap_setCell_same _ _ 4 _ _ c4 e3
theorem five_below {a w : World} {A B : Nat} {c0 c1 c2 c3 c4 : Value} (h : Below A a w) (hB : A ≤ B) : Below A a (((((w.setCell ⟨B, 0, none⟩ c0).setCell ⟨B, 1, none⟩ c1).setCell ⟨B, 2, none⟩ c2).setCell ⟨B, 3, none⟩ c3).setCell ⟨B, 4, none⟩ c4) :=
  (((((h.setCell hB _).setCell hB _).setCell hB _).setCell hB _).setCell hB _)
theorem five_rest {w : World} {B : Nat} {c0 c1 c2 c3 c4 : Value} {own : Nat → Prop} (h : own B) : Rest own w (((((w.setCell ⟨B, 0, none⟩ c0).setCell ⟨B, 1, none⟩ c1).setCell ⟨B, 2, none⟩ c2).setCell ⟨B, 3, none⟩ c3).setCell ⟨B, 4, none⟩ c4) := by
  have s : ∀ (w : World) (i : Nat) (v : Value), Rest own w (w.setCell ⟨B, i, none⟩ v) := fun w i v => Rest.setCell _ _ _ h
  have t : ∀ {a b c : World}, Rest own a b → Rest own b c → Rest own a c := fun h k => h.trans k (fun _ _ x => x) (fun _ _ x => x)
  exact t (t (t (t (s _ _ _) (s _ _ _)) (s _ _ _)) (s _ _ _)) (s _ _ _)
/-- A block that was laid, and one behind it, are there behind all that lays its own blocks. -/
theorem pair_kept {w wk : World} {A B : Obj} (h : Below ((w.alloc A).alloc B).heap.size ((w.alloc A).alloc B) wk) : wk.heap[w.heap.size]? = some A ∧ wk.heap[w.heap.size + 1]? = some B ∧ Below w.heap.size w wk := by
  refine ⟨?_, ?_, (below_duo5 w A B).trans (h.mono (by simp; omega))⟩
  · rw [h.block _ (by simp; omega), heap_alloc2_old]
  · rw [h.block _ (by simp), heap_alloc2_new]

/-- New. -/
theorem lnew_any (i g m : Int) (w : World) : Calls Tryd.prog 7 #[.int .i64 i, .int .i64 g, .int .i64 m] w fun e w' => e = .returned (.agg #[.int .i64 i, .int .i64 g, .int .i64 m, .int .i64 0, .int .u64 0]) ∧ Below w.heap.size w w' := by
  go_enter Tryd.func7, Tryd.ntmps7
  go_wp2
  refine bodyPost_ret (results_cell_row Tryd.results7 _ _ w.heap.size 27 _ (0, 0) _ rfl (heap_alloc_new _ _) Tryd.underlying27 rfl Tryd.sizeStl) rfl ⟨rfl, below_box _ _⟩

/-- Done. -/
theorem ldone_any (i g m k x : Int) (w : World) : Calls Tryd.prog 9 #[.agg #[.int .i64 i, .int .i64 g, .int .i64 m, .int .i64 k, .int .u64 x]] w fun e w' => e = .returned (.tuple #[.int .i64 (if k = 3 then 5 else 0), .bool (decide (k = 2 ∨ k = 3))]) ∧ Below w.heap.size w w' := by
  by_cases h : k = 3
  · subst h
    go_enter Tryd.func9, Tryd.ntmps9
    go_wp2
    go_ret2
    exact ⟨rfl, below_box _ _⟩
  · have hk : (k == 3) = false := by simpa using h
    rw [if_neg h]
    go_enter Tryd.func9, Tryd.ntmps9
    go_wp2
    go_quiet (fail)
    go_wp2
    go_ret2
    refine ⟨?_, below_drew5 (below_box _ _) _⟩
    exact congrArg (fun u => Ending.returned (.tuple #[.int .i64 0, .bool u])) (by rw [Bool.eq_iff_iff]; simp [h])

/-- Word. -/
theorem lword_any (i g m k x : Int) (w : World) : Calls Tryd.prog 22 #[.agg #[.int .i64 i, .int .i64 g, .int .i64 m, .int .i64 k, .int .u64 x]] w fun e w' => e = .returned (.int .u64 (if k = 2 then x else 0)) ∧ Below w.heap.size w w' := by
  by_cases h : k = 2
  · subst h
    go_enter Tryd.func22, Tryd.ntmps22
    go_wp2
    go_ret
    exact ⟨rfl, below_box _ _⟩
  · have hk : (k != 2) = true := by simpa using h
    rw [if_neg h]
    go_enter Tryd.func22, Tryd.ntmps22
    go_wp2
    go_ret
    exact ⟨rfl, below_box _ _⟩

set_option maxRecDepth 100000 in
/-- The slot was found to have a word: .. it is not of the turn, or does not go on. -/
theorem lfound_stale (i g m k x : Int) (v : Nat) (hv : v < 18446744073709551616) (h : ¬ (((Slt.gen v : Nat) : Int) = g ∧ Slt.Live v)) (w : World) (hL : SLay w) :
    Calls Tryd.prog 16 #[.agg #[.int .i64 i, .int .i64 g, .int .i64 m, .int .i64 k, .int .u64 x], .int .u64 (v : Int)] w fun e w' => e = .returned (.agg #[.int .i64 i, .int .i64 g, .int .i64 m, .int .i64 3, .int .u64 x]) ∧ Below w.heap.size w w' := by
  have hd := decide_eq_false h
  have HL := Lib.hid hL
  clear h hL
  go_enter Tryd.func16, Tryd.ntmps16
  go_wp2_with fail
  refine (slive_any v g hv _ (HL.out.kept (below_duo5 _ _ _))).mono ?_
  rintro e w1 ⟨rfl, hb1⟩
  rw [hd]
  obtain ⟨hx, hr, hb⟩ := pair_kept hb1
  obtain ⟨c0, c1, c2, c3, c4⟩ := five_cells hx
  obtain ⟨f0, f1, f2, f3, f4⟩ := five_free hx
  obtain ⟨r0, r1, r2, r3, r4⟩ := five_cells hr
  obtain ⟨g0, g1, g2, g3, g4⟩ := five_free hr
  have HR := Lib.hid hr
  have HB := Lib.hid hb
  clear hr hb hb1 hx
  go_wp2_with fail
  refine bodyPost_ret (results_cell_row Tryd.results16 _ _ (w.heap.size + 1) 27 _ (0, 0) _ rfl (five_laid (by rw [heap_setCell_other _ _ _ _ (by simp)]; exact HR.out)) Tryd.underlying27 rfl Tryd.sizeStl) rfl ⟨rfl, five_below (HB.out.setCell (Nat.le_refl _) _) (by omega)⟩

set_option maxRecDepth 100000 in
/-- The slot was found to have a word: .. it goes on. -/
theorem lfound_live (i g m k x : Int) (v : Nat) (hv : v < 18446744073709551616) (h : ((Slt.gen v : Nat) : Int) = g ∧ Slt.Live v) (w : World) (hL : SLay w) :
    Calls Tryd.prog 16 #[.agg #[.int .i64 i, .int .i64 g, .int .i64 m, .int .i64 k, .int .u64 x], .int .u64 (v : Int)] w fun e w' => e = .returned (.agg #[.int .i64 i, .int .i64 g, .int .i64 m, .int .i64 1, .int .u64 (v : Int)]) ∧ Below w.heap.size w w' := by
  have hd := decide_eq_true h
  have HL := Lib.hid hL
  clear h hL
  go_enter Tryd.func16, Tryd.ntmps16
  go_wp2_with fail
  refine (slive_any v g hv _ (HL.out.kept (below_duo5 _ _ _))).mono ?_
  rintro e w1 ⟨rfl, hb1⟩
  rw [hd]
  obtain ⟨hx, hr, hb⟩ := pair_kept hb1
  obtain ⟨c0, c1, c2, c3, c4⟩ := five_cells hx
  obtain ⟨f0, f1, f2, f3, f4⟩ := five_free hx
  obtain ⟨r0, r1, r2, r3, r4⟩ := five_cells hr
  obtain ⟨g0, g1, g2, g3, g4⟩ := five_free hr
  have HR := Lib.hid hr
  have HB := Lib.hid hb
  clear hr hb hb1 hx
  go_wp2_with fail
  refine bodyPost_ret (results_cell_row Tryd.results16 _ _ (w.heap.size + 1) 27 _ (0, 0) _ rfl (five_laid (by rw [heap_setCell_other _ _ _ _ (by simp), heap_setCell_other _ _ _ _ (by simp)]; exact HR.out)) Tryd.underlying27 rfl Tryd.sizeStl) rfl ⟨rfl, five_below ((HB.out.setCell (Nat.le_refl _) _).setCell (Nat.le_refl _) _) (by omega)⟩

end Go.Proofs.YteijikcggflaoaaDoor
