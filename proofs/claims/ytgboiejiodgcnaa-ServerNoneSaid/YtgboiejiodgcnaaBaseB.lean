/- Box, Keep, Held, HeldB, Upn: several texts in one. -/
import Derived.Test.YtgboiejiodgcnaaRows
import Derived.WalkKit
import Derived.WalkSpells
import Derived.WalkLawsBesides
import Derived.Lib.Hide
import Derived.Below
import Derived.Laws.Rows
import Derived.Test.YtgboiejiodgcnaaBaseA
/- A struct of two cells that is handed in by value lies in a box: what a call of one who lays blocks of his own leaves of it. -/
namespace Go.Proofs.Ytgboiejiodgcnaa
open Go.RowKit

theorem ret_u64 {a b : Int} (h : a = b) : Ending.returned (.int .u64 a) = .returned (.int .u64 b) := by rw [h]
theorem ret_bool {a b : Bool} (h : a = b) : Ending.returned (.bool a) = .returned (.bool b) := by rw [h]
theorem below_box (w : World) (o : Obj) : Below w.heap.size w (w.alloc o) := (Below.refl _ _).alloc (Nat.le_refl _) _

/-- Behind a call of one who lays his own blocks alone: the two cells of the box that was laid ahead of it hold what they held; what was there when all began is as it was. -/
theorem kept {w w1 : World} {x y : Value} {t : TypeId} (h : Below (w.alloc (.cells #[x, y] t)).heap.size (w.alloc (.cells #[x, y] t)) w1) :
    w1.cell? ⟨w.heap.size, 0, none⟩ = some x ∧ w1.cell? ⟨w.heap.size, 1, none⟩ = some y ∧ Below w.heap.size w w1 := by
  refine ⟨?_, ?_, (below_box w _).trans (h.mono (by simp))⟩
  · rw [h.cell (by simp)]; exact cell_two_new w x y t 0 x rfl
  · rw [h.cell (by simp)]; exact cell_two_new w x y t 1 y rfl

theorem cell_block {w : World} {b o : Nat} {v : Value} (h : w.cell? ⟨b, o, none⟩ = some v) : b < w.heap.size := by
  by_cases hb : b < w.heap.size
  · exact hb
  · have : w.heap[b]? = none := Array.getElem?_eq_none (by omega)
    simp [World.cell?, this] at h

/-- .. and behind a second one. -/
theorem kept2 {w w1 w2 : World} {b : Nat} {x y : Value} (hc : w1.cell? ⟨b, 0, none⟩ = some x ∧ w1.cell? ⟨b, 1, none⟩ = some y ∧ Below w.heap.size w w1) (h : Below w1.heap.size w1 w2) :
    w2.cell? ⟨b, 0, none⟩ = some x ∧ w2.cell? ⟨b, 1, none⟩ = some y ∧ Below w.heap.size w w2 := by
  obtain ⟨h0, h1, h2⟩ := hc
  have hb := cell_block h0
  exact ⟨(h.cell hb).trans h0, (h.cell hb).trans h1, h2.trans (h.mono h2.size)⟩

end Go.Proofs.Ytgboiejiodgcnaa

/- Blocks that are kept behind what lays its own blocks alone, and the cells of a block of five and of eleven. -/
namespace Go.Proofs.Ytgboiejiodgcnaa
open Go.RowKit

/-- What one lays, and another one behind him, is kept from the first one's beginning on. -/
theorem on {a b c : World} (h : Below a.heap.size a b) (k : Below b.heap.size b c) : Below a.heap.size a c := h.trans (k.mono h.size)

theorem below_two (w : World) (o p : Obj) : Below w.heap.size w ((w.alloc o).alloc p) := (below_box w o).alloc (by simp) p

theorem heap_lt {w : World} {b : Nat} {o : Obj} (h : w.heap[b]? = some o) : b < w.heap.size := by
  by_cases hb : b < w.heap.size
  · exact hb
  · have : w.heap[b]? = none := Array.getElem?_eq_none (by omega)
    rw [this] at h; cases h

/-- A block that is there is there behind all that lays its own blocks. -/
theorem keep {w wk : World} {b : Nat} {o : Obj} (h : w.heap[b]? = some o) (hb : Below w.heap.size w wk) : wk.heap[b]? = some o := (hb.block _ (heap_lt h)).trans h
theorem keep1 {w : World} {b : Nat} {o : Obj} (h : w.heap[b]? = some o) (o' : Obj) : (w.alloc o').heap[b]? = some o := keep h (below_box w o')
theorem laid_last (w wk : World) (o : Obj) (hb : Below (w.alloc o).heap.size (w.alloc o) wk) : wk.heap[w.heap.size]? = some o := keep (heap_alloc_new w o) hb

/-- The cells of a frame's block, and of a block of words. -/
theorem frame_cells {w : World} {b : Nat} {t : TypeId} {c0 c1 c2 c3 c4 c5 c6 c7 c8 c9 c10 : Value} (h : w.heap[b]? = some (.cells #[c0, c1, c2, c3, c4, c5, c6, c7, c8, c9, c10] t (0, 0))) :
    w.cell? ⟨b, 0, none⟩ = some c0 ∧ w.cell? ⟨b, 1, none⟩ = some c1 ∧ w.cell? ⟨b, 2, none⟩ = some c2 ∧ w.cell? ⟨b, 3, none⟩ = some c3 ∧ w.cell? ⟨b, 4, none⟩ = some c4 ∧ w.cell? ⟨b, 5, none⟩ = some c5 ∧ w.cell? ⟨b, 6, none⟩ = some c6 ∧ w.cell? ⟨b, 7, none⟩ = some c7 ∧ w.cell? ⟨b, 8, none⟩ = some c8 ∧ w.cell? ⟨b, 9, none⟩ = some c9 ∧ w.cell? ⟨b, 10, none⟩ = some c10 :=
  ⟨cell_of_row _ _ _ _ _ _ h, cell_of_row _ _ _ _ _ _ h, cell_of_row _ _ _ _ _ _ h, cell_of_row _ _ _ _ _ _ h, cell_of_row _ _ _ _ _ _ h, cell_of_row _ _ _ _ _ _ h, cell_of_row _ _ _ _ _ _ h, cell_of_row _ _ _ _ _ _ h, cell_of_row _ _ _ _ _ _ h, cell_of_row _ _ _ _ _ _ h, cell_of_row _ _ _ _ _ _ h⟩
theorem frame_cells1 {w : World} {b : Nat} {t : TypeId} {c0 c1 c2 c3 c4 c5 c6 c7 c8 c9 c10 : Value} (h : w.heap[b]? = some (.cells #[c0, c1, c2, c3, c4, c5, c6, c7, c8, c9, c10] t (0, 0))) :
    (∀ o, (w.alloc o).cell? ⟨b, 0, none⟩ = some c0) ∧ (∀ o, (w.alloc o).cell? ⟨b, 1, none⟩ = some c1) ∧ (∀ o, (w.alloc o).cell? ⟨b, 2, none⟩ = some c2) ∧ (∀ o, (w.alloc o).cell? ⟨b, 3, none⟩ = some c3) ∧ (∀ o, (w.alloc o).cell? ⟨b, 4, none⟩ = some c4) ∧ (∀ o, (w.alloc o).cell? ⟨b, 5, none⟩ = some c5) ∧ (∀ o, (w.alloc o).cell? ⟨b, 6, none⟩ = some c6) ∧ (∀ o, (w.alloc o).cell? ⟨b, 7, none⟩ = some c7) ∧ (∀ o, (w.alloc o).cell? ⟨b, 8, none⟩ = some c8) ∧ (∀ o, (w.alloc o).cell? ⟨b, 9, none⟩ = some c9) ∧ (∀ o, (w.alloc o).cell? ⟨b, 10, none⟩ = some c10) :=
  ⟨fun o => cell_of_row _ _ _ _ _ _ (keep1 h o), fun o => cell_of_row _ _ _ _ _ _ (keep1 h o), fun o => cell_of_row _ _ _ _ _ _ (keep1 h o), fun o => cell_of_row _ _ _ _ _ _ (keep1 h o), fun o => cell_of_row _ _ _ _ _ _ (keep1 h o), fun o => cell_of_row _ _ _ _ _ _ (keep1 h o), fun o => cell_of_row _ _ _ _ _ _ (keep1 h o), fun o => cell_of_row _ _ _ _ _ _ (keep1 h o), fun o => cell_of_row _ _ _ _ _ _ (keep1 h o), fun o => cell_of_row _ _ _ _ _ _ (keep1 h o), fun o => cell_of_row _ _ _ _ _ _ (keep1 h o)⟩
/-- Eleven cells are laid over eleven cells. -/
theorem frame_laid {wk : World} {b : Nat} {Y : Array Value} {t : TypeId} {c0 c1 c2 c3 c4 c5 c6 c7 c8 c9 c10 : Value} (hY : Y.size = 11) (h : wk.heap[b]? = some (.cells Y t (0, 0))) :
    (((((((((((wk.setCell ⟨b, 0, none⟩ c0).setCell ⟨b, 1, none⟩ c1).setCell ⟨b, 2, none⟩ c2).setCell ⟨b, 3, none⟩ c3).setCell ⟨b, 4, none⟩ c4).setCell ⟨b, 5, none⟩ c5).setCell ⟨b, 6, none⟩ c6).setCell ⟨b, 7, none⟩ c7).setCell ⟨b, 8, none⟩ c8).setCell ⟨b, 9, none⟩ c9).setCell ⟨b, 10, none⟩ c10).heap[b]? = some (.cells #[c0, c1, c2, c3, c4, c5, c6, c7, c8, c9, c10] t (0, 0)) := by
  obtain ⟨l⟩ := Y
  match l, hY with
  | [d0, d1, d2, d3, d4, d5, d6, d7, d8, d9, d10], _ =>
    have e0 : (wk.setCell ⟨b, 0, none⟩ c0).heap[b]? = some (.cells #[c0, d1, d2, d3, d4, d5, d6, d7, d8, d9, d10] t (0, 0)) := heap_setCell_same _ _ 0 _ _ c0 h
    have e1 : ((wk.setCell ⟨b, 0, none⟩ c0).setCell ⟨b, 1, none⟩ c1).heap[b]? = some (.cells #[c0, c1, d2, d3, d4, d5, d6, d7, d8, d9, d10] t (0, 0)) := heap_setCell_same _ _ 1 _ _ c1 e0
    have e2 : (((wk.setCell ⟨b, 0, none⟩ c0).setCell ⟨b, 1, none⟩ c1).setCell ⟨b, 2, none⟩ c2).heap[b]? = some (.cells #[c0, c1, c2, d3, d4, d5, d6, d7, d8, d9, d10] t (0, 0)) := heap_setCell_same _ _ 2 _ _ c2 e1
    have e3 : ((((wk.setCell ⟨b, 0, none⟩ c0).setCell ⟨b, 1, none⟩ c1).setCell ⟨b, 2, none⟩ c2).setCell ⟨b, 3, none⟩ c3).heap[b]? = some (.cells #[c0, c1, c2, c3, d4, d5, d6, d7, d8, d9, d10] t (0, 0)) := heap_setCell_same _ _ 3 _ _ c3 e2
    have e4 : (((((wk.setCell ⟨b, 0, none⟩ c0).setCell ⟨b, 1, none⟩ c1).setCell ⟨b, 2, none⟩ c2).setCell ⟨b, 3, none⟩ c3).setCell ⟨b, 4, none⟩ c4).heap[b]? = some (.cells #[c0, c1, c2, c3, c4, d5, d6, d7, d8, d9, d10] t (0, 0)) := heap_setCell_same _ _ 4 _ _ c4 e3
    have e5 : ((((((wk.setCell ⟨b, 0, none⟩ c0).setCell ⟨b, 1, none⟩ c1).setCell ⟨b, 2, none⟩ c2).setCell ⟨b, 3, none⟩ c3).setCell ⟨b, 4, none⟩ c4).setCell ⟨b, 5, none⟩ c5).heap[b]? = some (.cells #[c0, c1, c2, c3, c4, c5, d6, d7, d8, d9, d10] t (0, 0)) := heap_setCell_same _ _ 5 _ _ c5 e4
    have e6 : (((((((wk.setCell ⟨b, 0, none⟩ c0).setCell ⟨b, 1, none⟩ c1).setCell ⟨b, 2, none⟩ c2).setCell ⟨b, 3, none⟩ c3).setCell ⟨b, 4, none⟩ c4).setCell ⟨b, 5, none⟩ c5).setCell ⟨b, 6, none⟩ c6).heap[b]? = some (.cells #[c0, c1, c2, c3, c4, c5, c6, d7, d8, d9, d10] t (0, 0)) := heap_setCell_same _ _ 6 _ _ c6 e5
    have e7 : ((((((((wk.setCell ⟨b, 0, none⟩ c0).setCell ⟨b, 1, none⟩ c1).setCell ⟨b, 2, none⟩ c2).setCell ⟨b, 3, none⟩ c3).setCell ⟨b, 4, none⟩ c4).setCell ⟨b, 5, none⟩ c5).setCell ⟨b, 6, none⟩ c6).setCell ⟨b, 7, none⟩ c7).heap[b]? = some (.cells #[c0, c1, c2, c3, c4, c5, c6, c7, d8, d9, d10] t (0, 0)) := heap_setCell_same _ _ 7 _ _ c7 e6
    have e8 : (((((((((wk.setCell ⟨b, 0, none⟩ c0).setCell ⟨b, 1, none⟩ c1).setCell ⟨b, 2, none⟩ c2).setCell ⟨b, 3, none⟩ c3).setCell ⟨b, 4, none⟩ c4).setCell ⟨b, 5, none⟩ c5).setCell ⟨b, 6, none⟩ c6).setCell ⟨b, 7, none⟩ c7).setCell ⟨b, 8, none⟩ c8).heap[b]? = some (.cells #[c0, c1, c2, c3, c4, c5, c6, c7, c8, d9, d10] t (0, 0)) := heap_setCell_same _ _ 8 _ _ c8 e7
    have e9 : ((((((((((wk.setCell ⟨b, 0, none⟩ c0).setCell ⟨b, 1, none⟩ c1).setCell ⟨b, 2, none⟩ c2).setCell ⟨b, 3, none⟩ c3).setCell ⟨b, 4, none⟩ c4).setCell ⟨b, 5, none⟩ c5).setCell ⟨b, 6, none⟩ c6).setCell ⟨b, 7, none⟩ c7).setCell ⟨b, 8, none⟩ c8).setCell ⟨b, 9, none⟩ c9).heap[b]? = some (.cells #[c0, c1, c2, c3, c4, c5, c6, c7, c8, c9, d10] t (0, 0)) := heap_setCell_same _ _ 9 _ _ c9 e8
    have e10 : (((((((((((wk.setCell ⟨b, 0, none⟩ c0).setCell ⟨b, 1, none⟩ c1).setCell ⟨b, 2, none⟩ c2).setCell ⟨b, 3, none⟩ c3).setCell ⟨b, 4, none⟩ c4).setCell ⟨b, 5, none⟩ c5).setCell ⟨b, 6, none⟩ c6).setCell ⟨b, 7, none⟩ c7).setCell ⟨b, 8, none⟩ c8).setCell ⟨b, 9, none⟩ c9).setCell ⟨b, 10, none⟩ c10).heap[b]? = some (.cells #[c0, c1, c2, c3, c4, c5, c6, c7, c8, c9, c10] t (0, 0)) := heap_setCell_same _ _ 10 _ _ c10 e9
    exact e10
theorem frame_below {w wk : World} {b : Nat} {c0 c1 c2 c3 c4 c5 c6 c7 c8 c9 c10 : Value} (h : Below w.heap.size w wk) (hb : w.heap.size ≤ b) :
    Below w.heap.size w (((((((((((wk.setCell ⟨b, 0, none⟩ c0).setCell ⟨b, 1, none⟩ c1).setCell ⟨b, 2, none⟩ c2).setCell ⟨b, 3, none⟩ c3).setCell ⟨b, 4, none⟩ c4).setCell ⟨b, 5, none⟩ c5).setCell ⟨b, 6, none⟩ c6).setCell ⟨b, 7, none⟩ c7).setCell ⟨b, 8, none⟩ c8).setCell ⟨b, 9, none⟩ c9).setCell ⟨b, 10, none⟩ c10) :=
  ((((((((((h.setCell hb _).setCell hb _).setCell hb _).setCell hb _).setCell hb _).setCell hb _).setCell hb _).setCell hb _).setCell hb _).setCell hb _).setCell hb _

/-- .. and that they may be written. -/
theorem frame_free {w : World} {b : Nat} {t : TypeId} {c0 c1 c2 c3 c4 c5 c6 c7 c8 c9 c10 : Value} (h : w.heap[b]? = some (.cells #[c0, c1, c2, c3, c4, c5, c6, c7, c8, c9, c10] t (0, 0))) :
    w.frozen? ⟨b, 0, none⟩ = false ∧ w.frozen? ⟨b, 1, none⟩ = false ∧ w.frozen? ⟨b, 2, none⟩ = false ∧ w.frozen? ⟨b, 3, none⟩ = false ∧ w.frozen? ⟨b, 4, none⟩ = false ∧ w.frozen? ⟨b, 5, none⟩ = false ∧ w.frozen? ⟨b, 6, none⟩ = false ∧ w.frozen? ⟨b, 7, none⟩ = false ∧ w.frozen? ⟨b, 8, none⟩ = false ∧ w.frozen? ⟨b, 9, none⟩ = false ∧ w.frozen? ⟨b, 10, none⟩ = false :=
  ⟨frozen_of_row _ _ _ _ _ h, frozen_of_row _ _ _ _ _ h, frozen_of_row _ _ _ _ _ h, frozen_of_row _ _ _ _ _ h, frozen_of_row _ _ _ _ _ h, frozen_of_row _ _ _ _ _ h, frozen_of_row _ _ _ _ _ h, frozen_of_row _ _ _ _ _ h, frozen_of_row _ _ _ _ _ h, frozen_of_row _ _ _ _ _ h, frozen_of_row _ _ _ _ _ h⟩
/-- The same for a block of five. -/
theorem alarm_cells {w : World} {b : Nat} {t : TypeId} {c0 c1 c2 c3 c4 : Value} (h : w.heap[b]? = some (.cells #[c0, c1, c2, c3, c4] t (0, 0))) :
    w.cell? ⟨b, 0, none⟩ = some c0 ∧ w.cell? ⟨b, 1, none⟩ = some c1 ∧ w.cell? ⟨b, 2, none⟩ = some c2 ∧ w.cell? ⟨b, 3, none⟩ = some c3 ∧ w.cell? ⟨b, 4, none⟩ = some c4 :=
  ⟨cell_of_row _ _ _ _ _ _ h, cell_of_row _ _ _ _ _ _ h, cell_of_row _ _ _ _ _ _ h, cell_of_row _ _ _ _ _ _ h, cell_of_row _ _ _ _ _ _ h⟩
theorem alarm_free {w : World} {b : Nat} {t : TypeId} {c0 c1 c2 c3 c4 : Value} (h : w.heap[b]? = some (.cells #[c0, c1, c2, c3, c4] t (0, 0))) :
    w.frozen? ⟨b, 0, none⟩ = false ∧ w.frozen? ⟨b, 1, none⟩ = false ∧ w.frozen? ⟨b, 2, none⟩ = false ∧ w.frozen? ⟨b, 3, none⟩ = false ∧ w.frozen? ⟨b, 4, none⟩ = false :=
  ⟨frozen_of_row _ _ _ _ _ h, frozen_of_row _ _ _ _ _ h, frozen_of_row _ _ _ _ _ h, frozen_of_row _ _ _ _ _ h, frozen_of_row _ _ _ _ _ h⟩
theorem alarm_laid {w : World} {b : Nat} {t : TypeId} {d0 d1 d2 d3 d4 c0 c1 c2 c3 c4 : Value} (h : w.heap[b]? = some (.cells #[d0, d1, d2, d3, d4] t (0, 0))) :
    (((((w.setCell ⟨b, 0, none⟩ c0).setCell ⟨b, 1, none⟩ c1).setCell ⟨b, 2, none⟩ c2).setCell ⟨b, 3, none⟩ c3).setCell ⟨b, 4, none⟩ c4).heap[b]? = some (.cells #[c0, c1, c2, c3, c4] t (0, 0)) := by
  have e0 : (w.setCell ⟨b, 0, none⟩ c0).heap[b]? = some (.cells #[c0, d1, d2, d3, d4] t (0, 0)) := heap_setCell_same _ _ 0 _ _ c0 h
  have e1 : ((w.setCell ⟨b, 0, none⟩ c0).setCell ⟨b, 1, none⟩ c1).heap[b]? = some (.cells #[c0, c1, d2, d3, d4] t (0, 0)) := heap_setCell_same _ _ 1 _ _ c1 e0
  have e2 : (((w.setCell ⟨b, 0, none⟩ c0).setCell ⟨b, 1, none⟩ c1).setCell ⟨b, 2, none⟩ c2).heap[b]? = some (.cells #[c0, c1, c2, d3, d4] t (0, 0)) := heap_setCell_same _ _ 2 _ _ c2 e1
  have e3 : ((((w.setCell ⟨b, 0, none⟩ c0).setCell ⟨b, 1, none⟩ c1).setCell ⟨b, 2, none⟩ c2).setCell ⟨b, 3, none⟩ c3).heap[b]? = some (.cells #[c0, c1, c2, c3, d4] t (0, 0)) := heap_setCell_same _ _ 3 _ _ c3 e2
  exact heap_setCell_same _ _ 4 _ _ c4 e3
theorem alarm_below {w v : World} {b : Nat} {c0 c1 c2 c3 c4 : Value} (h : Below v.heap.size v w) (hb : v.heap.size ≤ b) : Below v.heap.size v (((((w.setCell ⟨b, 0, none⟩ c0).setCell ⟨b, 1, none⟩ c1).setCell ⟨b, 2, none⟩ c2).setCell ⟨b, 3, none⟩ c3).setCell ⟨b, 4, none⟩ c4) :=
  (((((h.setCell hb _).setCell hb _).setCell hb _).setCell hb _).setCell hb _)
/-- All other blocks are as they were. -/
theorem frame_other {w : World} {b k : Nat} {c0 c1 c2 c3 c4 c5 c6 c7 c8 c9 c10 : Value} (h : k ≠ b) : (((((((((((w.setCell ⟨b, 0, none⟩ c0).setCell ⟨b, 1, none⟩ c1).setCell ⟨b, 2, none⟩ c2).setCell ⟨b, 3, none⟩ c3).setCell ⟨b, 4, none⟩ c4).setCell ⟨b, 5, none⟩ c5).setCell ⟨b, 6, none⟩ c6).setCell ⟨b, 7, none⟩ c7).setCell ⟨b, 8, none⟩ c8).setCell ⟨b, 9, none⟩ c9).setCell ⟨b, 10, none⟩ c10).heap[k]? = w.heap[k]? :=
  (heap_setCell_other _ _ _ _ h).trans ((heap_setCell_other _ _ _ _ h).trans ((heap_setCell_other _ _ _ _ h).trans ((heap_setCell_other _ _ _ _ h).trans ((heap_setCell_other _ _ _ _ h).trans ((heap_setCell_other _ _ _ _ h).trans ((heap_setCell_other _ _ _ _ h).trans ((heap_setCell_other _ _ _ _ h).trans ((heap_setCell_other _ _ _ _ h).trans ((heap_setCell_other _ _ _ _ h).trans ((heap_setCell_other _ _ _ _ h)))))))))))
theorem alarm_other {w : World} {b k : Nat} {c0 c1 c2 c3 c4 : Value} (h : k ≠ b) : (((((w.setCell ⟨b, 0, none⟩ c0).setCell ⟨b, 1, none⟩ c1).setCell ⟨b, 2, none⟩ c2).setCell ⟨b, 3, none⟩ c3).setCell ⟨b, 4, none⟩ c4).heap[k]? = w.heap[k]? :=
  (heap_setCell_other _ _ _ _ h).trans ((heap_setCell_other _ _ _ _ h).trans ((heap_setCell_other _ _ _ _ h).trans ((heap_setCell_other _ _ _ _ h).trans ((heap_setCell_other _ _ _ _ h)))))

end Go.Proofs.Ytgboiejiodgcnaa

/- Blocks that were laid since a world, in a list: what a call of one who lays blocks of his own leaves of them, a new one, one that is written. -/
namespace Go.Proofs.Ytgboiejiodgcnaa
open Go.RowKit

/-- Since the world w these blocks were laid, and hold these; all that was there then is as it was. -/
structure Held (w wx : World) (l : List (Nat × Obj)) : Prop where
  below : Below w.heap.size w wx
  own : ∀ p ∈ l, w.heap.size ≤ p.1 ∧ wx.heap[p.1]? = some p.2
  apart : (l.map Prod.fst).Nodup

theorem Held.start (w : World) : Held w w [] := ⟨Below.refl _ _, (fun _ h => by cases h), List.nodup_nil⟩
theorem Held.get {w wx : World} {l : List (Nat × Obj)} (h : Held w wx l) (i : Nat) {b : Nat} {o : Obj} (e : l[i]? = some (b, o)) : wx.heap[b]? = some o :=
  (h.own (b, o) (List.mem_of_getElem? e)).2
theorem Held.old {w wx : World} {l : List (Nat × Obj)} (h : Held w wx l) (i : Nat) {b : Nat} {o : Obj} (e : l[i]? = some (b, o)) : w.heap.size ≤ b :=
  (h.own (b, o) (List.mem_of_getElem? e)).1
theorem Held.lay {w wx : World} {l : List (Nat × Obj)} (h : Held w wx l) (o : Obj) : Held w (wx.alloc o) ((wx.heap.size, o) :: l) := by
  refine ⟨on h.below (below_box wx o), fun p hp => ?_, ?_⟩
  · rcases List.mem_cons.1 hp with rfl | hp
    · exact ⟨h.below.size, heap_alloc_new wx o⟩
    · exact ⟨(h.own p hp).1, keep1 (h.own p hp).2 o⟩
  · refine List.nodup_cons.2 ⟨fun hm => ?_, h.apart⟩
    obtain ⟨p, hp, he⟩ := List.mem_map.1 hm
    have := heap_lt (h.own p hp).2
    omega
theorem Held.call {w wx wy : World} {l : List (Nat × Obj)} (h : Held w wx l) (hb : Below wx.heap.size wx wy) : Held w wy l :=
  ⟨on h.below hb, fun p hp => ⟨(h.own p hp).1, keep (h.own p hp).2 hb⟩, h.apart⟩
theorem Held.drew {w wx : World} {l : List (Nat × Obj)} (h : Held w wx l) : Held w wx.drew l := h.call (Below.refl _ _).drew
/-- One is forgotten. -/
theorem Held.tail {w wx : World} {l : List (Nat × Obj)} {p : Nat × Obj} (h : Held w wx (p :: l)) : Held w wx l :=
  ⟨h.below, fun q hq => h.own q (List.mem_cons_of_mem _ hq), (List.nodup_cons.1 (by simpa using h.apart)).2⟩
/-- The first two in the other order. -/
theorem Held.swap {w wx : World} {l : List (Nat × Obj)} {p q : Nat × Obj} (h : Held w wx (p :: q :: l)) : Held w wx (q :: p :: l) :=
  ⟨h.below, fun r hr => h.own r (by simp only [List.mem_cons] at hr ⊢; rcases hr with h | h | h <;> simp [h]), (List.Perm.swap q.1 p.1 (l.map Prod.fst)).nodup_iff.1 h.apart |> fun k => by simpa using k⟩
/-- The first one is written: what is written touches no other. -/
theorem Held.put {w wx wy : World} {l : List (Nat × Obj)} {b : Nat} {o o' : Obj} (h : Held w wx ((b, o) :: l)) (hb : Below w.heap.size w wy) (hn : wy.heap[b]? = some o') (ho : ∀ k, k ≠ b → wy.heap[k]? = wx.heap[k]?) : Held w wy ((b, o') :: l) := by
  have ha := List.nodup_cons.1 (show (b :: l.map Prod.fst).Nodup from h.apart)
  refine ⟨hb, fun p hp => ?_, h.apart⟩
  rcases List.mem_cons.1 hp with rfl | hp
  · exact ⟨(h.own (b, o) List.mem_cons_self).1, hn⟩
  · have hx := h.own p (List.mem_cons_of_mem _ hp)
    exact ⟨hx.1, (ho p.1 (fun e => ha.1 (e ▸ List.mem_map.2 ⟨p, hp, rfl⟩))).trans hx.2⟩
/-- An alarm, a frame is written over the first one. -/
theorem Held.alarm {w wx : World} {l : List (Nat × Obj)} {b : Nat} {t : TypeId} {c0 c1 c2 c3 c4 d0 d1 d2 d3 d4 : Value} (h : Held w wx ((b, .cells #[d0, d1, d2, d3, d4] t (0, 0)) :: l)) :
    Held w (((((wx.setCell ⟨b, 0, none⟩ c0).setCell ⟨b, 1, none⟩ c1).setCell ⟨b, 2, none⟩ c2).setCell ⟨b, 3, none⟩ c3).setCell ⟨b, 4, none⟩ c4) ((b, .cells #[c0, c1, c2, c3, c4] t (0, 0)) :: l) :=
  h.put (alarm_below h.below (h.old 0 rfl)) (alarm_laid (h.get 0 rfl)) (fun _ hk => alarm_other hk)
theorem Held.frame {w wx : World} {l : List (Nat × Obj)} {b : Nat} {t : TypeId} {c0 c1 c2 c3 c4 c5 c6 c7 c8 c9 c10 d0 d1 d2 d3 d4 d5 d6 d7 d8 d9 d10 : Value} (h : Held w wx ((b, .cells #[d0, d1, d2, d3, d4, d5, d6, d7, d8, d9, d10] t (0, 0)) :: l)) :
    Held w (((((((((((wx.setCell ⟨b, 0, none⟩ c0).setCell ⟨b, 1, none⟩ c1).setCell ⟨b, 2, none⟩ c2).setCell ⟨b, 3, none⟩ c3).setCell ⟨b, 4, none⟩ c4).setCell ⟨b, 5, none⟩ c5).setCell ⟨b, 6, none⟩ c6).setCell ⟨b, 7, none⟩ c7).setCell ⟨b, 8, none⟩ c8).setCell ⟨b, 9, none⟩ c9).setCell ⟨b, 10, none⟩ c10) ((b, .cells #[c0, c1, c2, c3, c4, c5, c6, c7, c8, c9, c10] t (0, 0)) :: l) :=
  h.put (frame_below h.below (h.old 0 rfl)) (frame_laid rfl (h.get 0 rfl)) (fun _ hk => frame_other hk)
end Go.Proofs.Ytgboiejiodgcnaa

/- Blocks of one's own, in a list: one is written by a call, one more is laid by a call, small ones are written cell by cell. -/
namespace Go.Proofs.Ytgboiejiodgcnaa
open Go.RowKit

/-- The first of one's own blocks is written by a call that leaves all others. -/
theorem Held.rest {w wx wy : World} {l : List (Nat × Obj)} {b : Nat} {o o' : Obj} (h : Held w wx ((b, o) :: l)) (hr : Rest (fun k => k = b) wx wy) (hn : wy.heap[b]? = some o') : Held w wy ((b, o') :: l) := by
  have ha := List.nodup_cons.1 (show (b :: l.map Prod.fst).Nodup from h.apart)
  have hb := hr.below (B := w.heap.size) h.below.size (fun k hk => by have := h.old 0 rfl; omega)
  refine ⟨h.below.trans hb, fun p hp => ?_, h.apart⟩
  rcases List.mem_cons.1 hp with rfl | hp
  · exact ⟨(h.own (b, o) List.mem_cons_self).1, hn⟩
  · have hx := h.own p (List.mem_cons_of_mem _ hp)
    exact ⟨hx.1, (hr.block p.1 (heap_lt hx.2) (fun e => ha.1 (e ▸ List.mem_map.2 ⟨p, hp, rfl⟩))).trans hx.2⟩

/-- One more is laid by a call that lays blocks of its own. -/
theorem Held.made {w wx wy : World} {l : List (Nat × Obj)} {b : Nat} {o : Obj} (h : Held w wx l) (hb : Below wx.heap.size wx wy) (hn : wy.heap[b]? = some o) (hs : wx.heap.size ≤ b) : Held w wy ((b, o) :: l) := by
  have hc := h.call hb
  refine ⟨hc.below, fun p hp => ?_, ?_⟩
  · rcases List.mem_cons.1 hp with rfl | hp
    · exact ⟨Nat.le_trans h.below.size hs, hn⟩
    · exact hc.own p hp
  · refine List.nodup_cons.2 ⟨fun hm => ?_, h.apart⟩
    obtain ⟨p, hp, he⟩ := List.mem_map.1 hm
    have := heap_lt (h.own p hp).2
    omega

/-- What a call wrote was none of one's own blocks, and none of what was there. -/
theorem Held.past {w wx wy : World} {l : List (Nat × Obj)} {own : Nat → Prop} (h : Held w wx l) (hr : Rest own wx wy) (hl : ∀ p ∈ l, ¬own p.1) (ho : ∀ k, own k → w.heap.size ≤ k) : Held w wy l :=
  ⟨h.below.trans (hr.below h.below.size ho), fun p hp => ⟨(h.own p hp).1, (hr.block p.1 (heap_lt (h.own p hp).2) (hl p hp)).trans (h.own p hp).2⟩, h.apart⟩
/-- Two cells of a block. -/
theorem two_cells {w : World} {B : Nat} {t : TypeId} {c0 c1 : Value} (h : w.heap[B]? = some (.cells #[c0, c1] t (0, 0))) : w.cell? ⟨B, 0, none⟩ = some c0 ∧ w.cell? ⟨B, 1, none⟩ = some c1 :=
  ⟨cell_of_row _ _ _ _ _ _ h, cell_of_row _ _ _ _ _ _ h⟩
/-- A block of two cells is written. -/
theorem Held.two {w wx : World} {l : List (Nat × Obj)} {b : Nat} {t : TypeId} {c0 c1 : Value} (h : Held w wx ((b, .cells #[c0, c1] t (0, 0)) :: l)) (x y : Value) :
    Held w ((wx.setCell ⟨b, 0, none⟩ x).setCell ⟨b, 1, none⟩ y) ((b, .cells #[x, y] t (0, 0)) :: l) :=
  h.put ((h.below.setCell (h.old 0 rfl) _).setCell (h.old 0 rfl) _) (heap_setCell_same _ _ 1 _ _ _ (heap_setCell_same _ _ 0 _ _ _ (h.get 0 rfl))) (fun _ hk => (heap_setCell_other _ _ _ _ hk).trans (heap_setCell_other _ _ _ _ hk))

theorem Held.one {w wx : World} {l : List (Nat × Obj)} {b : Nat} {t : TypeId} {c0 c1 : Value} (h : Held w wx ((b, .cells #[c0, c1] t (0, 0)) :: l)) (x : Value) :
    Held w (wx.setCell ⟨b, 0, none⟩ x) ((b, .cells #[x, c1] t (0, 0)) :: l) :=
  h.put (h.below.setCell (h.old 0 rfl) _) (heap_setCell_same _ _ 0 _ _ _ (h.get 0 rfl)) (fun _ hk => heap_setCell_other _ _ _ _ hk)
theorem Held.one1 {w wx : World} {l : List (Nat × Obj)} {b : Nat} {t : TypeId} {c0 c1 : Value} (h : Held w wx ((b, .cells #[c0, c1] t (0, 0)) :: l)) (x : Value) :
    Held w (wx.setCell ⟨b, 1, none⟩ x) ((b, .cells #[c0, x] t (0, 0)) :: l) :=
  h.put (h.below.setCell (h.old 0 rfl) _) (heap_setCell_same _ _ 1 _ _ _ (h.get 0 rfl)) (fun _ hk => heap_setCell_other _ _ _ _ hk)
/-- The second one is forgotten. -/
theorem Held.but {w wx : World} {l : List (Nat × Obj)} {p q : Nat × Obj} (h : Held w wx (p :: q :: l)) : Held w wx (p :: l) :=
  ⟨h.below, fun r hr => h.own r (by
    rcases List.mem_cons.1 hr with e | e
    · rw [e]; exact List.mem_cons_self
    · exact List.mem_cons_of_mem _ (List.mem_cons_of_mem _ e)),
    by have := h.apart; simp only [List.map_cons, List.nodup_cons, List.mem_cons, not_or] at this ⊢; exact ⟨this.1.2, this.2.2⟩⟩

end Go.Proofs.Ytgboiejiodgcnaa

/- Some blocks of a world are written, and others laid: all other blocks are as they were. Those that count stand in a list. -/
namespace Go.Proofs.Ytgboiejiodgcnaa
open Go.RowKit

/-- Since the world w only blocks of 'own' were written, and new ones laid; of these and those the list tells some. -/
structure Upon (own : Nat → Prop) (w wx : World) (l : List (Nat × Obj)) : Prop where
  rest : Rest own w wx
  own : ∀ p ∈ l, (own p.1 ∨ w.heap.size ≤ p.1) ∧ wx.heap[p.1]? = some p.2
  apart : (l.map Prod.fst).Nodup
namespace Upon
variable {own : Nat → Prop} {w wx wy : World} {l : List (Nat × Obj)}
theorem start (own : Nat → Prop) (w : World) : Upon own w w [] := ⟨Rest.refl _ _, (fun _ h => by cases h), List.nodup_nil⟩
theorem one {b : Nat} {o : Obj} (h : w.heap[b]? = some o) (ho : own b) : Upon own w w [(b, o)] := by
  refine ⟨Rest.refl _ _, fun p hp => ?_, by simp⟩
  obtain rfl : p = (b, o) := by simpa using hp
  exact ⟨.inl ho, h⟩
theorem two {b c : Nat} {o p : Obj} (h : w.heap[b]? = some o) (k : w.heap[c]? = some p) (ho : own b) (hp : own c) (hn : b ≠ c) : Upon own w w [(b, o), (c, p)] := by
  refine ⟨Rest.refl _ _, fun q hq => ?_, by simpa using hn⟩
  simp only [List.mem_cons, List.not_mem_nil, or_false] at hq
  rcases hq with rfl | rfl
  · exact ⟨.inl ho, h⟩
  · exact ⟨.inl hp, k⟩
theorem get (h : Upon own w wx l) (i : Nat) {b : Nat} {o : Obj} (e : l[i]? = some (b, o)) : wx.heap[b]? = some o := (h.own (b, o) (List.mem_of_getElem? e)).2
theorem of (h : Upon own w wx l) (i : Nat) {b : Nat} {o : Obj} (e : l[i]? = some (b, o)) : own b ∨ w.heap.size ≤ b := (h.own (b, o) (List.mem_of_getElem? e)).1
theorem call (h : Upon own w wx l) (hb : Below wx.heap.size wx wy) : Upon own w wy l :=
  ⟨h.rest.trans (Rest.of_below (own := fun _ => False) hb) (fun _ _ => id) (fun _ _ h => h.elim), fun p hp => ⟨(h.own p hp).1, keep (h.own p hp).2 hb⟩, h.apart⟩
theorem drew (h : Upon own w wx l) : Upon own w wx.drew l := h.call (Below.refl _ _).drew
theorem drewN (h : Upon own w wx l) (n : Nat) : Upon own w (wx.drewN n) l := h.call ⟨rfl, rfl, rfl, Nat.le_refl _, fun _ _ => rfl⟩
theorem lay (h : Upon own w wx l) (o : Obj) : Upon own w (wx.alloc o) ((wx.heap.size, o) :: l) := by
  have hc := h.call (below_box wx o)
  refine ⟨hc.rest, fun p hp => ?_, ?_⟩
  · rcases List.mem_cons.1 hp with rfl | hp
    · exact ⟨.inr h.rest.size, heap_alloc_new wx o⟩
    · exact hc.own p hp
  · refine List.nodup_cons.2 ⟨fun hm => ?_, h.apart⟩
    obtain ⟨p, hp, he⟩ := List.mem_map.1 hm
    have := heap_lt (h.own p hp).2
    omega
/-- One more is laid by a call that lays blocks of its own. -/
theorem made (h : Upon own w wx l) (hb : Below wx.heap.size wx wy) {b : Nat} {o : Obj} (hn : wy.heap[b]? = some o) (hs : wx.heap.size ≤ b) : Upon own w wy ((b, o) :: l) := by
  have hc := h.call hb
  refine ⟨hc.rest, fun p hp => ?_, ?_⟩
  · rcases List.mem_cons.1 hp with rfl | hp
    · exact ⟨.inr (Nat.le_trans h.rest.size hs), hn⟩
    · exact hc.own p hp
  · refine List.nodup_cons.2 ⟨fun hm => ?_, h.apart⟩
    obtain ⟨p, hp, he⟩ := List.mem_map.1 hm
    have := heap_lt (h.own p hp).2
    omega
theorem tail {p : Nat × Obj} (h : Upon own w wx (p :: l)) : Upon own w wx l :=
  ⟨h.rest, fun q hq => h.own q (List.mem_cons_of_mem _ hq), (List.nodup_cons.1 (by simpa using h.apart)).2⟩
theorem swap {p q : Nat × Obj} (h : Upon own w wx (p :: q :: l)) : Upon own w wx (q :: p :: l) :=
  ⟨h.rest, fun r hr => h.own r (by simp only [List.mem_cons] at hr ⊢; rcases hr with h | h | h <;> simp [h]), (List.Perm.swap q.1 p.1 (l.map Prod.fst)).nodup_iff.1 h.apart |> fun k => by simpa using k⟩
theorem perm {l' : List (Nat × Obj)} (h : Upon own w wx l) (hp : l.Perm l') : Upon own w wx l' :=
  ⟨h.rest, fun p hq => h.own p (hp.mem_iff.2 hq), (hp.map _).nodup_iff.1 h.apart⟩
/-- The third one comes first. -/
theorem turn {p q r : Nat × Obj} (h : Upon own w wx (p :: q :: r :: l)) : Upon own w wx (r :: p :: q :: l) := h.perm (List.perm_middle (l₁ := [p, q]) (a := r) (l₂ := l))
/-- The first one is written, by stores or by a call, all others are as they were. -/
theorem put {b : Nat} {o o' : Obj} (h : Upon own w wx ((b, o) :: l)) (hr : Rest (fun k => k = b) wx wy) (hn : wy.heap[b]? = some o') : Upon own w wy ((b, o') :: l) := by
  have ha := List.nodup_cons.1 (show (b :: l.map Prod.fst).Nodup from h.apart)
  have hb := h.of 0 rfl
  refine ⟨h.rest.trans hr (fun _ _ => id) (fun i hi e => ?_), fun p hp => ?_, h.apart⟩
  · subst e
    rcases hb with hb | hb
    · exact hb
    · omega
  · rcases List.mem_cons.1 hp with rfl | hp
    · exact ⟨hb, hn⟩
    · have hx := h.own p (List.mem_cons_of_mem _ hp)
      exact ⟨hx.1, (hr.block p.1 (heap_lt hx.2) (fun e => ha.1 (e ▸ List.mem_map.2 ⟨p, hp, rfl⟩))).trans hx.2⟩
theorem set {b i : Nat} {o o' : Obj} {v : Value} (h : Upon own w wx ((b, o) :: l)) (hn : (wx.setCell ⟨b, i, none⟩ v).heap[b]? = some o') : Upon own w (wx.setCell ⟨b, i, none⟩ v) ((b, o') :: l) :=
  h.put (Rest.setCell (own := fun k => k = b) wx _ _ rfl) hn
/-- .. the second one. -/
theorem put1 {p : Nat × Obj} {b : Nat} {o o' : Obj} (h : Upon own w wx (p :: (b, o) :: l)) (hr : Rest (fun k => k = b) wx wy) (hn : wy.heap[b]? = some o') : Upon own w wy (p :: (b, o') :: l) := (h.swap.put hr hn).swap
/-- The first two are written by a call. -/
theorem put2 {b c : Nat} {o o' p p' : Obj} (h : Upon own w wx ((b, o) :: (c, p) :: l)) (hr : Rest (fun k => k = b ∨ k = c) wx wy) (hn : wy.heap[b]? = some o') (hm : wy.heap[c]? = some p') : Upon own w wy ((b, o') :: (c, p') :: l) := by
  have ha := List.nodup_cons.1 (show (b :: c :: l.map Prod.fst).Nodup from h.apart)
  have hc := List.nodup_cons.1 ha.2
  have h0 := h.of 0 rfl
  have h1 := h.of 1 rfl
  refine ⟨h.rest.trans hr (fun _ _ => id) (fun i hi e => ?_), fun q hq => ?_, h.apart⟩
  · rcases e with rfl | rfl
    · exact h0.resolve_right (by omega)
    · exact h1.resolve_right (by omega)
  · rcases List.mem_cons.1 hq with rfl | hq
    · exact ⟨h0, hn⟩
    rcases List.mem_cons.1 hq with rfl | hq
    · exact ⟨h1, hm⟩
    · have hx := h.own q (List.mem_cons_of_mem _ (List.mem_cons_of_mem _ hq))
      have hi : q.1 ∈ l.map Prod.fst := List.mem_map.2 ⟨q, hq, rfl⟩
      refine ⟨hx.1, (hr.block q.1 (heap_lt hx.2) (fun e => ?_)).trans hx.2⟩
      rcases e with e | e
      · exact ha.1 (List.mem_cons_of_mem _ (e ▸ hi))
      · exact hc.1 (e ▸ hi)
theorem below (h : Upon own w wx l) (ho : ∀ k, ¬own k) : Below w.heap.size w wx := h.rest.below (Nat.le_refl _) (fun k hk => absurd hk (ho k))
theorem lay2 (h : Upon own w w l) (o p : Obj) : Upon own w ((w.alloc o).alloc p) ((w.heap.size + 1, p) :: (w.heap.size, o) :: l) := by
  have := (h.lay o).lay p
  simpa using this
theorem lay3 (h : Upon own w w l) (o p q : Obj) : Upon own w (((w.alloc o).alloc p).alloc q) ((w.heap.size + 1 + 1, q) :: (w.heap.size + 1, p) :: (w.heap.size, o) :: l) := by
  have := (h.lay2 o p).lay q
  simpa using this
theorem lay4 (h : Upon own w w l) (o p q r : Obj) : Upon own w ((((w.alloc o).alloc p).alloc q).alloc r) ((w.heap.size + 1 + 1 + 1, r) :: (w.heap.size + 1 + 1, q) :: (w.heap.size + 1, p) :: (w.heap.size, o) :: l) := by
  have := (h.lay3 o p q).lay r
  simpa using this
end Upon
end Go.Proofs.Ytgboiejiodgcnaa
