/- Blocks that are kept behind what lays its own blocks alone, and the cells of a block of five and of eleven. -/
import Derived.Test.YtpognlidhppnaaaBox
import Derived.Laws.Rows
namespace Go.Proofs.Ytpognlidhppnaaa
open Go.RowKit

/-- What one lays, and another one behind him, is kept from the first one's beginning on. -/
theorem on {a b c : World} (h : Below a.heap.size a b) (k : Below b.heap.size b c) : Below a.heap.size a c := h.trans (k.mono h.size)

theorem below_two (w : World) (o p : Obj) : Below w.heap.size w ((w.alloc o).alloc p) := (below_box w o).alloc (by simp) p

theorem heap_lt {w : World} {b : Nat} {o : Obj} (h : w.heap[b]? = some o) : b < w.heap.size := by
  by_cases hb : b < w.heap.size
  · exact hb
  · have : w.heap[b]? = none := Array.getElem?_eq_none (by omega)
    rw [this] at h; cases h

/-- A block that is there is there behind all that lays its own blocks. -/
theorem keep {w wk : World} {b : Nat} {o : Obj} (h : w.heap[b]? = some o) (hb : Below w.heap.size w wk) : wk.heap[b]? = some o := (hb.block _ (heap_lt h)).trans h
theorem keep1 {w : World} {b : Nat} {o : Obj} (h : w.heap[b]? = some o) (o' : Obj) : (w.alloc o').heap[b]? = some o := keep h (below_box w o')
theorem laid_last (w wk : World) (o : Obj) (hb : Below (w.alloc o).heap.size (w.alloc o) wk) : wk.heap[w.heap.size]? = some o := keep (heap_alloc_new w o) hb

/-- The cells of a frame's block, and of a block of words. -/
theorem frame_cells {w : World} {b : Nat} {t : TypeId} {c0 c1 c2 c3 c4 c5 c6 c7 c8 c9 c10 : Value} (h : w.heap[b]? = some (.cells #[c0, c1, c2, c3, c4, c5, c6, c7, c8, c9, c10] t (0, 0))) :
    w.cell? ⟨b, 0, none⟩ = some c0 ∧ w.cell? ⟨b, 1, none⟩ = some c1 ∧ w.cell? ⟨b, 2, none⟩ = some c2 ∧ w.cell? ⟨b, 3, none⟩ = some c3 ∧ w.cell? ⟨b, 4, none⟩ = some c4 ∧ w.cell? ⟨b, 5, none⟩ = some c5 ∧ w.cell? ⟨b, 6, none⟩ = some c6 ∧ w.cell? ⟨b, 7, none⟩ = some c7 ∧ w.cell? ⟨b, 8, none⟩ = some c8 ∧ w.cell? ⟨b, 9, none⟩ = some c9 ∧ w.cell? ⟨b, 10, none⟩ = some c10 :=
  ⟨cell_of_row _ _ _ _ _ _ h, cell_of_row _ _ _ _ _ _ h, cell_of_row _ _ _ _ _ _ h, cell_of_row _ _ _ _ _ _ h, cell_of_row _ _ _ _ _ _ h, cell_of_row _ _ _ _ _ _ h, cell_of_row _ _ _ _ _ _ h, cell_of_row _ _ _ _ _ _ h, cell_of_row _ _ _ _ _ _ h, cell_of_row _ _ _ _ _ _ h, cell_of_row _ _ _ _ _ _ h⟩
theorem frame_cells1 {w : World} {b : Nat} {t : TypeId} {c0 c1 c2 c3 c4 c5 c6 c7 c8 c9 c10 : Value} (h : w.heap[b]? = some (.cells #[c0, c1, c2, c3, c4, c5, c6, c7, c8, c9, c10] t (0, 0))) :
    (∀ o, (w.alloc o).cell? ⟨b, 0, none⟩ = some c0) ∧ (∀ o, (w.alloc o).cell? ⟨b, 1, none⟩ = some c1) ∧ (∀ o, (w.alloc o).cell? ⟨b, 2, none⟩ = some c2) ∧ (∀ o, (w.alloc o).cell? ⟨b, 3, none⟩ = some c3) ∧ (∀ o, (w.alloc o).cell? ⟨b, 4, none⟩ = some c4) ∧ (∀ o, (w.alloc o).cell? ⟨b, 5, none⟩ = some c5) ∧ (∀ o, (w.alloc o).cell? ⟨b, 6, none⟩ = some c6) ∧ (∀ o, (w.alloc o).cell? ⟨b, 7, none⟩ = some c7) ∧ (∀ o, (w.alloc o).cell? ⟨b, 8, none⟩ = some c8) ∧ (∀ o, (w.alloc o).cell? ⟨b, 9, none⟩ = some c9) ∧ (∀ o, (w.alloc o).cell? ⟨b, 10, none⟩ = some c10) :=
  ⟨fun o => cell_of_row _ _ _ _ _ _ (keep1 h o), fun o => cell_of_row _ _ _ _ _ _ (keep1 h o), fun o => cell_of_row _ _ _ _ _ _ (keep1 h o), fun o => cell_of_row _ _ _ _ _ _ (keep1 h o), fun o => cell_of_row _ _ _ _ _ _ (keep1 h o), fun o => cell_of_row _ _ _ _ _ _ (keep1 h o), fun o => cell_of_row _ _ _ _ _ _ (keep1 h o), fun o => cell_of_row _ _ _ _ _ _ (keep1 h o), fun o => cell_of_row _ _ _ _ _ _ (keep1 h o), fun o => cell_of_row _ _ _ _ _ _ (keep1 h o), fun o => cell_of_row _ _ _ _ _ _ (keep1 h o)⟩
/-- Eleven cells are laid over eleven cells. -/
theorem frame_laid {wk : World} {b : Nat} {Y : Array Value} {t : TypeId} {c0 c1 c2 c3 c4 c5 c6 c7 c8 c9 c10 : Value} (hY : Y.size = 11) (h : wk.heap[b]? = some (.cells Y t (0, 0))) :
    (((((((((((wk.setCell ⟨b, 0, none⟩ c0).setCell ⟨b, 1, none⟩ c1).setCell ⟨b, 2, none⟩ c2).setCell ⟨b, 3, none⟩ c3).setCell ⟨b, 4, none⟩ c4).setCell ⟨b, 5, none⟩ c5).setCell ⟨b, 6, none⟩ c6).setCell ⟨b, 7, none⟩ c7).setCell ⟨b, 8, none⟩ c8).setCell ⟨b, 9, none⟩ c9).setCell ⟨b, 10, none⟩ c10).heap[b]? = some (.cells #[c0, c1, c2, c3, c4, c5, c6, c7, c8, c9, c10] t (0, 0)) := by
  obtain ⟨l⟩ := Y
  match l, hY with
  | [d0, d1, d2, d3, d4, d5, d6, d7, d8, d9, d10], _ =>
    have e0 : (wk.setCell ⟨b, 0, none⟩ c0).heap[b]? = some (.cells #[c0, d1, d2, d3, d4, d5, d6, d7, d8, d9, d10] t (0, 0)) := heap_setCell_same _ _ 0 _ _ c0 h
    have e1 : ((wk.setCell ⟨b, 0, none⟩ c0).setCell ⟨b, 1, none⟩ c1).heap[b]? = some (.cells #[c0, c1, d2, d3, d4, d5, d6, d7, d8, d9, d10] t (0, 0)) := heap_setCell_same _ _ 1 _ _ c1 e0
    have e2 : (((wk.setCell ⟨b, 0, none⟩ c0).setCell ⟨b, 1, none⟩ c1).setCell ⟨b, 2, none⟩ c2).heap[b]? = some (.cells #[c0, c1, c2, d3, d4, d5, d6, d7, d8, d9, d10] t (0, 0)) := heap_setCell_same _ _ 2 _ _ c2 e1
    have e3 : ((((wk.setCell ⟨b, 0, none⟩ c0).setCell ⟨b, 1, none⟩ c1).setCell ⟨b, 2, none⟩ c2).setCell ⟨b, 3, none⟩ c3).heap[b]? = some (.cells #[c0, c1, c2, c3, d4, d5, d6, d7, d8, d9, d10] t (0, 0)) := heap_setCell_same _ _ 3 _ _ c3 e2
    have e4 : (((((wk.setCell ⟨b, 0, none⟩ c0).setCell ⟨b, 1, none⟩ c1).setCell ⟨b, 2, none⟩ c2).setCell ⟨b, 3, none⟩ c3).setCell ⟨b, 4, none⟩ c4).heap[b]? = some (.cells #[c0, c1, c2, c3, c4, d5, d6, d7, d8, d9, d10] t (0, 0)) := heap_setCell_same _ _ 4 _ _ c4 e3
    have e5 : ((((((wk.setCell ⟨b, 0, none⟩ c0).setCell ⟨b, 1, none⟩ c1).setCell ⟨b, 2, none⟩ c2).setCell ⟨b, 3, none⟩ c3).setCell ⟨b, 4, none⟩ c4).setCell ⟨b, 5, none⟩ c5).heap[b]? = some (.cells #[c0, c1, c2, c3, c4, c5, d6, d7, d8, d9, d10] t (0, 0)) := heap_setCell_same _ _ 5 _ _ c5 e4
    have e6 : (((((((wk.setCell ⟨b, 0, none⟩ c0).setCell ⟨b, 1, none⟩ c1).setCell ⟨b, 2, none⟩ c2).setCell ⟨b, 3, none⟩ c3).setCell ⟨b, 4, none⟩ c4).setCell ⟨b, 5, none⟩ c5).setCell ⟨b, 6, none⟩ c6).heap[b]? = some (.cells #[c0, c1, c2, c3, c4, c5, c6, d7, d8, d9, d10] t (0, 0)) := heap_setCell_same _ _ 6 _ _ c6 e5
    have e7 : ((((((((wk.setCell ⟨b, 0, none⟩ c0).setCell ⟨b, 1, none⟩ c1).setCell ⟨b, 2, none⟩ c2).setCell ⟨b, 3, none⟩ c3).setCell ⟨b, 4, none⟩ c4).setCell ⟨b, 5, none⟩ c5).setCell ⟨b, 6, none⟩ c6).setCell ⟨b, 7, none⟩ c7).heap[b]? = some (.cells #[c0, c1, c2, c3, c4, c5, c6, c7, d8, d9, d10] t (0, 0)) := heap_setCell_same _ _ 7 _ _ c7 e6
    have e8 : (((((((((wk.setCell ⟨b, 0, none⟩ c0).setCell ⟨b, 1, none⟩ c1).setCell ⟨b, 2, none⟩ c2).setCell ⟨b, 3, none⟩ c3).setCell ⟨b, 4, none⟩ c4).setCell ⟨b, 5, none⟩ c5).setCell ⟨b, 6, none⟩ c6).setCell ⟨b, 7, none⟩ c7).setCell ⟨b, 8, none⟩ c8).heap[b]? = some (.cells #[c0, c1, c2, c3, c4, c5, c6, c7, c8, d9, d10] t (0, 0)) := heap_setCell_same _ _ 8 _ _ c8 e7
    have e9 : ((((((((((wk.setCell ⟨b, 0, none⟩ c0).setCell ⟨b, 1, none⟩ c1).setCell ⟨b, 2, none⟩ c2).setCell ⟨b, 3, none⟩ c3).setCell ⟨b, 4, none⟩ c4).setCell ⟨b, 5, none⟩ c5).setCell ⟨b, 6, none⟩ c6).setCell ⟨b, 7, none⟩ c7).setCell ⟨b, 8, none⟩ c8).setCell ⟨b, 9, none⟩ c9).heap[b]? = some (.cells #[c0, c1, c2, c3, c4, c5, c6, c7, c8, c9, d10] t (0, 0)) := heap_setCell_same _ _ 9 _ _ c9 e8
    have e10 : (((((((((((wk.setCell ⟨b, 0, none⟩ c0).setCell ⟨b, 1, none⟩ c1).setCell ⟨b, 2, none⟩ c2).setCell ⟨b, 3, none⟩ c3).setCell ⟨b, 4, none⟩ c4).setCell ⟨b, 5, none⟩ c5).setCell ⟨b, 6, none⟩ c6).setCell ⟨b, 7, none⟩ c7).setCell ⟨b, 8, none⟩ c8).setCell ⟨b, 9, none⟩ c9).setCell ⟨b, 10, none⟩ c10).heap[b]? = some (.cells #[c0, c1, c2, c3, c4, c5, c6, c7, c8, c9, c10] t (0, 0)) := heap_setCell_same _ _ 10 _ _ c10 e9
    exact e10
theorem frame_below {w wk : World} {b : Nat} {c0 c1 c2 c3 c4 c5 c6 c7 c8 c9 c10 : Value} (h : Below w.heap.size w wk) (hb : w.heap.size ≤ b) :
    Below w.heap.size w (((((((((((wk.setCell ⟨b, 0, none⟩ c0).setCell ⟨b, 1, none⟩ c1).setCell ⟨b, 2, none⟩ c2).setCell ⟨b, 3, none⟩ c3).setCell ⟨b, 4, none⟩ c4).setCell ⟨b, 5, none⟩ c5).setCell ⟨b, 6, none⟩ c6).setCell ⟨b, 7, none⟩ c7).setCell ⟨b, 8, none⟩ c8).setCell ⟨b, 9, none⟩ c9).setCell ⟨b, 10, none⟩ c10) :=
  ((((((((((h.setCell hb _).setCell hb _).setCell hb _).setCell hb _).setCell hb _).setCell hb _).setCell hb _).setCell hb _).setCell hb _).setCell hb _).setCell hb _

/-- .. and that they may be written. -/
theorem frame_free {w : World} {b : Nat} {t : TypeId} {c0 c1 c2 c3 c4 c5 c6 c7 c8 c9 c10 : Value} (h : w.heap[b]? = some (.cells #[c0, c1, c2, c3, c4, c5, c6, c7, c8, c9, c10] t (0, 0))) :
    w.frozen? ⟨b, 0, none⟩ = false ∧ w.frozen? ⟨b, 1, none⟩ = false ∧ w.frozen? ⟨b, 2, none⟩ = false ∧ w.frozen? ⟨b, 3, none⟩ = false ∧ w.frozen? ⟨b, 4, none⟩ = false ∧ w.frozen? ⟨b, 5, none⟩ = false ∧ w.frozen? ⟨b, 6, none⟩ = false ∧ w.frozen? ⟨b, 7, none⟩ = false ∧ w.frozen? ⟨b, 8, none⟩ = false ∧ w.frozen? ⟨b, 9, none⟩ = false ∧ w.frozen? ⟨b, 10, none⟩ = false :=
  ⟨frozen_of_row _ _ _ _ _ h, frozen_of_row _ _ _ _ _ h, frozen_of_row _ _ _ _ _ h, frozen_of_row _ _ _ _ _ h, frozen_of_row _ _ _ _ _ h, frozen_of_row _ _ _ _ _ h, frozen_of_row _ _ _ _ _ h, frozen_of_row _ _ _ _ _ h, frozen_of_row _ _ _ _ _ h, frozen_of_row _ _ _ _ _ h, frozen_of_row _ _ _ _ _ h⟩
/-- The same for a block of five. -/
theorem alarm_cells {w : World} {b : Nat} {t : TypeId} {c0 c1 c2 c3 c4 : Value} (h : w.heap[b]? = some (.cells #[c0, c1, c2, c3, c4] t (0, 0))) :
    w.cell? ⟨b, 0, none⟩ = some c0 ∧ w.cell? ⟨b, 1, none⟩ = some c1 ∧ w.cell? ⟨b, 2, none⟩ = some c2 ∧ w.cell? ⟨b, 3, none⟩ = some c3 ∧ w.cell? ⟨b, 4, none⟩ = some c4 :=
  ⟨cell_of_row _ _ _ _ _ _ h, cell_of_row _ _ _ _ _ _ h, cell_of_row _ _ _ _ _ _ h, cell_of_row _ _ _ _ _ _ h, cell_of_row _ _ _ _ _ _ h⟩
theorem alarm_free {w : World} {b : Nat} {t : TypeId} {c0 c1 c2 c3 c4 : Value} (h : w.heap[b]? = some (.cells #[c0, c1, c2, c3, c4] t (0, 0))) :
    w.frozen? ⟨b, 0, none⟩ = false ∧ w.frozen? ⟨b, 1, none⟩ = false ∧ w.frozen? ⟨b, 2, none⟩ = false ∧ w.frozen? ⟨b, 3, none⟩ = false ∧ w.frozen? ⟨b, 4, none⟩ = false :=
  ⟨frozen_of_row _ _ _ _ _ h, frozen_of_row _ _ _ _ _ h, frozen_of_row _ _ _ _ _ h, frozen_of_row _ _ _ _ _ h, frozen_of_row _ _ _ _ _ h⟩
theorem alarm_laid {w : World} {b : Nat} {t : TypeId} {d0 d1 d2 d3 d4 c0 c1 c2 c3 c4 : Value} (h : w.heap[b]? = some (.cells #[d0, d1, d2, d3, d4] t (0, 0))) :
    (((((w.setCell ⟨b, 0, none⟩ c0).setCell ⟨b, 1, none⟩ c1).setCell ⟨b, 2, none⟩ c2).setCell ⟨b, 3, none⟩ c3).setCell ⟨b, 4, none⟩ c4).heap[b]? = some (.cells #[c0, c1, c2, c3, c4] t (0, 0)) := by
  have e0 : (w.setCell ⟨b, 0, none⟩ c0).heap[b]? = some (.cells #[c0, d1, d2, d3, d4] t (0, 0)) := heap_setCell_same _ _ 0 _ _ c0 h
  have e1 : ((w.setCell ⟨b, 0, none⟩ c0).setCell ⟨b, 1, none⟩ c1).heap[b]? = some (.cells #[c0, c1, d2, d3, d4] t (0, 0)) := heap_setCell_same _ _ 1 _ _ c1 e0
  have e2 : (((w.setCell ⟨b, 0, none⟩ c0).setCell ⟨b, 1, none⟩ c1).setCell ⟨b, 2, none⟩ c2).heap[b]? = some (.cells #[c0, c1, c2, d3, d4] t (0, 0)) := heap_setCell_same _ _ 2 _ _ c2 e1
  have e3 : ((((w.setCell ⟨b, 0, none⟩ c0).setCell ⟨b, 1, none⟩ c1).setCell ⟨b, 2, none⟩ c2).setCell ⟨b, 3, none⟩ c3).heap[b]? = some (.cells #[c0, c1, c2, c3, d4] t (0, 0)) := heap_setCell_same _ _ 3 _ _ c3 e2
  exact heap_setCell_same _ _ 4 _ _ c4 e3
theorem alarm_below {w v : World} {b : Nat} {c0 c1 c2 c3 c4 : Value} (h : Below v.heap.size v w) (hb : v.heap.size ≤ b) : Below v.heap.size v (((((w.setCell ⟨b, 0, none⟩ c0).setCell ⟨b, 1, none⟩ c1).setCell ⟨b, 2, none⟩ c2).setCell ⟨b, 3, none⟩ c3).setCell ⟨b, 4, none⟩ c4) :=
  (((((h.setCell hb _).setCell hb _).setCell hb _).setCell hb _).setCell hb _)
/-- All other blocks are as they were. -/
theorem frame_other {w : World} {b k : Nat} {c0 c1 c2 c3 c4 c5 c6 c7 c8 c9 c10 : Value} (h : k ≠ b) : (((((((((((w.setCell ⟨b, 0, none⟩ c0).setCell ⟨b, 1, none⟩ c1).setCell ⟨b, 2, none⟩ c2).setCell ⟨b, 3, none⟩ c3).setCell ⟨b, 4, none⟩ c4).setCell ⟨b, 5, none⟩ c5).setCell ⟨b, 6, none⟩ c6).setCell ⟨b, 7, none⟩ c7).setCell ⟨b, 8, none⟩ c8).setCell ⟨b, 9, none⟩ c9).setCell ⟨b, 10, none⟩ c10).heap[k]? = w.heap[k]? :=
  (heap_setCell_other _ _ _ _ h).trans ((heap_setCell_other _ _ _ _ h).trans ((heap_setCell_other _ _ _ _ h).trans ((heap_setCell_other _ _ _ _ h).trans ((heap_setCell_other _ _ _ _ h).trans ((heap_setCell_other _ _ _ _ h).trans ((heap_setCell_other _ _ _ _ h).trans ((heap_setCell_other _ _ _ _ h).trans ((heap_setCell_other _ _ _ _ h).trans ((heap_setCell_other _ _ _ _ h).trans ((heap_setCell_other _ _ _ _ h)))))))))))
theorem alarm_other {w : World} {b k : Nat} {c0 c1 c2 c3 c4 : Value} (h : k ≠ b) : (((((w.setCell ⟨b, 0, none⟩ c0).setCell ⟨b, 1, none⟩ c1).setCell ⟨b, 2, none⟩ c2).setCell ⟨b, 3, none⟩ c3).setCell ⟨b, 4, none⟩ c4).heap[k]? = w.heap[k]? :=
  (heap_setCell_other _ _ _ _ h).trans ((heap_setCell_other _ _ _ _ h).trans ((heap_setCell_other _ _ _ _ h).trans ((heap_setCell_other _ _ _ _ h).trans ((heap_setCell_other _ _ _ _ h)))))

end Go.Proofs.Ytpognlidhppnaaa
