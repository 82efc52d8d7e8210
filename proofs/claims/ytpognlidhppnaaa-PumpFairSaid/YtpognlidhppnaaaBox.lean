/- A struct of two cells that is handed in by value lies in a box: what a call of one who lays blocks of his own leaves of it. -/
import Derived.Test.YtpognlidhppnaaaRows
import Derived.WalkKit
import Derived.WalkSpells
import Derived.WalkLawsBesides
import Derived.Lib.Hide
import Derived.Below
namespace Go.Proofs.Ytpognlidhppnaaa
open Go.RowKit

theorem ret_u64 {a b : Int} (h : a = b) : Ending.returned (.int .u64 a) = .returned (.int .u64 b) := by rw [h]
theorem ret_bool {a b : Bool} (h : a = b) : Ending.returned (.bool a) = .returned (.bool b) := by rw [h]
theorem below_box (w : World) (o : Obj) : Below w.heap.size w (w.alloc o) := (Below.refl _ _).alloc (Nat.le_refl _) _

/-- Behind a call of one who lays his own blocks alone: the two cells of the box that was laid ahead of it hold what they held; what was there when all began is as it was. -/
theorem kept {w w1 : World} {x y : Value} {t : TypeId} (h : Below (w.alloc (.cells #[x, y] t)).heap.size (w.alloc (.cells #[x, y] t)) w1) :
    w1.cell? ⟨w.heap.size, 0, none⟩ = some x ∧ w1.cell? ⟨w.heap.size, 1, none⟩ = some y ∧ Below w.heap.size w w1 := by
  refine ⟨?_, ?_, (below_box w _).trans (h.mono (by simp))⟩
  · rw [h.cell (by simp)]; exact cell_two_new w x y t 0 x rfl
  · rw [h.cell (by simp)]; exact cell_two_new w x y t 1 y rfl

theorem cell_block {w : World} {b o : Nat} {v : Value} (h : w.cell? ⟨b, o, none⟩ = some v) : b < w.heap.size := by
  by_cases hb : b < w.heap.size
  · exact hb
  · have : w.heap[b]? = none := Array.getElem?_eq_none (by omega)
    simp [World.cell?, this] at h

/-- .. and behind a second one. -/
theorem kept2 {w w1 w2 : World} {b : Nat} {x y : Value} (hc : w1.cell? ⟨b, 0, none⟩ = some x ∧ w1.cell? ⟨b, 1, none⟩ = some y ∧ Below w.heap.size w w1) (h : Below w1.heap.size w1 w2) :
    w2.cell? ⟨b, 0, none⟩ = some x ∧ w2.cell? ⟨b, 1, none⟩ = some y ∧ Below w.heap.size w w2 := by
  obtain ⟨h0, h1, h2⟩ := hc
  have hb := cell_block h0
  exact ⟨(h.cell hb).trans h0, (h.cell hb).trans h1, h2.trans (h.mono h2.size)⟩

end Go.Proofs.Ytpognlidhppnaaa
