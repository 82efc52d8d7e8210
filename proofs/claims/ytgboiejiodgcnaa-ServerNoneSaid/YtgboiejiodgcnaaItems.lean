/- A block of items of several cells each: any cell of any item is written. -/
import Derived.Test.YtgboiejiodgcnaaBaseA
namespace Go.Proofs.Ytgboiejiodgcnaa
open Go.RowKit

/-- K items of c cells each. -/
structure Items (w : World) (g K c : Nat) (t : TypeId) (F : Nat → Nat → Value) : Prop where
  block : ∃ cur, w.heap[g]? = some (.cells cur t (0, 0)) ∧ ∀ i j, i < K → j < c → cur[i * c + j]? = some (F i j)

theorem item_one {c a b i j : Nat} (hb : b < c) (hj : j < c) (h : a * c + b = i * c + j) : a = i ∧ b = j := by
  have : a = i := by
    rcases Nat.lt_trichotomy a i with g | g | g
    · have : (a + 1) * c ≤ i * c := Nat.mul_le_mul_right c g
      rw [Nat.succ_mul] at this; omega
    · exact g
    · have : (i + 1) * c ≤ a * c := Nat.mul_le_mul_right c g
      rw [Nat.succ_mul] at this; omega
  subst this
  exact ⟨rfl, by omega⟩

namespace Items
variable {w w' : World} {g K c : Nat} {t : TypeId} {F G : Nat → Nat → Value}
theorem lt (h : Items w g K c t F) : g < w.heap.size := by
  obtain ⟨cur, hg, _⟩ := h.block
  exact lt_of_block hg
theorem kept (h : Items w g K c t F) (hb : w'.heap[g]? = w.heap[g]?) : Items w' g K c t F := by
  obtain ⟨cur, hg, hc⟩ := h.block
  exact ⟨cur, hb.trans hg, hc⟩
theorem cell (h : Items w g K c t F) {i j : Nat} (hi : i < K) (hj : j < c) : w.cell? ⟨g, i * c + j, none⟩ = some (F i j) := by
  obtain ⟨cur, hg, hc⟩ := h.block
  exact (cell_of_row _ _ _ _ _ _ hg).trans (hc i j hi hj)
theorem free (h : Items w g K c t F) (x : Nat) : w.frozen? ⟨g, x, none⟩ = false := by
  obtain ⟨cur, hg, _⟩ := h.block
  exact frozen_of_row _ _ _ _ _ hg
theorem congr (h : Items w g K c t F) (e : ∀ a b, a < K → b < c → F a b = G a b) : Items w g K c t G := by
  obtain ⟨cur, hg, hc⟩ := h.block
  exact ⟨cur, hg, fun i j hi hj => by rw [hc i j hi hj, e i j hi hj]⟩
theorem set1 (h : Items w g K c t F) {i j : Nat} (hi : i < K) (hj : j < c) (v : Value) : Items (w.setCell ⟨g, i * c + j, none⟩ v) g K c t (fun a b => if a = i ∧ b = j then v else F a b) := by
  obtain ⟨cur, hg, hc⟩ := h.block
  refine ⟨cur.setIfInBounds (i * c + j) v, heap_setCell_same _ _ _ _ _ _ hg, fun a b ha hb => ?_⟩
  have hlt := (Array.getElem?_eq_some_iff.1 (hc i j hi hj)).1
  by_cases e : a = i ∧ b = j
  · obtain ⟨rfl, rfl⟩ := e
    rw [if_pos ⟨rfl, rfl⟩, Array.getElem?_setIfInBounds_self_of_lt hlt]
  · rw [if_neg e, Array.getElem?_setIfInBounds_ne (fun e2 => e (item_one hb hj e2.symm))]
    exact hc a b ha hb
/-- Made anew. -/
theorem made {w : World} {K c : Nat} {t : TypeId} {z : Array Value} (hz : z.size = c) : Items (w.alloc (.cells (madeCells z (K * c)) t)) w.heap.size K c t (fun _ j => z[j]!) := by
  refine ⟨_, heap_alloc_new _ _, fun i j hi hj => ?_⟩
  have hlt : i * c + j < K * c := by
    have : (i + 1) * c ≤ K * c := Nat.mul_le_mul_right c hi
    rw [Nat.succ_mul] at this; omega
  subst hz
  unfold madeCells
  simp only [Array.getElem?_map, Array.getElem?_range, hlt, if_true, Option.map_some]
  rw [show (i * z.size + j) % z.size = j by rw [Nat.mul_comm, Nat.mul_add_mod]; exact Nat.mod_eq_of_lt hj]
end Items

end Go.Proofs.Ytgboiejiodgcnaa
