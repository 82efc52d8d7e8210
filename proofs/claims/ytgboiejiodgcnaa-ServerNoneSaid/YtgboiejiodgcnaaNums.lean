/- Numbers behind a slice that may be nil: what they are, wherever they lie. -/
import Derived.Test.YtgboiejiodgcnaaItems
import Derived.Test.YtgboiejiodgcnaaRw1
namespace Go.Proofs.Ytgboiejiodgcnaa
open Go.RowKit

/-- Behind the slice lie these numbers. -/
structure Nums (w : World) (a : Option Addr) (n : Nat) (X : Nat → Int) : Prop where
  at_ : 0 < n → ∃ g o, a = some ⟨g, o, none⟩ ∧ ∀ i, i < n → w.cell? ⟨g, o + i, none⟩ = some (.int .i64 (X i))
  lo : ∀ i, i < n → -9223372036854775808 ≤ X i
  hi : ∀ i, i < n → X i ≤ 9223372036854775807
namespace Nums
variable {w w' : World} {a : Option Addr} {n : Nat} {X Y : Nat → Int}
theorem none_ (w : World) (a : Option Addr) (X : Nat → Int) : Nums w a 0 X :=
  ⟨fun h => absurd h (Nat.lt_irrefl _), fun _ h => absurd h (Nat.not_lt_zero _), fun _ h => absurd h (Nat.not_lt_zero _)⟩
theorem past {own : Nat → Prop} (h : Nums w a n X) (hr : Rest own w w') (ho : ∀ k o, a = some ⟨k, o, none⟩ → ¬own k) : Nums w' a n X := by
  refine ⟨fun h0 => ?_, h.lo, h.hi⟩
  obtain ⟨g, o, rfl, hc⟩ := h.at_ h0
  exact ⟨g, o, rfl, fun i hi => (World.cell?_of_block (hr.block g (block_lt_of_cell (hc i hi)) (ho g o rfl))).trans (hc i hi)⟩
theorem below (h : Nums w a n X) (hb : Below w.heap.size w w') : Nums w' a n X := h.past (Rest.of_below (own := fun _ => False) hb) (fun _ _ _ => id)
theorem take (h : Nums w a n X) {m : Nat} (hm : m ≤ n) : Nums w a m X := by
  refine ⟨fun h0 => ?_, fun i hi => h.lo i (by omega), fun i hi => h.hi i (by omega)⟩
  obtain ⟨g, o, e, hc⟩ := h.at_ (by omega)
  exact ⟨g, o, e, fun i hi => hc i (by omega)⟩
theorem congr (h : Nums w a n X) (e : ∀ i, i < n → X i = Y i) : Nums w a n Y := by
  refine ⟨fun h0 => ?_, fun i hi => e i hi ▸ h.lo i hi, fun i hi => e i hi ▸ h.hi i hi⟩
  obtain ⟨g, o, ea, hc⟩ := h.at_ h0
  exact ⟨g, o, ea, fun i hi => e i hi ▸ hc i hi⟩
/-- A made row of numbers. -/
theorem of_items {g : Nat} {t : TypeId} (h : Items w g n 1 t fun i _ => .int .i64 (X i)) (lo : ∀ i, i < n → -9223372036854775808 ≤ X i) (hi : ∀ i, i < n → X i ≤ 9223372036854775807) : Nums w (some ⟨g, 0, none⟩) n X :=
  ⟨fun _ => ⟨g, 0, rfl, fun i hi => by have := h.cell (i := i) (j := 0) hi (by omega); simpa using this⟩, lo, hi⟩
/-- A row of numbers that append made. -/
theorem of_row {B g off cap : Nat} {t : TypeId} (h : RowK w B t 1 g off n cap ((List.range n).map fun i => Value.int .i64 (X i))) (lo : ∀ i, i < n → -9223372036854775808 ≤ X i) (hi : ∀ i, i < n → X i ≤ 9223372036854775807) : Nums w (some ⟨g, off, none⟩) n X :=
  ⟨fun _ => ⟨g, off, rfl, fun i hi => h.cell (by simp [hi])⟩, lo, hi⟩
/-- A literal, as a block. -/
theorem of_block {g : Nat} {t : TypeId} {l : List Int} (h : w.heap[g]? = some (.cells (l.map fun x => Value.int .i64 x).toArray t (0, 0))) (hn : l.length = n) (b : ∀ x ∈ l, -9223372036854775808 ≤ x ∧ x ≤ 9223372036854775807) : Nums w (some ⟨g, 0, none⟩) n (fun i => l.getD i 0) := by
  have hm : ∀ i, i < n → l.getD i 0 ∈ l := fun i hi => by
    rw [List.getD_eq_getElem?_getD, List.getElem?_eq_getElem (by omega)]
    exact List.getElem_mem _
  refine ⟨fun _ => ⟨g, 0, rfl, fun i hi => ?_⟩, fun i hi => (b _ (hm i hi)).1, fun i hi => (b _ (hm i hi)).2⟩
  rw [cell_of_row _ _ _ _ _ _ h, Nat.zero_add]
  simp [List.getD, show i < l.length by omega]
end Nums
end Go.Proofs.Ytgboiejiodgcnaa
