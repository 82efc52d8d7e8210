/- Numbers of any kind behind a slice that may be nil: what they are, wherever they lie. -/
import Derived.Test.YtbonnpejpfkaaaaRest
namespace Go.Proofs.Ytbonnpejpfkaaaa
open Go.RowKit

/-- Behind the slice lie these numbers. -/
structure Numk (κ : IntKind) (w : World) (a : Option Addr) (n : Nat) (X : Nat → Int) : Prop where
  at_ : 0 < n → ∃ g o, a = some ⟨g, o, none⟩ ∧ ∀ i, i < n → w.cell? ⟨g, o + i, none⟩ = some (.int κ (X i))
  ok : ∀ i, i < n → (Lit.int κ (X i)).wf = true
namespace Numk
variable {κ : IntKind} {w w' : World} {a : Option Addr} {n : Nat} {X Y : Nat → Int}
theorem none_ (w : World) (a : Option Addr) (X : Nat → Int) : Numk κ w a 0 X :=
  ⟨fun h => absurd h (Nat.lt_irrefl _), fun _ h => absurd h (Nat.not_lt_zero _)⟩
theorem past {own : Nat → Prop} (h : Numk κ w a n X) (hr : Rest own w w') (ho : ∀ k o, a = some ⟨k, o, none⟩ → ¬own k) : Numk κ w' a n X := by
  refine ⟨fun h0 => ?_, h.ok⟩
  obtain ⟨g, o, rfl, hc⟩ := h.at_ h0
  exact ⟨g, o, rfl, fun i hi => (World.cell?_of_block (hr.block g (block_lt_of_cell (hc i hi)) (ho g o rfl))).trans (hc i hi)⟩
theorem below (h : Numk κ w a n X) (hb : Below w.heap.size w w') : Numk κ w' a n X := h.past (Rest.of_below (own := fun _ => False) hb) (fun _ _ _ => id)
theorem take (h : Numk κ w a n X) {m : Nat} (hm : m ≤ n) : Numk κ w a m X := by
  refine ⟨fun h0 => ?_, fun i hi => h.ok i (by omega)⟩
  obtain ⟨g, o, e, hc⟩ := h.at_ (by omega)
  exact ⟨g, o, e, fun i hi => hc i (by omega)⟩
theorem congr (h : Numk κ w a n X) (e : ∀ i, i < n → X i = Y i) : Numk κ w a n Y := by
  refine ⟨fun h0 => ?_, fun i hi => e i hi ▸ h.ok i hi⟩
  obtain ⟨g, o, ea, hc⟩ := h.at_ h0
  exact ⟨g, o, ea, fun i hi => e i hi ▸ hc i hi⟩
/-- Cut ahead of the m-th. -/
theorem cut (a : Option Addr) (m c : Nat) : sliced a 0 m c 1 = .slice a m c := by
  unfold sliced
  cases a <;> simp [Addr.add]
end Numk
end Go.Proofs.Ytbonnpejpfkaaaa
