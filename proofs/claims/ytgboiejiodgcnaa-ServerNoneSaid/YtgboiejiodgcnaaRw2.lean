/- A row of one-cell items that append alone makes, out of none, behind a world. -/
import Derived.Test.YtgboiejiodgcnaaRw1
namespace Go.Proofs.Ytgboiejiodgcnaa
open Go.RowKit

/-- Items behind a slice that is nil, or a row that was made since the world w. -/
def Mk (w w' : World) (t : TypeId) (a : Option Addr) (c : Nat) (xs : List Value) : Prop := Rest (fun _ => False) w w' ∧ ((a = none ∧ c = 0 ∧ xs = []) ∨ ∃ g off, a = some ⟨g, off, none⟩ ∧ RowK w' w.heap.size t 1 g off xs.length c xs)
namespace Mk
variable {w w1 w2 : World} {t ts : TypeId} {a : Option Addr} {c : Nat} {xs : List Value} {P : Program}
theorem start (hr : Rest (fun _ => False) w w1) (t : TypeId) : Mk w w1 t none 0 [] := ⟨hr, .inl ⟨rfl, rfl, rfl⟩⟩
theorem more (h : Mk w w1 t a c xs) (hr : Rest (fun _ => False) w1 w2) : Mk w w2 t a c xs := by
  refine ⟨h.1.trans (o3 := fun _ => False) hr (fun _ _ => id) (fun _ _ => id), ?_⟩
  rcases h.2 with h | ⟨g, off, e, h⟩
  · exact .inl h
  · exact .inr ⟨g, off, e, h.kept (hr.block _ h.lt (fun x => x))⟩
theorem nl (h : Mk w w1 t a c xs) : Nl w1 t a c xs := by
  rcases h.2 with h | ⟨g, off, e, h⟩
  · exact .inl h
  · exact .inr ⟨g, off, e, h.lower (Nat.zero_le _)⟩
theorem below (h : Mk w w1 t a c xs) : Below w.heap.size w w1 := h.1.below (Nat.le_refl _) (fun _ h => h.elim)
/-- One is put behind it. -/
theorem one (e : Item1 P ts t) (h : Mk w w1 t a c xs) (hn : xs.length ≤ 1000000) {b : Nat} {v : Value} (hv : v.oneCell' = true) (hb : w1.heap[b]? = some (.cells #[v] t (0, 0))) (ty : TypeId) :
    ∃ a' c' w', (Builtin.append_ #[ts, ts] ty #[.slice a xs.length c, .slice (some ⟨b, 0, none⟩) 1 1]).run P w1 = .ok (.slice a' (xs.length + 1) c') w' ∧ Mk w w' t a' c' (xs ++ [v]) := by
  rcases h.2 with ⟨rfl, rfl, rfl⟩ | ⟨g, off, rfl, hr⟩
  · obtain ⟨i, z, hi, hz, hs, hb16, hzs⟩ := e.info
    obtain ⟨g', off', cap', w', k1, k2, k3, -⟩ := run_append_nilK (P := P) w1 ts ty w.heap.size 1 t i z i.bytes e.under hi hz hs rfl hzs (by decide) ⟨b, 0, none⟩ 1 1 [v] rfl (by decide) (fun j u hj => by
      obtain ⟨rfl, rfl⟩ : j = 0 ∧ v = u := by cases j with
        | zero => exact ⟨rfl, by simpa using hj⟩
        | succ j => simp at hj
      exact cell_of_row _ _ _ _ _ _ hb) (by simpa using hv) (by unfold maxLen; omega) (by omega) h.1.size
    exact ⟨_, _, _, k1, h.1.trans (o3 := fun _ => False) (Rest.grown (own := fun _ => False) k3 (fun _ e => by cases e)) (fun _ _ => id) (fun _ _ => id), .inr ⟨g', off', rfl, k2⟩⟩
  · obtain ⟨g', off', cap', w', k1, k2⟩ := Rw.one e (⟨hr, h.1⟩ : Rw w w1 t g off xs.length c xs) hn hv hb ty
    exact ⟨_, _, _, k1, k2.rest, .inr ⟨g', off', rfl, by rw [List.length_append]; exact k2.row⟩⟩
end Mk
end Go.Proofs.Ytgboiejiodgcnaa
