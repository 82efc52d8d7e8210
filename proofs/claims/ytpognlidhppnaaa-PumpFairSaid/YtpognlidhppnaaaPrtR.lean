/- Rows of cells as parts of a world. -/
import Derived.Test.YtpognlidhppnaaaSep
import Derived.Test.YtpognlidhppnaaaRw1
namespace Go.Proofs.Ytpognlidhppnaaa
open Go.RowKit Go.Sort

namespace Part
def row (t : TypeId) (k g off n cap : Nat) (xs : List Value) : Part := ⟨fun w F => F g ∧ RowK w 0 t k g off n cap xs, fun h _ hr hd => ⟨h.1, h.2.kept (hr.block _ h.2.lt (hd _ h.1))⟩⟩
/-- A row of items of one cell behind a slice that may be nil. -/
def nl (t : TypeId) (a : Option Addr) (c : Nat) (xs : List Value) : Part := ⟨fun w F => Nl w t a c xs ∧ ∀ k, (∃ o, a = some ⟨k, o, none⟩) → F k, fun h _ hr hd => ⟨h.1.past hr (fun k hk => hd k (h.2 k hk)), h.2⟩⟩
end Part
namespace Own
variable {G : Nat → Prop} {w0 w w' : World} {l : List Part} {n cap : Nat} {a : Option Addr} {c : Nat}
theorem row {t : TypeId} {k g off : Nat} {xs : List Value} (h : Own G w0 w l) (i : Nat) (e : l[i]? = some (.row t k g off n cap xs)) : RowK w 0 t k g off n cap xs := by
  obtain ⟨F, ⟨-, h1⟩, -⟩ := h.part i e
  exact h1
theorem nil_nl (h : Own G w0 w l) (t : TypeId) : Own G w0 w (.nl t none 0 [] :: l) :=
  h.made (q := .nl t none 0 []) (F := fun _ => False) (Rest.refl _ _) ⟨.inl ⟨rfl, rfl, rfl⟩, fun k ⟨_, e⟩ => by cases e⟩ (fun _ h => h.elim)
/-- One is put behind such a row. -/
theorem nl_add {P : Program} {t ts : TypeId} {xs : List Value} (e1 : Item1 P ts t) (h : Own G w0 w l) (i : Nat) (e : l[i]? = some (.nl t a c xs)) {n : Nat} (hl : n = xs.length) (hn : n ≤ 1000000) {b : Nat} {v : Value} (hv : v.oneCell' = true) (hb : w.heap[b]? = some (.cells #[v] t (0, 0))) (ty : TypeId) :
    ∃ g' off' c' w', (Builtin.append_ #[ts, ts] ty #[.slice a n c, .slice (some ⟨b, 0, none⟩) 1 1]).run P w = .ok (.slice (some ⟨g', off', none⟩) (n + 1) c') w' ∧ Own G w0 w' (l.set i (.nl t (some ⟨g', off', none⟩) c' (xs ++ [v]))) := by
  obtain ⟨F, ⟨h1, h2⟩, -, h5⟩ := h.part i e
  obtain ⟨ti, z, hi, hz, hs, hb16, hzs⟩ := e1.info
  have hnews : ∀ j u, ([v] : List Value)[j]? = some u → w.cell? ((⟨b, 0, none⟩ : Addr).add j) = some u := fun j u hj => by
    obtain ⟨rfl, rfl⟩ : j = 0 ∧ v = u := by cases j with
      | zero => exact ⟨rfl, by simpa using hj⟩
      | succ j => simp at hj
    exact cell_of_row _ _ _ _ _ _ hb
  have hl1 : (xs ++ [v]).length = xs.length + 1 := by simp
  rcases h1 with ⟨rfl, rfl, rfl⟩ | ⟨g, off, rfl, hr⟩
  · obtain rfl : n = 0 := hl
    obtain ⟨g', off', cap', w', k1, k2, k3, k4⟩ := run_append_nilK (P := P) w ts ty 0 1 t ti z ti.bytes e1.under hi hz hs rfl hzs (by decide) ⟨b, 0, none⟩ 1 1 [v] rfl (by decide) hnews (by simpa using hv) (by unfold maxLen; omega) (by omega) (Nat.zero_le _)
    refine ⟨g', off', cap', w', k1, h5 (q' := .nl t (some ⟨g', off', none⟩) cap' [v]) (F' := fun k => k = g') ⟨.inr ⟨g', off', rfl, k2⟩, fun k ⟨_, e⟩ => by cases e; rfl⟩ (Rest.grown k3 (fun _ e => by cases e)) (fun k hk => .inr ?_)⟩
    subst hk
    exact ⟨k4, k2.lt⟩
  · subst hl
    obtain ⟨g', off', cap', w', k1, k2, k3, k4⟩ := run_append_rowK (P := P) w ts ty 0 1 t ti z ti.bytes e1.under hi hz hs rfl hzs (by decide) g off xs.length c xs hr ⟨b, 0, none⟩ 1 1 [v] rfl hnews (by simpa using hv) (by unfold maxLen; omega) (by have := Nat.mul_le_mul (show xs.length + 1 ≤ 1000001 by omega) hb16; omega) (Nat.zero_le _)
    refine ⟨g', off', cap', w', k1, h5 (q' := .nl t (some ⟨g', off', none⟩) cap' (xs ++ [v])) (F' := fun k => k = g') ⟨.inr ⟨g', off', rfl, by rw [hl1]; exact k2⟩, fun k ⟨_, e⟩ => by cases e; rfl⟩ (Rest.grown k3 (fun k e => by cases e; exact h2 _ ⟨off, rfl⟩)) (fun k hk => ?_)⟩
    subst hk
    rcases k4 with rfl | k4
    · exact .inl (h2 _ ⟨off, rfl⟩)
    · exact .inr ⟨k4, k2.lt⟩
/-- .. one that is there is a row. -/
theorem nl_row {t : TypeId} {g off : Nat} {xs : List Value} (h : Own G w0 w l) (i : Nat) (e : l[i]? = some (.nl t (some ⟨g, off, none⟩) c xs)) {n : Nat} (hl : n = xs.length) : Own G w0 w (l.set i (.row t 1 g off n c xs)) :=
  h.say i e fun F hF => by
    obtain ⟨h1, h2⟩ := hF
    rcases h1 with ⟨e, -⟩ | ⟨g', off', e, hr⟩
    · cases e
    · cases e
      exact ⟨h2 _ ⟨off, rfl⟩, by rw [hl]; exact hr⟩
end Own
end Go.Proofs.Ytpognlidhppnaaa
