/- What the program's smaller objects are, as parts of a world: a worker, a cache of calls, frames in a row, a row of cells. -/
import Derived.Test.YtgboiejiodgcnaaSep
import Derived.Test.YtgboiejiodgcnaaWkR
import Derived.Test.YtgboiejiodgcnaaDdQ
import Derived.Test.YtgboiejiodgcnaaRw1
namespace Go.Proofs.Ytgboiejiodgcnaa
open Go.RowKit Go.Sort

theorem FRow.kept {own : Nat → Prop} {w w' : World} {a : Option Addr} {c : Nat} {q : List Wk.Fr} {L : Option Nat} (h : FRow w a c q L) (hr : Rest own w w') (hl : ∀ g, L = some g → ¬own g) : FRow w' a c q L := by
  rcases h with h | ⟨g, off, e, ea, hR⟩
  · exact .inl h
  · exact .inr ⟨g, off, e, ea, hR.kept (hr.block _ hR.lt (hl g e))⟩
theorem FRow.lt {w : World} {a : Option Addr} {c : Nat} {q : List Wk.Fr} {L : Option Nat} (h : FRow w a c q L) {g : Nat} (e : L = some g) : g < w.heap.size := by
  rcases h with ⟨h, -⟩ | ⟨g', off, e', ea, hR⟩
  · rw [e] at h; cases h
  · rw [e] at e'; cases e'; exact hR.lt
namespace Part
def wk (P : Nat) (o : Wk.Wo) : Part := ⟨fun w F => ∃ L, Wd w P o L ∧ F P ∧ ∀ g, L = some g → F g, fun ⟨L, h, hP, hL⟩ _ hr hd => ⟨L, h.kept hr (hd _ hP) (fun g e => hd g (hL g e)), hP, hL⟩⟩
def dc (P : Nat) (n : Int) (q : List Dd.Cl) : Part := ⟨fun w F => ∃ L, Dc w P n q L ∧ F P ∧ ∀ g, L = some g → F g, fun ⟨L, h, hP, hL⟩ _ hr hd => ⟨L, h.kept hr (hd _ hP) (fun g e => hd g (hL g e)), hP, hL⟩⟩
def fr (a : Option Addr) (c : Nat) (q : List Wk.Fr) : Part := ⟨fun w F => ∃ L, FRow w a c q L ∧ ∀ g, L = some g → F g, fun ⟨L, h, hL⟩ _ hr hd => ⟨L, h.kept hr (fun g e => hd g (hL g e)), hL⟩⟩
def row (t : TypeId) (k g off n cap : Nat) (xs : List Value) : Part := ⟨fun w F => F g ∧ RowK w 0 t k g off n cap xs, fun h _ hr hd => ⟨h.1, h.2.kept (hr.block _ h.2.lt (hd _ h.1))⟩⟩
/-- A row of items of one cell behind a slice that may be nil. -/
def nl (t : TypeId) (a : Option Addr) (c : Nat) (xs : List Value) : Part := ⟨fun w F => Nl w t a c xs ∧ ∀ k, (∃ o, a = some ⟨k, o, none⟩) → F k, fun h _ hr hd => ⟨h.1.past hr (fun k hk => hd k (h.2 k hk)), h.2⟩⟩
end Part
namespace Own
variable {G : Nat → Prop} {w0 w w' : World} {l : List Part} {P n cap : Nat} {N : Int} {o : Wk.Wo} {Q : List Dd.Cl} {a : Option Addr} {c : Nat} {q : List Wk.Fr}
/-- A worker: as it stands; and a call of it is behind. -/
theorem wk (h : Own G w0 w l) (i : Nat) (e : l[i]? = some (.wk P o)) : ∃ L, Wd w P o L ∧ ∀ {w' : World} {o' : Wk.Wo} {L' : Option Nat}, Wd w' P o' L' → (L' = L ∨ ∀ j, L' = some j → w.heap.size ≤ j) → Rest (fun k => k = P ∨ L = some k) w w' → Own G w0 w' (l.set i (.wk P o')) := by
  obtain ⟨F, ⟨L, h1, h2, h3⟩, h4, h5⟩ := h.part i e
  refine ⟨L, h1, fun {w' o' L'} k1 k2 k3 => ?_⟩
  refine h5 (q' := .wk P o') (F' := fun k => F k ∨ w.heap.size ≤ k ∧ k < w'.heap.size) ⟨L', k1, .inl h2, fun g e => ?_⟩ (k3.mono fun k _ hk => hk.elim (fun e => e ▸ h2) (h3 k)) (fun _ => id)
  rcases k2 with rfl | k2
  · exact .inl (h3 g e)
  · exact .inr ⟨k2 g e, (k1.row e).1⟩
/-- .. that laid no new row. -/
theorem wk_same (h : Own G w0 w l) (i : Nat) (e : l[i]? = some (.wk P o)) : ∃ L, Wd w P o L ∧ ∀ {w' : World} {o' : Wk.Wo}, Wd w' P o' L → Rest (fun k => k = P) w w' → Own G w0 w' (l.set i (.wk P o')) := by
  obtain ⟨L, h1, h2⟩ := h.wk i e
  exact ⟨L, h1, fun k1 k2 => h2 k1 (.inl rfl) (k2.mono fun _ _ => .inl)⟩
theorem dc (h : Own G w0 w l) (i : Nat) (e : l[i]? = some (.dc P N Q)) : ∃ L, Dc w P N Q L ∧ ∀ {w' : World} {Q' : List Dd.Cl} {L' : Option Nat}, Dc w' P N Q' L' → (L' = L ∨ ∀ j, L' = some j → w.heap.size ≤ j) → Rest (fun k => k = P ∨ L = some k) w w' → Own G w0 w' (l.set i (.dc P N Q')) := by
  obtain ⟨F, ⟨L, h1, h2, h3⟩, h4, h5⟩ := h.part i e
  refine ⟨L, h1, fun {w' Q' L'} k1 k2 k3 => ?_⟩
  refine h5 (q' := .dc P N Q') (F' := fun k => F k ∨ w.heap.size ≤ k ∧ k < w'.heap.size) ⟨L', k1, .inl h2, fun g e => ?_⟩ (k3.mono fun k _ hk => hk.elim (fun e => e ▸ h2) (h3 k)) (fun _ => id)
  rcases k2 with rfl | k2
  · exact .inl (h3 g e)
  · exact .inr ⟨k2 g e, (k1.row e).1⟩
theorem fr (h : Own G w0 w l) (i : Nat) (e : l[i]? = some (.fr a c q)) : ∃ L, FRow w a c q L ∧ ∀ {w' : World} {a' : Option Addr} {c' : Nat} {q' : List Wk.Fr} {L' : Option Nat}, FRow w' a' c' q' L' → (L' = L ∨ ∀ j, L' = some j → w.heap.size ≤ j) → Rest (fun k => L = some k) w w' → Own G w0 w' (l.set i (.fr a' c' q')) := by
  obtain ⟨F, ⟨L, h1, h3⟩, h4, h5⟩ := h.part i e
  refine ⟨L, h1, fun {w' a' c' q' L'} k1 k2 k3 => ?_⟩
  refine h5 (q' := .fr a' c' q') (F' := fun k => F k ∨ w.heap.size ≤ k ∧ k < w'.heap.size) ⟨L', k1, fun g e => ?_⟩ (k3.mono fun k _ hk => h3 k hk) (fun _ => id)
  rcases k2 with rfl | k2
  · exact .inl (h3 g e)
  · exact .inr ⟨k2 g e, k1.lt e⟩
theorem row {t : TypeId} {k g off : Nat} {xs : List Value} (h : Own G w0 w l) (i : Nat) (e : l[i]? = some (.row t k g off n cap xs)) : RowK w 0 t k g off n cap xs := by
  obtain ⟨F, ⟨-, h1⟩, -⟩ := h.part i e
  exact h1
/-- A block that was just made holds these. -/
theorem made_wk (h : Own G w0 w l) (hb : Below w.heap.size w w') {P : Nat} {o : Wk.Wo} {L : Option Nat} (hw : Wd w' P o L) (hP : w.heap.size ≤ P) (hL : ∀ g, L = some g → w.heap.size ≤ g) : Own G w0 w' (.wk P o :: l) :=
  h.made (q := .wk P o) (F := fun k => k = P ∨ L = some k) (Rest.of_below hb) ⟨L, hw, .inl rfl, fun _ e => .inr e⟩ (fun k hk => by
    rcases hk with rfl | hk
    · exact ⟨hP, hw.lt⟩
    · exact ⟨hL k hk, (hw.row hk).1⟩)
theorem made_dc (h : Own G w0 w l) (hb : Below w.heap.size w w') {L : Option Nat} (hw : Dc w' P N Q L) (hP : w.heap.size ≤ P) (hL : ∀ g, L = some g → w.heap.size ≤ g) : Own G w0 w' (.dc P N Q :: l) :=
  h.made (q := .dc P N Q) (F := fun k => k = P ∨ L = some k) (Rest.of_below hb) ⟨L, hw, .inl rfl, fun _ e => .inr e⟩ (fun k hk => by
    rcases hk with rfl | hk
    · exact ⟨hP, hw.lt⟩
    · exact ⟨hL k hk, (hw.row hk).1⟩)
/-- No frames: nothing lies there. -/
theorem none_fr (h : Own G w0 w l) : Own G w0 w (.fr none 0 [] :: l) :=
  h.made (q := .fr none 0 []) (F := fun _ => False) (Rest.refl _ _) ⟨none, .inl ⟨rfl, rfl, rfl, rfl⟩, (fun _ e => by cases e)⟩ (fun _ h => h.elim)
theorem nil_nl (h : Own G w0 w l) (t : TypeId) : Own G w0 w (.nl t none 0 [] :: l) :=
  h.made (q := .nl t none 0 []) (F := fun _ => False) (Rest.refl _ _) ⟨.inl ⟨rfl, rfl, rfl⟩, fun k ⟨_, e⟩ => by cases e⟩ (fun _ h => h.elim)
/-- One is put behind such a row. -/
theorem nl_add {P : Program} {t ts : TypeId} {xs : List Value} (e1 : Item1 P ts t) (h : Own G w0 w l) (i : Nat) (e : l[i]? = some (.nl t a c xs)) {n : Nat} (hl : n = xs.length) (hn : n ≤ 1000000) {b : Nat} {v : Value} (hv : v.oneCell' = true) (hb : w.heap[b]? = some (.cells #[v] t (0, 0))) (ty : TypeId) :
    ∃ g' off' c' w', (Builtin.append_ #[ts, ts] ty #[.slice a n c, .slice (some ⟨b, 0, none⟩) 1 1]).run P w = .ok (.slice (some ⟨g', off', none⟩) (n + 1) c') w' ∧ Own G w0 w' (l.set i (.nl t (some ⟨g', off', none⟩) c' (xs ++ [v]))) := by
  obtain ⟨F, ⟨h1, h2⟩, -, h5⟩ := h.part i e
  obtain ⟨ti, z, hi, hz, hs, hb16, hzs⟩ := e1.info
  have hnews : ∀ j u, ([v] : List Value)[j]? = some u → w.cell? ((⟨b, 0, none⟩ : Addr).add j) = some u := fun j u hj => by
    obtain ⟨rfl, rfl⟩ : j = 0 ∧ v = u := by cases j with
      | zero => exact ⟨rfl, by simpa using hj⟩
      | succ j => simp at hj
    exact cell_of_row _ _ _ _ _ _ hb
  have hl1 : (xs ++ [v]).length = xs.length + 1 := by simp
  rcases h1 with ⟨rfl, rfl, rfl⟩ | ⟨g, off, rfl, hr⟩
  · obtain rfl : n = 0 := hl
    obtain ⟨g', off', cap', w', k1, k2, k3, k4⟩ := run_append_nilK (P := P) w ts ty 0 1 t ti z ti.bytes e1.under hi hz hs rfl hzs (by decide) ⟨b, 0, none⟩ 1 1 [v] rfl (by decide) hnews (by simpa using hv) (by unfold maxLen; omega) (by omega) (Nat.zero_le _)
    refine ⟨g', off', cap', w', k1, h5 (q' := .nl t (some ⟨g', off', none⟩) cap' [v]) (F' := fun k => k = g') ⟨.inr ⟨g', off', rfl, k2⟩, fun k ⟨_, e⟩ => by cases e; rfl⟩ (Rest.grown k3 (fun _ e => by cases e)) (fun k hk => .inr ?_)⟩
    subst hk
    exact ⟨k4, k2.lt⟩
  · subst hl
    obtain ⟨g', off', cap', w', k1, k2, k3, k4⟩ := run_append_rowK (P := P) w ts ty 0 1 t ti z ti.bytes e1.under hi hz hs rfl hzs (by decide) g off xs.length c xs hr ⟨b, 0, none⟩ 1 1 [v] rfl hnews (by simpa using hv) (by unfold maxLen; omega) (by have := Nat.mul_le_mul (show xs.length + 1 ≤ 1000001 by omega) hb16; omega) (Nat.zero_le _)
    refine ⟨g', off', cap', w', k1, h5 (q' := .nl t (some ⟨g', off', none⟩) cap' (xs ++ [v])) (F' := fun k => k = g') ⟨.inr ⟨g', off', rfl, by rw [hl1]; exact k2⟩, fun k ⟨_, e⟩ => by cases e; rfl⟩ (Rest.grown k3 (fun k e => by cases e; exact h2 _ ⟨off, rfl⟩)) (fun k hk => ?_)⟩
    subst hk
    rcases k4 with rfl | k4
    · exact .inl (h2 _ ⟨off, rfl⟩)
    · exact .inr ⟨k4, k2.lt⟩
/-- .. one that is there is a row. -/
theorem nl_row {t : TypeId} {g off : Nat} {xs : List Value} (h : Own G w0 w l) (i : Nat) (e : l[i]? = some (.nl t (some ⟨g, off, none⟩) c xs)) {n : Nat} (hl : n = xs.length) : Own G w0 w (l.set i (.row t 1 g off n c xs)) :=
  h.say i e fun F hF => by
    obtain ⟨h1, h2⟩ := hF
    rcases h1 with ⟨e, -⟩ | ⟨g', off', e, hr⟩
    · cases e
    · cases e
      exact ⟨h2 _ ⟨off, rfl⟩, by rw [hl]; exact hr⟩
end Own
end Go.Proofs.Ytgboiejiodgcnaa
