/- Frames in a row, wherever they lie, as part of a world. -/
import Derived.Test.YtpognlidhppnaaaPrtR
import Derived.Test.YtpognlidhppnaaaBigFr
namespace Go.Proofs.Ytpognlidhppnaaa
open Go.RowKit Go.Sort

/-- What waits, wherever it lies. -/
def FRow (w : World) (a : Option Addr) (c : Nat) (q : List Wk.Fr) (L : Option Nat) : Prop := (L = none ∧ a = none ∧ c = 0 ∧ q = []) ∨ ∃ g off, L = some g ∧ a = some ⟨g, off, none⟩ ∧ RowK w 0 27 11 g off q.length c (Wk.fitm.flat q)
set_option maxRecDepth 10000 in
theorem fr_cells {w : World} {B g off n c : Nat} {q : List Wk.Fr} (h : RowK w B 27 11 g off n c (Wk.fitm.flat q)) {i : Nat} {x : Wk.Fr} (hx : q[i]? = some x) :
    w.cell? ⟨g, off + i * 11, none⟩ = some (.int .i64 x.k) ∧ w.cell? ⟨g, off + i * 11 + 1, none⟩ = some (.int .i64 x.c) ∧ w.cell? ⟨g, off + i * 11 + 2, none⟩ = some (.int .i64 x.s) ∧ w.cell? ⟨g, off + i * 11 + 3, none⟩ = some (.int .i64 x.t) ∧ w.cell? ⟨g, off + i * 11 + 4, none⟩ = some (.int .i64 x.g) ∧ w.cell? ⟨g, off + i * 11 + 5, none⟩ = some (.int .u32 x.a) ∧ w.cell? ⟨g, off + i * 11 + 6, none⟩ = some (.int .i64 x.r) ∧ w.cell? ⟨g, off + i * 11 + 7, none⟩ = some (.bool x.su) ∧ w.cell? ⟨g, off + i * 11 + 8, none⟩ = some (.bool x.st) ∧ w.cell? ⟨g, off + i * 11 + 9, none⟩ = some (.int .i64 x.q) ∧ w.cell? ⟨g, off + i * 11 + 10, none⟩ = some (.int .u32 x.v) :=
  ⟨Wk.fitm.cell h hx 0 (by decide) rfl, Wk.fitm.cell h hx 1 (by decide) rfl, Wk.fitm.cell h hx 2 (by decide) rfl, Wk.fitm.cell h hx 3 (by decide) rfl, Wk.fitm.cell h hx 4 (by decide) rfl, Wk.fitm.cell h hx 5 (by decide) rfl, Wk.fitm.cell h hx 6 (by decide) rfl, Wk.fitm.cell h hx 7 (by decide) rfl, Wk.fitm.cell h hx 8 (by decide) rfl, Wk.fitm.cell h hx 9 (by decide) rfl, Wk.fitm.cell h hx 10 (by decide) rfl⟩
theorem FRow.kept {own : Nat → Prop} {w w' : World} {a : Option Addr} {c : Nat} {q : List Wk.Fr} {L : Option Nat} (h : FRow w a c q L) (hr : Rest own w w') (hl : ∀ g, L = some g → ¬own g) : FRow w' a c q L := by
  rcases h with h | ⟨g, off, e, ea, hR⟩
  · exact .inl h
  · exact .inr ⟨g, off, e, ea, hR.kept (hr.block _ hR.lt (hl g e))⟩
theorem FRow.lt {w : World} {a : Option Addr} {c : Nat} {q : List Wk.Fr} {L : Option Nat} (h : FRow w a c q L) {g : Nat} (e : L = some g) : g < w.heap.size := by
  rcases h with ⟨h, -⟩ | ⟨g', off, e', ea, hR⟩
  · rw [e] at h; cases h
  · rw [e] at e'; cases e'; exact hR.lt
namespace Part
def fr (a : Option Addr) (c : Nat) (q : List Wk.Fr) : Part := ⟨fun w F => ∃ L, FRow w a c q L ∧ ∀ g, L = some g → F g, fun ⟨L, h, hL⟩ _ hr hd => ⟨L, h.kept hr (fun g e => hd g (hL g e)), hL⟩⟩
end Part
namespace Own
variable {G : Nat → Prop} {w0 w w' : World} {l : List Part} {a : Option Addr} {c : Nat} {q : List Wk.Fr}
theorem fr (h : Own G w0 w l) (i : Nat) (e : l[i]? = some (.fr a c q)) : ∃ L, FRow w a c q L ∧ ∀ {w' : World} {a' : Option Addr} {c' : Nat} {q' : List Wk.Fr} {L' : Option Nat}, FRow w' a' c' q' L' → (L' = L ∨ ∀ j, L' = some j → w.heap.size ≤ j) → Rest (fun k => L = some k) w w' → Own G w0 w' (l.set i (.fr a' c' q')) := by
  obtain ⟨F, ⟨L, h1, h3⟩, h4, h5⟩ := h.part i e
  refine ⟨L, h1, fun {w' a' c' q' L'} k1 k2 k3 => ?_⟩
  refine h5 (q' := .fr a' c' q') (F' := fun k => F k ∨ w.heap.size ≤ k ∧ k < w'.heap.size) ⟨L', k1, fun g e => ?_⟩ (k3.mono fun k _ hk => h3 k hk) (fun _ => id)
  rcases k2 with rfl | k2
  · exact .inl (h3 g e)
  · exact .inr ⟨k2 g e, k1.lt e⟩
/-- No frames: nothing lies there. -/
theorem none_fr (h : Own G w0 w l) : Own G w0 w (.fr none 0 [] :: l) :=
  h.made (q := .fr none 0 []) (F := fun _ => False) (Rest.refl _ _) ⟨none, .inl ⟨rfl, rfl, rfl, rfl⟩, (fun _ e => by cases e)⟩ (fun _ h => h.elim)
end Own
end Go.Proofs.Ytpognlidhppnaaa
