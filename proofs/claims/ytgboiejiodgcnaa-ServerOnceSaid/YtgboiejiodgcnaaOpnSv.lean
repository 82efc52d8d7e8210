/- A list of the acts of a service's law as it comes in, by its cells. -/
import Derived.Test.YtgboiejiodgcnaaOpnFc
import Derived.Test.YtgboiejiodgcnaaLaw27C
import Derived.Deep.Slices
import Derived.Deep.SlicePairs
namespace Go.Proofs.Ytgboiejiodgcnaa
open Go.ChangeShapes Go.WideShapes Go.ChangeAt Go.RowKit

instance : Inhabited So.Ac := ⟨⟨0, Wk.zero, 0, 0⟩⟩
set_option maxRecDepth 10000 in
theorem Try.cellsAct27 : Try.prog.cellsOf 31 = 14 := by kernel_rfl
set_option maxRecDepth 10000 in
/-- An act's fourteen cells. -/
theorem open_act27 {H : Type} {enc : TypeId × Value → H} {w : World} {base : Nat} {spare : Nat → Bool} {held : Bool} {fuel : Nat} {e0 e1 e2 e3 e4 e5 e6 e7 e8 e9 e10 e11 e12 e13 : Value} {x : DataW H × List MemPlace}
    (h : DataW.trod enc Try.prog w base spare held fuel 31 [e0, e1, e2, e3, e4, e5, e6, e7, e8, e9, e10, e11, e12, e13] = some x) : ∃ a : So.Ac, [e0, e1, e2, e3, e4, e5, e6, e7, e8, e9, e10, e11, e12, e13] = a.cells := by
  obtain ⟨xs, m, _, _, _, hlen, hx⟩ := DataW.trod_struct Try.underlying31 h
  match xs, hlen with
  | [x0, x1, x2, x3], _ =>
    obtain ⟨v0, rfl, -⟩ := one_int (c := e0) Try.underlying3 (hx 0 _ rfl)
    obtain ⟨v1, v2, v3, v4, v5, v6, v7, v8, v9, v10, v11, rfl, rfl, rfl, rfl, rfl, rfl, rfl, rfl, rfl, rfl, rfl⟩ := open_frame_cells (hx 1 _ rfl)
    obtain ⟨v12, rfl, -⟩ := one_int (c := e12) Try.underlying3 (hx 2 _ rfl)
    obtain ⟨v13, rfl, -⟩ := one_int (c := e13) Try.underlying3 (hx 3 _ rfl)
    exact ⟨⟨v0, ⟨v1, v2, v3, v4, v5, v6, v7, v8, v9, v10, v11⟩, v12, v13⟩, rfl⟩

set_option maxRecDepth 10000 in
/-- A list of acts, by its cells. -/
theorem open_acts27 {H : Type} {enc : TypeId × Value → H} {w : World} {base : Nat} {spare : Nat → Bool} {held : Bool} {fuel : Nat} {cs : List Value} {x : DataW H × List MemPlace}
    (h : DataW.trod enc Try.prog w base spare held fuel 22 cs = some x) :
    cs = [.slice none 0 0] ∨ ∃ (bk o : Nat) (sp : Option Addr) (len cap : Nat) (X : Nat → So.Ac), cs = [.slice sp len cap] ∧ (0 < len → sp = some ⟨bk, o, none⟩) ∧ So.Acts w bk o len X := by
  rcases Go.Deep.open_slice Try.underlying22 h with ⟨h0, _⟩ | ⟨a, len, cap, m, n, D, Pl, rfl, _, hl, _, hmm, _, hx⟩
  · exact .inl h0
  have hlm : len ≤ m := by rw [hmm]; split <;> omega
  have each : ∀ i, i < len → ∃ q : So.Ac, ∀ (j : Nat) (u : Value), q.cells[j]? = some u → w.cell? (a.add (i * 14 + j)) = some u := by
    intro i hi
    obtain ⟨cs', g1, g2⟩ := hx i (by omega)
    rw [Try.cellsAct27] at g1
    obtain ⟨_, hlen, hcell⟩ := World.cells?_some g1
    match cs', hlen with
    | [e0, e1, e2, e3, e4, e5, e6, e7, e8, e9, e10, e11, e12, e13], _ =>
      obtain ⟨q, hq⟩ := open_act27 g2
      have c := fun (j : Nat) (hj : j < 14) => hcell j (by simpa using hj)
      simp only [Go.Deep.add_add] at c
      refine ⟨q, fun j u hu => ?_⟩
      rw [← hq] at hu
      have hj := (List.getElem?_eq_some_iff.1 hu).1
      have := c j hj
      rw [this]
      simpa using hu
  obtain ⟨q, hq⟩ := Go.Deep.choose_lt each
  obtain ⟨bk, o, spot⟩ := a
  have hs : 0 < len → (some ⟨bk, o, spot⟩ : Option Addr) = some ⟨bk, o, none⟩ := fun h0 => by
    have hspot : spot = none := by simpa [Addr.add] using World.cell?_spot (hq 0 h0 0 _ rfl)
    rw [hspot]
  refine .inr ⟨bk, o, some ⟨bk, o, spot⟩, len, cap, q, rfl, hs, fun i hi j u hu => ?_⟩
  have g0 := hq i hi j u hu
  have e := hs (by omega)
  simp only [Option.some.injEq, Addr.mk.injEq, true_and] at e
  subst e
  simp only [Addr.add_lit, ← Nat.add_assoc] at g0
  exact g0
end Go.Proofs.Ytgboiejiodgcnaa
