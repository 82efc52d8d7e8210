/- A list of attempt's acts (three numbers each) as it comes in, by its cells. -/
import Derived.Test.YtihgohadihjalaaOpnS
import Derived.Deep.Slices
import Derived.Deep.SlicePairs
namespace Go.Proofs.Ytihgohadihjalaa
open Go.ChangeShapes Go.WideShapes Go.ChangeAt Go.RowKit

theorem Try.cellsAct20 : Try.prog.cellsOf 44 = 3 := by kernel_rfl
/-- An act's three cells. -/
theorem open_act20 {H : Type} {enc : TypeId × Value → H} {w : World} {base : Nat} {spare : Nat → Bool} {held : Bool} {fuel : Nat} {e0 e1 e2 : Value} {x : DataW H × List MemPlace}
    (h : DataW.trod enc Try.prog w base spare held fuel 44 [e0, e1, e2] = some x) : ∃ l n m : Int, e0 = .int .i64 l ∧ e1 = .int .i64 n ∧ e2 = .int .i64 m := by
  obtain ⟨xs, m, _, _, _, hlen, hx⟩ := DataW.trod_struct Try.underlying44 h
  match xs, hlen with
  | [x0, x1, x2], _ =>
    obtain ⟨l, rfl, -⟩ := one_int (c := e0) Try.underlying3 (hx 0 _ rfl)
    obtain ⟨n, rfl, -⟩ := one_int (c := e1) Try.underlying3 (hx 1 _ rfl)
    obtain ⟨m, rfl, -⟩ := one_int (c := e2) Try.underlying25 (hx 2 _ rfl)
    exact ⟨l, n, m, rfl, rfl, rfl⟩

/-- A list of acts, by its cells. -/
theorem open_acts20 {H : Type} {enc : TypeId × Value → H} {w : World} {base : Nat} {spare : Nat → Bool} {held : Bool} {fuel : Nat} {cs : List Value} {x : DataW H × List MemPlace}
    (h : DataW.trod enc Try.prog w base spare held fuel 42 cs = some x) :
    cs = [.slice none 0 0] ∨ ∃ (bk o : Nat) (sp : Option Addr) (len cap : Nat) (L T : Nat → Int), cs = [.slice sp len cap] ∧ (0 < len → sp = some ⟨bk, o, none⟩) ∧
      ∀ i, i < len → w.cell? ⟨bk, o + i * 3, none⟩ = some (.int .i64 (L i)) ∧ w.cell? ⟨bk, o + i * 3 + 1, none⟩ = some (.int .i64 (T i)) := by
  rcases Go.Deep.open_slice Try.underlying42 h with ⟨h0, _⟩ | ⟨a, len, cap, m, n, D, Pl, rfl, _, hl, _, hmm, _, hx⟩
  · exact .inl h0
  have hlm : len ≤ m := by rw [hmm]; split <;> omega
  have each : ∀ i, i < len → ∃ q : Int × Int, w.cell? (a.add (i * 3)) = some (.int .i64 q.1) ∧ w.cell? (a.add (i * 3 + 1)) = some (.int .i64 q.2) := by
    intro i hi
    obtain ⟨cs', g1, g2⟩ := hx i (by omega)
    rw [Try.cellsAct20] at g1
    obtain ⟨_, hlen, hcell⟩ := World.cells?_some g1
    match cs', hlen with
    | [e0, e1, e2], _ =>
      obtain ⟨l, n0, m0, rfl, rfl, rfl⟩ := open_act20 g2
      have c := fun (j : Nat) (hj : j < 3) => hcell j (by simpa using hj)
      simp only [Go.Deep.add_add] at c
      exact ⟨(l, n0), c 0 (by omega), c 1 (by omega)⟩
  obtain ⟨q, hq⟩ := Go.Deep.choose_lt each
  obtain ⟨bk, o, spot⟩ := a
  have hs : 0 < len → (some ⟨bk, o, spot⟩ : Option Addr) = some ⟨bk, o, none⟩ := fun h0 => by
    have hspot : spot = none := by simpa [Addr.add] using World.cell?_spot (hq 0 h0).1
    rw [hspot]
  refine .inr ⟨bk, o, some ⟨bk, o, spot⟩, len, cap, fun i => (q i).1, fun i => (q i).2, rfl, hs, fun i hi => ?_⟩
  have g0 := hq i hi
  have e := hs (by omega)
  simp only [Option.some.injEq, Addr.mk.injEq, true_and] at e
  subst e
  simp only [Addr.add_lit, ← Nat.add_assoc] at g0
  exact g0
end Go.Proofs.Ytihgohadihjalaa
