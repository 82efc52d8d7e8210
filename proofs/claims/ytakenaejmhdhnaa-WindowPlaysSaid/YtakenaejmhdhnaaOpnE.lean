/- A list of window's acts as it comes in, by its cells. -/
import Derived.Test.YtakenaejmhdhnaaOpnS
import Derived.Deep.Slices
import Derived.Deep.SlicePairs
namespace Go.Proofs.Ytakenaejmhdhnaa
open Go.ChangeShapes Go.WideShapes Go.ChangeAt Go.RowKit

theorem Try.cellsAct16 : Try.prog.cellsOf 32 = 4 := by kernel_rfl
/-- An act's four cells. -/
theorem open_act16 {H : Type} {enc : TypeId × Value → H} {w : World} {base : Nat} {spare : Nat → Bool} {held : Bool} {fuel : Nat} {e0 e1 e2 e3 : Value} {x : DataW H × List MemPlace}
    (h : DataW.trod enc Try.prog w base spare held fuel 32 [e0, e1, e2, e3] = some x) : ∃ (l v : Bool) (n : Int) (b : Bool), e0 = .bool l ∧ e1 = .bool v ∧ e2 = .int .i64 n ∧ e3 = .bool b := by
  obtain ⟨xs, m, _, _, _, hlen, hx⟩ := DataW.trod_struct Try.underlying32 h
  match xs, hlen with
  | [x0, x1, x2, x3], _ =>
    obtain ⟨l, rfl⟩ := one_bool (c := e0) Try.underlying4 (hx 0 _ rfl)
    obtain ⟨v, rfl⟩ := one_bool (c := e1) Try.underlying4 (hx 1 _ rfl)
    obtain ⟨n, rfl, -⟩ := one_int (c := e2) Try.underlying22 (hx 2 _ rfl)
    obtain ⟨b, rfl⟩ := one_bool (c := e3) Try.underlying4 (hx 3 _ rfl)
    exact ⟨l, v, n, b, rfl, rfl, rfl, rfl⟩

/-- A list of acts, by its cells. -/
theorem open_acts16 {H : Type} {enc : TypeId × Value → H} {w : World} {base : Nat} {spare : Nat → Bool} {held : Bool} {fuel : Nat} {cs : List Value} {x : DataW H × List MemPlace}
    (h : DataW.trod enc Try.prog w base spare held fuel 23 cs = some x) :
    cs = [.slice none 0 0] ∨ ∃ (bk o : Nat) (sp : Option Addr) (len cap : Nat) (L V : Nat → Bool) (O : Nat → Int) (B : Nat → Bool), cs = [.slice sp len cap] ∧ (0 < len → sp = some ⟨bk, o, none⟩) ∧
      ∀ i, i < len → w.cell? ⟨bk, o + i * 4, none⟩ = some (.bool (L i)) ∧ w.cell? ⟨bk, o + i * 4 + 1, none⟩ = some (.bool (V i)) ∧ w.cell? ⟨bk, o + i * 4 + 2, none⟩ = some (.int .i64 (O i)) ∧ w.cell? ⟨bk, o + i * 4 + 3, none⟩ = some (.bool (B i)) := by
  rcases Go.Deep.open_slice Try.underlying23 h with ⟨h0, _⟩ | ⟨a, len, cap, m, n, D, Pl, rfl, _, hl, _, hmm, _, hx⟩
  · exact .inl h0
  have hlm : len ≤ m := by rw [hmm]; split <;> omega
  have each : ∀ i, i < len → ∃ q : Bool × Bool × Int × Bool, w.cell? (a.add (i * 4)) = some (.bool q.1) ∧ w.cell? (a.add (i * 4 + 1)) = some (.bool q.2.1) ∧ w.cell? (a.add (i * 4 + 2)) = some (.int .i64 q.2.2.1) ∧ w.cell? (a.add (i * 4 + 3)) = some (.bool q.2.2.2) := by
    intro i hi
    obtain ⟨cs', g1, g2⟩ := hx i (by omega)
    rw [Try.cellsAct16] at g1
    obtain ⟨_, hlen, hcell⟩ := World.cells?_some g1
    match cs', hlen with
    | [e0, e1, e2, e3], _ =>
      obtain ⟨l, v, n0, b, rfl, rfl, rfl, rfl⟩ := open_act16 g2
      have c := fun (j : Nat) (hj : j < 4) => hcell j (by simpa using hj)
      simp only [Go.Deep.add_add] at c
      exact ⟨(l, v, n0, b), c 0 (by omega), c 1 (by omega), c 2 (by omega), c 3 (by omega)⟩
  obtain ⟨q, hq⟩ := Go.Deep.choose_lt each
  obtain ⟨bk, o, spot⟩ := a
  have hs : 0 < len → (some ⟨bk, o, spot⟩ : Option Addr) = some ⟨bk, o, none⟩ := fun h0 => by
    have hspot : spot = none := by simpa [Addr.add] using World.cell?_spot (hq 0 h0).1
    rw [hspot]
  refine .inr ⟨bk, o, some ⟨bk, o, spot⟩, len, cap, fun i => (q i).1, fun i => (q i).2.1, fun i => (q i).2.2.1, fun i => (q i).2.2.2, rfl, hs, fun i hi => ?_⟩
  have g0 := hq i hi
  have e := hs (by omega)
  simp only [Option.some.injEq, Addr.mk.injEq, true_and] at e
  subst e
  simp only [Addr.add_lit, ← Nat.add_assoc] at g0
  exact g0
end Go.Proofs.Ytakenaejmhdhnaa
