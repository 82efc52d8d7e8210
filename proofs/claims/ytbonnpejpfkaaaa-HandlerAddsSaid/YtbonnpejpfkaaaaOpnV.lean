/- A list of numbers of any kind that comes in, as numbers behind a slice. -/
import Derived.Test.YtbonnpejpfkaaaaOpnS
import Derived.Test.YtbonnpejpfkaaaaNumk
import Derived.Deep.Slices
namespace Go.Proofs.Ytbonnpejpfkaaaa
open Go.ChangeShapes Go.WideShapes Go.ChangeAt Go.RowKit

/-- A list of numbers, by what lies behind it. -/
theorem open_numk {κ : IntKind} {t t1 : TypeId} {H : Type} {enc : TypeId × Value → H} {w : World} {base : Nat} {spare : Nat → Bool} {held : Bool} {fuel : Nat} {a : Option Addr} {len cap : Nat} {x : DataW H × List MemPlace} (ht : Try.prog.underlying t = some (.slice t1)) (h1 : Try.prog.underlying t1 = some (.int κ)) (hone : Try.prog.cellsOf t1 = 1)
    (h : DataW.trod enc Try.prog w base spare held fuel t [.slice a len cap] = some x) : len ≤ cap ∧ ∃ X, Numk κ w a len X := by
  rcases Go.Deep.open_slice ht h with ⟨h0, _⟩ | ⟨p, len', cap', m, n, D, Pl, he, _, hl, _, hmm, _, hx⟩
  · simp only [List.cons.injEq, Value.slice.injEq, and_true] at h0
    obtain ⟨rfl, rfl, rfl⟩ := h0
    exact ⟨Nat.le_refl _, fun _ => 0, Numk.none_ _ _ _⟩
  · simp only [List.cons.injEq, Value.slice.injEq, and_true] at he
    obtain ⟨rfl, rfl, rfl⟩ := he
    refine ⟨hl, ?_⟩
    have hlm : len ≤ m := by rw [hmm]; split <;> omega
    have each : ∀ i, i < len → ∃ q : Int, w.cell? (p.add (i * 1)) = some (.int κ q) ∧ (Lit.int κ q).wf = true := by
      intro i hi
      obtain ⟨cs', g1, g2⟩ := hx i (by omega)
      rw [hone] at g1
      obtain ⟨_, hlen, hcell⟩ := World.cells?_some g1
      match cs', hlen with
      | [e0], _ =>
        obtain ⟨n0, rfl, wn⟩ := one_int h1 g2
        have c0 := hcell 0 (by omega)
        rw [Go.Deep.add_add] at c0
        exact ⟨n0, by simpa using c0, wn⟩
    obtain ⟨q, hq⟩ := Go.Deep.choose_lt each
    obtain ⟨bk, o, spot⟩ := p
    refine ⟨q, fun h0 => ?_, fun i hi => (hq i hi).2⟩
    have hspot : spot = none := by simpa [Addr.add] using World.cell?_spot (hq 0 h0).1
    subst hspot
    refine ⟨bk, o, rfl, fun i hi => ?_⟩
    have g0 := hq i hi
    rw [Addr.add_lit, Nat.mul_one] at g0
    exact g0.1
end Go.Proofs.Ytbonnpejpfkaaaa
