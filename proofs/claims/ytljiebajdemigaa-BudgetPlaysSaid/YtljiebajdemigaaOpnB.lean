/- A list of bools that comes in, by its cells. -/
import Derived.Test.YtljiebajdemigaaOpnS
import Derived.Deep.Slices
namespace Go.Proofs.Ytljiebajdemigaa
open Go.ChangeShapes Go.WideShapes Go.ChangeAt Go.RowKit

theorem Try.cellsBoolB : Try.prog.cellsOf 4 = 1 := by kernel_rfl
/-- A list of bools, by its cells. -/
theorem open_bools_list {H : Type} {enc : TypeId × Value → H} {w : World} {base : Nat} {spare : Nat → Bool} {held : Bool} {fuel : Nat} {cs : List Value} {x : DataW H × List MemPlace} (h : DataW.trod enc Try.prog w base spare held fuel 25 cs = some x) :
    cs = [.slice none 0 0] ∨ ∃ (bk o : Nat) (sp : Option Addr) (len cap : Nat) (Y : Nat → Bool), cs = [.slice sp len cap] ∧ (0 < len → sp = some ⟨bk, o, none⟩) ∧
      ∀ i, i < len → w.cell? ⟨bk, o + i, none⟩ = some (.bool (Y i)) := by
  rcases Go.Deep.open_slice Try.underlying25 h with ⟨h0, _⟩ | ⟨a, len, cap, m, n, D, Pl, rfl, _, hl, _, hmm, _, hx⟩
  · exact .inl h0
  have hlm : len ≤ m := by rw [hmm]; split <;> omega
  have each : ∀ i, i < len → ∃ q : Bool, w.cell? (a.add (i * 1)) = some (.bool q) := by
    intro i hi
    obtain ⟨cs', g1, g2⟩ := hx i (by omega)
    rw [Try.cellsBoolB] at g1
    obtain ⟨_, hlen, hcell⟩ := World.cells?_some g1
    match cs', hlen with
    | [e0], _ =>
      obtain ⟨n0, rfl⟩ := one_bool Try.underlying4 g2
      have c0 := hcell 0 (by omega)
      rw [Go.Deep.add_add] at c0
      exact ⟨n0, by simpa using c0⟩
  obtain ⟨q, hq⟩ := Go.Deep.choose_lt each
  obtain ⟨bk, o, spot⟩ := a
  have hs : 0 < len → (some ⟨bk, o, spot⟩ : Option Addr) = some ⟨bk, o, none⟩ := fun h0 => by
    have hspot : spot = none := by simpa [Addr.add] using World.cell?_spot (hq 0 h0)
    rw [hspot]
  refine .inr ⟨bk, o, some ⟨bk, o, spot⟩, len, cap, q, rfl, hs, fun i hi => ?_⟩
  have g0 := hq i hi
  have e := hs (by omega)
  simp only [Option.some.injEq, Addr.mk.injEq, true_and] at e
  subst e
  rw [Addr.add_lit, Nat.mul_one] at g0
  exact g0

end Go.Proofs.Ytljiebajdemigaa
