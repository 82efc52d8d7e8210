/- A list of numbers that comes in, as numbers behind a slice. -/
import Derived.Test.YtdjbmpchaedefaaOpnS
import Derived.Test.YtdjbmpchaedefaaNums
import Derived.Deep.Slices
namespace Go.Proofs.Ytdjbmpchaedefaa
open Go.ChangeShapes Go.WideShapes Go.ChangeAt Go.RowKit

theorem Try.cellsIntN : Try.prog.cellsOf 3 = 1 := by kernel_rfl

/-- A list of numbers, by what lies behind it. -/
theorem open_nums {t : TypeId} {H : Type} {enc : TypeId × Value → H} {w : World} {base : Nat} {spare : Nat → Bool} {held : Bool} {fuel : Nat} {a : Option Addr} {len cap : Nat} {x : DataW H × List MemPlace} (ht : Try.prog.underlying t = some (.slice 3))
    (h : DataW.trod enc Try.prog w base spare held fuel t [.slice a len cap] = some x) : len ≤ cap ∧ ∃ X, Nums w a len X := by
  rcases Go.Deep.open_slice ht h with ⟨h0, _⟩ | ⟨p, len', cap', m, n, D, Pl, he, _, hl, _, hmm, _, hx⟩
  · simp only [List.cons.injEq, Value.slice.injEq, and_true] at h0
    obtain ⟨rfl, rfl, rfl⟩ := h0
    exact ⟨Nat.le_refl _, fun _ => 0, Nums.none_ _ _ _⟩
  · simp only [List.cons.injEq, Value.slice.injEq, and_true] at he
    obtain ⟨rfl, rfl, rfl⟩ := he
    refine ⟨hl, ?_⟩
    have hlm : len ≤ m := by rw [hmm]; split <;> omega
    have each : ∀ i, i < len → ∃ q : Int, w.cell? (p.add (i * 1)) = some (.int .i64 q) ∧ -9223372036854775808 ≤ q ∧ q ≤ 9223372036854775807 := by
      intro i hi
      obtain ⟨cs', g1, g2⟩ := hx i (by omega)
      rw [Try.cellsIntN] at g1
      obtain ⟨_, hlen, hcell⟩ := World.cells?_some g1
      match cs', hlen with
      | [e0], _ =>
        obtain ⟨n0, rfl, wn⟩ := one_int Try.underlying3 g2
        have c0 := hcell 0 (by omega)
        rw [Go.Deep.add_add] at c0
        exact ⟨n0, by simpa using c0, bounds_i64 wn⟩
    obtain ⟨q, hq⟩ := Go.Deep.choose_lt each
    obtain ⟨bk, o, spot⟩ := p
    refine ⟨q, fun h0 => ?_, fun i hi => (hq i hi).2.1, fun i hi => (hq i hi).2.2⟩
    have hspot : spot = none := by simpa [Addr.add] using World.cell?_spot (hq 0 h0).1
    subst hspot
    refine ⟨bk, o, rfl, fun i hi => ?_⟩
    have g0 := hq i hi
    rw [Addr.add_lit, Nat.mul_one] at g0
    exact g0.1
end Go.Proofs.Ytdjbmpchaedefaa
