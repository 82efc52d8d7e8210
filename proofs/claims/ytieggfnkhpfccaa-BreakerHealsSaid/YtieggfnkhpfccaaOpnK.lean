/- A breaker's rule, by value, as it comes in. -/
import Derived.Test.YtieggfnkhpfccaaOpnS
namespace Go.Proofs.Ytieggfnkhpfccaa
open Go.ChangeShapes Go.WideShapes Go.ChangeAt Go.RowKit

theorem Try.cellsBreak : Try.prog.cellsOf 24 = 6 := by kernel_rfl
/-- Its numbers. -/
theorem open_break {r : Reach} {b0 : Nat} {H : Type} {enc : TypeId × Value → H} {w : World} {base : Nat} {spare : Nat → Bool} {held : Bool} {v : Value} {d : DataW H} {p : List MemPlace}
    (hv : Value.okWide Try.prog w r b0 24 v) (h : DataW.Trod enc Try.prog w base spare held 24 v d p) :
    ∃ n0 n1 n2 n3 n4 n5 : Int, v = .agg #[.int .i64 n0, .int .i64 n1, .int .i64 n2, .int .i64 n3, .int .i64 n4, .int .i64 n5] := by
  obtain ⟨cs, rfl, hsz⟩ := okWide_struct Try.underlying24 hv
  obtain ⟨fuel, hf⟩ := h
  obtain ⟨xs, m, _, _, _, hlen, hx⟩ := DataW.trod_struct Try.underlying24 hf
  obtain ⟨l⟩ := cs
  have hl : l.length = 6 := hsz.trans Try.cellsBreak
  match l, hl, xs, hlen with
  | [e0, e1, e2, e3, e4, e5], _, [x0, x1, x2, x3, x4, x5], _ =>
    have h0 := hx 0 _ rfl
    simp only [Value.cells] at h0
    obtain ⟨n0, rfl, -⟩ := one_int Try.underlying3 h0
    have h1 := hx 1 _ rfl
    simp only [Value.cells] at h1
    obtain ⟨n1, rfl, -⟩ := one_int Try.underlying22 h1
    have h2 := hx 2 _ rfl
    simp only [Value.cells] at h2
    obtain ⟨n2, rfl, -⟩ := one_int Try.underlying3 h2
    have h3 := hx 3 _ rfl
    simp only [Value.cells] at h3
    obtain ⟨n3, rfl, -⟩ := one_int Try.underlying3 h3
    have h4 := hx 4 _ rfl
    simp only [Value.cells] at h4
    obtain ⟨n4, rfl, -⟩ := one_int Try.underlying22 h4
    have h5 := hx 5 _ rfl
    simp only [Value.cells] at h5
    obtain ⟨n5, rfl, -⟩ := one_int Try.underlying3 h5
    exact ⟨n0, n1, n2, n3, n4, n5, rfl⟩

end Go.Proofs.Ytieggfnkhpfccaa
