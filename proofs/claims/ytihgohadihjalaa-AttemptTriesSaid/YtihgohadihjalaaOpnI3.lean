/- Three numbers, by value, as they come in. -/
import Derived.Test.YtihgohadihjalaaOpnS
namespace Go.Proofs.Ytihgohadihjalaa
open Go.ChangeShapes Go.WideShapes Go.ChangeAt Go.RowKit

theorem Try.cellsInts3 : Try.prog.cellsOf 41 = 3 := by kernel_rfl
theorem Try.cellsIntH : Try.prog.cellsOf 3 = 1 := by kernel_rfl
/-- Three numbers. -/
theorem open_ints3 {r : Reach} {b0 : Nat} {H : Type} {enc : TypeId × Value → H} {w : World} {base : Nat} {spare : Nat → Bool} {held : Bool} {v : Value} {d : DataW H} {p : List MemPlace}
    (hv : Value.okWide Try.prog w r b0 41 v) (h : DataW.Trod enc Try.prog w base spare held 41 v d p) :
    ∃ n0 n1 n2 : Int, v = .agg #[.int .i64 n0, .int .i64 n1, .int .i64 n2] := by
  obtain ⟨cs, rfl, hsz⟩ := okWide_array Try.underlying41 hv
  obtain ⟨fuel, hf⟩ := h
  obtain ⟨l⟩ := cs
  have hl : l.length = 3 := hsz.trans Try.cellsInts3
  match l, hl with
  | [e0, e1, e2], _ =>
    obtain ⟨y0, y1, y2, n, _, h0, h1, h2⟩ := trod_array3 Try.underlying41 Try.cellsIntH hf
    obtain ⟨n0, rfl, -⟩ := one_int Try.underlying3 h0
    obtain ⟨n1, rfl, -⟩ := one_int Try.underlying3 h1
    obtain ⟨n2, rfl, -⟩ := one_int Try.underlying3 h2
    exact ⟨n0, n1, n2, rfl⟩

end Go.Proofs.Ytihgohadihjalaa
