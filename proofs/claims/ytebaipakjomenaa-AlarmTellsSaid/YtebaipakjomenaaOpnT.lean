/- Three times, by value, as they come in. -/
import Derived.Test.YtebaipakjomenaaOpnS
namespace Go.Proofs.Ytebaipakjomenaa
open Go.ChangeShapes Go.WideShapes Go.ChangeAt Go.RowKit

theorem Try.cellsTicks : Try.prog.cellsOf 35 = 3 := by kernel_rfl
theorem Try.cellsTick : Try.prog.cellsOf 22 = 1 := by kernel_rfl
/-- Three times. -/
theorem open_ticks {r : Reach} {b0 : Nat} {H : Type} {enc : TypeId × Value → H} {w : World} {base : Nat} {spare : Nat → Bool} {held : Bool} {v : Value} {d : DataW H} {p : List MemPlace}
    (hv : Value.okWide Try.prog w r b0 35 v) (h : DataW.Trod enc Try.prog w base spare held 35 v d p) :
    ∃ n0 n1 n2 : Int, v = .agg #[.int .i64 n0, .int .i64 n1, .int .i64 n2] := by
  obtain ⟨cs, rfl, hsz⟩ := okWide_array Try.underlying35 hv
  obtain ⟨fuel, hf⟩ := h
  obtain ⟨l⟩ := cs
  have hl : l.length = 3 := hsz.trans Try.cellsTicks
  match l, hl with
  | [e0, e1, e2], _ =>
    obtain ⟨y0, y1, y2, n, _, h0, h1, h2⟩ := trod_array3 Try.underlying35 Try.cellsTick hf
    obtain ⟨n0, rfl, -⟩ := one_int Try.underlying22 h0
    obtain ⟨n1, rfl, -⟩ := one_int Try.underlying22 h1
    obtain ⟨n2, rfl, -⟩ := one_int Try.underlying22 h2
    exact ⟨n0, n1, n2, rfl⟩

end Go.Proofs.Ytebaipakjomenaa
