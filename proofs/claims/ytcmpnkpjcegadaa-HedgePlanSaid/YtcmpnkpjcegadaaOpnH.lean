/- Hedges (a number and a time), by value, and three numbers, as they come in. -/
import Derived.Test.YtcmpnkpjcegadaaOpnS
namespace Go.Proofs.Ytcmpnkpjcegadaa
open Go.ChangeShapes Go.WideShapes Go.ChangeAt Go.RowKit

theorem Try.cellsHedges : Try.prog.cellsOf 24 = 2 := by kernel_rfl
/-- Hedges. -/
theorem open_hedges {r : Reach} {b0 : Nat} {H : Type} {enc : TypeId × Value → H} {w : World} {base : Nat} {spare : Nat → Bool} {held : Bool} {v : Value} {d : DataW H} {p : List MemPlace}
    (hv : Value.okWide Try.prog w r b0 24 v) (h : DataW.Trod enc Try.prog w base spare held 24 v d p) :
    ∃ m a : Int, v = .agg #[.int .i64 m, .int .i64 a] := by
  obtain ⟨cs, rfl, hsz⟩ := okWide_struct Try.underlying24 hv
  obtain ⟨fuel, hf⟩ := h
  obtain ⟨xs, n, _, _, _, hlen, hx⟩ := DataW.trod_struct Try.underlying24 hf
  obtain ⟨l⟩ := cs
  have hl : l.length = 2 := hsz.trans Try.cellsHedges
  match l, hl, xs, hlen with
  | [e0, e1], _, [x0, x1], _ =>
    have h0 := hx 0 _ rfl
    simp only [Value.cells] at h0
    obtain ⟨n0, rfl, -⟩ := one_int Try.underlying3 h0
    have h1 := hx 1 _ rfl
    simp only [Value.cells] at h1
    obtain ⟨n1, rfl, -⟩ := one_int Try.underlying22 h1
    exact ⟨n0, n1, rfl⟩

theorem Try.cellsInts3 : Try.prog.cellsOf 28 = 3 := by kernel_rfl
theorem Try.cellsIntH : Try.prog.cellsOf 3 = 1 := by kernel_rfl
/-- Three numbers. -/
theorem open_ints3 {r : Reach} {b0 : Nat} {H : Type} {enc : TypeId × Value → H} {w : World} {base : Nat} {spare : Nat → Bool} {held : Bool} {v : Value} {d : DataW H} {p : List MemPlace}
    (hv : Value.okWide Try.prog w r b0 28 v) (h : DataW.Trod enc Try.prog w base spare held 28 v d p) :
    ∃ n0 n1 n2 : Int, v = .agg #[.int .i64 n0, .int .i64 n1, .int .i64 n2] := by
  obtain ⟨cs, rfl, hsz⟩ := okWide_array Try.underlying28 hv
  obtain ⟨fuel, hf⟩ := h
  obtain ⟨l⟩ := cs
  have hl : l.length = 3 := hsz.trans Try.cellsInts3
  match l, hl with
  | [e0, e1, e2], _ =>
    obtain ⟨y0, y1, y2, n, _, h0, h1, h2⟩ := trod_array3 Try.underlying28 Try.cellsIntH hf
    obtain ⟨n0, rfl, -⟩ := one_int Try.underlying3 h0
    obtain ⟨n1, rfl, -⟩ := one_int Try.underlying3 h1
    obtain ⟨n2, rfl, -⟩ := one_int Try.underlying3 h2
    exact ⟨n0, n1, n2, rfl⟩

end Go.Proofs.Ytcmpnkpjcegadaa
