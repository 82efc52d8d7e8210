/- Two times, by value, as they come in. -/
import Derived.Test.YtcmpnkpjcegadaaOpnS
namespace Go.Proofs.Ytcmpnkpjcegadaa
open Go.ChangeShapes Go.WideShapes Go.ChangeAt Go.RowKit

theorem Try.cellsTicks2 : Try.prog.cellsOf 35 = 2 := by kernel_rfl
theorem Try.cellsTickU : Try.prog.cellsOf 22 = 1 := by kernel_rfl
/-- Two times. -/
theorem open_ticks2 {r : Reach} {b0 : Nat} {H : Type} {enc : TypeId × Value → H} {w : World} {base : Nat} {spare : Nat → Bool} {held : Bool} {v : Value} {d : DataW H} {p : List MemPlace}
    (hv : Value.okWide Try.prog w r b0 35 v) (h : DataW.Trod enc Try.prog w base spare held 35 v d p) :
    ∃ n0 n1 : Int, v = .agg #[.int .i64 n0, .int .i64 n1] := by
  obtain ⟨cs, rfl, hsz⟩ := okWide_array Try.underlying35 hv
  obtain ⟨fuel, hf⟩ := h
  obtain ⟨l⟩ := cs
  have hl : l.length = 2 := hsz.trans Try.cellsTicks2
  match l, hl with
  | [e0, e1], _ =>
    obtain ⟨xs, m, -, -, -, hlen, hx⟩ := DataW.trod_array Try.underlying35 hf
    match xs, hlen with
    | [x0, x1], _ =>
      have h0 := hx 0 (by decide)
      have h1 := hx 1 (by decide)
      rw [Try.cellsTickU] at h0 h1
      obtain ⟨n0, rfl, -⟩ := one_int Try.underlying22 h0
      obtain ⟨n1, rfl, -⟩ := one_int Try.underlying22 h1
      exact ⟨n0, n1, rfl⟩

end Go.Proofs.Ytcmpnkpjcegadaa
