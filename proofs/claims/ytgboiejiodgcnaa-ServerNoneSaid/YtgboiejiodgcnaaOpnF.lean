/- A frame, by value, as it comes in. -/
import Derived.Test.YtgboiejiodgcnaaOpnS
namespace Go.Proofs.Ytgboiejiodgcnaa
open Go.ChangeShapes Go.WideShapes Go.ChangeAt Go.RowKit

theorem Try.cellsFrame : Try.prog.cellsOf 29 = 11 := by kernel_rfl
theorem Try.cellsUint32 : Try.prog.cellsOf 27 = 1 := by kernel_rfl
theorem Try.cellsBool : Try.prog.cellsOf 4 = 1 := by kernel_rfl

set_option maxRecDepth 10000 in
/-- A frame, by value. -/
theorem open_frame {r : Reach} {b0 : Nat} {H : Type} {enc : TypeId × Value → H} {w : World} {base : Nat} {spare : Nat → Bool} {held : Bool} {v : Value} {d : DataW H} {p : List MemPlace}
    (hv : Value.okWide Try.prog w r b0 29 v) (h : DataW.Trod enc Try.prog w base spare held 29 v d p) :
    ∃ (k c s t g a r q x : Int) (su st : Bool), v = .agg #[.int .i64 k, .int .i64 c, .int .i64 s, .int .i64 t, .int .i64 g, .int .u32 a, .int .i64 r, .bool su, .bool st, .int .i64 q, .int .u32 x] ∧ (0 ≤ a ∧ a ≤ 4294967295) ∧ (0 ≤ x ∧ x ≤ 4294967295) := by
  obtain ⟨cs, rfl, hsz⟩ := okWide_struct Try.underlying29 hv
  obtain ⟨fuel, hf⟩ := h
  obtain ⟨xs, n, _, _, _, hlen, hx⟩ := DataW.trod_struct Try.underlying29 hf
  obtain ⟨l⟩ := cs
  have hl : l.length = 11 := hsz.trans Try.cellsFrame
  match l, hl, xs, hlen with
  | [e0, e1, e2, e3, e4, e5, e6, e7, e8, e9, e10], _, [x0, x1, x2, x3, x4, x5, x6, x7, x8, x9, x10], _ =>
    have h0 := hx 0 _ rfl
    simp only [Value.cells] at h0
    obtain ⟨n0, rfl, w0⟩ := one_int Try.underlying3 h0
    have h1 := hx 1 _ rfl
    simp only [Value.cells] at h1
    obtain ⟨n1, rfl, w1⟩ := one_int Try.underlying3 h1
    have h2 := hx 2 _ rfl
    simp only [Value.cells] at h2
    obtain ⟨n2, rfl, w2⟩ := one_int Try.underlying3 h2
    have h3 := hx 3 _ rfl
    simp only [Value.cells] at h3
    obtain ⟨n3, rfl, w3⟩ := one_int Try.underlying3 h3
    have h4 := hx 4 _ rfl
    simp only [Value.cells] at h4
    obtain ⟨n4, rfl, w4⟩ := one_int Try.underlying3 h4
    have h5 := hx 5 _ rfl
    simp only [Value.cells] at h5
    obtain ⟨n5, rfl, w5⟩ := one_int Try.underlying27 h5
    have h6 := hx 6 _ rfl
    simp only [Value.cells] at h6
    obtain ⟨n6, rfl, w6⟩ := one_int Try.underlying3 h6
    have h7 := hx 7 _ rfl
    simp only [Value.cells] at h7
    obtain ⟨n7, rfl⟩ := one_bool Try.underlying4 h7
    have h8 := hx 8 _ rfl
    simp only [Value.cells] at h8
    obtain ⟨n8, rfl⟩ := one_bool Try.underlying4 h8
    have h9 := hx 9 _ rfl
    simp only [Value.cells] at h9
    obtain ⟨n9, rfl, w9⟩ := one_int Try.underlying3 h9
    have h10 := hx 10 _ rfl
    simp only [Value.cells] at h10
    obtain ⟨n10, rfl, w10⟩ := one_int Try.underlying27 h10
    exact ⟨n0, n1, n2, n3, n4, n5, n6, n9, n10, n7, n8, rfl, bounds_u32 w5, bounds_u32 w10⟩

end Go.Proofs.Ytgboiejiodgcnaa
