/- A frame's eleven cells, as they come in. -/
import Derived.Test.YtgboiejiodgcnaaOpnF
import Derived.Deep.Slices
import Derived.Deep.SlicePairs
namespace Go.Proofs.Ytgboiejiodgcnaa
open Go.ChangeShapes Go.WideShapes Go.ChangeAt Go.RowKit

set_option maxRecDepth 10000 in
/-- A frame's eleven cells. -/
theorem open_frame_cells {H : Type} {enc : TypeId × Value → H} {w : World} {base : Nat} {spare : Nat → Bool} {held : Bool} {fuel : Nat} {e1 e2 e3 e4 e5 e6 e7 e8 e9 e10 e11 : Value} {x : DataW H × List MemPlace}
    (h : DataW.trod enc Try.prog w base spare held fuel 29 [e1, e2, e3, e4, e5, e6, e7, e8, e9, e10, e11] = some x) : ∃ (v1 v2 v3 v4 v5 v6 v7 : Int) (v8 v9 : Bool) (v10 v11 : Int), e1 = .int .i64 v1 ∧ e2 = .int .i64 v2 ∧ e3 = .int .i64 v3 ∧ e4 = .int .i64 v4 ∧ e5 = .int .i64 v5 ∧ e6 = .int .u32 v6 ∧ e7 = .int .i64 v7 ∧ e8 = .bool v8 ∧ e9 = .bool v9 ∧ e10 = .int .i64 v10 ∧ e11 = .int .u32 v11 := by
  obtain ⟨xs, m, _, _, _, hlen, hx⟩ := DataW.trod_struct Try.underlying29 h
  match xs, hlen with
  | [x1, x2, x3, x4, x5, x6, x7, x8, x9, x10, x11], _ =>
    obtain ⟨v1, rfl, -⟩ := one_int (c := e1) Try.underlying3 (hx 0 _ rfl)
    obtain ⟨v2, rfl, -⟩ := one_int (c := e2) Try.underlying3 (hx 1 _ rfl)
    obtain ⟨v3, rfl, -⟩ := one_int (c := e3) Try.underlying3 (hx 2 _ rfl)
    obtain ⟨v4, rfl, -⟩ := one_int (c := e4) Try.underlying3 (hx 3 _ rfl)
    obtain ⟨v5, rfl, -⟩ := one_int (c := e5) Try.underlying3 (hx 4 _ rfl)
    obtain ⟨v6, rfl, -⟩ := one_int (c := e6) Try.underlying27 (hx 5 _ rfl)
    obtain ⟨v7, rfl, -⟩ := one_int (c := e7) Try.underlying3 (hx 6 _ rfl)
    obtain ⟨v8, rfl⟩ := one_bool (c := e8) Try.underlying4 (hx 7 _ rfl)
    obtain ⟨v9, rfl⟩ := one_bool (c := e9) Try.underlying4 (hx 8 _ rfl)
    obtain ⟨v10, rfl, -⟩ := one_int (c := e10) Try.underlying3 (hx 9 _ rfl)
    obtain ⟨v11, rfl, -⟩ := one_int (c := e11) Try.underlying27 (hx 10 _ rfl)
    exact ⟨v1, v2, v3, v4, v5, v6, v7, v8, v9, v10, v11, rfl, rfl, rfl, rfl, rfl, rfl, rfl, rfl, rfl, rfl, rfl⟩
end Go.Proofs.Ytgboiejiodgcnaa
