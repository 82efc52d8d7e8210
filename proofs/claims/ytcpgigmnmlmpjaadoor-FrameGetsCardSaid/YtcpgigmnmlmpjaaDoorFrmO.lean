/- A frame and three words, by value, as they come in; and the world in which the package's own fields lie. -/
import Derived.Test.YtcpgigmnmlmpjaaDoorFrmLaid
import Derived.ProofKit
import Derived.OpenShut
import Derived.LaidMore
import Derived.Stop.Joined
namespace Go.Proofs.YtcpgigmnmlmpjaaDoor
open Go.ChangeShapes Go.WideShapes Go.ChangeAt Go.RowKit

theorem Tryd.own : ownKnob Tryd.prog.godebug = none := by kernel_rfl
theorem Tryd.laidOut : laidOutB Tryd.prog = true := by kernel_rfl
theorem Tryd.cellsFrame : Tryd.prog.cellsOf 24 = 11 := by kernel_rfl
theorem Tryd.cellsUint32 : Tryd.prog.cellsOf 22 = 1 := by kernel_rfl
theorem Tryd.cellsBool : Tryd.prog.cellsOf 4 = 1 := by kernel_rfl
theorem Tryd.cellsWords : Tryd.prog.cellsOf 28 = 3 := by kernel_rfl
theorem Tryd.cellsUint64 : Tryd.prog.cellsOf 26 = 1 := by kernel_rfl

/-- The variables' list, the same in all rows. -/
abbrev laidAll : List (String × DataW Unit) := Rows.framePutsRow.laid

set_option maxRecDepth 100000 in
/-- The heap that the variables' own initialisers leave meets the condition. -/
theorem door_met (os : Os) (args : Array Value) : laidMetH Tryd.prog laidAll ((World.doorLaid Tryd.prog 64 os).forCall (fun _ _ => 0) ⟨#[], args, []⟩).memory :=
  laidMetH_of_parts3 (fuel := 8) (laidMet_of_run' 8 (by kernel_rfl) (by kernel_rfl)) (by kernel_rfl) (by kernel_rfl)

theorem one_int {k : IntKind} {t : TypeId} {H : Type} {enc : TypeId × Value → H} {w : World} {base : Nat} {spare : Nat → Bool} {held : Bool} {fuel : Nat} {c : Value} {x : DataW H × List MemPlace}
    (ht : Tryd.prog.underlying t = some (.int k)) (h : DataW.trod enc Tryd.prog w base spare held fuel t [c] = some x) : ∃ n, c = .int k n ∧ (Lit.int k n).wf = true := by
  obtain ⟨n, e, _, hw⟩ := DataW.trod_int ht h
  simp only [List.cons.injEq, and_true] at e
  exact ⟨n, e, hw⟩
theorem one_bool {t : TypeId} {H : Type} {enc : TypeId × Value → H} {w : World} {base : Nat} {spare : Nat → Bool} {held : Bool} {fuel : Nat} {c : Value} {x : DataW H × List MemPlace}
    (ht : Tryd.prog.underlying t = some .bool) (h : DataW.trod enc Tryd.prog w base spare held fuel t [c] = some x) : ∃ b, c = .bool b := by
  obtain ⟨b, e, _⟩ := DataW.trod_bool ht h
  simp only [List.cons.injEq, and_true] at e
  exact ⟨b, e⟩

/-- A frame, by value. -/
theorem open_frame {r : Reach} {b0 : Nat} {H : Type} {enc : TypeId × Value → H} {w : World} {base : Nat} {spare : Nat → Bool} {held : Bool} {v : Value} {d : DataW H} {p : List MemPlace}
    (hv : Value.okWide Tryd.prog w r b0 24 v) (h : DataW.Trod enc Tryd.prog w base spare held 24 v d p) :
    ∃ (k c s t g a r q x : Int) (su st : Bool), v = .agg #[.int .i64 k, .int .i64 c, .int .i64 s, .int .i64 t, .int .i64 g, .int .u32 a, .int .i64 r, .bool su, .bool st, .int .i64 q, .int .u32 x] ∧ (0 ≤ a ∧ a ≤ 4294967295) ∧ (0 ≤ x ∧ x ≤ 4294967295) := by
  obtain ⟨cs, rfl, hsz⟩ := okWide_struct Tryd.underlying24 hv
  obtain ⟨fuel, hf⟩ := h
  obtain ⟨xs, n, _, _, _, hlen, hx⟩ := DataW.trod_struct Tryd.underlying24 hf
  obtain ⟨l⟩ := cs
  have hl : l.length = 11 := hsz.trans Tryd.cellsFrame
  match l, hl, xs, hlen with
  | [e0, e1, e2, e3, e4, e5, e6, e7, e8, e9, e10], _, [x0, x1, x2, x3, x4, x5, x6, x7, x8, x9, x10], _ =>
    have h0 := hx 0 _ rfl
    simp only [Value.cells] at h0
    obtain ⟨n0, rfl, w0⟩ := one_int Tryd.underlying3 h0
    have h1 := hx 1 _ rfl
    simp only [Value.cells] at h1
    obtain ⟨n1, rfl, w1⟩ := one_int Tryd.underlying3 h1
    have h2 := hx 2 _ rfl
    simp only [Value.cells] at h2
    obtain ⟨n2, rfl, w2⟩ := one_int Tryd.underlying3 h2
    have h3 := hx 3 _ rfl
    simp only [Value.cells] at h3
    obtain ⟨n3, rfl, w3⟩ := one_int Tryd.underlying3 h3
    have h4 := hx 4 _ rfl
    simp only [Value.cells] at h4
    obtain ⟨n4, rfl, w4⟩ := one_int Tryd.underlying3 h4
    have h5 := hx 5 _ rfl
    simp only [Value.cells] at h5
    obtain ⟨n5, rfl, w5⟩ := one_int Tryd.underlying22 h5
    have h6 := hx 6 _ rfl
    simp only [Value.cells] at h6
    obtain ⟨n6, rfl, w6⟩ := one_int Tryd.underlying3 h6
    have h7 := hx 7 _ rfl
    simp only [Value.cells] at h7
    obtain ⟨n7, rfl⟩ := one_bool Tryd.underlying4 h7
    have h8 := hx 8 _ rfl
    simp only [Value.cells] at h8
    obtain ⟨n8, rfl⟩ := one_bool Tryd.underlying4 h8
    have h9 := hx 9 _ rfl
    simp only [Value.cells] at h9
    obtain ⟨n9, rfl, w9⟩ := one_int Tryd.underlying3 h9
    have h10 := hx 10 _ rfl
    simp only [Value.cells] at h10
    obtain ⟨n10, rfl, w10⟩ := one_int Tryd.underlying22 h10
    exact ⟨n0, n1, n2, n3, n4, n5, n6, n9, n10, n7, n8, rfl, bounds_u32 w5, bounds_u32 w10⟩

theorem okWide_array {n : Nat} {e t : TypeId} {P : Program} {w : World} {r : Reach} {base : Nat} {v : Value} (ht : P.underlying t = some (.array n e)) (h : Value.okWide P w r base t v) : ∃ cs, v = .agg cs ∧ cs.size = P.cellsOf t := by
  simp only [Value.okWide, ht] at h
  obtain ⟨cs, h1, h2, _⟩ := h
  exact ⟨cs, h1, h2⟩

/-- Three words, by value. -/
theorem open_words {r : Reach} {b0 : Nat} {H : Type} {enc : TypeId × Value → H} {w : World} {base : Nat} {spare : Nat → Bool} {held : Bool} {v : Value} {d : DataW H} {p : List MemPlace}
    (hv : Value.okWide Tryd.prog w r b0 28 v) (h : DataW.Trod enc Tryd.prog w base spare held 28 v d p) :
    ∃ v0 v1 v2 : Nat, v = .agg #[.int .u64 (v0 : Int), .int .u64 (v1 : Int), .int .u64 (v2 : Int)] ∧ v0 < 18446744073709551616 ∧ v1 < 18446744073709551616 ∧ v2 < 18446744073709551616 := by
  obtain ⟨cs, rfl, hsz⟩ := okWide_array Tryd.underlying28 hv
  obtain ⟨fuel, hf⟩ := h
  obtain ⟨l⟩ := cs
  have hl : l.length = 3 := hsz.trans Tryd.cellsWords
  match l, hl with
  | [e0, e1, e2], _ =>
    obtain ⟨y0, y1, y2, n, _, h0, h1, h2⟩ := trod_array3 Tryd.underlying28 Tryd.cellsUint64 hf
    obtain ⟨n0, rfl, w0⟩ := one_int Tryd.underlying26 h0
    obtain ⟨n1, rfl, w1⟩ := one_int Tryd.underlying26 h1
    obtain ⟨n2, rfl, w2⟩ := one_int Tryd.underlying26 h2
    obtain ⟨m0, rfl⟩ := Int.eq_ofNat_of_zero_le (bounds_u64 w0).1
    obtain ⟨m1, rfl⟩ := Int.eq_ofNat_of_zero_le (bounds_u64 w1).1
    obtain ⟨m2, rfl⟩ := Int.eq_ofNat_of_zero_le (bounds_u64 w2).1
    have b0 := (bounds_u64 w0).2
    have b1 := (bounds_u64 w1).2
    have b2 := (bounds_u64 w2).2
    exact ⟨m0, m1, m2, rfl, by omega, by omega, by omega⟩

end Go.Proofs.YtcpgigmnmlmpjaaDoor
