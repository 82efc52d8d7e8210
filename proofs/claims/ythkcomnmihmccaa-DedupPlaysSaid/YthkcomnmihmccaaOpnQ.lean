/- A list of dedup's acts as it comes in, by its cells. -/
import Derived.Test.YthkcomnmihmccaaOpnF
import Derived.Test.YthkcomnmihmccaaDdN
import Derived.Deep.Slices
import Derived.Deep.SlicePairs
namespace Go.Proofs.Ythkcomnmihmccaa
open Go.ChangeShapes Go.WideShapes Go.ChangeAt Go.RowKit

instance : Inhabited Dd.Ac := ⟨⟨0, 0, 0, 0, 0, 0, 0, 0, false, false, 0, 0, false⟩⟩
theorem Try.cellsAct23 : Try.prog.cellsOf 30 = 13 := by kernel_rfl
/-- A frame's eleven cells. -/
theorem open_frame_cells {H : Type} {enc : TypeId × Value → H} {w : World} {base : Nat} {spare : Nat → Bool} {held : Bool} {fuel : Nat} {e1 e2 e3 e4 e5 e6 e7 e8 e9 e10 e11 : Value} {x : DataW H × List MemPlace}
    (h : DataW.trod enc Try.prog w base spare held fuel 28 [e1, e2, e3, e4, e5, e6, e7, e8, e9, e10, e11] = some x) : ∃ (v1 v2 v3 v4 v5 v6 v7 : Int) (v8 v9 : Bool) (v10 v11 : Int), e1 = .int .i64 v1 ∧ e2 = .int .i64 v2 ∧ e3 = .int .i64 v3 ∧ e4 = .int .i64 v4 ∧ e5 = .int .i64 v5 ∧ e6 = .int .u32 v6 ∧ e7 = .int .i64 v7 ∧ e8 = .bool v8 ∧ e9 = .bool v9 ∧ e10 = .int .i64 v10 ∧ e11 = .int .u32 v11 := by
  obtain ⟨xs, m, _, _, _, hlen, hx⟩ := DataW.trod_struct Try.underlying28 h
  match xs, hlen with
  | [x1, x2, x3, x4, x5, x6, x7, x8, x9, x10, x11], _ =>
    obtain ⟨v1, rfl, -⟩ := one_int (c := e1) Try.underlying3 (hx 0 _ rfl)
    obtain ⟨v2, rfl, -⟩ := one_int (c := e2) Try.underlying3 (hx 1 _ rfl)
    obtain ⟨v3, rfl, -⟩ := one_int (c := e3) Try.underlying3 (hx 2 _ rfl)
    obtain ⟨v4, rfl, -⟩ := one_int (c := e4) Try.underlying3 (hx 3 _ rfl)
    obtain ⟨v5, rfl, -⟩ := one_int (c := e5) Try.underlying3 (hx 4 _ rfl)
    obtain ⟨v6, rfl, -⟩ := one_int (c := e6) Try.underlying26 (hx 5 _ rfl)
    obtain ⟨v7, rfl, -⟩ := one_int (c := e7) Try.underlying3 (hx 6 _ rfl)
    obtain ⟨v8, rfl⟩ := one_bool (c := e8) Try.underlying4 (hx 7 _ rfl)
    obtain ⟨v9, rfl⟩ := one_bool (c := e9) Try.underlying4 (hx 8 _ rfl)
    obtain ⟨v10, rfl, -⟩ := one_int (c := e10) Try.underlying3 (hx 9 _ rfl)
    obtain ⟨v11, rfl, -⟩ := one_int (c := e11) Try.underlying26 (hx 10 _ rfl)
    exact ⟨v1, v2, v3, v4, v5, v6, v7, v8, v9, v10, v11, rfl, rfl, rfl, rfl, rfl, rfl, rfl, rfl, rfl, rfl, rfl⟩
/-- An act's thirteen cells. -/
theorem open_act23 {H : Type} {enc : TypeId × Value → H} {w : World} {base : Nat} {spare : Nat → Bool} {held : Bool} {fuel : Nat} {e0 e1 e2 e3 e4 e5 e6 e7 e8 e9 e10 e11 e12 : Value} {x : DataW H × List MemPlace}
    (h : DataW.trod enc Try.prog w base spare held fuel 30 [e0, e1, e2, e3, e4, e5, e6, e7, e8, e9, e10, e11, e12] = some x) : ∃ a : Dd.Ac, [e0, e1, e2, e3, e4, e5, e6, e7, e8, e9, e10, e11, e12] = a.cells := by
  obtain ⟨xs, m, _, _, _, hlen, hx⟩ := DataW.trod_struct Try.underlying30 h
  match xs, hlen with
  | [x0, x1, x2], _ =>
    obtain ⟨v0, rfl, -⟩ := one_int (c := e0) Try.underlying3 (hx 0 _ rfl)
    obtain ⟨v1, v2, v3, v4, v5, v6, v7, v8, v9, v10, v11, rfl, rfl, rfl, rfl, rfl, rfl, rfl, rfl, rfl, rfl, rfl⟩ := open_frame_cells (hx 1 _ rfl)
    obtain ⟨v12, rfl⟩ := one_bool (c := e12) Try.underlying4 (hx 2 _ rfl)
    exact ⟨⟨v0, v1, v2, v3, v4, v5, v6, v7, v8, v9, v10, v11, v12⟩, rfl⟩

/-- A list of acts, by its cells. -/
theorem open_acts23 {H : Type} {enc : TypeId × Value → H} {w : World} {base : Nat} {spare : Nat → Bool} {held : Bool} {fuel : Nat} {cs : List Value} {x : DataW H × List MemPlace}
    (h : DataW.trod enc Try.prog w base spare held fuel 22 cs = some x) :
    cs = [.slice none 0 0] ∨ ∃ (bk o : Nat) (sp : Option Addr) (len cap : Nat) (X : Nat → Dd.Ac), cs = [.slice sp len cap] ∧ (0 < len → sp = some ⟨bk, o, none⟩) ∧ Acts23 w bk o len X := by
  rcases Go.Deep.open_slice Try.underlying22 h with ⟨h0, _⟩ | ⟨a, len, cap, m, n, D, Pl, rfl, _, hl, _, hmm, _, hx⟩
  · exact .inl h0
  have hlm : len ≤ m := by rw [hmm]; split <;> omega
  have each : ∀ i, i < len → ∃ q : Dd.Ac, ∀ (j : Nat) (u : Value), q.cells[j]? = some u → w.cell? (a.add (i * 13 + j)) = some u := by
    intro i hi
    obtain ⟨cs', g1, g2⟩ := hx i (by omega)
    rw [Try.cellsAct23] at g1
    obtain ⟨_, hlen, hcell⟩ := World.cells?_some g1
    match cs', hlen with
    | [e0, e1, e2, e3, e4, e5, e6, e7, e8, e9, e10, e11, e12], _ =>
      obtain ⟨q, hq⟩ := open_act23 g2
      have c := fun (j : Nat) (hj : j < 13) => hcell j (by simpa using hj)
      simp only [Go.Deep.add_add] at c
      refine ⟨q, fun j u hu => ?_⟩
      rw [← hq] at hu
      have hj := (List.getElem?_eq_some_iff.1 hu).1
      have := c j hj
      rw [this]
      simpa using hu
  obtain ⟨q, hq⟩ := Go.Deep.choose_lt each
  obtain ⟨bk, o, spot⟩ := a
  have hs : 0 < len → (some ⟨bk, o, spot⟩ : Option Addr) = some ⟨bk, o, none⟩ := fun h0 => by
    have hspot : spot = none := by simpa [Addr.add] using World.cell?_spot (hq 0 h0 0 _ rfl)
    rw [hspot]
  refine .inr ⟨bk, o, some ⟨bk, o, spot⟩, len, cap, q, rfl, hs, fun i hi j u hu => ?_⟩
  have g0 := hq i hi j u hu
  have e := hs (by omega)
  simp only [Option.some.injEq, Addr.mk.injEq, true_and] at e
  subst e
  simp only [Addr.add_lit, ← Nat.add_assoc] at g0
  exact g0
end Go.Proofs.Ythkcomnmihmccaa
