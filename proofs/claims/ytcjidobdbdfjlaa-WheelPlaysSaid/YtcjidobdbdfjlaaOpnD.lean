/- Acts of the wheel, as they come in. -/
import Derived.Test.YtcjidobdbdfjlaaOpnA
import Derived.Deep.Slices
import Derived.Deep.SlicePairs
namespace Go.Proofs.Ytcjidobdbdfjlaa
open Go.ChangeShapes Go.WideShapes Go.ChangeAt Go.RowKit

theorem Try.cellsAct : Try.prog.cellsOf 32 = 7 := by kernel_rfl
/-- An act's seven cells are numbers. -/
theorem open_act {H : Type} {enc : TypeId × Value → H} {w : World} {base : Nat} {spare : Nat → Bool} {held : Bool} {fuel : Nat} {e0 e1 e2 e3 e4 e5 e6 : Value} {x : DataW H × List MemPlace}
    (h : DataW.trod enc Try.prog w base spare held fuel 32 [e0, e1, e2, e3, e4, e5, e6] = some x) : ∃ n0 n1 n2 n3 n4 n5 n6 : Int, e0 = .int .i64 n0 ∧ e1 = .int .i64 n1 ∧ e2 = .int .i64 n2 ∧ e3 = .int .i64 n3 ∧ e4 = .int .i64 n4 ∧ e5 = .int .i64 n5 ∧ e6 = .int .i64 n6 := by
  obtain ⟨xs, m, _, _, _, hlen, hx⟩ := DataW.trod_struct Try.underlying32 h
  match xs, hlen with
  | [x0, x1, x2], _ =>
    obtain ⟨n0, rfl, -⟩ := one_int (c := e0) Try.underlying3 (hx 0 _ rfl)
    obtain ⟨n6, rfl, -⟩ := one_int (c := e6) Try.underlying22 (hx 2 _ rfl)
    obtain ⟨ys, k, _, _, _, hlen2, hy⟩ := DataW.trod_struct (cs := [e1, e2, e3, e4, e5]) Try.underlying30 (hx 1 _ rfl)
    match ys, hlen2 with
    | [y0, y1, y2, y3, y4], _ =>
      obtain ⟨n1, rfl, -⟩ := one_int (c := e1) Try.underlying22 (hy 0 _ rfl)
      obtain ⟨n2, rfl, -⟩ := one_int (c := e2) Try.underlying3 (hy 1 _ rfl)
      obtain ⟨n3, rfl, -⟩ := one_int (c := e3) Try.underlying3 (hy 2 _ rfl)
      obtain ⟨n4, rfl, -⟩ := one_int (c := e4) Try.underlying3 (hy 3 _ rfl)
      obtain ⟨n5, rfl, -⟩ := one_int (c := e5) Try.underlying3 (hy 4 _ rfl)
      exact ⟨n0, n1, n2, n3, n4, n5, n6, rfl, rfl, rfl, rfl, rfl, rfl, rfl⟩

/-- A list of acts, by its cells. -/
theorem open_acts_list {H : Type} {enc : TypeId × Value → H} {w : World} {base : Nat} {spare : Nat → Bool} {held : Bool} {fuel : Nat} {cs : List Value} {x : DataW H × List MemPlace}
    (h : DataW.trod enc Try.prog w base spare held fuel 23 cs = some x) :
    cs = [.slice none 0 0] ∨ ∃ (bk o : Nat) (sp : Option Addr) (len cap : Nat) (X : Nat → Nat → Int), cs = [.slice sp len cap] ∧ (0 < len → sp = some ⟨bk, o, none⟩) ∧ ∀ i, i < len → ∀ j, j < 7 → w.cell? ⟨bk, o + i * 7 + j, none⟩ = some (.int .i64 (X i j)) := by
  rcases Go.Deep.open_slice Try.underlying23 h with ⟨h0, _⟩ | ⟨a, len, cap, m, n, D, Pl, rfl, _, hl, _, hmm, _, hx⟩
  · exact .inl h0
  have hlm : len ≤ m := by rw [hmm]; split <;> omega
  have each : ∀ i, i < len → ∃ q : Nat → Int, ∀ j, j < 7 → w.cell? (a.add (i * 7 + j)) = some (.int .i64 (q j)) := by
    intro i hi
    obtain ⟨cs', g1, g2⟩ := hx i (by omega)
    rw [Try.cellsAct] at g1
    obtain ⟨_, hlen, hcell⟩ := World.cells?_some g1
    match cs', hlen with
    | [e0, e1, e2, e3, e4, e5, e6], _ =>
      obtain ⟨n0, n1, n2, n3, n4, n5, n6, rfl, rfl, rfl, rfl, rfl, rfl, rfl⟩ := open_act g2
      refine ⟨fun j => [n0, n1, n2, n3, n4, n5, n6].getD j 0, fun j hj => ?_⟩
      have c := hcell j (by simpa using hj)
      rw [Go.Deep.add_add] at c
      rw [c]
      match j, hj with
      | 0, _ => rfl
      | 1, _ => rfl
      | 2, _ => rfl
      | 3, _ => rfl
      | 4, _ => rfl
      | 5, _ => rfl
      | 6, _ => rfl
  obtain ⟨q, hq⟩ := Go.Deep.choose_lt each
  obtain ⟨bk, o, spot⟩ := a
  have hs : 0 < len → (some ⟨bk, o, spot⟩ : Option Addr) = some ⟨bk, o, none⟩ := fun h0 => by
    have hspot : spot = none := by simpa [Addr.add] using World.cell?_spot (hq 0 h0 0 (by omega))
    rw [hspot]
  refine .inr ⟨bk, o, some ⟨bk, o, spot⟩, len, cap, q, rfl, hs, fun i hi j hj => ?_⟩
  have g0 := hq i hi j hj
  have e := hs (by omega)
  simp only [Option.some.injEq, Addr.mk.injEq, true_and] at e
  subst e
  rw [Addr.add_lit, ← Nat.add_assoc] at g0
  exact g0
end Go.Proofs.Ytcjidobdbdfjlaa
