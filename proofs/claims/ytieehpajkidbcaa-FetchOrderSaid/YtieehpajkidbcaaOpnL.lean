/- A list of words that comes in, by its cells. -/
import Derived.Test.YtieehpajkidbcaaOpnW
import Derived.Deep.Slices
namespace Go.Proofs.Ytieehpajkidbcaa
open Go.ChangeShapes Go.WideShapes Go.ChangeAt Go.RowKit

/-- A list of words, by its cells. -/
theorem open_words_list {H : Type} {enc : TypeId × Value → H} {w : World} {base : Nat} {spare : Nat → Bool} {held : Bool} {fuel : Nat} {cs : List Value} {x : DataW H × List MemPlace} (h : DataW.trod enc Try.prog w base spare held fuel 22 cs = some x) :
    cs = [.slice none 0 0] ∨ ∃ (bk o : Nat) (sp : Option Addr) (len cap : Nat) (X : Nat → Nat → Nat), cs = [.slice sp len cap] ∧ (0 < len → sp = some ⟨bk, o, none⟩) ∧
      (∀ i, i < len → X i 0 < 18446744073709551616 ∧ X i 1 < 18446744073709551616 ∧ X i 2 < 18446744073709551616) ∧
      ∀ i, i < len → w.cell? ⟨bk, o + i * 3, none⟩ = some (.int .u64 (X i 0 : Nat)) ∧ w.cell? ⟨bk, o + i * 3 + 1, none⟩ = some (.int .u64 (X i 1 : Nat)) ∧ w.cell? ⟨bk, o + i * 3 + 2, none⟩ = some (.int .u64 (X i 2 : Nat)) := by
  rcases Go.Deep.open_slice Try.underlying22 h with ⟨h0, _⟩ | ⟨a, len, cap, m, n, D, Pl, rfl, _, hl, _, hmm, _, hx⟩
  · exact .inl h0
  have hlm : len ≤ m := by rw [hmm]; split <;> omega
  have each : ∀ i, i < len → ∃ q : Nat × Nat × Nat, w.cell? (a.add (i * 3)) = some (.int .u64 (q.1 : Int)) ∧ w.cell? (a.add (i * 3 + 1)) = some (.int .u64 (q.2.1 : Int)) ∧ w.cell? (a.add (i * 3 + 2)) = some (.int .u64 (q.2.2 : Int)) ∧
      q.1 < 18446744073709551616 ∧ q.2.1 < 18446744073709551616 ∧ q.2.2 < 18446744073709551616 := by
    intro i hi
    obtain ⟨cs', g1, g2⟩ := hx i (by omega)
    rw [Try.cellsWords] at g1
    obtain ⟨_, hlen, hcell⟩ := World.cells?_some g1
    match cs', hlen with
    | [e0, e1, e2], _ =>
      obtain ⟨y0, y1, y2, k, _, t0, t1, t2⟩ := trod_array3 Try.underlying34 Try.cellsUint64 g2
      obtain ⟨n0, rfl, w0⟩ := one_int Try.underlying32 t0
      obtain ⟨n1, rfl, w1⟩ := one_int Try.underlying32 t1
      obtain ⟨n2, rfl, w2⟩ := one_int Try.underlying32 t2
      obtain ⟨m0, rfl⟩ := Int.eq_ofNat_of_zero_le (bounds_u64 w0).1
      obtain ⟨m1, rfl⟩ := Int.eq_ofNat_of_zero_le (bounds_u64 w1).1
      obtain ⟨m2, rfl⟩ := Int.eq_ofNat_of_zero_le (bounds_u64 w2).1
      have b0 := (bounds_u64 w0).2
      have b1 := (bounds_u64 w1).2
      have b2 := (bounds_u64 w2).2
      have c0 := hcell 0 (by omega)
      have c1 := hcell 1 (by omega)
      have c2 := hcell 2 (by omega)
      rw [Go.Deep.add_add] at c0 c1 c2
      exact ⟨(m0, m1, m2), by simpa using c0, by simpa using c1, by simpa using c2, by show m0 < _; omega, by show m1 < _; omega, by show m2 < _; omega⟩
  obtain ⟨q, hq⟩ := Go.Deep.choose_lt each
  obtain ⟨bk, o, spot⟩ := a
  have hs : 0 < len → (some ⟨bk, o, spot⟩ : Option Addr) = some ⟨bk, o, none⟩ := fun h0 => by
    have hspot : spot = none := by simpa [Addr.add] using World.cell?_spot (hq 0 h0).1
    rw [hspot]
  refine .inr ⟨bk, o, some ⟨bk, o, spot⟩, len, cap, fun i j => if j = 0 then (q i).1 else if j = 1 then (q i).2.1 else (q i).2.2, rfl, hs, fun i hi => ?_, fun i hi => ?_⟩
  · obtain ⟨_, _, _, g0, g1, g2⟩ := hq i hi
    exact ⟨g0, g1, g2⟩
  · obtain ⟨g0, g1, g2, _⟩ := hq i hi
    have e := hs (by omega)
    simp only [Option.some.injEq, Addr.mk.injEq, true_and] at e
    subst e
    rw [Addr.add_lit] at g0 g1 g2
    exact ⟨g0, by rw [Nat.add_assoc]; exact g1, by rw [Nat.add_assoc]; exact g2⟩

end Go.Proofs.Ytieehpajkidbcaa
