/- Lists of numbers, and of pairs of numbers, that come in, by their cells. -/
import Derived.Test.YtcjidobdbdfjlaaOpnS
import Derived.Deep.Slices
import Derived.Deep.SlicePairs
namespace Go.Proofs.Ytcjidobdbdfjlaa
open Go.ChangeShapes Go.WideShapes Go.ChangeAt Go.RowKit

theorem Try.cellsIntP : Try.prog.cellsOf 3 = 1 := by kernel_rfl

/-- A list of numbers, by its cells. -/
theorem open_ints_list {t : TypeId} {H : Type} {enc : TypeId × Value → H} {w : World} {base : Nat} {spare : Nat → Bool} {held : Bool} {fuel : Nat} {cs : List Value} {x : DataW H × List MemPlace} (ht : Try.prog.underlying t = some (.slice 3))
    (h : DataW.trod enc Try.prog w base spare held fuel t cs = some x) :
    cs = [.slice none 0 0] ∨ ∃ (bk o : Nat) (sp : Option Addr) (len cap : Nat) (Y : Nat → Int), cs = [.slice sp len cap] ∧ (0 < len → sp = some ⟨bk, o, none⟩) ∧
      ∀ i, i < len → w.cell? ⟨bk, o + i, none⟩ = some (.int .i64 (Y i)) ∧ -9223372036854775808 ≤ Y i ∧ Y i ≤ 9223372036854775807 := by
  rcases Go.Deep.open_slice ht h with ⟨h0, _⟩ | ⟨a, len, cap, m, n, D, Pl, rfl, _, hl, _, hmm, _, hx⟩
  · exact .inl h0
  have hlm : len ≤ m := by rw [hmm]; split <;> omega
  have each : ∀ i, i < len → ∃ q : Int, w.cell? (a.add (i * 1)) = some (.int .i64 q) ∧ -9223372036854775808 ≤ q ∧ q ≤ 9223372036854775807 := by
    intro i hi
    obtain ⟨cs', g1, g2⟩ := hx i (by omega)
    rw [Try.cellsIntP] at g1
    obtain ⟨_, hlen, hcell⟩ := World.cells?_some g1
    match cs', hlen with
    | [e0], _ =>
      obtain ⟨n0, rfl, wn⟩ := one_int Try.underlying3 g2
      have c0 := hcell 0 (by omega)
      rw [Go.Deep.add_add] at c0
      exact ⟨n0, by simpa using c0, bounds_i64 wn⟩
  obtain ⟨q, hq⟩ := Go.Deep.choose_lt each
  obtain ⟨bk, o, spot⟩ := a
  have hs : 0 < len → (some ⟨bk, o, spot⟩ : Option Addr) = some ⟨bk, o, none⟩ := fun h0 => by
    have hspot : spot = none := by simpa [Addr.add] using World.cell?_spot (hq 0 h0).1
    rw [hspot]
  refine .inr ⟨bk, o, some ⟨bk, o, spot⟩, len, cap, q, rfl, hs, fun i hi => ?_⟩
  have g0 := hq i hi
  have e := hs (by omega)
  simp only [Option.some.injEq, Addr.mk.injEq, true_and] at e
  subst e
  rw [Addr.add_lit, Nat.mul_one] at g0
  exact g0

/-- A list of pairs of numbers, by its cells. -/
theorem open_pairs_list {t e : TypeId} {f0 f1 : Field} {H : Type} {enc : TypeId × Value → H} {w : World} {base : Nat} {spare : Nat → Bool} {held : Bool} {fuel : Nat} {cs : List Value} {x : DataW H × List MemPlace} (ht : Try.prog.underlying t = some (.slice e))
    (he : Try.prog.underlying e = some (.struct #[f0, f1])) (ce : Try.prog.cellsOf e = 2) (o0 : f0.offset = 0) (o1 : f1.offset = 1) (t0 : f0.type = 3) (t1 : f1.type = 3)
    (h : DataW.trod enc Try.prog w base spare held fuel t cs = some x) :
    cs = [.slice none 0 0] ∨ ∃ (bk o : Nat) (sp : Option Addr) (len cap : Nat) (A X : Nat → Int), cs = [.slice sp len cap] ∧ (0 < len → sp = some ⟨bk, o, none⟩) ∧
      (∀ i, i < len → w.cell? ⟨bk, o + i * 2, none⟩ = some (.int .i64 (A i)) ∧ w.cell? ⟨bk, o + i * 2 + 1, none⟩ = some (.int .i64 (X i))) ∧
      ∀ i, i < len → (-9223372036854775808 ≤ A i ∧ A i ≤ 9223372036854775807) ∧ -9223372036854775808 ≤ X i ∧ X i ≤ 9223372036854775807 := by
  rcases Go.Deep.open_slice_pairs ht he ce o0 o1 (by rw [t0]; exact Try.cellsIntP) (by rw [t1]; exact Try.cellsIntP) h with ⟨hcs, _⟩ | ⟨a, len, cap, m, k, V0, V1, D0, D1, P0, P1, rfl, _, hl, hm, hmm, _, hi⟩
  · exact .inl hcs
  have hlm : len ≤ m := by rw [hmm]; split <;> omega
  have each : ∀ i, i < len → ∃ y : Int × Int, w.cell? (a.add (i * 2)) = some (.int .i64 y.1) ∧ w.cell? (a.add (i * 2 + 1)) = some (.int .i64 y.2) ∧ (-9223372036854775808 ≤ y.1 ∧ y.1 ≤ 9223372036854775807) ∧ -9223372036854775808 ≤ y.2 ∧ y.2 ≤ 9223372036854775807 := fun i hil => by
    obtain ⟨g0, g1, k0, k1⟩ := hi i (by omega)
    rw [t0] at k0
    rw [t1] at k1
    obtain ⟨y, e0, wy⟩ := one_int Try.underlying3 k0
    obtain ⟨z, e1, wz⟩ := one_int Try.underlying3 k1
    rw [e0] at g0
    rw [e1] at g1
    exact ⟨(y, z), g0, g1, bounds_i64 wy, bounds_i64 wz⟩
  obtain ⟨F, hF⟩ := Go.Deep.choose_lt each
  obtain ⟨bk, o, spot⟩ := a
  have hs : 0 < len → (some ⟨bk, o, spot⟩ : Option Addr) = some ⟨bk, o, none⟩ := fun h0 => by
    have hspot : spot = none := by simpa [Addr.add] using World.cell?_spot (hF 0 h0).1
    rw [hspot]
  have key : ∀ i, i < len → w.cell? ⟨bk, o + i * 2, none⟩ = some (.int .i64 (F i).1) ∧ w.cell? ⟨bk, o + i * 2 + 1, none⟩ = some (.int .i64 (F i).2) := fun i hi => by
    have g0 := hF i hi
    have e := hs (by omega)
    simp only [Option.some.injEq, Addr.mk.injEq, true_and] at e
    subst e
    rw [Addr.add_lit, Addr.add_lit] at g0
    exact ⟨g0.1, by rw [Nat.add_assoc]; exact g0.2.1⟩
  exact .inr ⟨bk, o, some ⟨bk, o, spot⟩, len, cap, fun i => (F i).1, fun i => (F i).2, rfl, hs, key, fun i hi => (hF i hi).2.2⟩

end Go.Proofs.Ytcjidobdbdfjlaa
