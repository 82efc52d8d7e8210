/- What the program's small calls over one field come to, called with numbers in their bounds: whether there is a field, its greatest number. -/
import Derived.Test.YtcpgigmnmlmpjaaDoorRows
import Derived.Test.YtcpgigmnmlmpjaaDoorMath
import Derived.WalkKit
import Derived.WalkSpells
import Derived.WalkLawsBesides
import Derived.Lib.Hide
import Derived.Below
namespace Go.Proofs.YtcpgigmnmlmpjaaDoor
open Go.RowKit

theorem ret_u64 {a b : Int} (h : a = b) : Ending.returned (.int .u64 a) = .returned (.int .u64 b) := by rw [h]
theorem ret_bool {a b : Bool} (h : a = b) : Ending.returned (.bool a) = .returned (.bool b) := by rw [h]
theorem below_box (w : World) (o : Obj) : Below w.heap.size w (w.alloc o) := (Below.refl _ _).alloc (Nat.le_refl _) _

/-- Behind a call of one who lays his own blocks alone: the two cells of the box that was laid ahead of it hold what they held; what was there when all began is as it was. -/
theorem kept {w w1 : World} {x y : Value} {t : TypeId} (h : Below (w.alloc (.cells #[x, y] t)).heap.size (w.alloc (.cells #[x, y] t)) w1) :
    w1.cell? ⟨w.heap.size, 0, none⟩ = some x ∧ w1.cell? ⟨w.heap.size, 1, none⟩ = some y ∧ Below w.heap.size w w1 := by
  refine ⟨?_, ?_, (below_box w _).trans (h.mono (by simp))⟩
  · rw [h.cell (by simp)]; exact cell_two_new w x y t 0 x rfl
  · rw [h.cell (by simp)]; exact cell_two_new w x y t 1 y rfl

theorem cell_block {w : World} {b o : Nat} {v : Value} (h : w.cell? ⟨b, o, none⟩ = some v) : b < w.heap.size := by
  by_cases hb : b < w.heap.size
  · exact hb
  · have : w.heap[b]? = none := Array.getElem?_eq_none (by omega)
    simp [World.cell?, this] at h

/-- .. and behind a second one. -/
theorem kept2 {w w1 w2 : World} {b : Nat} {x y : Value} (hc : w1.cell? ⟨b, 0, none⟩ = some x ∧ w1.cell? ⟨b, 1, none⟩ = some y ∧ Below w.heap.size w w1) (h : Below w1.heap.size w1 w2) :
    w2.cell? ⟨b, 0, none⟩ = some x ∧ w2.cell? ⟨b, 1, none⟩ = some y ∧ Below w.heap.size w w2 := by
  obtain ⟨h0, h1, h2⟩ := hc
  have hb := cell_block h0
  exact ⟨(h.cell hb).trans h0, (h.cell hb).trans h1, h2.trans (h.mono h2.size)⟩

/-- The program's May: there is such a field. -/
theorem may_yes (a b : Nat) (hb : 1 ≤ b) (h : a + b ≤ 64) (w : World) :
    Calls Tryd.prog 25 #[.agg #[.int .i64 a, .int .i64 b]] w fun e w' => e = .returned (.bool true) ∧ Below w.heap.size w w' := by
  go_enter Tryd.func25, Tryd.ntmps25
  go_wp2
  go_ret
  exact ⟨ret_bool (by simp; omega), below_box _ _⟩

/-- .. and there is none. -/
theorem may_no (a b : Int) (hn : ¬ (0 ≤ a ∧ 1 ≤ b ∧ a + b ≤ 64)) (ha : -9223372036854775808 ≤ a ∧ a ≤ 9223372036854775807) (hb : -9223372036854775808 ≤ b ∧ b ≤ 9223372036854775807) (w : World) :
    Calls Tryd.prog 25 #[.agg #[.int .i64 a, .int .i64 b]] w fun e w' => e = .returned (.bool false) ∧ Below w.heap.size w w' := by
  obtain ⟨ha1, ha2⟩ := ha
  obtain ⟨hb1, hb2⟩ := hb
  by_cases h0 : 0 ≤ a
  · by_cases h2 : 1 ≤ b
    · have h3 : 64 - b < a := by omega
      clear hn
      go_enter Tryd.func25, Tryd.ntmps25
      go_wp2
      go_ret
      exact ⟨ret_bool (by simp; omega), below_box _ _⟩
    · clear hn
      go_enter Tryd.func25, Tryd.ntmps25
      go_wp2
      go_ret
      exact ⟨ret_bool (by simp), below_box _ _⟩
  · clear hn
    go_enter Tryd.func25, Tryd.ntmps25
    go_wp2
    go_ret
    exact ⟨ret_bool (by simp), below_box _ _⟩

/-- The program's Most, where there is such a field. -/
theorem most_yes (a b : Nat) (hb : 1 ≤ b) (h : a + b ≤ 64) (w : World) :
    Calls Tryd.prog 27 #[.agg #[.int .i64 a, .int .i64 b]] w fun e w' => e = .returned (.int .u64 (Fld.most b : Nat)) ∧ Below w.heap.size w w' := by
  go_enter Tryd.func27, Tryd.ntmps27
  go_wp2_with (go_at_call 25; refine (may_yes a b hb h _).mono ?_; rintro e w1 ⟨rfl, hb1⟩; obtain ⟨c0, c1, hb2⟩ := kept hb1; clear hb1)
  go_ret
  exact ⟨ret_u64 (by simpa using Fld.int_most (b := b) (by omega)), hb2⟩

/-- .. and where there is none. -/
theorem most_no (a b : Int) (hn : ¬ (0 ≤ a ∧ 1 ≤ b ∧ a + b ≤ 64)) (ha : -9223372036854775808 ≤ a ∧ a ≤ 9223372036854775807) (hb : -9223372036854775808 ≤ b ∧ b ≤ 9223372036854775807) (w : World) :
    Calls Tryd.prog 27 #[.agg #[.int .i64 a, .int .i64 b]] w fun e w' => e = .returned (.int .u64 0) ∧ Below w.heap.size w w' := by
  have H := Lib.hid hn
  have HA := Lib.hid ha
  have HB := Lib.hid hb
  clear hn ha hb
  go_enter Tryd.func27, Tryd.ntmps27
  go_wp2_with (go_at_call 25; refine (may_no a b H.out HA.out HB.out _).mono ?_; rintro e w1 ⟨rfl, hb1⟩; obtain ⟨c0, c1, hb2⟩ := kept hb1; clear hb1)
  go_ret
  exact ⟨rfl, hb2⟩

end Go.Proofs.YtcpgigmnmlmpjaaDoor
