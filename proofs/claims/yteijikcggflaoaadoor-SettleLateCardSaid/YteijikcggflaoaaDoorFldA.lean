/- What the program's small calls over one field come to, called with numbers in their bounds: whether there is a field, its greatest number. -/
import Derived.Test.YteijikcggflaoaaDoorBox
import Derived.Test.YteijikcggflaoaaDoorMath
import Derived.WalkKit
import Derived.WalkSpells
import Derived.WalkLawsBesides
import Derived.Lib.Hide
import Derived.Below
namespace Go.Proofs.YteijikcggflaoaaDoor
open Go.RowKit

/-- The program's May: there is such a field. -/
theorem may_yes (a b : Nat) (hb : 1 ≤ b) (h : a + b ≤ 64) (w : World) :
    Calls Tryd.prog 29 #[.agg #[.int .i64 a, .int .i64 b]] w fun e w' => e = .returned (.bool true) ∧ Below w.heap.size w w' := by
  go_enter Tryd.func29, Tryd.ntmps29
  go_wp2
  go_ret
  exact ⟨ret_bool (by simp; omega), below_box _ _⟩

/-- .. and there is none. -/
theorem may_no (a b : Int) (hn : ¬ (0 ≤ a ∧ 1 ≤ b ∧ a + b ≤ 64)) (ha : -9223372036854775808 ≤ a ∧ a ≤ 9223372036854775807) (hb : -9223372036854775808 ≤ b ∧ b ≤ 9223372036854775807) (w : World) :
    Calls Tryd.prog 29 #[.agg #[.int .i64 a, .int .i64 b]] w fun e w' => e = .returned (.bool false) ∧ Below w.heap.size w w' := by
  obtain ⟨ha1, ha2⟩ := ha
  obtain ⟨hb1, hb2⟩ := hb
  by_cases h0 : 0 ≤ a
  · by_cases h2 : 1 ≤ b
    · have h3 : 64 - b < a := by omega
      clear hn
      go_enter Tryd.func29, Tryd.ntmps29
      go_wp2
      go_ret
      exact ⟨ret_bool (by simp; omega), below_box _ _⟩
    · clear hn
      go_enter Tryd.func29, Tryd.ntmps29
      go_wp2
      go_ret
      exact ⟨ret_bool (by simp), below_box _ _⟩
  · clear hn
    go_enter Tryd.func29, Tryd.ntmps29
    go_wp2
    go_ret
    exact ⟨ret_bool (by simp), below_box _ _⟩

/-- The program's Most, where there is such a field. -/
theorem most_yes (a b : Nat) (hb : 1 ≤ b) (h : a + b ≤ 64) (w : World) :
    Calls Tryd.prog 31 #[.agg #[.int .i64 a, .int .i64 b]] w fun e w' => e = .returned (.int .u64 (Fld.most b : Nat)) ∧ Below w.heap.size w w' := by
  go_enter Tryd.func31, Tryd.ntmps31
  go_wp2_with (go_at_call 29; refine (may_yes a b hb h _).mono ?_; rintro e w1 ⟨rfl, hb1⟩; obtain ⟨c0, c1, hb2⟩ := kept hb1; clear hb1)
  go_ret
  exact ⟨ret_u64 (by simpa using Fld.int_most (b := b) (by omega)), hb2⟩

/-- .. and where there is none. -/
theorem most_no (a b : Int) (hn : ¬ (0 ≤ a ∧ 1 ≤ b ∧ a + b ≤ 64)) (ha : -9223372036854775808 ≤ a ∧ a ≤ 9223372036854775807) (hb : -9223372036854775808 ≤ b ∧ b ≤ 9223372036854775807) (w : World) :
    Calls Tryd.prog 31 #[.agg #[.int .i64 a, .int .i64 b]] w fun e w' => e = .returned (.int .u64 0) ∧ Below w.heap.size w w' := by
  have H := Lib.hid hn
  have HA := Lib.hid ha
  have HB := Lib.hid hb
  clear hn ha hb
  go_enter Tryd.func31, Tryd.ntmps31
  go_wp2_with (go_at_call 29; refine (may_no a b H.out HA.out HB.out _).mono ?_; rintro e w1 ⟨rfl, hb1⟩; obtain ⟨c0, c1, hb2⟩ := kept hb1; clear hb1)
  go_ret
  exact ⟨rfl, hb2⟩

end Go.Proofs.YteijikcggflaoaaDoor
