/- The program's own functions over one field come to what plain numbers are: where there is such a field, and where there is none. -/
import Derived.Test.YteijikcggflaoaaDoorFldA
import Derived.Deep.RegionHeld3
import Derived.Deep.DrawnRows
namespace Go.Proofs.YteijikcggflaoaaDoor
open Go.RowKit
attribute [local go_sem ↓] Go.wp_at_zero Go.wp_at_succ

theorem shl_mask (a b : Nat) (h : a + b ≤ 64) : IntKind.u64.wrap (((Fld.most b : Nat) : Int) * 2 ^ a) = ((Fld.mask a b : Nat) : Int) := by
  have := Fld.mask_lt h
  have e : ((Fld.most b : Nat) : Int) * 2 ^ a = ((Fld.mask a b : Nat) : Int) := by unfold Fld.mask Fld.most; simp
  rw [IntKind.wrap_u64, e]; omega

theorem and_get (x a b : Nat) (hx : x < 18446744073709551616) (h : a + b ≤ 64) : bits .and .u64 (x : Int) ((Fld.mask a b : Nat) : Int) / 2 ^ a = ((Fld.get x a b : Nat) : Int) := by
  rw [u64_and_nat _ _ hx (Fld.mask_lt h), ← Fld.get_code]; simp

theorem or_put (x n a b : Nat) (m : Int) (e : m = ((min n (Fld.most b) : Nat) : Int)) (hx : x < 18446744073709551616) (h : a + b ≤ 64) :
    bits .or .u64 (bits .andNot .u64 (x : Int) ((Fld.mask a b : Nat) : Int)) (IntKind.u64.wrap (m * 2 ^ a)) = ((Fld.put x a b n : Nat) : Int) := by
  have h1 := Fld.shl_lt (n := n) h
  have e2 : ((min n (Fld.most b) : Nat) : Int) * 2 ^ a = ((min n (Fld.most b) * 2 ^ a : Nat) : Int) := by simp
  have h2 : x &&& (18446744073709551615 - Fld.mask a b) < 18446744073709551616 := Nat.lt_of_le_of_lt Nat.and_le_left hx
  rw [e, e2, IntKind.wrap_u64, u64_andNot_nat _ _ hx (Fld.mask_lt h)]
  rw [show ((min n (Fld.most b) * 2 ^ a : Nat) : Int) % 18446744073709551616 = ((min n (Fld.most b) * 2 ^ a : Nat) : Int) by omega]
  rw [u64_or_nat _ _ h2 h1]; rfl

set_option maxHeartbeats 1000000 in
/-- A field's bits, where they stand. -/
theorem mask_yes (a b : Nat) (hb : 1 ≤ b) (h : a + b ≤ 64) (w : World) :
    Calls Tryd.prog 30 #[.agg #[.int .i64 a, .int .i64 b]] w fun e w' => e = .returned (.int .u64 (Fld.mask a b : Nat)) ∧ Below w.heap.size w w' := by
  go_enter Tryd.func30, Tryd.ntmps30
  go_wp2_with (go_at_call 29; refine (may_yes a b hb h _).mono ?_; rintro e w1 ⟨rfl, hb1⟩; obtain ⟨c0, c1, hb2⟩ := kept hb1; clear hb1)
  go_region_held3 (fun w' => w'.cell? ⟨w.heap.size, 0, none⟩ = some (.int .i64 a) ∧ w'.cell? ⟨w.heap.size, 1, none⟩ = some (.int .i64 b) ∧ Below w.heap.size w w')
    (first | assumption | exact ⟨c0, c1, hb2.drew⟩)
    (first | (go_at_call 31; refine (most_yes a b hb h _).mono ?_; rintro e w2 ⟨rfl, hb3⟩; have hk := kept2 (by assumption) hb3; clear hb3))
  go_wp2
  go_ret
  exact ⟨ret_u64 (shl_mask a b h), hk.2.2⟩

set_option maxHeartbeats 1000000 in
/-- .. none, where there is no such field. -/
theorem mask_no (a b : Int) (hn : ¬ (0 ≤ a ∧ 1 ≤ b ∧ a + b ≤ 64)) (ha : -9223372036854775808 ≤ a ∧ a ≤ 9223372036854775807) (hb : -9223372036854775808 ≤ b ∧ b ≤ 9223372036854775807) (w : World) :
    Calls Tryd.prog 30 #[.agg #[.int .i64 a, .int .i64 b]] w fun e w' => e = .returned (.int .u64 0) ∧ Below w.heap.size w w' := by
  have H := Lib.hid hn
  have HA := Lib.hid ha
  have HB := Lib.hid hb
  clear hn ha hb
  go_enter Tryd.func30, Tryd.ntmps30
  go_wp2_with (go_at_call 29; refine (may_no a b H.out HA.out HB.out _).mono ?_; rintro e w1 ⟨rfl, hb1⟩; obtain ⟨c0, c1, hb2⟩ := kept hb1; clear hb1)
  go_ret
  exact ⟨rfl, hb2⟩

set_option maxHeartbeats 1000000 in
/-- Get: the field's number. -/
theorem get_yes (x a b : Nat) (hx : x < 18446744073709551616) (hb : 1 ≤ b) (h : a + b ≤ 64) (w : World) :
    Calls Tryd.prog 27 #[.agg #[.int .i64 a, .int .i64 b], .int .u64 x] w fun e w' => e = .returned (.int .u64 (Fld.get x a b : Nat)) ∧ Below w.heap.size w w' := by
  go_enter Tryd.func27, Tryd.ntmps27
  go_wp2_with (go_at_call 29; refine (may_yes a b hb h _).mono ?_; rintro e w1 ⟨rfl, hb1⟩; obtain ⟨c0, c1, hb2⟩ := kept hb1; clear hb1)
  go_region_held3 (fun w' => w'.cell? ⟨w.heap.size, 0, none⟩ = some (.int .i64 a) ∧ w'.cell? ⟨w.heap.size, 1, none⟩ = some (.int .i64 b) ∧ Below w.heap.size w w')
    (first | assumption | exact ⟨c0, c1, hb2.drew⟩)
    (first | (go_at_call 30; refine (mask_yes a b hb h _).mono ?_; rintro e w2 ⟨rfl, hb3⟩; have hk := kept2 (by assumption) hb3; clear hb3))
  go_wp2
  go_ret
  exact ⟨ret_u64 (and_get x a b hx h), hk.2.2⟩

set_option maxHeartbeats 1000000 in
/-- .. 0, where there is no such field. -/
theorem get_no (x : Int) (a b : Int) (hn : ¬ (0 ≤ a ∧ 1 ≤ b ∧ a + b ≤ 64)) (ha : -9223372036854775808 ≤ a ∧ a ≤ 9223372036854775807) (hb : -9223372036854775808 ≤ b ∧ b ≤ 9223372036854775807) (w : World) :
    Calls Tryd.prog 27 #[.agg #[.int .i64 a, .int .i64 b], .int .u64 x] w fun e w' => e = .returned (.int .u64 0) ∧ Below w.heap.size w w' := by
  have H := Lib.hid hn
  have HA := Lib.hid ha
  have HB := Lib.hid hb
  clear hn ha hb
  go_enter Tryd.func27, Tryd.ntmps27
  go_wp2_with (go_at_call 29; refine (may_no a b H.out HA.out HB.out _).mono ?_; rintro e w1 ⟨rfl, hb1⟩; obtain ⟨c0, c1, hb2⟩ := kept hb1; clear hb1)
  go_ret
  exact ⟨rfl, hb2⟩



set_option maxHeartbeats 2000000 in
/-- Put: the word with the number in the field. -/
theorem put_yes (x n a b : Nat) (hx : x < 18446744073709551616) (_hn : n < 18446744073709551616) (hb : 1 ≤ b) (hab : a + b ≤ 64) (w : World) :
    Calls Tryd.prog 24 #[.agg #[.int .i64 a, .int .i64 b], .int .u64 x, .int .u64 n] w fun e w' => e = .returned (.int .u64 (Fld.put x a b n : Nat)) ∧ Below w.heap.size w w' := by
  go_enter Tryd.func24, Tryd.ntmps24
  go_wp2_with (go_at_call 29; refine (may_yes a b hb hab _).mono ?_; rintro e w1 ⟨rfl, hb1⟩; obtain ⟨c0, c1, hb2⟩ := kept hb1; clear hb1)
  go_region_held3 (fun w' => w'.cell? ⟨w.heap.size, 0, none⟩ = some (.int .i64 a) ∧ w'.cell? ⟨w.heap.size, 1, none⟩ = some (.int .i64 b) ∧ Below w.heap.size w w')
    (first | assumption | exact ⟨c0, c1, hb2.drew⟩)
    (first | (go_at_call 30; refine (mask_yes a b hb hab _).mono ?_; rintro e w2 ⟨rfl, hb3⟩; have hk := kept2 (by assumption) hb3; clear hb3) | (go_at_call 31; refine (most_yes a b hb hab _).mono ?_; rintro e w2 ⟨rfl, hb3⟩; have hk := kept2 (by assumption) hb3; clear hb3))
  go_wp2
  all_goals (go_ret; exact ⟨ret_u64 (or_put x n a b _ (by omega) hx hab), hk.2.2⟩)

set_option maxHeartbeats 1000000 in
/-- .. the word as it was, where there is no such field. -/
theorem put_no (x n : Int) (a b : Int) (hn : ¬ (0 ≤ a ∧ 1 ≤ b ∧ a + b ≤ 64)) (ha : -9223372036854775808 ≤ a ∧ a ≤ 9223372036854775807) (hb : -9223372036854775808 ≤ b ∧ b ≤ 9223372036854775807) (w : World) :
    Calls Tryd.prog 24 #[.agg #[.int .i64 a, .int .i64 b], .int .u64 x, .int .u64 n] w fun e w' => e = .returned (.int .u64 x) ∧ Below w.heap.size w w' := by
  have H := Lib.hid hn
  have HA := Lib.hid ha
  have HB := Lib.hid hb
  clear hn ha hb
  go_enter Tryd.func24, Tryd.ntmps24
  go_wp2_with (go_at_call 29; refine (may_no a b H.out HA.out HB.out _).mono ?_; rintro e w1 ⟨rfl, hb1⟩; obtain ⟨c0, c1, hb2⟩ := kept hb1; clear hb1)
  go_ret
  exact ⟨rfl, hb2⟩

end Go.Proofs.YteijikcggflaoaaDoor
