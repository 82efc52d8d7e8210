/- The law on one field: with every word, every number and every field it returns true, and leaves what was there as it was. -/
import Derived.Test.YtpjgeielcoemaaaWalkB
import Derived.Test.YtpjgeielcoemaaaWalkC
namespace Go.Proofs.Ytpjgeielcoemaaa
open Go.RowKit
attribute [local go_sem ↓] Go.wp_at_zero Go.wp_at_succ

theorem aw_get (w : World) : Calls Try.prog 7 #[.agg #[.int .i64 4, .int .i64 4], .int .u64 240] w fun e w' => e = .returned (.int .u64 15) ∧ Below w.heap.size w w' :=
  get_yes 240 4 4 (by omega) (by omega) (by omega) w
theorem aw_put (w : World) : Calls Try.prog 9 #[.agg #[.int .i64 4, .int .i64 4], .int .u64 0, .int .u64 3] w fun e w' => e = .returned (.int .u64 48) ∧ Below w.heap.size w w' :=
  put_yes 0 3 4 4 (by omega) (by omega) (by omega) (by omega) w
theorem aw_most (w : World) : Calls Try.prog 12 #[.agg #[.int .i64 4, .int .i64 4]] w fun e w' => e = .returned (.int .u64 15) ∧ Below w.heap.size w w' :=
  most_yes 4 4 (by omega) (by omega) w
theorem aw_may (w : World) : Calls Try.prog 6 #[.agg #[.int .i64 4, .int .i64 4]] w fun e w' => e = .returned (.bool true) ∧ Below w.heap.size w w' :=
  may_yes 4 4 (by omega) (by omega) w

set_option maxHeartbeats 1000000 in
/-- The four bits that the law asks for each time. -/
theorem awake_any (w : World) : Calls Try.prog 11 #[] w fun e w' => e = .returned (.bool true) ∧ Below w.heap.size w w' := by
  go_enter Try.func11, Try.ntmps11
  go_wp2_with fail
  refine (aw_get _).mono ?_
  rintro e w1 ⟨rfl, hb1⟩
  have hk := kept hb1
  clear hb1
  go_wp2_with fail
  refine (aw_put _).mono ?_
  rintro e w2 ⟨rfl, hb2⟩
  have hk2 := kept2 hk hb2
  clear hb2 hk
  go_wp2_with fail
  refine (aw_most _).mono ?_
  rintro e w3 ⟨rfl, hb3⟩
  have hk3 := kept2 hk2 hb3
  clear hb3 hk2
  go_wp2_with fail
  refine (aw_may _).mono ?_
  rintro e w4 ⟨rfl, hb4⟩
  have hk4 := kept2 hk3 hb4
  clear hb4 hk3
  go_wp2_with fail
  go_ret
  exact ⟨rfl, hk4.2.2⟩

/-- The number that was put is read again: cut, where it is too great .. -/
theorem again_big (x n a b : Nat) (hx : x < 18446744073709551616) (hb : 1 ≤ b) (h : a + b ≤ 64) (hc : Fld.most b < n) (w : World) :
    Calls Try.prog 7 #[.agg #[.int .i64 a, .int .i64 b], .int .u64 (Fld.put x a b n : Nat)] w fun e w' => e = .returned (.int .u64 (Fld.most b : Nat)) ∧ Below w.heap.size w w' := by
  have := get_yes (Fld.put x a b n) a b (Fld.put_lt h hx) hb h w
  rw [Fld.get_put h hx, Nat.min_eq_right (by omega)] at this; exact this
/-- .. as it is, where it fits. -/
theorem again_fit (x n a b : Nat) (hx : x < 18446744073709551616) (hb : 1 ≤ b) (h : a + b ≤ 64) (hc : ¬ Fld.most b < n) (w : World) :
    Calls Try.prog 7 #[.agg #[.int .i64 a, .int .i64 b], .int .u64 (Fld.put x a b n : Nat)] w fun e w' => e = .returned (.int .u64 (n : Nat)) ∧ Below w.heap.size w w' := by
  have := get_yes (Fld.put x a b n) a b (Fld.put_lt h hx) hb h w
  rw [Fld.get_put h hx, Nat.min_eq_left (by omega)] at this; exact this
theorem fits_big (n a b : Nat) (hb : 1 ≤ b) (h : a + b ≤ 64) (hc : Fld.most b < n) (w : World) :
    Calls Try.prog 13 #[.agg #[.int .i64 a, .int .i64 b], .int .u64 n] w fun e w' => e = .returned (.bool false) ∧ Below w.heap.size w w' := by
  have := fits_yes n a b hb h w
  rw [decide_eq_false (by omega)] at this; exact this
theorem fits_fit (n a b : Nat) (hb : 1 ≤ b) (h : a + b ≤ 64) (hc : ¬ Fld.most b < n) (w : World) :
    Calls Try.prog 13 #[.agg #[.int .i64 a, .int .i64 b], .int .u64 n] w fun e w' => e = .returned (.bool true) ∧ Below w.heap.size w w' := by
  have := fits_yes n a b hb h w
  rw [decide_eq_true (by omega)] at this; exact this

set_option maxHeartbeats 4000000 in
/-- The law, where there is such a field. -/
theorem law_yes (x n a b : Nat) (hx : x < 18446744073709551616) (hn : n < 18446744073709551616) (hb : 1 ≤ b) (hab : a + b ≤ 64) (w : World) :
    Calls Try.prog 3 #[.int .u64 x, .int .u64 n, .agg #[.int .i64 a, .int .i64 b]] w fun e w' => e = .returned (.bool true) ∧ Below w.heap.size w w' := by
  have hb0 := below_box w (.cells #[.int .i64 a, .int .i64 b] 24)
  go_enter Try.func3, Try.ntmps3
  go_wp2_with fail
  refine (rmay_yes a b hb hab _).mono ?_
  rintro e w1 ⟨rfl, rfl⟩
  go_wp2_with fail
  go_region_held3 (fun w' => w'.cell? ⟨w.heap.size, 0, none⟩ = some (.int .i64 a) ∧ w'.cell? ⟨w.heap.size, 1, none⟩ = some (.int .i64 b) ∧ Below w.heap.size w w')
    (first | assumption | exact ⟨by simp, by simp, hb0.drew⟩)
    (first | (go_at_call 6; refine (may_yes a b hb hab _).mono ?_; rintro e w2 ⟨rfl, hb3⟩; have hk := kept2 (by assumption) hb3; clear hb3) | (go_at_call 7; refine (get_yes x a b hx hb hab _).mono ?_; rintro e w2 ⟨rfl, hb3⟩; have hk := kept2 (by assumption) hb3; clear hb3) | (go_at_call 8; refine (rget_yes x a b hx hb hab _).mono ?_; rintro e w2 ⟨rfl, rfl⟩) | (go_at_call 9; refine (put_yes x n a b hx hn hb hab _).mono ?_; rintro e w2 ⟨rfl, hb3⟩; have hk := kept2 (by assumption) hb3; clear hb3) | (go_at_call 10; refine (rput_yes x n a b hx hn hb hab _).mono ?_; rintro e w2 ⟨rfl, rfl⟩))
  have hs := hk
  obtain ⟨c0, c1, hb2⟩ := hs
  go_wp2_with fail
  refine (rmost_any b (by omega) _).mono ?_
  rintro e w3 ⟨rfl, rfl⟩
  go_wp2_with fail
  by_cases hc : Fld.most b < n
  · have hd : decide (n ≤ Fld.most b) = false := decide_eq_false (by omega)
    go_region_held3 (fun w' => w'.cell? ⟨w.heap.size, 0, none⟩ = some (.int .i64 a) ∧ w'.cell? ⟨w.heap.size, 1, none⟩ = some (.int .i64 b) ∧ Below w.heap.size w w')
      (first | assumption | exact ⟨c0, c1, hb2.drew⟩)
      (first | (go_at_call 11; refine (awake_any _).mono ?_; rintro e w2 ⟨rfl, hb3⟩; have hk := kept2 (by assumption) hb3; clear hb3) | (go_at_call 12; refine (most_yes a b hb hab _).mono ?_; rintro e w2 ⟨rfl, hb3⟩; have hk := kept2 (by assumption) hb3; clear hb3) | (go_at_call 13; refine (fits_big n a b hb hab hc _).mono ?_; rintro e w2 ⟨rfl, hb3⟩; have hk := kept2 (by assumption) hb3; clear hb3) | (go_at_call 9; refine (put_yes x n a b hx hn hb hab _).mono ?_; rintro e w2 ⟨rfl, hb3⟩; have hk := kept2 (by assumption) hb3; clear hb3) | (go_at_call 7; refine (again_big x n a b hx hb hab hc _).mono ?_; rintro e w2 ⟨rfl, hb3⟩; have hk := kept2 (by assumption) hb3; clear hb3))
    all_goals (go_wp2_with fail; go_ret; exact ⟨rfl, hk.2.2⟩)
  · have hd : decide (n ≤ Fld.most b) = true := decide_eq_true (by omega)
    go_region_held3 (fun w' => w'.cell? ⟨w.heap.size, 0, none⟩ = some (.int .i64 a) ∧ w'.cell? ⟨w.heap.size, 1, none⟩ = some (.int .i64 b) ∧ Below w.heap.size w w')
      (first | assumption | exact ⟨c0, c1, hb2.drew⟩)
      (first | (go_at_call 11; refine (awake_any _).mono ?_; rintro e w2 ⟨rfl, hb3⟩; have hk := kept2 (by assumption) hb3; clear hb3) | (go_at_call 12; refine (most_yes a b hb hab _).mono ?_; rintro e w2 ⟨rfl, hb3⟩; have hk := kept2 (by assumption) hb3; clear hb3) | (go_at_call 13; refine (fits_fit n a b hb hab hc _).mono ?_; rintro e w2 ⟨rfl, hb3⟩; have hk := kept2 (by assumption) hb3; clear hb3) | (go_at_call 9; refine (put_yes x n a b hx hn hb hab _).mono ?_; rintro e w2 ⟨rfl, hb3⟩; have hk := kept2 (by assumption) hb3; clear hb3) | (go_at_call 7; refine (again_fit x n a b hx hb hab hc _).mono ?_; rintro e w2 ⟨rfl, hb3⟩; have hk := kept2 (by assumption) hb3; clear hb3))
    all_goals (go_wp2_with fail; go_ret; exact ⟨rfl, hk.2.2⟩)


set_option maxHeartbeats 4000000 in
/-- The law, where there is no such field. -/
theorem law_no (x n : Int) (a b : Int) (hn : ¬ (0 ≤ a ∧ 1 ≤ b ∧ a + b ≤ 64)) (ha : -9223372036854775808 ≤ a ∧ a ≤ 9223372036854775807) (hb : -9223372036854775808 ≤ b ∧ b ≤ 9223372036854775807) (w : World) :
    Calls Try.prog 3 #[.int .u64 x, .int .u64 n, .agg #[.int .i64 a, .int .i64 b]] w fun e w' => e = .returned (.bool true) ∧ Below w.heap.size w w' := by
  have H := Lib.hid hn
  have HA := Lib.hid ha
  have HB := Lib.hid hb
  clear hn ha hb
  have hb0 := below_box w (.cells #[.int .i64 a, .int .i64 b] 24)
  go_enter Try.func3, Try.ntmps3
  go_wp2_with fail
  refine (rmay_no a b H.out HA.out HB.out _).mono ?_
  rintro e w1 ⟨rfl, rfl⟩
  go_wp2_with fail
  go_region_held3 (fun w' => w'.cell? ⟨w.heap.size, 0, none⟩ = some (.int .i64 a) ∧ w'.cell? ⟨w.heap.size, 1, none⟩ = some (.int .i64 b) ∧ Below w.heap.size w w')
    (first | assumption | exact ⟨by simp, by simp, hb0.drew⟩)
    (first | (go_at_call 6; refine (may_no a b H.out HA.out HB.out _).mono ?_; rintro e w2 ⟨rfl, hb3⟩; have hk := kept2 (by assumption) hb3; clear hb3) | (go_at_call 7; refine (get_no x a b H.out HA.out HB.out _).mono ?_; rintro e w2 ⟨rfl, hb3⟩; have hk := kept2 (by assumption) hb3; clear hb3) | (go_at_call 8; refine (rget_no x a b H.out HA.out HB.out _).mono ?_; rintro e w2 ⟨rfl, rfl⟩) | (go_at_call 9; refine (put_no x n a b H.out HA.out HB.out _).mono ?_; rintro e w2 ⟨rfl, hb3⟩; have hk := kept2 (by assumption) hb3; clear hb3) | (go_at_call 10; refine (rput_no x n a b H.out HA.out HB.out _).mono ?_; rintro e w2 ⟨rfl, rfl⟩))
  have hs := hk
  obtain ⟨c0, c1, hb2⟩ := hs
  go_wp2_with fail
  refine (awake_any _).mono ?_
  rintro e w4 ⟨rfl, hb4⟩
  have hk4 := kept2 hk hb4
  have hs := hk4
  obtain ⟨d0, d1, hb5⟩ := hs
  clear c0 c1 hb2 hb4
  go_wp2_with fail
  refine (most_no a b H.out HA.out HB.out _).mono ?_
  rintro e w5 ⟨rfl, hb6⟩
  have hk5 := kept2 hk4 hb6
  have hs := hk5
  obtain ⟨e0, e1, hb7⟩ := hs
  clear d0 d1 hb5 hb6
  go_wp2_with fail
  refine (fits_no n a b H.out HA.out HB.out _).mono ?_
  rintro e w6 ⟨rfl, hb8⟩
  have hk6 := kept2 hk5 hb8
  go_wp2_with fail
  go_ret
  exact ⟨rfl, hk6.2.2⟩

end Go.Proofs.Ytpjgeielcoemaaa
