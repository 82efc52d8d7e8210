/- What the program's small calls over a ring come to, with any numbers: how many cells, whether it may be, its cells. -/
import Derived.Test.YtieehpajkidbcaaBox
import Derived.Test.YtieehpajkidbcaaRngMath
import Derived.BigQuiet
import Derived.Deep.QuietTactic
import Derived.Deep.RegionHeld3
import Derived.Deep.DrawnRows
namespace Go.Proofs.Ytieehpajkidbcaa
open Go.RowKit

theorem rg_i64 {a b : Int} (h : a = b) : Ending.returned (.int .i64 a) = .returned (.int .i64 b) := by rw [h]
theorem below_drewN {B : Nat} {a w : World} (h : Below B a w) (n : Nat) : Below B a (w.drewN n) := ⟨h.os, h.tape, h.output, h.size, h.block⟩

/-- Cells. -/
theorem rcells_any (p : Int) (w : World) : Calls Try.prog 7 #[.int .i64 p] w fun e w' => e = .returned (.int .i64 (Rg.cells p)) ∧ w' = w := by
  rcases Rg.cells_ways p with ⟨h1, hc⟩ | ⟨h1, h2, hc⟩ | ⟨h1, hc⟩
  all_goals
    have HC := Lib.hid hc
    clear hc
    go_enter Try.func7, Try.ntmps7
    go_wp2
    all_goals (go_ret; exact ⟨rg_i64 (by have := HC.out; omega), rfl⟩)

theorem rcells_in (n : Nat) (h : n ≤ 64) (w : World) : Calls Try.prog 7 #[.int .i64 n] w fun e w' => e = .returned (.int .i64 (1 + 4 * (n : Int))) ∧ w' = w := by
  have := rcells_any n w
  rw [Rg.cells_in (by omega) (by omega)] at this
  exact this

set_option maxHeartbeats 1000000 in
/-- May: it may be. -/
theorem rgmay_yes (b n : Nat) (h : Rg.Ok b n) (w : World) :
    Calls Try.prog 23 #[.agg #[.int .i64 b, .int .i64 n]] w fun e w' => e = .returned (.bool true) ∧ Below w.heap.size w w' := by
  have hb := Rg.pow_bit n (by have := h.pos; omega) (by have := h.pos; omega)
  rw [decide_eq_true h.may.1] at hb
  obtain ⟨h1, h2, h3⟩ := h.pos
  have hw : IntKind.i64.wrap ((n : Int) - 1) = (n : Int) - 1 := by rw [IntKind.wrap_i64]; omega
  rw [← hw] at hb
  clear hw
  have e1 : decide ((2 : Int) ≤ (n : Int)) = true := by simp; omega
  have e2 : decide ((n : Int) ≤ 64) = true := by simp; omega
  have e3 : decide ((0 : Int) ≤ (b : Int)) = true := by simp
  go_enter Try.func23, Try.ntmps23
  go_wp2
  go_quiet ((go_at_call 7; exact Calls.quiet_of_same (rcells_in n h2 _)))
  go_wp2
  go_ret
  exact ⟨ret_bool (by simp [IntKind.wrap_i64]; omega), below_drewN (below_box _ _) _⟩

set_option maxHeartbeats 2000000 in
/-- .. it may not. -/
theorem rgmay_no (b p : Int) (h : ¬ Rg.May b p) (hb : -9223372036854775808 ≤ b ∧ b ≤ 9223372036854775807) (w : World) :
    Calls Try.prog 23 #[.agg #[.int .i64 b, .int .i64 p]] w fun e w' => e = .returned (.bool false) ∧ Below w.heap.size w w' := by
  by_cases h1 : 2 ≤ p
  rotate_left
  · have e1 : decide ((2 : Int) ≤ p) = false := by simp; omega
    clear h h1
    go_enter Try.func23, Try.ntmps23
    go_wp2
    go_quiet (fail)
    go_wp2
    go_ret
    exact ⟨rfl, below_drewN (below_box _ _) _⟩
  have e1 : decide ((2 : Int) ≤ p) = true := by simp; omega
  by_cases h2 : p ≤ 64
  rotate_left
  · have e2 : decide (p ≤ 64) = false := by simp; omega
    clear h h1 h2
    go_enter Try.func23, Try.ntmps23
    go_wp2
    go_quiet (fail)
    go_wp2
    go_ret
    exact ⟨rfl, below_drewN (below_box _ _) _⟩
  obtain ⟨n, rfl⟩ := Int.eq_ofNat_of_zero_le (show 0 ≤ p by omega)
  have g1 : 2 ≤ n := by omega
  have g2 : n ≤ 64 := by omega
  have e2 : decide ((n : Int) ≤ 64) = true := by simp; omega
  have hw : IntKind.i64.wrap ((n : Int) - 1) = (n : Int) - 1 := by rw [IntKind.wrap_i64]; omega
  have hp := Rg.pow_bit n h1 h2
  by_cases h3 : Rg.Pow n
  rotate_left
  · rw [decide_eq_false h3] at hp
    have hp2 := hp
    rw [← hw] at hp2
    clear h h1 h2 h3 hw
    go_enter Try.func23, Try.ntmps23
    go_wp2
    go_quiet (fail)
    go_wp2
    go_ret
    exact ⟨rfl, below_drewN (below_box _ _) _⟩
  rw [decide_eq_true h3] at hp
  have hp2 := hp
  rw [← hw] at hp2
  clear hw
  by_cases h4 : 0 ≤ b
  rotate_left
  · have e3 : decide (0 ≤ b) = false := by simp; omega
    clear h h1 h2 h3 h4
    go_enter Try.func23, Try.ntmps23
    go_wp2
    go_quiet (fail)
    go_wp2
    go_ret
    exact ⟨rfl, below_drewN (below_box _ _) _⟩
  have e3 : decide (0 ≤ b) = true := by simp; omega
  have h5 : 16384 - (1 + 4 * (n : Int)) < b := by
    have : ¬ (b + 1 + 4 * (n : Int) ≤ 16384) := fun x => h ⟨h3, h4, x⟩
    omega
  clear h h1 h3 h4
  go_enter Try.func23, Try.ntmps23
  go_wp2
  go_quiet ((go_at_call 7; exact Calls.quiet_of_same (rcells_in n (by omega) _)))
  go_wp2
  go_ret
  exact ⟨ret_bool (by simp; omega), below_drewN (below_box _ _) _⟩

/-- A turn's place. -/
theorem place_any (b n t : Nat) (h : Rg.Ok b n) (ht : t < 18446744073709551616) (w : World) :
    Calls Try.prog 36 #[.agg #[.int .i64 b, .int .i64 n], .int .u64 t] w fun e w' => e = .returned (.int .i64 ((t % n : Nat) : Int)) ∧ Below w.heap.size w w' := by
  obtain ⟨h1, h2, h3⟩ := h.pos
  have hn : (n : Int) ≠ 0 := by omega
  have hm := Nat.mod_lt t (show 0 < n by omega)
  go_enter Try.func36, Try.ntmps36
  go_wp2
  go_ret
  exact ⟨rg_i64 (by simp), below_box _ _⟩

/-- Tail. -/
theorem tail_yes (b n : Nat) (h : Rg.Ok b n) (w : World) :
    Calls Try.prog 26 #[.agg #[.int .i64 b, .int .i64 n]] w fun e w' => e = .returned (.int .i64 b) ∧ Below w.heap.size w w' := by
  have H := Lib.hid h
  clear h
  go_enter Try.func26, Try.ntmps26
  go_wp2_with (go_at_call 23; refine (rgmay_yes b n H.out _).mono ?_; rintro e w1 ⟨rfl, hb1⟩; obtain ⟨c0, c1, hb2⟩ := kept hb1; clear hb1)
  go_ret
  exact ⟨rfl, hb2⟩
theorem tail_no (b p : Int) (h : ¬ Rg.May b p) (hb : -9223372036854775808 ≤ b ∧ b ≤ 9223372036854775807) (w : World) :
    Calls Try.prog 26 #[.agg #[.int .i64 b, .int .i64 p]] w fun e w' => e = .returned (.int .i64 (-1)) ∧ Below w.heap.size w w' := by
  have H := Lib.hid h
  have HB := Lib.hid hb
  clear h hb
  go_enter Try.func26, Try.ntmps26
  go_wp2_with (go_at_call 23; refine (rgmay_no b p H.out HB.out _).mono ?_; rintro e w1 ⟨rfl, hb1⟩; obtain ⟨c0, c1, hb2⟩ := kept hb1; clear hb1)
  go_ret
  exact ⟨rfl, hb2⟩

end Go.Proofs.Ytieehpajkidbcaa
