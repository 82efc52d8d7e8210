/- CONTRACTS OF ALL OF handler's CALLS, any numbers: what services do. -/
import Derived.Test.YtgboiejiodgcnaaHnM
import Derived.Test.YtgboiejiodgcnaaLow
import Derived.WalkSpells
import Derived.WalkLawsBesides
import Derived.Lib.Hide
import Derived.OwnWalk
import Derived.Deep.LoopGhost
namespace Go.Proofs.Ytgboiejiodgcnaa
open Go.RowKit

namespace Hn
/-- What a method comes to; the state behind it; whether there is such a method that is no stream. -/
def val (m x s : Int) : Int := if m = 0 then x else if m = 1 then ((s + x) % 4294967296) else if m = 2 then s else if m = 3 then ((2 * x) % 4294967296) else 0
def st (m x s : Int) : Int := if m = 1 then ((s + x) % 4294967296) else s
def ok (m : Int) : Bool := decide (0 ≤ m ∧ m ≤ 3)
/-- Whether there is such a method; whether it is a stream; whether it changes the state. -/
def known (m : Int) : Bool := decide (0 ≤ m ∧ m ≤ 5)
def streams (m : Int) : Bool := decide (m = 4 ∨ m = 5)
def changes (m : Int) : Bool := decide (m = 1)
end Hn




/-- Run. -/
theorem hnrun_echo (x s : Int) (w : World) : Calls Try.prog 64 #[.int .i64 0, .int .u32 x, .int .u32 s] w fun e w' => e = .returned (.tuple #[.int .u32 x, .int .u32 s, .bool true]) ∧ w = w' := by
  go_enter Try.func64, Try.ntmps64
  go_wp2
  all_goals (go_ret3; exact ⟨rfl, rfl⟩)
theorem hnrun_add (x s : Int) (w : World) : Calls Try.prog 64 #[.int .i64 1, .int .u32 x, .int .u32 s] w fun e w' => e = .returned (.tuple #[.int .u32 (((s + x) % 4294967296)), .int .u32 (((s + x) % 4294967296)), .bool true]) ∧ w = w' := by
  go_enter Try.func64, Try.ntmps64
  go_wp2
  all_goals (go_ret3; exact ⟨rfl, rfl⟩)
theorem hnrun_look (x s : Int) (w : World) : Calls Try.prog 64 #[.int .i64 2, .int .u32 x, .int .u32 s] w fun e w' => e = .returned (.tuple #[.int .u32 s, .int .u32 s, .bool true]) ∧ w = w' := by
  go_enter Try.func64, Try.ntmps64
  go_wp2
  all_goals (go_ret3; exact ⟨rfl, rfl⟩)
theorem hnrun_twice (x s : Int) (w : World) : Calls Try.prog 64 #[.int .i64 3, .int .u32 x, .int .u32 s] w fun e w' => e = .returned (.tuple #[.int .u32 (((2 * x) % 4294967296)), .int .u32 s, .bool true]) ∧ w = w' := by
  go_enter Try.func64, Try.ntmps64
  go_wp2
  all_goals (go_ret3; exact ⟨rfl, rfl⟩)
theorem hnrun_no {m : Int} (h : m < 0 ∨ 3 < m) (x s : Int) (w : World) : Calls Try.prog 64 #[.int .i64 m, .int .u32 x, .int .u32 s] w fun e w' => e = .returned (.tuple #[.int .u32 0, .int .u32 s, .bool false]) ∧ w = w' := by
  have e0 : (m == 0) = false := by rw [beq_eq_false_iff_ne]; omega
  have e1 : (m == 1) = false := by rw [beq_eq_false_iff_ne]; omega
  have e2 : (m == 2) = false := by rw [beq_eq_false_iff_ne]; omega
  have e3 : (m == 3) = false := by rw [beq_eq_false_iff_ne]; omega
  clear h
  go_enter Try.func64, Try.ntmps64
  go_wp2
  all_goals (go_ret3; exact ⟨rfl, rfl⟩)
/-- Run, whatever the method is. -/
theorem hnrun_any (m x s : Int) (w : World) : Calls Try.prog 64 #[.int .i64 m, .int .u32 x, .int .u32 s] w fun e w' => e = .returned (.tuple #[.int .u32 (Hn.val m x s), .int .u32 (Hn.st m x s), .bool (Hn.ok m)]) ∧ w = w' := by
  rcases (show m = 0 ∨ m = 1 ∨ m = 2 ∨ m = 3 ∨ (m < 0 ∨ 3 < m) by omega) with rfl | rfl | rfl | rfl | h
  · exact hnrun_echo x s w
  · exact hnrun_add x s w
  · exact hnrun_look x s w
  · exact hnrun_twice x s w
  · have e1 : Hn.val m x s = 0 := by unfold Hn.val; rw [if_neg (by omega), if_neg (by omega), if_neg (by omega), if_neg (by omega)]
    have e2 : Hn.st m x s = s := by unfold Hn.st; rw [if_neg (by omega)]
    have e3 : Hn.ok m = false := decide_eq_false (by omega)
    rw [e1, e2, e3]
    exact hnrun_no h x s w

set_option maxHeartbeats 1000000 in
/-- To the power, by squares. -/
theorem hnpower_any (x : Int) (n : Nat) (hn : (n : Int) ≤ 9223372036854775807) (w : World) : Calls Try.prog 70 #[.int .u32 x, .int .i64 n] w fun e w' => e = .returned (.int .u32 (Hn.pw x n)) ∧ w = w' := by
  go_enter Try.func70, Try.ntmps70
  go_wp2_with fail
  go_loopg [0, 1, 5] (n : Nat) (fun g s0 s1 s5 wx => ∃ (a y : Int) (k : Nat), s0 = .int .u32 y ∧ s1 = .int .i64 k ∧ s5 = .int .u32 a ∧ k ≤ g ∧ (k : Int) ≤ 9223372036854775807 ∧ Hid ((a % 4294967296) = a) ∧ Hid (((a * y ^ k) % 4294967296) = Hn.pw x n) ∧ w = wx)
  case atStart => exact ⟨1, x, n, rfl, rfl, rfl, Nat.le_refl _, hn, Lib.hid (by decide), Lib.hid (by rw [Int.one_mul]; rfl), rfl⟩
  case round =>
    obtain ⟨a, y, k, rfl, rfl, rfl, hg, hk, HA, HP, rfl⟩ := hrel
    by_cases h0 : 0 < k
    · have hk0 : 0 < (k : Int) := by omega
      have hb : bits .and .i64 (k : Int) 1 = (k : Int) % 2 := i64_low k 1 (by omega)
      by_cases h1 : k % 2 = 1
      · have h1' : (k : Int) % 2 = 1 := by omega
        rw [h1'] at hb
        clear h1'
        have HS := Lib.hid (Hn.odd_step (a := a) (x := y) h1)
        clear h1
        go_wp2_with fail
        go_roundg (k / 2)
        case measure => omega
        case rel => exact ⟨_, _, k / 2, rfl, by go_num, rfl, Nat.le_refl _, by omega, Lib.hid (Hn.wrap_wrap _), Lib.hid (HS.out.trans HP.out), rfl⟩
      · have h1' : (k : Int) % 2 = 0 := by omega
        rw [h1'] at hb
        clear h1'
        have HS := Lib.hid (Hn.even_step (a := a) (x := y) (n := k) (by omega))
        clear h1
        go_wp2_with fail
        go_roundg (k / 2)
        case measure => omega
        case rel => exact ⟨_, _, k / 2, rfl, by go_num, rfl, Nat.le_refl _, by omega, HA, Lib.hid (HS.out.trans HP.out), rfl⟩
    · obtain rfl : k = 0 := by omega
      have HV := Lib.hid (show a = Hn.pw x n by rw [← HP.out, Int.pow_zero, Int.mul_one, HA.out])
      go_wp2_with fail
      all_goals (rw [HV.out]; go_ret; exact ⟨rfl, rfl⟩)

/-- Chunk. -/
theorem hnchunk_below (m x n : Int) (h : n < 0) (w : World) : Calls Try.prog 66 #[.int .i64 m, .int .u32 x, .int .i64 n] w fun e w' => e = .returned (.int .u32 0) ∧ w = w' := by
  go_enter Try.func66, Try.ntmps66
  go_wp2_with fail
  all_goals (go_ret; exact ⟨rfl, rfl⟩)
theorem hnchunk_count (x n : Int) (h : 0 ≤ n) (w : World) : Calls Try.prog 66 #[.int .i64 4, .int .u32 x, .int .i64 n] w fun e w' => e = .returned (.int .u32 (((x + n) % 4294967296))) ∧ w = w' := by
  have h' : ¬ n < 0 := by omega
  have HV := Lib.hid (Hn.wrap_add_right x n)
  clear h
  go_enter Try.func66, Try.ntmps66
  go_wp2_with fail
  all_goals (rw [← HV.out]; go_ret; exact ⟨rfl, rfl⟩)
theorem hnchunk_power (x : Int) (n : Nat) (hn : (n : Int) ≤ 9223372036854775807) (w : World) : Calls Try.prog 66 #[.int .i64 5, .int .u32 x, .int .i64 n] w fun e w' => e = .returned (.int .u32 (Hn.pw x n)) ∧ w = w' := by
  have h' : ¬ (n : Int) < 0 := by omega
  have HP := Lib.hid (hnpower_any x n hn)
  clear hn
  go_enter Try.func66, Try.ntmps66
  go_wp2_with fail
  refine (HP.out _).mono ?_
  rintro e w1 ⟨rfl, rfl⟩
  go_wp2_with fail
  all_goals (go_ret; exact ⟨rfl, rfl⟩)
theorem hnchunk_no {m : Int} (h : m ≠ 4 ∧ m ≠ 5) (x n : Int) (w : World) : Calls Try.prog 66 #[.int .i64 m, .int .u32 x, .int .i64 n] w fun e w' => e = .returned (.int .u32 0) ∧ w = w' := by
  by_cases h0 : n < 0
  · exact hnchunk_below m x n h0 w
  · have e4 : (m == 4) = false := by rw [beq_eq_false_iff_ne]; exact h.1
    have e5 : (m == 5) = false := by rw [beq_eq_false_iff_ne]; exact h.2
    clear h
    go_enter Try.func66, Try.ntmps66
    go_wp2_with fail
    all_goals (go_ret; exact ⟨rfl, rfl⟩)
end Go.Proofs.Ytgboiejiodgcnaa
