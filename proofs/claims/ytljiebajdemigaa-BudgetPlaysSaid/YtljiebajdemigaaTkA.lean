/- What the program's calls on times, and the document's own, come to with any numbers: the plain numbers of TkMath. -/
import Derived.Test.YtljiebajdemigaaRows
import Derived.Test.YtljiebajdemigaaTkMath
import Derived.WalkKit
import Derived.WalkSpells
import Derived.WalkLawsBesides
import Derived.Lib.Hide
namespace Go.Proofs.Ytljiebajdemigaa
open Go.RowKit

theorem ret_i64 {a b : Int} (h : a = b) : Ending.returned (.int .i64 a) = .returned (.int .i64 b) := by rw [h]
theorem tret_bool {a b : Bool} (h : a = b) : Ending.returned (.bool a) = .returned (.bool b) := by rw [h]

/-- Clamp. -/
theorem clamp_any (t : Int) (w : World) :
    Calls Try.prog 18 #[.int .i64 t] w fun e w' => e = .returned (.int .i64 (Tk.clamp t)) ∧ w = w' := by
  rcases Tk.clamp_ways t with ⟨h1, h2, hc⟩ | ⟨h1, h2, hc⟩ | ⟨h1, h2, hc⟩
  all_goals
    have HC := Lib.hid hc
    clear hc
    go_enter Try.func18, Try.ntmps18
    go_wp2
    all_goals (go_ret; exact ⟨ret_i64 (by have := HC.out; omega), rfl⟩)

/-- The document's Clamp. -/
theorem rclamp_any (t : Int) (w : World) :
    Calls Try.prog 15 #[.int .i64 t] w fun e w' => e = .returned (.int .i64 (Tk.clamp t)) ∧ w = w' := by
  rcases Tk.clamp_ways t with ⟨h1, h2, hc⟩ | ⟨h1, h2, hc⟩ | ⟨h1, h2, hc⟩
  all_goals
    have HC := Lib.hid hc
    clear hc
    go_enter Try.func15, Try.ntmps15
    go_wp2
    all_goals (go_ret; exact ⟨ret_i64 (by rw [HC.out]), rfl⟩)




/-- Twice: doubled so often, at most a bound. -/
theorem twice_any (n k b : Int) (hk : -9223372036854775808 ≤ k ∧ k ≤ 9223372036854775807) (w : World) :
    Calls Try.prog 17 #[.int .i64 n, .int .i64 k, .int .i64 b] w fun e w' => e = .returned (.int .i64 (Tk.twice n k.toNat b)) ∧ w = w' := by
  obtain ⟨g1, g2⟩ := hk
  have h1 := Tk.clamp_lo n
  have h2 := Tk.clamp_hi n
  have h3 := Tk.clamp_lo b
  have h4 := Tk.clamp_hi b
  go_enter Try.func17, Try.ntmps17
  go_wp2_with (go_at_call 18; refine (clamp_any _ _).mono ?_; rintro e w' ⟨rfl, rfl⟩)
  go_loop [0, 1] (fun v t => ∃ (j : Nat) (x r : Int), j ≤ k.toNat ∧ Hid (r = k - j) ∧ -9223372036854775808 ≤ r ∧ r ≤ 9223372036854775807 ∧ Hid (x = Tk.pw j (Tk.clamp n)) ∧ 0 ≤ x ∧ x ≤ 2199023255552 ∧ v = .int .i64 x ∧ t = .int .i64 r) (fun _ t => (intOf t).toNat)
  case atStart => exact ⟨0, Tk.clamp n, k, Nat.zero_le _, Lib.hid (by omega), g1, g2, Lib.hid rfl, h1, by omega, rfl, rfl⟩
  case round =>
    obtain ⟨j, x, r, hj, HR, r1, r2, HX, x1, x2, rfl, rfl⟩ := hrel
    by_cases c1 : 0 < r
    · by_cases c2 : 0 < x
      · by_cases c3 : x < Tk.clamp b
        · go_wp2
          go_round
          case rel => exact ⟨j + 1, 2 * x, r - 1, by have := HR.out; omega, Lib.hid (by have := HR.out; omega), by omega, by omega, Lib.hid (by rw [HX.out]; rfl), by omega, by omega, by go_num, rfl⟩
          case measure => simp [intOf]; omega
        · have hs : min x (Tk.clamp b) = Tk.twice n k.toNat b := by rw [HX.out]; exact Tk.twice_stop hj (.inr (.inr (by rw [← HX.out]; omega)))
          have HS := Lib.hid hs
          clear hs
          go_wp2
          all_goals (go_ret; exact ⟨ret_i64 (by rw [← HS.out]; omega), rfl⟩)
      · have hs : min x (Tk.clamp b) = Tk.twice n k.toNat b := by rw [HX.out]; exact Tk.twice_stop hj (.inr (.inl (by rw [← HX.out]; omega)))
        have HS := Lib.hid hs
        clear hs
        go_wp2
        all_goals (go_ret; exact ⟨ret_i64 (by rw [← HS.out]; omega), rfl⟩)
    · have hs : min x (Tk.clamp b) = Tk.twice n k.toNat b := by rw [HX.out]; exact Tk.twice_stop hj (.inl (by have := HR.out; omega))
      have HS := Lib.hid hs
      clear hs
      go_wp2
      all_goals (go_ret; exact ⟨ret_i64 (by rw [← HS.out]; omega), rfl⟩)

/-- The document's After. -/
theorem rafter_any (t n : Int) (w : World) :
    Calls Try.prog 16 #[.int .i64 t, .int .i64 n] w fun e w' => e = .returned (.int .i64 (Tk.after t n)) ∧ w = w' := by
  have h1 := Tk.clamp_lo t
  have h2 := Tk.clamp_hi t
  have h3 := Tk.clamp_lo n
  have h4 := Tk.clamp_hi n
  have HA := Lib.hid (Tk.clamp_add h1 h3)
  by_cases hc : 1099511627776 < Tk.clamp t + Tk.clamp n
  all_goals
    go_enter Try.func16, Try.ntmps16
    go_wp2_with (go_at_call 15; refine (rclamp_any _ _).mono ?_; rintro e w' ⟨rfl, rfl⟩)
    go_ret
    exact ⟨ret_i64 (by unfold Tk.after; rw [HA.out]; split <;> omega), rfl⟩


/-- The document's Twice. -/
theorem rtwice_any (n k b : Int) (hk : -9223372036854775808 ≤ k ∧ k ≤ 9223372036854775807) (w : World) :
    Calls Try.prog 11 #[.int .i64 n, .int .i64 k, .int .i64 b] w fun e w' => e = .returned (.int .i64 (Tk.twice n k.toNat b)) ∧ w = w' := by
  obtain ⟨g1, g2⟩ := hk
  have h1 := Tk.clamp_lo n
  have h2 := Tk.clamp_hi n
  have h3 := Tk.clamp_lo b
  have h4 := Tk.clamp_hi b
  have HS := Lib.hid (Tk.twice_dbl n b k.toNat)
  go_enter Try.func11, Try.ntmps11
  go_wp2_with (go_at_call 15; refine (rclamp_any _ _).mono ?_; rintro e w' ⟨rfl, rfl⟩)
  go_loop [7, 9] (fun v t => ∃ (j : Nat) (x : Int), j ≤ 64 ∧ j ≤ k.toNat ∧ Hid (x = Tk.dbl j (Tk.clamp n)) ∧ 0 ≤ x ∧ x ≤ 1099511627776 ∧ v = .int .i64 x ∧ t = .int .i64 j) (fun _ t => 64 - (intOf t).toNat)
  case atStart => exact ⟨0, Tk.clamp n, Nat.zero_le _, Nat.zero_le _, Lib.hid rfl, h1, h2, rfl, rfl⟩
  case round =>
    obtain ⟨j, x, hj, hjk, HX, x1, x2, rfl, rfl⟩ := hrel
    by_cases c1 : (j : Int) < k
    · by_cases c2 : (j : Int) < 64
      · have HA := Lib.hid (Tk.after_self x1 x2)
        have h5 := Tk.dbl_lo (j + 1) h1 h2
        have h6 := Tk.dbl_hi (j + 1) h1 h2
        go_wp2_with (go_at_call 16; refine (rafter_any _ _ _).mono ?_; rintro e w' ⟨rfl, rfl⟩)
        go_round
        case rel => exact ⟨j + 1, Tk.dbl (j + 1) (Tk.clamp n), by omega, by omega, Lib.hid rfl, h5, h6, by rw [HA.out, HX.out]; rfl, by go_num⟩
        case measure => simp [intOf]; omega
      · obtain rfl : j = 64 := by omega
        have hs : min x (Tk.clamp b) = Tk.twice n k.toNat b := by rw [← HS.out, HX.out, Nat.min_eq_right (by omega)]
        have HT := Lib.hid hs
        clear hs
        go_wp2
        all_goals (go_ret; exact ⟨ret_i64 (by rw [← HT.out]; omega), rfl⟩)
    · have hs : min x (Tk.clamp b) = Tk.twice n k.toNat b := by rw [← HS.out, HX.out, Nat.min_eq_left (by omega), show k.toNat = j by omega]
      have HT := Lib.hid hs
      clear hs
      go_wp2
      all_goals (go_ret; exact ⟨ret_i64 (by rw [← HT.out]; omega), rfl⟩)

end Go.Proofs.Ytljiebajdemigaa
