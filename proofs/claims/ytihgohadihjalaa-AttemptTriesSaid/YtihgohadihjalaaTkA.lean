/- What the program's calls on times, and the document's own, come to with any numbers: the plain numbers of TkMath. -/
import Derived.Test.YtihgohadihjalaaRows
import Derived.Test.YtihgohadihjalaaTkMath
import Derived.WalkKit
import Derived.WalkSpells
import Derived.WalkLawsBesides
import Derived.Lib.Hide
namespace Go.Proofs.Ytihgohadihjalaa
open Go.RowKit

theorem ret_i64 {a b : Int} (h : a = b) : Ending.returned (.int .i64 a) = .returned (.int .i64 b) := by rw [h]
theorem tret_bool {a b : Bool} (h : a = b) : Ending.returned (.bool a) = .returned (.bool b) := by rw [h]

/-- Clamp. -/
theorem clamp_any (t : Int) (w : World) :
    Calls Try.prog 33 #[.int .i64 t] w fun e w' => e = .returned (.int .i64 (Tk.clamp t)) ∧ w = w' := by
  rcases Tk.clamp_ways t with ⟨h1, h2, hc⟩ | ⟨h1, h2, hc⟩ | ⟨h1, h2, hc⟩
  all_goals
    have HC := Lib.hid hc
    clear hc
    go_enter Try.func33, Try.ntmps33
    go_wp2
    all_goals (go_ret; exact ⟨ret_i64 (by have := HC.out; omega), rfl⟩)


/-- After. -/
theorem after_any (t n : Int) (w : World) :
    Calls Try.prog 32 #[.int .i64 t, .int .i64 n] w fun e w' => e = .returned (.int .i64 (Tk.after t n)) ∧ w = w' := by
  have h1 := Tk.clamp_lo t
  have h2 := Tk.clamp_hi t
  have h3 := Tk.clamp_lo n
  have h4 := Tk.clamp_hi n
  go_enter Try.func32, Try.ntmps32
  go_wp2_with (go_at_call 33; refine (clamp_any _ _).mono ?_; rintro e w' ⟨rfl, rfl⟩)
  go_ret
  exact ⟨rfl, rfl⟩

/-- Past. -/
theorem past_any (a b : Int) (w : World) :
    Calls Try.prog 36 #[.int .i64 a, .int .i64 b] w fun e w' => e = .returned (.bool (Tk.past a b)) ∧ w = w' := by
  by_cases hn : Tk.clamp b = 1099511627776
  · have H := Lib.hid hn
    have hp : Tk.past a b = false := by unfold Tk.past; simp [hn]
    have HP := Lib.hid hp
    have hd : (Tk.clamp b != 1099511627776) = false := by simp [hn]
    clear hn hp
    go_enter Try.func36, Try.ntmps36
    go_wp2_with (go_at_call 33; refine (clamp_any _ _).mono ?_; rintro e w' ⟨rfl, rfl⟩)
    go_ret
    exact ⟨tret_bool (by rw [HP.out]), rfl⟩
  · have hp : Tk.past a b = decide (Tk.clamp b ≤ Tk.clamp a) := by unfold Tk.past; simp [hn]
    have HP := Lib.hid hp
    have hd : (Tk.clamp b != 1099511627776) = true := by simp [hn]
    clear hn hp
    go_enter Try.func36, Try.ntmps36
    go_wp2_with (go_at_call 33; refine (clamp_any _ _).mono ?_; rintro e w' ⟨rfl, rfl⟩)
    go_ret
    exact ⟨tret_bool (by rw [HP.out]), rfl⟩


/-- Twice: doubled so often, at most a bound. -/
theorem twice_any (n k b : Int) (hk : -9223372036854775808 ≤ k ∧ k ≤ 9223372036854775807) (w : World) :
    Calls Try.prog 34 #[.int .i64 n, .int .i64 k, .int .i64 b] w fun e w' => e = .returned (.int .i64 (Tk.twice n k.toNat b)) ∧ w = w' := by
  obtain ⟨g1, g2⟩ := hk
  have h1 := Tk.clamp_lo n
  have h2 := Tk.clamp_hi n
  have h3 := Tk.clamp_lo b
  have h4 := Tk.clamp_hi b
  go_enter Try.func34, Try.ntmps34
  go_wp2_with (go_at_call 33; refine (clamp_any _ _).mono ?_; rintro e w' ⟨rfl, rfl⟩)
  go_loop [0, 1] (fun v t => ∃ (j : Nat) (x r : Int), j ≤ k.toNat ∧ Hid (r = k - j) ∧ -9223372036854775808 ≤ r ∧ r ≤ 9223372036854775807 ∧ Hid (x = Tk.pw j (Tk.clamp n)) ∧ 0 ≤ x ∧ x ≤ 2199023255552 ∧ v = .int .i64 x ∧ t = .int .i64 r) (fun _ t => (intOf t).toNat)
  case atStart => exact ⟨0, Tk.clamp n, k, Nat.zero_le _, Lib.hid (by omega), g1, g2, Lib.hid rfl, h1, by omega, rfl, rfl⟩
  case round =>
    obtain ⟨j, x, r, hj, HR, r1, r2, HX, x1, x2, rfl, rfl⟩ := hrel
    by_cases c1 : 0 < r
    · by_cases c2 : 0 < x
      · by_cases c3 : x < Tk.clamp b
        · go_wp2
          go_round
          case rel => exact ⟨j + 1, 2 * x, r - 1, by have := HR.out; omega, Lib.hid (by have := HR.out; omega), by omega, by omega, Lib.hid (by rw [HX.out]; rfl), by omega, by omega, by go_num, rfl⟩
          case measure => simp [intOf]; omega
        · have hs : min x (Tk.clamp b) = Tk.twice n k.toNat b := by rw [HX.out]; exact Tk.twice_stop hj (.inr (.inr (by rw [← HX.out]; omega)))
          have HS := Lib.hid hs
          clear hs
          go_wp2
          all_goals (go_ret; exact ⟨ret_i64 (by rw [← HS.out]; omega), rfl⟩)
      · have hs : min x (Tk.clamp b) = Tk.twice n k.toNat b := by rw [HX.out]; exact Tk.twice_stop hj (.inr (.inl (by rw [← HX.out]; omega)))
        have HS := Lib.hid hs
        clear hs
        go_wp2
        all_goals (go_ret; exact ⟨ret_i64 (by rw [← HS.out]; omega), rfl⟩)
    · have hs : min x (Tk.clamp b) = Tk.twice n k.toNat b := by rw [HX.out]; exact Tk.twice_stop hj (.inl (by have := HR.out; omega))
      have HS := Lib.hid hs
      clear hs
      go_wp2
      all_goals (go_ret; exact ⟨ret_i64 (by rw [← HS.out]; omega), rfl⟩)




end Go.Proofs.Ytihgohadihjalaa
