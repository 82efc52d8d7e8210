/- What the program's calls on times, and the document's own, come to with any numbers: the plain numbers of TkMath. -/
import Derived.Test.YtcmpnkpjcegadaaRows
import Derived.Test.YtcmpnkpjcegadaaTkMath
import Derived.WalkKit
import Derived.WalkSpells
import Derived.WalkLawsBesides
import Derived.Lib.Hide
namespace Go.Proofs.Ytcmpnkpjcegadaa
open Go.RowKit

theorem ret_i64 {a b : Int} (h : a = b) : Ending.returned (.int .i64 a) = .returned (.int .i64 b) := by rw [h]
theorem tret_bool {a b : Bool} (h : a = b) : Ending.returned (.bool a) = .returned (.bool b) := by rw [h]

/-- Clamp. -/
theorem clamp_any (t : Int) (w : World) :
    Calls Try.prog 11 #[.int .i64 t] w fun e w' => e = .returned (.int .i64 (Tk.clamp t)) ∧ w = w' := by
  rcases Tk.clamp_ways t with ⟨h1, h2, hc⟩ | ⟨h1, h2, hc⟩ | ⟨h1, h2, hc⟩
  all_goals
    have HC := Lib.hid hc
    clear hc
    go_enter Try.func11, Try.ntmps11
    go_wp2
    all_goals (go_ret; exact ⟨ret_i64 (by have := HC.out; omega), rfl⟩)

/-- The document's Clamp. -/
theorem rclamp_any (t : Int) (w : World) :
    Calls Try.prog 5 #[.int .i64 t] w fun e w' => e = .returned (.int .i64 (Tk.clamp t)) ∧ w = w' := by
  rcases Tk.clamp_ways t with ⟨h1, h2, hc⟩ | ⟨h1, h2, hc⟩ | ⟨h1, h2, hc⟩
  all_goals
    have HC := Lib.hid hc
    clear hc
    go_enter Try.func5, Try.ntmps5
    go_wp2
    all_goals (go_ret; exact ⟨ret_i64 (by rw [HC.out]), rfl⟩)

/-- After. -/
theorem after_any (t n : Int) (w : World) :
    Calls Try.prog 12 #[.int .i64 t, .int .i64 n] w fun e w' => e = .returned (.int .i64 (Tk.after t n)) ∧ w = w' := by
  have h1 := Tk.clamp_lo t
  have h2 := Tk.clamp_hi t
  have h3 := Tk.clamp_lo n
  have h4 := Tk.clamp_hi n
  go_enter Try.func12, Try.ntmps12
  go_wp2_with (go_at_call 11; refine (clamp_any _ _).mono ?_; rintro e w' ⟨rfl, rfl⟩)
  go_ret
  exact ⟨rfl, rfl⟩

/-- Past. -/
theorem past_any (a b : Int) (w : World) :
    Calls Try.prog 13 #[.int .i64 a, .int .i64 b] w fun e w' => e = .returned (.bool (Tk.past a b)) ∧ w = w' := by
  by_cases hn : Tk.clamp b = 1099511627776
  · have H := Lib.hid hn
    have hp : Tk.past a b = false := by unfold Tk.past; simp [hn]
    have HP := Lib.hid hp
    have hd : (Tk.clamp b != 1099511627776) = false := by simp [hn]
    clear hn hp
    go_enter Try.func13, Try.ntmps13
    go_wp2_with (go_at_call 11; refine (clamp_any _ _).mono ?_; rintro e w' ⟨rfl, rfl⟩)
    go_ret
    exact ⟨tret_bool (by rw [HP.out]), rfl⟩
  · have hp : Tk.past a b = decide (Tk.clamp b ≤ Tk.clamp a) := by unfold Tk.past; simp [hn]
    have HP := Lib.hid hp
    have hd : (Tk.clamp b != 1099511627776) = true := by simp [hn]
    clear hn hp
    go_enter Try.func13, Try.ntmps13
    go_wp2_with (go_at_call 11; refine (clamp_any _ _).mono ?_; rintro e w' ⟨rfl, rfl⟩)
    go_ret
    exact ⟨tret_bool (by rw [HP.out]), rfl⟩



/-- The document's After. -/
theorem rafter_any (t n : Int) (w : World) :
    Calls Try.prog 6 #[.int .i64 t, .int .i64 n] w fun e w' => e = .returned (.int .i64 (Tk.after t n)) ∧ w = w' := by
  have h1 := Tk.clamp_lo t
  have h2 := Tk.clamp_hi t
  have h3 := Tk.clamp_lo n
  have h4 := Tk.clamp_hi n
  have HA := Lib.hid (Tk.clamp_add h1 h3)
  by_cases hc : 1099511627776 < Tk.clamp t + Tk.clamp n
  all_goals
    go_enter Try.func6, Try.ntmps6
    go_wp2_with (go_at_call 5; refine (rclamp_any _ _).mono ?_; rintro e w' ⟨rfl, rfl⟩)
    go_ret
    exact ⟨ret_i64 (by unfold Tk.after; rw [HA.out]; split <;> omega), rfl⟩



end Go.Proofs.Ytcmpnkpjcegadaa
