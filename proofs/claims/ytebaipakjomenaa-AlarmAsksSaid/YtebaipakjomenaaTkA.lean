/- What the program's calls on times, and the document's own, come to with any numbers: the plain numbers of TkMath. -/
import Derived.Test.YtebaipakjomenaaRows
import Derived.Test.YtebaipakjomenaaTkMath
import Derived.WalkKit
import Derived.WalkSpells
import Derived.WalkLawsBesides
import Derived.Lib.Hide
namespace Go.Proofs.Ytebaipakjomenaa
open Go.RowKit

theorem ret_i64 {a b : Int} (h : a = b) : Ending.returned (.int .i64 a) = .returned (.int .i64 b) := by rw [h]
theorem tret_bool {a b : Bool} (h : a = b) : Ending.returned (.bool a) = .returned (.bool b) := by rw [h]

/-- Clamp. -/
theorem clamp_any (t : Int) (w : World) :
    Calls Try.prog 20 #[.int .i64 t] w fun e w' => e = .returned (.int .i64 (Tk.clamp t)) ∧ w = w' := by
  rcases Tk.clamp_ways t with ⟨h1, h2, hc⟩ | ⟨h1, h2, hc⟩ | ⟨h1, h2, hc⟩
  all_goals
    have HC := Lib.hid hc
    clear hc
    go_enter Try.func20, Try.ntmps20
    go_wp2
    all_goals (go_ret; exact ⟨ret_i64 (by have := HC.out; omega), rfl⟩)

/-- The document's Clamp. -/
theorem rclamp_any (t : Int) (w : World) :
    Calls Try.prog 13 #[.int .i64 t] w fun e w' => e = .returned (.int .i64 (Tk.clamp t)) ∧ w = w' := by
  rcases Tk.clamp_ways t with ⟨h1, h2, hc⟩ | ⟨h1, h2, hc⟩ | ⟨h1, h2, hc⟩
  all_goals
    have HC := Lib.hid hc
    clear hc
    go_enter Try.func13, Try.ntmps13
    go_wp2
    all_goals (go_ret; exact ⟨ret_i64 (by rw [HC.out]), rfl⟩)

/-- After. -/
theorem after_any (t n : Int) (w : World) :
    Calls Try.prog 19 #[.int .i64 t, .int .i64 n] w fun e w' => e = .returned (.int .i64 (Tk.after t n)) ∧ w = w' := by
  have h1 := Tk.clamp_lo t
  have h2 := Tk.clamp_hi t
  have h3 := Tk.clamp_lo n
  have h4 := Tk.clamp_hi n
  go_enter Try.func19, Try.ntmps19
  go_wp2_with (go_at_call 20; refine (clamp_any _ _).mono ?_; rintro e w' ⟨rfl, rfl⟩)
  go_ret
  exact ⟨rfl, rfl⟩




/-- The document's After. -/
theorem rafter_any (t n : Int) (w : World) :
    Calls Try.prog 12 #[.int .i64 t, .int .i64 n] w fun e w' => e = .returned (.int .i64 (Tk.after t n)) ∧ w = w' := by
  have h1 := Tk.clamp_lo t
  have h2 := Tk.clamp_hi t
  have h3 := Tk.clamp_lo n
  have h4 := Tk.clamp_hi n
  have HA := Lib.hid (Tk.clamp_add h1 h3)
  by_cases hc : 1099511627776 < Tk.clamp t + Tk.clamp n
  all_goals
    go_enter Try.func12, Try.ntmps12
    go_wp2_with (go_at_call 13; refine (rclamp_any _ _).mono ?_; rintro e w' ⟨rfl, rfl⟩)
    go_ret
    exact ⟨ret_i64 (by unfold Tk.after; rw [HA.out]; split <;> omega), rfl⟩



end Go.Proofs.Ytebaipakjomenaa
