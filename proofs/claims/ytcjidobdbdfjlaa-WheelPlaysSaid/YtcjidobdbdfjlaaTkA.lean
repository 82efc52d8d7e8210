/- What the program's calls on times, and the document's own, come to with any numbers: the plain numbers of TkMath. -/
import Derived.Test.YtcjidobdbdfjlaaRows
import Derived.Test.YtcjidobdbdfjlaaTkMath
import Derived.WalkKit
import Derived.WalkSpells
import Derived.WalkLawsBesides
import Derived.Lib.Hide
namespace Go.Proofs.Ytcjidobdbdfjlaa
open Go.RowKit

theorem ret_i64 {a b : Int} (h : a = b) : Ending.returned (.int .i64 a) = .returned (.int .i64 b) := by rw [h]
theorem tret_bool {a b : Bool} (h : a = b) : Ending.returned (.bool a) = .returned (.bool b) := by rw [h]

/-- Clamp. -/
theorem clamp_any (t : Int) (w : World) :
    Calls Try.prog 18 #[.int .i64 t] w fun e w' => e = .returned (.int .i64 (Tk.clamp t)) ∧ w = w' := by
  rcases Tk.clamp_ways t with ⟨h1, h2, hc⟩ | ⟨h1, h2, hc⟩ | ⟨h1, h2, hc⟩
  all_goals
    have HC := Lib.hid hc
    clear hc
    go_enter Try.func18, Try.ntmps18
    go_wp2
    all_goals (go_ret; exact ⟨ret_i64 (by have := HC.out; omega), rfl⟩)

/-- The document's Clamp. -/
theorem rclamp_any (t : Int) (w : World) :
    Calls Try.prog 24 #[.int .i64 t] w fun e w' => e = .returned (.int .i64 (Tk.clamp t)) ∧ w = w' := by
  rcases Tk.clamp_ways t with ⟨h1, h2, hc⟩ | ⟨h1, h2, hc⟩ | ⟨h1, h2, hc⟩
  all_goals
    have HC := Lib.hid hc
    clear hc
    go_enter Try.func24, Try.ntmps24
    go_wp2
    all_goals (go_ret; exact ⟨ret_i64 (by rw [HC.out]), rfl⟩)


/-- Past. -/
theorem past_any (a b : Int) (w : World) :
    Calls Try.prog 33 #[.int .i64 a, .int .i64 b] w fun e w' => e = .returned (.bool (Tk.past a b)) ∧ w = w' := by
  by_cases hn : Tk.clamp b = 1099511627776
  · have H := Lib.hid hn
    have hp : Tk.past a b = false := by unfold Tk.past; simp [hn]
    have HP := Lib.hid hp
    have hd : (Tk.clamp b != 1099511627776) = false := by simp [hn]
    clear hn hp
    go_enter Try.func33, Try.ntmps33
    go_wp2_with (go_at_call 18; refine (clamp_any _ _).mono ?_; rintro e w' ⟨rfl, rfl⟩)
    go_ret
    exact ⟨tret_bool (by rw [HP.out]), rfl⟩
  · have hp : Tk.past a b = decide (Tk.clamp b ≤ Tk.clamp a) := by unfold Tk.past; simp [hn]
    have HP := Lib.hid hp
    have hd : (Tk.clamp b != 1099511627776) = true := by simp [hn]
    clear hn hp
    go_enter Try.func33, Try.ntmps33
    go_wp2_with (go_at_call 18; refine (clamp_any _ _).mono ?_; rintro e w' ⟨rfl, rfl⟩)
    go_ret
    exact ⟨tret_bool (by rw [HP.out]), rfl⟩




/-- The document's Past. -/
theorem rpast_any (a b : Int) (w : World) :
    Calls Try.prog 21 #[.int .i64 a, .int .i64 b] w fun e w' => e = .returned (.bool (Tk.past a b)) ∧ w = w' := by
  by_cases hn : Tk.clamp b = 1099511627776
  · have hp : Tk.past a b = false := by unfold Tk.past; simp [hn]
    have HP := Lib.hid hp
    have hd : (Tk.clamp b != 1099511627776) = false := by simp [hn]
    clear hn hp
    go_enter Try.func21, Try.ntmps21
    go_wp2_with (go_at_call 24; refine (rclamp_any _ _).mono ?_; rintro e w' ⟨rfl, rfl⟩)
    go_ret
    exact ⟨tret_bool (by rw [HP.out]), rfl⟩
  · have hp : Tk.past a b = decide (Tk.clamp b ≤ Tk.clamp a) := by unfold Tk.past; simp [hn]
    have HP := Lib.hid hp
    have hd : (Tk.clamp b != 1099511627776) = true := by simp [hn]
    clear hn hp
    go_enter Try.func21, Try.ntmps21
    go_wp2_with (go_at_call 24; refine (rclamp_any _ _).mono ?_; rintro e w' ⟨rfl, rfl⟩)
    go_ret
    exact ⟨tret_bool (by rw [HP.out]), rfl⟩


end Go.Proofs.Ytcjidobdbdfjlaa
