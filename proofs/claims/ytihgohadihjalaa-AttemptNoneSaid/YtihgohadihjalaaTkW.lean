/- The contract of ticks' Within, with any numbers. -/
import Derived.Test.YtihgohadihjalaaTkA
namespace Go.Proofs.Ytihgohadihjalaa
open Go.RowKit

theorem within_any (t f e : Int) (w : World) : Calls Try.prog 22 #[.int .i64 t, .int .i64 f, .int .i64 e] w fun x w' => x = .returned (.bool (decide (Tk.clamp f ≤ Tk.clamp t) && decide (Tk.clamp t < Tk.clamp e))) ∧ w = w' := by
  have h1 := fun w => clamp_any t w
  have h2 := fun w => clamp_any f w
  have h3 := fun w => clamp_any e w
  generalize Tk.clamp t = a at h1 ⊢
  generalize Tk.clamp f = b at h2 ⊢
  generalize Tk.clamp e = c at h3 ⊢
  by_cases hb : b ≤ a
  · have hd : decide (b ≤ a) = true := by simpa using hb
    rw [hd, Bool.true_and]
    go_enter Try.func22, Try.ntmps22
    go_wp2_with fail
    refine (h1 _).mono ?_
    rintro x w1 ⟨rfl, rfl⟩
    go_wp2_with fail
    refine (h2 _).mono ?_
    rintro x w1 ⟨rfl, rfl⟩
    go_wp2_with fail
    refine (h3 _).mono ?_
    rintro x w1 ⟨rfl, rfl⟩
    go_wp2_with fail
    go_ret
    exact ⟨rfl, rfl⟩
  · have hd : decide (b ≤ a) = false := by simpa using hb
    rw [hd, Bool.false_and]
    clear hb
    go_enter Try.func22, Try.ntmps22
    go_wp2_with fail
    refine (h1 _).mono ?_
    rintro x w1 ⟨rfl, rfl⟩
    go_wp2_with fail
    refine (h2 _).mono ?_
    rintro x w1 ⟨rfl, rfl⟩
    go_wp2_with fail
    go_ret
    exact ⟨rfl, rfl⟩
end Go.Proofs.Ytihgohadihjalaa
