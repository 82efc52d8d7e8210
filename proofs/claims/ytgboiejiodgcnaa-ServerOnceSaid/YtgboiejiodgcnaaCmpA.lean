/- How numbers are compared: cmp.Compare, cmp.Or. -/
import Derived.Test.YtgboiejiodgcnaaBaseA
import Derived.WalkSpells
import Derived.WalkLawsBesides
import Derived.Below
import Derived.Deep.QuietTactic
namespace Go.Proofs.Ytgboiejiodgcnaa
open Go.RowKit

namespace Hp
/-- Two numbers are compared. -/
def cmp (a b : Int) : Int := if a < b then -1 else if b < a then 1 else 0
end Hp

theorem nan_int (a : Int) (w : World) : Calls Try.prog 71 #[.int .i64 a] w fun e w' => e = .returned (.bool false) ∧ w = w' := by
  go_enter Try.func71, Try.ntmps71
  go_wp2
  go_ret
  exact ⟨retb (by simp), rfl⟩
theorem cmp_int (a b : Int) (w : World) : Calls Try.prog 69 #[.int .i64 a, .int .i64 b] w fun e w' => e = .returned (.int .i64 (Hp.cmp a b)) ∧ w = w' := by
  go_enter Try.func69, Try.ntmps69
  go_wp2_with (go_at_call 71; refine (nan_int _ _).mono ?_; rintro e w' ⟨rfl, rfl⟩)
  all_goals go_ret
  all_goals exact ⟨reti (by unfold Hp.cmp; (repeat' split) <;> omega), rfl⟩
/-- The first of two that is not 0. -/
theorem or_two (a b : Int) (g : Nat) (w : World) (c0 : w.cell? ⟨g, 0, none⟩ = some (.int .i64 a)) (c1 : w.cell? ⟨g, 1, none⟩ = some (.int .i64 b)) :
    Calls Try.prog 68 #[.slice (some ⟨g, 0, none⟩) 2 2] w fun e w' => e = .returned (.int .i64 (if a ≠ 0 then a else b)) ∧ w = w' := by
  go_enter Try.func68, Try.ntmps68
  go_wp2
  go_loopw [8] (fun v wr => wr = w ∧ (v = .int .i64 0 ∨ (v = .int .i64 1 ∧ a = 0) ∨ (v = .int .i64 2 ∧ a = 0 ∧ b = 0))) (fun v _ => 2 - (intOf v).toNat)
  case atStart => exact ⟨rfl, .inl rfl⟩
  case round =>
    obtain ⟨rfl, h⟩ := hrel
    rcases h with rfl | ⟨rfl, rfl⟩ | ⟨rfl, rfl, rfl⟩
    · by_cases ha : a = 0
      · subst ha
        go_wp2
        exact ⟨⟨trivial, .inr (.inl ⟨rfl, trivial⟩)⟩, by simp [intOf]⟩
      · go_wp2
        go_ret
        exact ⟨reti (by simp), rfl⟩
    · by_cases hb : b = 0
      · subst hb
        go_wp2
        exact ⟨⟨trivial, .inr (.inr ⟨rfl, trivial, trivial⟩)⟩, by simp [intOf]⟩
      · go_wp2
        go_ret
        exact ⟨reti (by simp), rfl⟩
    · go_wp2
      go_ret
      exact ⟨reti (by simp), rfl⟩
end Go.Proofs.Ytgboiejiodgcnaa
