/- With every two times and every number, the law on later times, what is left, and numbers doubled once more returns true, and its arguments read as they did. -/
import Derived.Test.YtfdgjdofeknliaaSums3
import Derived.IntWalk
namespace Go.Proofs.Ytfdgjdofeknliaa
open Go.ChangeShapes Go.WideShapes Go.ChangeAt Go.RowKit

/-- The last six bits of any number are a number below 64. -/
theorem and63 (k : Int) : 0 ≤ bits .and .i64 k 63 ∧ bits .and .i64 k 63 ≤ 63 := by
  have h : ((BitVec.ofInt 64 k) &&& (BitVec.ofInt 64 63)).toNat ≤ 63 := by
    rw [BitVec.toNat_and]; exact Nat.and_le_right
  have e : bits .and .i64 k 63 = IntKind.i64.wrap (((BitVec.ofInt 64 k) &&& (BitVec.ofInt 64 63)).toNat : Nat) := rfl
  rw [e]
  generalize ((BitVec.ofInt 64 k) &&& (BitVec.ofInt 64 63)).toNat = m at h
  rw [IntWalk.i64_in _ (by omega)]
  omega

set_option maxHeartbeats 1000000 in
theorem follow_any (a b k : Int) (w : World) :
    Calls Try.prog 4 #[.int .i64 a, .int .i64 b, .int .i64 k] w fun e w' => e = .returned (.bool true) ∧ w = w' := by
  obtain ⟨k1, k2⟩ := and63 k
  have g1 := Tk.after_left a b
  have g2 := Tk.after_right a b
  have g3 := Tk.left_brings a b
  have g4 := Tk.twice_mono a 1099511627776 (bits .and .i64 k 63).toNat
  rw [show (bits .and .i64 k 63).toNat + 1 = (bits .and .i64 k 63 + 1).toNat by omega] at g4
  have HN := Lib.hid (Tk.twice_none a)
  have g5 := Tk.left_lo a b
  by_cases hl : Tk.left a b = 0
  · have hd : (Tk.left a b == 0) = true := by simp [hl]
    clear hl
    go_enter Try.func4, Try.ntmps4
    go_wp2_with (first
      | (go_at_call 6; refine (awake_any _).mono ?_; rintro e w' ⟨rfl, rfl⟩)
      | (go_at_call 7; refine (clamp_any _ _).mono ?_; rintro e w' ⟨rfl, rfl⟩)
      | (go_at_call 8; refine (after_any _ _ _).mono ?_; rintro e w' ⟨rfl, rfl⟩)
      | (go_at_call 12; refine (left_any _ _ _).mono ?_; rintro e w' ⟨rfl, rfl⟩)
      | (go_at_call 13; refine (twice_any _ _ _ (by omega) _).mono ?_; rintro e w' ⟨rfl, rfl⟩))
    go_ret
    exact ⟨ret_bool (by rw [HN.out]; simp), rfl⟩
  · have hd : (Tk.left a b == 0) = false := by simp [hl]
    clear hl
    go_enter Try.func4, Try.ntmps4
    go_wp2_with (first
      | (go_at_call 6; refine (awake_any _).mono ?_; rintro e w' ⟨rfl, rfl⟩)
      | (go_at_call 7; refine (clamp_any _ _).mono ?_; rintro e w' ⟨rfl, rfl⟩)
      | (go_at_call 8; refine (after_any _ _ _).mono ?_; rintro e w' ⟨rfl, rfl⟩)
      | (go_at_call 12; refine (left_any _ _ _).mono ?_; rintro e w' ⟨rfl, rfl⟩)
      | (go_at_call 13; refine (twice_any _ _ _ (by omega) _).mono ?_; rintro e w' ⟨rfl, rfl⟩))
    go_ret
    exact ⟨ret_bool (by rw [HN.out]; simp), rfl⟩

set_option maxRecDepth 100000 in
theorem liftedFollow (os : Os) (started : os.Started) (H : Type) (enc : TypeId × Value → H) :
    ReturnsInHanded {} Try.checked os 4 .any (Rows.ticksFollowSpec.pre6 enc Try.prog Try.f4 Rows.ticksFollowRow.domain false) (Rows.ticksFollowSpec.post enc Try.prog Try.f4 false true false false) := by
  refine returnsInHanded_of_change (C := Try.checked) Try.own started (by kernel_rfl) Try.func4
    (ChangeSpec.witness6 (enc := enc) (C := Try.checked) false ⟨#[], #[.int .i64 0, .int .i64 0, .int .i64 0], []⟩ 8 (by kernel_rfl) (by kernel_rfl) (by kernel_rfl) (by kernel_rfl)) ?_
  intro W base args ds gs before hval0 hW _ _
  have hval : ∀ (j : Nat) t v, Try.f4.params[j]? = some t → args[j]? = some v → Value.okWide Try.prog W .any base t v := hval0
  have hW' := hW
  obtain ⟨p, q, hA0, hV, rfl, hfz, hnd⟩ := hW
  have hA : DataW.TrodAll enc Try.prog W 0 (fun _ => true) true Try.f4.params.toList args.toList ds p := hA0
  rw [Try.params4] at hA hval
  obtain ⟨v0, v1, v2, d0, d1, d2, p0, p1, p2, rfl, rfl, rfl, h0, h1, h2⟩ := trodAll_three hA
  obtain ⟨rfl, rfl⟩ := trodVars_none hV
  obtain ⟨a, rfl, rfl, rfl, wa⟩ := open_int Try.underlying22 (hval 0 22 v0 rfl rfl) h0
  obtain ⟨b, rfl, rfl, rfl, wb⟩ := open_int Try.underlying22 (hval 1 22 v1 rfl rfl) h1
  obtain ⟨k, rfl, rfl, rfl, wk⟩ := open_int Try.underlying3 (hval 2 3 v2 rfl rfl) h2
  clear hA0 hval0
  simp only [List.append_nil] at hW'
  refine (follow_any a b k W).mono fun e W' ⟨he, hb⟩ => ?_
  subst he hb
  exact ⟨_, rfl, _, _, _, [], [], [], hW', trodAll_mk1 (shut_bool Try.underlying4 _), trodAll_mk3 (shut_int Try.underlying22 wa) (shut_int Try.underlying22 wb) (shut_int Try.underlying3 wk), rfl, (Below.refl _ _).frame _, fun h => by cases h⟩

/-- THE LAW ON LATER TIMES, WHAT IS LEFT, AND NUMBERS DOUBLED ONCE MORE. -/
theorem ticks_follow_holds : Rows.TicksFollowSaid :=
  OpenClaim.holds_of_wide 4 Try.f4 rfl rfl rfl rfl rfl rfl rfl ⟨rfl, rfl, rfl, rfl, rfl⟩ rfl rfl rfl rfl rfl (by kernel_rfl) Try.func4 (by kernel_rfl)
    (of_decide_eq_true (by kernel_rfl)) (by unfold Func.isWrapper; rw [if_neg (of_decide_eq_false (by kernel_rfl))]; exact ⟨rfl, rfl⟩)
    (fun os started H enc _ => liftedFollow os started H enc)

#print axioms ticks_follow_holds
end Go.Proofs.Ytfdgjdofeknliaa
