/- HandlerRuns: what each method comes to, and the state behind it. -/
import Derived.Test.YtbonnpejpfkaaaaHnA
import Derived.Deep.DeepCutAuto
namespace Go.Proofs.Ytbonnpejpfkaaaa
open Go.RowKit

set_option maxHeartbeats 1000000 in
/-- A square. -/
theorem awake25_any (w : World) : Calls Try.prog 7 #[] w fun e w' => e = .returned (.bool true) ∧ w = w' := by
  have HP := Lib.hid (show ∀ w : World, Calls Try.prog 11 #[.int .i64 5, .int .u32 3, .int .i64 2] w fun e w' => e = .returned (.int .u32 9) ∧ w = w' from fun w => hnchunk_power 3 2 (by decide) w)
  have HR := Lib.hid (show ∀ w : World, Calls Try.prog 6 #[.int .i64 1, .int .u32 3, .int .u32 4] w fun e w' => e = .returned (.tuple #[.int .u32 7, .int .u32 7, .bool true]) ∧ w = w' from fun w => hnrun_add 3 4 w)
  go_enter Try.func7, Try.ntmps7
  go_wp2_with fail
  refine (HR.out _).mono ?_
  rintro e w1 ⟨rfl, rfl⟩
  go_wp2_with fail
  refine (HP.out _).mono ?_
  rintro e w1 ⟨rfl, rfl⟩
  go_wp2_with fail
  refine (hnknown_any 5 _).mono ?_
  rintro e w1 ⟨rfl, rfl⟩
  rw [show Hn.known 5 = true from rfl]
  go_wp2_with fail
  refine (hnknown_any 6 _).mono ?_
  rintro e w1 ⟨rfl, rfl⟩
  rw [show Hn.known 6 = false from rfl]
  go_wp2_with fail
  all_goals (go_ret; exact ⟨rfl, rfl⟩)

set_option maxHeartbeats 4000000 in
set_option maxRecDepth 4000 in
/-- The law. -/
theorem handlerruns_any (m x s : Int) (w : World) : Calls Try.prog 3 #[.int .i64 m, .int .u32 x, .int .u32 s] w fun e w' => e = .returned (.bool true) ∧ w = w' := by
  obtain ⟨q, hq⟩ : ∃ q, bits .and .i64 m 16 = q := ⟨_, rfl⟩
  obtain ⟨k7, hl⟩ : ∃ q, bits .and .i64 m 7 = q := ⟨_, rfl⟩
  go_enter Try.func3, Try.ntmps3
  go_upto_if 17 with fail
  go_cut [7] (fun s7 wx => w = wx ∧ ∃ k : Int, s7 = .int .i64 k)
  case first =>
    by_cases hb : 0 < q
    · go_wp2_with fail
      go_meet
      case rel => exact ⟨rfl, _, rfl⟩
    · go_wp2_with fail
      go_meet
      case rel => exact ⟨rfl, _, rfl⟩
  clear hl hq
  obtain ⟨rfl, k, rfl⟩ := hcut
  rcases (show k = 0 ∨ k = 1 ∨ k = 2 ∨ k = 3 ∨ k = 4 ∨ k = 5 ∨ k < 0 ∨ 5 < k by omega) with rfl | rfl | rfl | rfl | rfl | rfl | h | h
  · go_wp2_with fail
    refine (hnrun_echo x s _).mono ?_
    rintro e w1 ⟨rfl, rfl⟩
    go_wp2_with fail
    refine (awake25_any _).mono ?_
    rintro e w1 ⟨rfl, rfl⟩
    go_wp2_with fail
    refine (hnknown_any 0 _).mono ?_
    rintro e w1 ⟨rfl, rfl⟩
    rw [show Hn.known 0 = true from rfl]
    go_wp2_with fail
    refine (hnstreams_any 0 _).mono ?_
    rintro e w1 ⟨rfl, rfl⟩
    rw [show Hn.streams 0 = false from rfl]
    go_wp2_with fail
    refine (hnchanges_any 0 _).mono ?_
    rintro e w1 ⟨rfl, rfl⟩
    rw [show Hn.changes 0 = false from rfl]
    go_wp2_with fail
    all_goals (go_ret; exact ⟨rfl, rfl⟩)
  · go_wp2_with fail
    refine (hnrun_add x s _).mono ?_
    rintro e w1 ⟨rfl, rfl⟩
    rw [Int.add_comm s x]
    go_wp2_with fail
    refine (awake25_any _).mono ?_
    rintro e w1 ⟨rfl, rfl⟩
    go_wp2_with fail
    refine (hnknown_any 1 _).mono ?_
    rintro e w1 ⟨rfl, rfl⟩
    rw [show Hn.known 1 = true from rfl]
    go_wp2_with fail
    refine (hnstreams_any 1 _).mono ?_
    rintro e w1 ⟨rfl, rfl⟩
    rw [show Hn.streams 1 = false from rfl]
    go_wp2_with fail
    refine (hnchanges_any 1 _).mono ?_
    rintro e w1 ⟨rfl, rfl⟩
    rw [show Hn.changes 1 = true from rfl]
    go_wp2_with fail
    all_goals (go_ret; exact ⟨rfl, rfl⟩)
  · go_wp2_with fail
    refine (hnrun_look x s _).mono ?_
    rintro e w1 ⟨rfl, rfl⟩
    go_wp2_with fail
    refine (awake25_any _).mono ?_
    rintro e w1 ⟨rfl, rfl⟩
    go_wp2_with fail
    refine (hnknown_any 2 _).mono ?_
    rintro e w1 ⟨rfl, rfl⟩
    rw [show Hn.known 2 = true from rfl]
    go_wp2_with fail
    refine (hnstreams_any 2 _).mono ?_
    rintro e w1 ⟨rfl, rfl⟩
    rw [show Hn.streams 2 = false from rfl]
    go_wp2_with fail
    refine (hnchanges_any 2 _).mono ?_
    rintro e w1 ⟨rfl, rfl⟩
    rw [show Hn.changes 2 = false from rfl]
    go_wp2_with fail
    all_goals (go_ret; exact ⟨rfl, rfl⟩)
  · go_wp2_with fail
    refine (hnrun_twice x s _).mono ?_
    rintro e w1 ⟨rfl, rfl⟩
    rw [show 2 * x = x + x by omega]
    go_wp2_with fail
    refine (awake25_any _).mono ?_
    rintro e w1 ⟨rfl, rfl⟩
    go_wp2_with fail
    refine (hnknown_any 3 _).mono ?_
    rintro e w1 ⟨rfl, rfl⟩
    rw [show Hn.known 3 = true from rfl]
    go_wp2_with fail
    refine (hnstreams_any 3 _).mono ?_
    rintro e w1 ⟨rfl, rfl⟩
    rw [show Hn.streams 3 = false from rfl]
    go_wp2_with fail
    refine (hnchanges_any 3 _).mono ?_
    rintro e w1 ⟨rfl, rfl⟩
    rw [show Hn.changes 3 = false from rfl]
    go_wp2_with fail
    all_goals (go_ret; exact ⟨rfl, rfl⟩)
  · go_wp2_with fail
    refine (hnrun_no (by decide) x s _).mono ?_
    rintro e w1 ⟨rfl, rfl⟩
    go_wp2_with fail
    refine (awake25_any _).mono ?_
    rintro e w1 ⟨rfl, rfl⟩
    go_wp2_with fail
    refine (hnknown_any 4 _).mono ?_
    rintro e w1 ⟨rfl, rfl⟩
    rw [show Hn.known 4 = true from rfl]
    go_wp2_with fail
    refine (hnstreams_any 4 _).mono ?_
    rintro e w1 ⟨rfl, rfl⟩
    rw [show Hn.streams 4 = true from rfl]
    go_wp2_with fail
    refine (hnchanges_any 4 _).mono ?_
    rintro e w1 ⟨rfl, rfl⟩
    rw [show Hn.changes 4 = false from rfl]
    go_wp2_with fail
    all_goals (go_ret; exact ⟨rfl, rfl⟩)
  · go_wp2_with fail
    refine (hnrun_no (by decide) x s _).mono ?_
    rintro e w1 ⟨rfl, rfl⟩
    go_wp2_with fail
    refine (awake25_any _).mono ?_
    rintro e w1 ⟨rfl, rfl⟩
    go_wp2_with fail
    refine (hnknown_any 5 _).mono ?_
    rintro e w1 ⟨rfl, rfl⟩
    rw [show Hn.known 5 = true from rfl]
    go_wp2_with fail
    refine (hnstreams_any 5 _).mono ?_
    rintro e w1 ⟨rfl, rfl⟩
    rw [show Hn.streams 5 = true from rfl]
    go_wp2_with fail
    refine (hnchanges_any 5 _).mono ?_
    rintro e w1 ⟨rfl, rfl⟩
    rw [show Hn.changes 5 = false from rfl]
    go_wp2_with fail
    all_goals (go_ret; exact ⟨rfl, rfl⟩)
  · have e0 : (k == 0) = false := by rw [beq_eq_false_iff_ne]; omega
    have e1 : (k == 1) = false := by rw [beq_eq_false_iff_ne]; omega
    have e2 : (k == 2) = false := by rw [beq_eq_false_iff_ne]; omega
    have e3 : (k == 3) = false := by rw [beq_eq_false_iff_ne]; omega
    have e4 : (k == 4) = false := by rw [beq_eq_false_iff_ne]; omega
    have e5 : (k == 5) = false := by rw [beq_eq_false_iff_ne]; omega
    have h6 : decide (k ≤ 5) = true := decide_eq_true (by omega)
    have HK := Lib.hid (show Hn.known k = false from decide_eq_false (by omega))
    have HS := Lib.hid (show Hn.streams k = false from decide_eq_false (by omega))
    have HC := Lib.hid (show Hn.changes k = false from decide_eq_false (by omega))
    have HN := Lib.hid (hnrun_no (m := k) (by omega) x s)
    go_wp2_with fail
    refine (HN.out _).mono ?_
    rintro e w1 ⟨rfl, rfl⟩
    go_wp2_with fail
    refine (awake25_any _).mono ?_
    rintro e w1 ⟨rfl, rfl⟩
    go_wp2_with fail
    refine (hnknown_any k _).mono ?_
    rintro e w1 ⟨rfl, rfl⟩
    rw [HK.out]
    go_wp2_with fail
    refine (hnstreams_any k _).mono ?_
    rintro e w1 ⟨rfl, rfl⟩
    rw [HS.out]
    go_wp2_with fail
    refine (hnchanges_any k _).mono ?_
    rintro e w1 ⟨rfl, rfl⟩
    rw [HC.out]
    go_wp2_with fail
    all_goals (go_ret; exact ⟨rfl, rfl⟩)
  · have e0 : (k == 0) = false := by rw [beq_eq_false_iff_ne]; omega
    have e1 : (k == 1) = false := by rw [beq_eq_false_iff_ne]; omega
    have e2 : (k == 2) = false := by rw [beq_eq_false_iff_ne]; omega
    have e3 : (k == 3) = false := by rw [beq_eq_false_iff_ne]; omega
    have e4 : (k == 4) = false := by rw [beq_eq_false_iff_ne]; omega
    have e5 : (k == 5) = false := by rw [beq_eq_false_iff_ne]; omega
    have h6 : decide (k ≤ 5) = false := decide_eq_false (by omega)
    have HK := Lib.hid (show Hn.known k = false from decide_eq_false (by omega))
    have HS := Lib.hid (show Hn.streams k = false from decide_eq_false (by omega))
    have HC := Lib.hid (show Hn.changes k = false from decide_eq_false (by omega))
    have HN := Lib.hid (hnrun_no (m := k) (by omega) x s)
    go_wp2_with fail
    refine (HN.out _).mono ?_
    rintro e w1 ⟨rfl, rfl⟩
    go_wp2_with fail
    refine (awake25_any _).mono ?_
    rintro e w1 ⟨rfl, rfl⟩
    go_wp2_with fail
    refine (hnknown_any k _).mono ?_
    rintro e w1 ⟨rfl, rfl⟩
    rw [HK.out]
    go_wp2_with fail
    refine (hnstreams_any k _).mono ?_
    rintro e w1 ⟨rfl, rfl⟩
    rw [HS.out]
    go_wp2_with fail
    refine (hnchanges_any k _).mono ?_
    rintro e w1 ⟨rfl, rfl⟩
    rw [HC.out]
    go_wp2_with fail
    all_goals (go_ret; exact ⟨rfl, rfl⟩)
end Go.Proofs.Ytbonnpejpfkaaaa
