/- HandlerChunks: the chunks of each stream, one behind the other. -/
import Derived.Test.YtbonnpejpfkaaaaLaw25A
namespace Go.Proofs.Ytbonnpejpfkaaaa
open Go.RowKit

set_option maxHeartbeats 2000000 in
set_option maxRecDepth 4000 in
/-- The law. -/
theorem handlerchunks_any (x n : Int) (hx : 0 ≤ x ∧ x ≤ 4294967295) (w : World) : Calls Try.prog 4 #[.int .u32 x, .int .i64 n] w fun e w' => e = .returned (.bool true) ∧ w = w' := by
  have hl := low63 n
  obtain ⟨k, hk, hk63⟩ : ∃ k : Nat, n % 64 = k ∧ k ≤ 63 := ⟨(n % 64).toNat, by omega, by omega⟩
  rw [hk] at hl
  have HX := Lib.hid hx
  clear hk hx
  go_enter Try.func4, Try.ntmps4
  go_wp2_with fail
  go_loopg [6, 7, 8] (63 : Nat) (fun g s6 s7 s8 wx => ∃ (i : Nat) (v p : Int), s6 = .int .u32 v ∧ s7 = .int .u32 p ∧ s8 = .int .i64 i ∧ i ≤ k ∧ 63 - i ≤ g ∧ Hid (v = ((x + i) % 4294967296)) ∧ Hid (p = Hn.pw x i) ∧ w = wx)
  case atStart => exact ⟨0, x, 1, rfl, rfl, rfl, by omega, by omega, Lib.hid (by have := HX.out; omega), Lib.hid (Hn.pw_zero x).symm, rfl⟩
  case round =>
    obtain ⟨i, v, p, rfl, rfl, rfl, hik, hg, HV, HP, rfl⟩ := hrel
    by_cases hi : i < k
    · have hi' : (i : Int) < (k : Int) := by omega
      have hwi : IntKind.i64.wrap ((i : Int) + 1) = (i : Int) + 1 := by rw [IntKind.wrap_i64]; omega
      have HC := Lib.hid (hnchunk_count x i (by omega))
      have HQ := Lib.hid (hnchunk_power x i (by omega))
      go_wp2_with fail
      refine (HC.out _).mono ?_
      rintro e w1 ⟨rfl, rfl⟩
      rw [← HV.out]
      go_wp2_with fail
      refine (HQ.out _).mono ?_
      rintro e w1 ⟨rfl, rfl⟩
      rw [← HP.out]
      go_wp2_with fail
      go_roundg (63 - (i + 1))
      case measure => omega
      case rel => exact ⟨i + 1, _, _, rfl, rfl, by go_num, by omega, by omega, Lib.hid (by have := HV.out; omega), Lib.hid (by rw [Hn.pw_succ, HP.out]), rfl⟩
    · have hi' : ¬ (i : Int) < (k : Int) := by omega
      have hw1 : IntKind.i64.wrap (-1 - (k : Int)) = -1 - (k : Int) := by rw [IntKind.wrap_i64]; omega
      have H1 := Lib.hid (hnchunk_below 4 x (-1 - (k : Int)) (by omega))
      clear hk63
      go_wp2_with fail
      refine (awake25_any _).mono ?_
      rintro e w1 ⟨rfl, rfl⟩
      go_wp2_with fail
      refine (H1.out _).mono ?_
      rintro e w1 ⟨rfl, rfl⟩
      go_wp2_with fail
      refine (hnchunk_below 5 x (-1) (by decide) _).mono ?_
      rintro e w1 ⟨rfl, rfl⟩
      go_wp2_with fail
      refine (hnchunk_no (by decide) x k _).mono ?_
      rintro e w1 ⟨rfl, rfl⟩
      go_wp2_with fail
      refine (hnchunk_no (by decide) x k _).mono ?_
      rintro e w1 ⟨rfl, rfl⟩
      go_wp2_with fail
      all_goals (go_ret; exact ⟨rfl, rfl⟩)
end Go.Proofs.Ytbonnpejpfkaaaa
