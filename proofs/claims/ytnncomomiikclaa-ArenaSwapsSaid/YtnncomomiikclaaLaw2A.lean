/- The law's own first look, and the law on no arena: true whatever comes. -/
import Derived.Test.YtnncomomiikclaaArnE
namespace Go.Proofs.Ytnncomomiikclaa
open Go.RowKit

theorem Now.below {w w' : World} {B : Nat} {s : Spot} {a0 a : Ar} (h0 : Arena w B s a0) (h : Now w w' B s a) : Below B w w' := by
  obtain ⟨T, _, _, hR⟩ := h
  exact hR.below (by have := h0.size; omega) h0.from

set_option maxHeartbeats 800000 in
theorem awake_any (w : World) : Calls Try.prog 8 #[] w fun e w' => e = .returned (.bool true) ∧ Below w.heap.size w w' := by
  go_enter Try.func8, Try.ntmps8
  go_wp2_with fail
  refine (new_yes 2 _ (by omega) (by omega)).mono ?_
  rintro e w1 ⟨s, rfl, h1, hR1⟩
  have hb1 := hR1.below (Nat.le_refl _) (fun k hk => hk.elim)
  clear hR1
  go_wp2_with fail
  refine (write_in 0 5 _ h1 (by decide) (by decide)).mono ?_
  rintro e w2 ⟨rfl, hN⟩
  have hb2 := hb1.trans (hN.below h1)
  obtain ⟨T2, -, h2, -⟩ := hN
  clear h1 hb1
  go_wp2_with fail
  refine (swap_yes 0 5 6 _ h2 (by decide) (by decide) (by decide)).mono ?_
  rintro e w3 ⟨rfl, hN⟩
  have hb3 := hb2.trans (hN.below h2)
  obtain ⟨T3, -, h3, -⟩ := hN
  clear h2 hb2
  go_wp2_with fail
  refine (swap_no 0 5 7 _ h3 (by decide) (by decide)).mono ?_
  rintro e w4 ⟨rfl, hN⟩
  have hb4 := hb3.trans (hN.below h3)
  obtain ⟨T4, -, h4, -⟩ := hN
  clear h3 hb3
  go_wp2_with fail
  refine (read_in 0 _ h4 (by decide)).mono ?_
  rintro e w5 ⟨rfl, hN⟩
  have hb5 := hb4.trans (hN.below h4)
  obtain ⟨T5, -, h5, -⟩ := hN
  clear h4 hb4
  have h5' : Arena w5 w.heap.size { s with T := T5 } ⟨[6, 0], [0], 0⟩ := h5
  clear h5
  rw [show (((((((Ar.new 2).touch 0).put 0 5).touch 0).put 0 6).touch 0).cs.getD 0 0) = 6 from rfl]
  go_wp2_with fail
  refine (touched_any _ h5').mono ?_
  rintro e w6 ⟨ao, cap, rfl, _, hR6⟩
  have hb6 := hb5.trans (hR6.below (by have := h5'.size; omega) (fun k hk => hk.elim))
  clear h5' hR6 hb5
  go_wp2
  go_ret
  exact ⟨rfl, hb6⟩

set_option maxHeartbeats 800000 in
theorem none_any (n x : Int) (hn : -9223372036854775808 ≤ n ∧ n ≤ 9223372036854775807) (w : World) :
    Calls Try.prog 3 #[.int .i64 n, .int .u64 x] w fun e w' => e = .returned (.bool true) ∧ Below w.heap.size w w' := by
  by_cases hm : 1 ≤ n ∧ n ≤ 16384
  · obtain ⟨k, rfl⟩ := Int.eq_ofNat_of_zero_le (show 0 ≤ n by omega)
    have g1 : (1 : Int) ≤ (k : Int) := by omega
    have g2 : (k : Int) ≤ 16384 := by omega
    go_enter Try.func3, Try.ntmps3
    go_wp2_with fail
    refine (write_nil _ _ _).mono ?_
    rintro e w1 ⟨rfl, rfl⟩
    go_wp2_with fail
    refine (begin_nil _).mono ?_
    rintro e w1 ⟨rfl, rfl⟩
    go_wp2_with fail
    refine (new_yes k _ (by omega) (by omega)).mono ?_
    rintro e w1 ⟨s, rfl, h1, hR1⟩
    have hb1 := hR1.below (Nat.le_refl _) (fun k hk => hk.elim)
    clear hR1 h1
    go_wp2_with fail
    refine (awake_any _).mono ?_
    rintro e w2 ⟨rfl, hb2⟩
    have hb3 := hb1.trans (hb2.mono hb1.size)
    clear hb1 hb2
    go_wp2_with (first
      | (go_at_call 9; refine (read_nil _ _).mono ?_; rintro e w3 ⟨rfl, rfl⟩)
      | (go_at_call 10; refine (swap_nil _ _ _ _).mono ?_; rintro e w3 ⟨rfl, rfl⟩)
      | (go_at_call 11; refine (look_nil _ _).mono ?_; rintro e w3 ⟨rfl, rfl⟩)
      | (go_at_call 12; refine (len_nil _).mono ?_; rintro e w3 ⟨rfl, rfl⟩)
      | (go_at_call 13; refine (touched_nil _).mono ?_; rintro e w3 ⟨rfl, rfl⟩)
      | (go_at_call 14; refine (stray_nil _).mono ?_; rintro e w3 ⟨rfl, rfl⟩))
    go_ret
    exact ⟨rfl, hb3⟩
  · by_cases g1 : 1 ≤ n
    · have g2 : ¬ n ≤ 16384 := by omega
      have HM := Lib.hid hm
      clear hm
      go_enter Try.func3, Try.ntmps3
      go_wp2_with fail
      refine (write_nil _ _ _).mono ?_
      rintro e w1 ⟨rfl, rfl⟩
      go_wp2_with fail
      refine (begin_nil _).mono ?_
      rintro e w1 ⟨rfl, rfl⟩
      go_wp2_with fail
      refine (new_no n _ HM.out).mono ?_
      rintro e w1 ⟨rfl, rfl⟩
      go_wp2_with fail
      refine (awake_any _).mono ?_
      rintro e w2 ⟨rfl, hb2⟩
      go_wp2_with (first
        | (go_at_call 9; refine (read_nil _ _).mono ?_; rintro e w3 ⟨rfl, rfl⟩)
        | (go_at_call 10; refine (swap_nil _ _ _ _).mono ?_; rintro e w3 ⟨rfl, rfl⟩)
        | (go_at_call 11; refine (look_nil _ _).mono ?_; rintro e w3 ⟨rfl, rfl⟩)
        | (go_at_call 12; refine (len_nil _).mono ?_; rintro e w3 ⟨rfl, rfl⟩)
        | (go_at_call 13; refine (touched_nil _).mono ?_; rintro e w3 ⟨rfl, rfl⟩)
        | (go_at_call 14; refine (stray_nil _).mono ?_; rintro e w3 ⟨rfl, rfl⟩))
      go_ret
      exact ⟨retb (by simp; omega), hb2⟩
    · have HM := Lib.hid hm
      clear hm
      go_enter Try.func3, Try.ntmps3
      go_wp2_with fail
      refine (write_nil _ _ _).mono ?_
      rintro e w1 ⟨rfl, rfl⟩
      go_wp2_with fail
      refine (begin_nil _).mono ?_
      rintro e w1 ⟨rfl, rfl⟩
      go_wp2_with fail
      refine (new_no n _ HM.out).mono ?_
      rintro e w1 ⟨rfl, rfl⟩
      go_wp2_with fail
      refine (awake_any _).mono ?_
      rintro e w2 ⟨rfl, hb2⟩
      go_wp2_with (first
        | (go_at_call 9; refine (read_nil _ _).mono ?_; rintro e w3 ⟨rfl, rfl⟩)
        | (go_at_call 10; refine (swap_nil _ _ _ _).mono ?_; rintro e w3 ⟨rfl, rfl⟩)
        | (go_at_call 11; refine (look_nil _ _).mono ?_; rintro e w3 ⟨rfl, rfl⟩)
        | (go_at_call 12; refine (len_nil _).mono ?_; rintro e w3 ⟨rfl, rfl⟩)
        | (go_at_call 13; refine (touched_nil _).mono ?_; rintro e w3 ⟨rfl, rfl⟩)
        | (go_at_call 14; refine (stray_nil _).mono ?_; rintro e w3 ⟨rfl, rfl⟩))
      go_ret
      exact ⟨rfl, hb2⟩

end Go.Proofs.Ytnncomomiikclaa
