/- What the document's own small functions over one word come to: the bit, the greatest number, and whether there is a field. -/
import Derived.Test.YtcpgigmnmlmpjaaDoorFldA
namespace Go.Proofs.YtcpgigmnmlmpjaaDoor
open Go.RowKit

set_option maxHeartbeats 400000 in
/-- Bit: a word's bit. -/
theorem bit_any (x i : Nat) (hx : x < 18446744073709551616) (hi : i < 64) (w : World) :
    Calls Tryd.prog 31 #[.int .u64 x, .int .i64 i] w fun e w' => e = .returned (.int .u64 (Fld.bit x i : Nat)) ∧ w = w' := by
  go_enter Tryd.func31, Tryd.ntmps31
  go_wp2
  go_loop [0, 5] (fun v j => ∃ k : Nat, k ≤ i ∧ j = .int .i64 k ∧ v = .int .u64 (x / 2 ^ k : Nat)) (fun _ j => i - (intOf j).toNat)
  case atStart => exact ⟨0, Nat.zero_le _, rfl, by simp⟩
  case round =>
    obtain ⟨k, hk, rfl, rfl⟩ := hrel
    have h1 : x / 2 ^ k ≤ x := Nat.div_le_self _ _
    generalize hy : x / 2 ^ k = y at *
    have HY := Lib.hid hy
    clear hy
    by_cases hlt : k < i
    · go_wp2
      go_round
      case rel => exact ⟨k + 1, by omega, by go_num, by rw [Nat.pow_succ, ← Nat.div_div_eq_div_mul, HY.out]; go_num⟩
      case measure => simp [intOf]; omega
    · obtain rfl : k = i := by omega
      go_wp2
      go_ret
      exact ⟨ret_u64 (by unfold Fld.bit; rw [HY.out]; simp), rfl⟩

/-- May: there is such a field, as the document has it. -/
theorem rmay_yes (a b : Nat) (hb : 1 ≤ b) (h : a + b ≤ 64) (w : World) :
    Calls Tryd.prog 29 #[.int .i64 a, .int .i64 b] w fun e w' => e = .returned (.bool true) ∧ w = w' := by
  go_enter Tryd.func29, Tryd.ntmps29
  go_wp2
  go_ret
  exact ⟨ret_bool (by simp; omega), rfl⟩

/-- .. and there is none. -/
theorem rmay_no (a b : Int) (hn : ¬ (0 ≤ a ∧ 1 ≤ b ∧ a + b ≤ 64)) (ha : -9223372036854775808 ≤ a ∧ a ≤ 9223372036854775807) (hb : -9223372036854775808 ≤ b ∧ b ≤ 9223372036854775807) (w : World) :
    Calls Tryd.prog 29 #[.int .i64 a, .int .i64 b] w fun e w' => e = .returned (.bool false) ∧ w = w' := by
  obtain ⟨ha1, ha2⟩ := ha
  obtain ⟨hb1, hb2⟩ := hb
  by_cases h0 : 0 ≤ a
  · by_cases h1 : a < 64
    · by_cases h2 : 1 ≤ b
      · have h3 : 64 - a < b := by omega
        clear hn
        go_enter Tryd.func29, Tryd.ntmps29
        go_wp2
        go_ret
        exact ⟨ret_bool (by simp; omega), rfl⟩
      · clear hn
        go_enter Tryd.func29, Tryd.ntmps29
        go_wp2
        go_ret
        exact ⟨ret_bool (by simp), rfl⟩
    · clear hn
      go_enter Tryd.func29, Tryd.ntmps29
      go_wp2
      go_ret
      exact ⟨ret_bool (by simp), rfl⟩
  · clear hn
    go_enter Tryd.func29, Tryd.ntmps29
    go_wp2
    go_ret
    exact ⟨ret_bool (by simp), rfl⟩

set_option maxHeartbeats 400000 in
/-- The greatest number of so many bits, one bit behind the other. -/
theorem rmost_any (b : Nat) (h : b ≤ 64) (w : World) :
    Calls Tryd.prog 30 #[.int .i64 b] w fun e w' => e = .returned (.int .u64 (Fld.most b : Nat)) ∧ w = w' := by
  go_enter Tryd.func30, Tryd.ntmps30
  go_wp2
  go_loop [3, 4] (fun v j => ∃ k : Nat, k ≤ b ∧ j = .int .i64 k ∧ v = .int .u64 (Fld.most k : Nat)) (fun _ j => b - (intOf j).toNat)
  case atStart => exact ⟨0, Nat.zero_le _, rfl, rfl⟩
  case round =>
    obtain ⟨k, hk, rfl, rfl⟩ := hrel
    by_cases hlt : k < b
    · have hs := Fld.most_step k
      have hm := Fld.most_lt (b := k + 1) (by omega)
      generalize hy : Fld.most k = y at *
      generalize hz : Fld.most (k + 1) = z at *
      have HY := Lib.hid hy
      have HZ := Lib.hid hz
      have HS := Lib.hid hs
      have hy2 : 2 * y + 1 < 18446744073709551616 := by omega
      clear hy hz hs hm
      go_wp2
      go_round
      case rel => exact ⟨k + 1, by omega, by go_num, by rw [HZ.out, HS.out]; go_num⟩
      case measure => simp [intOf]; omega
    · obtain rfl : k = b := by omega
      go_wp2
      go_ret
      exact ⟨rfl, rfl⟩

end Go.Proofs.YtcpgigmnmlmpjaaDoor
