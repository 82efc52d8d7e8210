/- The document's own numbers of a field, bit by bit, come to what plain numbers are. -/
import Derived.Test.YtcpgigmnmlmpjaaDoorWalkA
namespace Go.Proofs.YtcpgigmnmlmpjaaDoor
open Go.RowKit

/-- Bit, at a place that was reckoned. -/
theorem bit_int (x : Nat) (i : Int) (n : Nat) (e : i = (n : Int)) (hx : x < 18446744073709551616) (hn : n < 64) (w : World) :
    Calls Tryd.prog 31 #[.int .u64 x, .int .i64 i] w fun e w' => e = .returned (.int .u64 (Fld.bit x n : Nat)) ∧ w = w' := by
  subst e; exact bit_any x n hx hn w

theorem bit_le (x i : Nat) : Fld.bit x i ≤ 1 := by
  have : Fld.bit x i < 2 := Nat.mod_lt _ (by omega)
  omega

theorem get_start (x a b : Nat) : Fld.get x (a + b) (b - b) = 0 := by
  unfold Fld.get; rw [Nat.sub_self]; exact Nat.mod_one _

set_option maxHeartbeats 1000000 in
/-- The document's Get, where there is such a field. -/
theorem rget_yes (x a b : Nat) (hx : x < 18446744073709551616) (hb : 1 ≤ b) (h : a + b ≤ 64) (w : World) :
    Calls Tryd.prog 24 #[.int .u64 x, .int .i64 a, .int .i64 b] w fun e w' => e = .returned (.int .u64 (Fld.get x a b : Nat)) ∧ w = w' := by
  go_enter Tryd.func24, Tryd.ntmps24
  go_wp2_with (go_at_call 29; refine (rmay_yes a b hb h _).mono ?_; rintro e w1 ⟨rfl, rfl⟩)
  go_loop [7, 8] (fun v j => ∃ (k : Nat) (q : Int), k ≤ b ∧ j = .int .i64 q ∧ q = (k : Int) - 1 ∧ v = .int .u64 (Fld.get x (a + k) (b - k) : Nat)) (fun _ j => (intOf j + 1).toNat)
  case atStart => exact ⟨b, (b : Int) - 1, Nat.le_refl _, by go_num, rfl, by rw [get_start]; rfl⟩
  case round =>
    obtain ⟨k, q, hk, rfl, hq, rfl⟩ := hrel
    by_cases hlt : k = 0
    · subst hlt
      have hq0 : q < 0 := by omega
      clear hq
      go_wp2
      go_ret
      exact ⟨ret_u64 (by simp), rfl⟩
    · obtain ⟨m, rfl⟩ : ∃ m, k = m + 1 := ⟨k - 1, by omega⟩
      have hd := Fld.get_down x a b m (by omega)
      have hl := Fld.get_lt (w := x) (a := a + m) (b := b - m) hx
      have hy2 : 2 * Fld.get x (a + (m + 1)) (b - (m + 1)) + Fld.bit x (a + m) < 18446744073709551616 := by rw [hd] at hl; exact hl
      have hbit := bit_le x (a + m)
      have HD : Hid (Fld.get x (a + m) (b - m) = 2 * Fld.get x (a + (m + 1)) (b - (m + 1)) + Fld.bit x (a + m)) := hd
      have hq0 : 0 ≤ q := by omega
      have hq1 : q ≤ 63 := by omega
      have HQ := Lib.hid hq
      have ha : a ≤ 63 := by omega
      clear hq hd hl
      generalize hy : Fld.get x (a + (m + 1)) (b - (m + 1)) = y at *
      have HY := Lib.hid hy
      clear hy
      go_wp2_with (go_at_call 31; refine (bit_int x _ (a + m) (by have := HQ.out; omega) hx (by omega) _).mono ?_; rintro e w1 ⟨rfl, rfl⟩)
      go_round
      case rel => exact ⟨m, (m : Int) - 1, by omega, by have := HQ.out; go_num, rfl, by rw [HD.out]; go_num⟩
      case measure => have := HQ.out; simp [intOf]; omega

set_option maxHeartbeats 1000000 in
/-- .. 0, where there is none. -/
theorem rget_no (x : Int) (a b : Int) (hn : ¬ (0 ≤ a ∧ 1 ≤ b ∧ a + b ≤ 64)) (ha : -9223372036854775808 ≤ a ∧ a ≤ 9223372036854775807) (hb : -9223372036854775808 ≤ b ∧ b ≤ 9223372036854775807) (w : World) :
    Calls Tryd.prog 24 #[.int .u64 x, .int .i64 a, .int .i64 b] w fun e w' => e = .returned (.int .u64 0) ∧ w = w' := by
  have H := Lib.hid hn
  have HA := Lib.hid ha
  have HB := Lib.hid hb
  clear hn ha hb
  go_enter Tryd.func24, Tryd.ntmps24
  go_wp2_with (go_at_call 29; refine (rmay_no a b H.out HA.out HB.out _).mono ?_; rintro e w1 ⟨rfl, rfl⟩)
  go_ret
  exact ⟨rfl, rfl⟩

/-- The bits of the word that is to come: those of the number (cut to what fits), where the field stands, else those of the word. -/
def Bits (r x m a b : Nat) : Prop := ∀ i, Fld.bit r i = if a ≤ i ∧ i < a + b then Fld.bit m (i - a) else Fld.bit x i

theorem put_in {r x m a b i : Nat} (h : Bits r x m a b) (h1 : a ≤ i) (h2 : i < a + b) : r / 2 ^ i = 2 * (r / 2 ^ (i + 1)) + Fld.bit m (i - a) := by
  rw [Fld.down r i, h i, if_pos ⟨h1, h2⟩]
theorem put_out {r x m a b i : Nat} (h : Bits r x m a b) (h1 : ¬ (a ≤ i ∧ i < a + b)) : r / 2 ^ i = 2 * (r / 2 ^ (i + 1)) + Fld.bit x i := by
  rw [Fld.down r i, h i, if_neg h1]

set_option maxHeartbeats 2000000 in
/-- The document's Put, where there is such a field. -/
theorem rput_yes (x n a b : Nat) (hx : x < 18446744073709551616) (hn : n < 18446744073709551616) (hb : 1 ≤ b) (hab : a + b ≤ 64) (w : World) :
    Calls Tryd.prog 20 #[.int .u64 x, .int .i64 a, .int .i64 b, .int .u64 n] w fun e w' => e = .returned (.int .u64 (Fld.put x a b n : Nat)) ∧ w = w' := by
  have hr := Fld.put_lt (n := n) hab hx
  have hbits : Bits (Fld.put x a b n) x (min n (Fld.most b)) a b := Fld.bit_put hab hx
  generalize Fld.put x a b n = r at *
  by_cases hc : Fld.most b < n
  all_goals
    go_enter Tryd.func20, Tryd.ntmps20
    go_wp2_with (first | (go_at_call 29; refine (rmay_yes a b hb hab _).mono ?_; rintro e w1 ⟨rfl, rfl⟩) | (go_at_call 30; refine (rmost_any b (by omega) _).mono ?_; rintro e w1 ⟨rfl, rfl⟩))
  · have HB : Hid (Bits r x (Fld.most b) a b) := by rw [Nat.min_eq_right (by omega)] at hbits; exact hbits
    have hm := Fld.most_lt (b := b) (by omega)
    generalize Fld.most b = m at *
    clear hbits hc hn
    go_loop [9, 10] (fun v j => ∃ (k : Nat) (q : Int), k ≤ 64 ∧ j = .int .i64 q ∧ q = (k : Int) - 1 ∧ v = .int .u64 (r / 2 ^ k : Nat)) (fun _ j => (intOf j + 1).toNat)
    case atStart => exact ⟨64, 63, Nat.le_refl _, rfl, rfl, by rw [Fld.pow64, Nat.div_eq_of_lt hr]; rfl⟩
    case round =>
      obtain ⟨k, q, hk, rfl, hq, rfl⟩ := hrel
      by_cases hlt : k = 0
      · subst hlt
        have hq0 : q < 0 := by omega
        clear hq
        go_wp2
        go_ret
        exact ⟨ret_u64 (by simp), rfl⟩
      · obtain ⟨i, rfl⟩ : ∃ i, k = i + 1 := ⟨k - 1, by omega⟩
        have hl : r / 2 ^ i < 18446744073709551616 := Nat.lt_of_le_of_lt (Nat.div_le_self _ _) hr
        have hq0 : 0 ≤ q := by omega
        have hq1 : q ≤ 63 := by omega
        have ha : a ≤ 63 := by omega
        have HQ := Lib.hid hq
        by_cases hin : a ≤ i ∧ i < a + b
        · have hd := put_in HB.out hin.1 hin.2
          have hy2 : 2 * (r / 2 ^ (i + 1)) + Fld.bit m (i - a) < 18446744073709551616 := by omega
          have HD := Lib.hid hd
          have g1 : (a : Int) ≤ q := by omega
          have g2 : q < (a : Int) + b := by omega
          have g3 := hin.1
          clear hq hd hl hin
          generalize r / 2 ^ (i + 1) = y at *
          go_wp2_with fail
          refine (bit_int x _ i (by have := HQ.out; omega) hx (by omega) _).mono ?_
          rintro e w1 ⟨rfl, rfl⟩
          go_wp2_with fail
          refine (bit_int m _ (i - a) (by have := HQ.out; omega) hm (by omega) _).mono ?_
          rintro e w1 ⟨rfl, rfl⟩
          go_wp2_with fail
          go_round
          case rel => exact ⟨i, (i : Int) - 1, by omega, by have := HQ.out; go_num, rfl, by rw [HD.out]; go_num⟩
          case measure => have := HQ.out; simp [intOf]; omega
        · have hd := put_out HB.out hin
          have hy2 : 2 * (r / 2 ^ (i + 1)) + Fld.bit x i < 18446744073709551616 := by omega
          have HD := Lib.hid hd
          generalize r / 2 ^ (i + 1) = y at *
          by_cases g1 : (a : Int) ≤ q
          · have g2 : ¬ q < (a : Int) + b := by omega
            clear hq hd hl hin
            go_wp2_with (go_at_call 31; refine (bit_int x _ i (by have := HQ.out; omega) hx (by omega) _).mono ?_; rintro e w1 ⟨rfl, rfl⟩)
            go_round
            case rel => exact ⟨i, (i : Int) - 1, by omega, by have := HQ.out; go_num, rfl, by rw [HD.out]; go_num⟩
            case measure => have := HQ.out; simp [intOf]; omega
          · clear hq hd hl hin
            go_wp2_with (go_at_call 31; refine (bit_int x _ i (by have := HQ.out; omega) hx (by omega) _).mono ?_; rintro e w1 ⟨rfl, rfl⟩)
            go_round
            case rel => exact ⟨i, (i : Int) - 1, by omega, by have := HQ.out; go_num, rfl, by rw [HD.out]; go_num⟩
            case measure => have := HQ.out; simp [intOf]; omega
  · have HB : Hid (Bits r x n a b) := by rw [Nat.min_eq_left (by omega)] at hbits; exact hbits
    generalize Fld.most b = z at *
    clear hbits hc
    obtain ⟨m, rfl⟩ : ∃ m, m = n := ⟨_, rfl⟩
    have hm := hn
    clear hn
    go_loop [9, 10] (fun v j => ∃ (k : Nat) (q : Int), k ≤ 64 ∧ j = .int .i64 q ∧ q = (k : Int) - 1 ∧ v = .int .u64 (r / 2 ^ k : Nat)) (fun _ j => (intOf j + 1).toNat)
    case atStart => exact ⟨64, 63, Nat.le_refl _, rfl, rfl, by rw [Fld.pow64, Nat.div_eq_of_lt hr]; rfl⟩
    case round =>
      obtain ⟨k, q, hk, rfl, hq, rfl⟩ := hrel
      by_cases hlt : k = 0
      · subst hlt
        have hq0 : q < 0 := by omega
        clear hq
        go_wp2
        go_ret
        exact ⟨ret_u64 (by simp), rfl⟩
      · obtain ⟨i, rfl⟩ : ∃ i, k = i + 1 := ⟨k - 1, by omega⟩
        have hl : r / 2 ^ i < 18446744073709551616 := Nat.lt_of_le_of_lt (Nat.div_le_self _ _) hr
        have hq0 : 0 ≤ q := by omega
        have hq1 : q ≤ 63 := by omega
        have ha : a ≤ 63 := by omega
        have HQ := Lib.hid hq
        by_cases hin : a ≤ i ∧ i < a + b
        · have hd := put_in HB.out hin.1 hin.2
          have hy2 : 2 * (r / 2 ^ (i + 1)) + Fld.bit m (i - a) < 18446744073709551616 := by omega
          have HD := Lib.hid hd
          have g1 : (a : Int) ≤ q := by omega
          have g2 : q < (a : Int) + b := by omega
          have g3 := hin.1
          clear hq hd hl hin
          generalize r / 2 ^ (i + 1) = y at *
          go_wp2_with fail
          refine (bit_int x _ i (by have := HQ.out; omega) hx (by omega) _).mono ?_
          rintro e w1 ⟨rfl, rfl⟩
          go_wp2_with fail
          refine (bit_int m _ (i - a) (by have := HQ.out; omega) hm (by omega) _).mono ?_
          rintro e w1 ⟨rfl, rfl⟩
          go_wp2_with fail
          go_round
          case rel => exact ⟨i, (i : Int) - 1, by omega, by have := HQ.out; go_num, rfl, by rw [HD.out]; go_num⟩
          case measure => have := HQ.out; simp [intOf]; omega
        · have hd := put_out HB.out hin
          have hy2 : 2 * (r / 2 ^ (i + 1)) + Fld.bit x i < 18446744073709551616 := by omega
          have HD := Lib.hid hd
          generalize r / 2 ^ (i + 1) = y at *
          by_cases g1 : (a : Int) ≤ q
          · have g2 : ¬ q < (a : Int) + b := by omega
            clear hq hd hl hin
            go_wp2_with (go_at_call 31; refine (bit_int x _ i (by have := HQ.out; omega) hx (by omega) _).mono ?_; rintro e w1 ⟨rfl, rfl⟩)
            go_round
            case rel => exact ⟨i, (i : Int) - 1, by omega, by have := HQ.out; go_num, rfl, by rw [HD.out]; go_num⟩
            case measure => have := HQ.out; simp [intOf]; omega
          · clear hq hd hl hin
            go_wp2_with (go_at_call 31; refine (bit_int x _ i (by have := HQ.out; omega) hx (by omega) _).mono ?_; rintro e w1 ⟨rfl, rfl⟩)
            go_round
            case rel => exact ⟨i, (i : Int) - 1, by omega, by have := HQ.out; go_num, rfl, by rw [HD.out]; go_num⟩
            case measure => have := HQ.out; simp [intOf]; omega

set_option maxHeartbeats 1000000 in
/-- .. the word as it was, where there is none. -/
theorem rput_no (x n : Int) (a b : Int) (hn : ¬ (0 ≤ a ∧ 1 ≤ b ∧ a + b ≤ 64)) (ha : -9223372036854775808 ≤ a ∧ a ≤ 9223372036854775807) (hb : -9223372036854775808 ≤ b ∧ b ≤ 9223372036854775807) (w : World) :
    Calls Tryd.prog 20 #[.int .u64 x, .int .i64 a, .int .i64 b, .int .u64 n] w fun e w' => e = .returned (.int .u64 x) ∧ w = w' := by
  have H := Lib.hid hn
  have HA := Lib.hid ha
  have HB := Lib.hid hb
  clear hn ha hb
  go_enter Tryd.func20, Tryd.ntmps20
  go_wp2_with (go_at_call 29; refine (rmay_no a b H.out HA.out HB.out _).mono ?_; rintro e w1 ⟨rfl, rfl⟩)
  go_ret
  exact ⟨rfl, rfl⟩

end Go.Proofs.YtcpgigmnmlmpjaaDoor
