/- Plain numbers: fields of bits in words of 64 bits, said by quotients and remainders. Nothing here speaks of a program. -/
namespace Go.Proofs.Ytebaipakjomenaa.Fld

def most (b : Nat) : Nat := 2 ^ b - 1
def mask (a b : Nat) : Nat := (2 ^ b - 1) * 2 ^ a
def get (w a b : Nat) : Nat := w / 2 ^ a % 2 ^ b
def bit (w i : Nat) : Nat := w / 2 ^ i % 2
def put (w a b n : Nat) : Nat := (w &&& (18446744073709551615 - mask a b)) ||| (min n (most b) * 2 ^ a)

theorem pow64 : (2 : Nat) ^ 64 = 18446744073709551616 := by decide

theorem pow_pos (b : Nat) : 1 ≤ 2 ^ b := Nat.one_le_two_pow

theorem pow_le {b : Nat} (h : b ≤ 64) : 2 ^ b ≤ 18446744073709551616 := by
  rw [← pow64]; exact Nat.pow_le_pow_right (by omega) h

theorem most_lt {b : Nat} (h : b ≤ 64) : most b < 18446744073709551616 := by
  have := pow_le h; have := pow_pos b; unfold most; omega

theorem most_shr {b : Nat} (h : b ≤ 64) : 18446744073709551615 / 2 ^ (64 - b) = most b := by
  have h1 : 2 ^ b * 2 ^ (64 - b) = 18446744073709551616 := by rw [← Nat.pow_add, ← pow64]; congr 1; omega
  have h2 := pow_pos b
  have h3 := pow_pos (64 - b)
  unfold most
  apply Nat.div_eq_of_lt_le
  · rw [Nat.sub_mul]; omega
  · rw [Nat.sub_add_cancel h2, h1]; omega

theorem int_most {b : Nat} (h : b ≤ 64) : (18446744073709551615 : Int) / 2 ^ (64 - b) = ((most b : Nat) : Int) := by
  rw [← most_shr h]; simp

theorem most_step (k : Nat) : most (k + 1) = 2 * most k + 1 := by
  unfold most; have := pow_pos k; rw [Nat.pow_succ]; omega

theorem mask_lt {a b : Nat} (h : a + b ≤ 64) : mask a b < 18446744073709551616 := by
  have h1 : 2 ^ b * 2 ^ a ≤ 18446744073709551616 := by rw [← Nat.pow_add]; exact pow_le (by omega)
  have h2 := pow_pos a
  unfold mask; rw [Nat.sub_mul]; omega

theorem mask_bit (a b i : Nat) : (mask a b).testBit i = (decide (a ≤ i) && decide (i < a + b)) := by
  unfold mask
  rw [Nat.testBit_mul_two_pow, Nat.testBit_two_pow_sub_one]
  by_cases h : a ≤ i
  · simp [h]; omega
  · simp [h]

theorem full_bit (i : Nat) : (18446744073709551615 : Nat).testBit i = decide (i < 64) := by
  have : (18446744073709551615 : Nat) = 2 ^ 64 - 1 := by decide
  rw [this, Nat.testBit_two_pow_sub_one]

theorem bit_eq (w i : Nat) : bit w i = (w.testBit i).toNat := by
  unfold bit; rw [Nat.testBit_eq_decide_div_mod_eq]
  have : w / 2 ^ i % 2 < 2 := Nat.mod_lt _ (by omega)
  by_cases h : w / 2 ^ i % 2 = 1
  · simp [h]
  · have : w / 2 ^ i % 2 = 0 := by omega
    simp [this]

theorem get_code (w a b : Nat) : (w &&& mask a b) / 2 ^ a = get w a b := by
  apply Nat.eq_of_testBit_eq
  intro i
  unfold get
  rw [Nat.testBit_div_two_pow, Nat.testBit_and, mask_bit, Nat.testBit_mod_two_pow, Nat.testBit_div_two_pow]
  by_cases h : i < b
  · simp [h]; intro; omega
  · simp [h]; intro; omega

theorem inv_bit {a b : Nat} (h : a + b ≤ 64) (i : Nat) : (18446744073709551615 - mask a b).testBit i = (decide (i < 64) && !(mask a b).testBit i) := by
  have : 18446744073709551615 - mask a b = 2 ^ 64 - (mask a b + 1) := by rw [pow64]; omega
  rw [this, Nat.testBit_two_pow_sub_succ (by rw [pow64]; exact mask_lt h)]

theorem put_bit {w a b n : Nat} (h : a + b ≤ 64) (hw : w < 18446744073709551616) (i : Nat) :
    (put w a b n).testBit i = if a ≤ i ∧ i < a + b then (min n (most b)).testBit (i - a) else w.testBit i := by
  unfold put
  rw [Nat.testBit_or, Nat.testBit_and, inv_bit h, mask_bit, Nat.testBit_mul_two_pow]
  by_cases h1 : a ≤ i
  · by_cases h2 : i < a + b
    · simp [h1, h2]
    · have h3 : (min n (most b)).testBit (i - a) = false := by
        apply Nat.testBit_lt_two_pow
        have h4 : min n (most b) < 2 ^ b := by have := pow_pos b; unfold most; omega
        exact Nat.lt_of_lt_of_le h4 (Nat.pow_le_pow_right (by omega) (by omega))
      by_cases h4 : i < 64
      · simp [h1, h2, h3, h4]
      · have : w.testBit i = false := by
          apply Nat.testBit_lt_two_pow
          exact Nat.lt_of_lt_of_le hw (by rw [← pow64]; exact Nat.pow_le_pow_right (by omega) (by omega))
        simp [h2, h3, this]
  · have h4 : i < 64 ∨ w.testBit i = false := by
      by_cases h4 : i < 64
      · exact .inl h4
      · right
        apply Nat.testBit_lt_two_pow
        exact Nat.lt_of_lt_of_le hw (by rw [← pow64]; exact Nat.pow_le_pow_right (by omega) (by omega))
    rcases h4 with h4 | h4
    · simp [h1, h4]
    · simp [h1, h4]

theorem shl_lt {a b n : Nat} (h : a + b ≤ 64) : min n (most b) * 2 ^ a < 18446744073709551616 := by
  have h1 : min n (most b) * 2 ^ a ≤ (2 ^ b - 1) * 2 ^ a := Nat.mul_le_mul_right _ (by unfold most; omega)
  have h2 := mask_lt h
  unfold mask at h2
  omega

theorem put_lt {w a b n : Nat} (h : a + b ≤ 64) (hw : w < 18446744073709551616) : put w a b n < 18446744073709551616 := by
  unfold put
  rw [← pow64]
  apply Nat.or_lt_two_pow
  · exact Nat.lt_of_le_of_lt Nat.and_le_left (by rw [pow64]; exact hw)
  · rw [pow64]; exact shl_lt h

theorem get_lt {w a b : Nat} (hw : w < 18446744073709551616) : get w a b < 18446744073709551616 := by
  unfold get
  exact Nat.lt_of_le_of_lt (Nat.le_trans (Nat.mod_le _ _) (Nat.div_le_self _ _)) hw

theorem get_put {w a b n : Nat} (h : a + b ≤ 64) (hw : w < 18446744073709551616) : get (put w a b n) a b = min n (most b) := by
  apply Nat.eq_of_testBit_eq
  intro i
  unfold get
  rw [Nat.testBit_mod_two_pow, Nat.testBit_div_two_pow, put_bit h hw]
  by_cases h1 : i < b
  · have h2 : a ≤ i + a ∧ i + a < a + b := by omega
    have h3 : i + a - a = i := by omega
    rw [if_pos h2, h3]; simp [h1]
  · have h3 : (min n (most b)).testBit i = false := by
      apply Nat.testBit_lt_two_pow
      have h4 : min n (most b) < 2 ^ b := by have := pow_pos b; unfold most; omega
      exact Nat.lt_of_lt_of_le h4 (Nat.pow_le_pow_right (by omega) (by omega))
    simp [h1, h3]

/- One round of a loop that goes down over bits: what is above place i, then place i too. -/
theorem down (r i : Nat) : r / 2 ^ i = 2 * (r / 2 ^ (i + 1)) + bit r i := by
  unfold bit; rw [Nat.pow_succ, ← Nat.div_div_eq_div_mul]; omega

theorem get_down (w a b i : Nat) (h : i < b) : get w (a + i) (b - i) = 2 * get w (a + i + 1) (b - i - 1) + bit w (a + i) := by
  unfold get
  have e := down w (a + i)
  have : 2 ^ (b - i) = 2 * 2 ^ (b - i - 1) := by rw [← Nat.pow_succ']; congr 1; omega
  rw [this, e]
  have hb : bit w (a + i) < 2 := Nat.mod_lt _ (by omega)
  rw [Nat.add_comm (2 * _), Nat.mod_mul, Nat.add_mul_mod_self_left, Nat.add_mul_div_left _ _ (by omega), Nat.mod_eq_of_lt hb, Nat.div_eq_of_lt hb, Nat.zero_add, Nat.add_comm]

theorem bit_put {w a b n : Nat} (h : a + b ≤ 64) (hw : w < 18446744073709551616) (i : Nat) :
    bit (put w a b n) i = if a ≤ i ∧ i < a + b then bit (min n (most b)) (i - a) else bit w i := by
  rw [bit_eq, put_bit h hw]
  split <;> rw [bit_eq]

end Go.Proofs.Ytebaipakjomenaa.Fld
