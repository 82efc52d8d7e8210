/- Plain numbers: times that are cut to their bounds, later ones, what is left, and numbers that are doubled. Nothing here speaks of a program. -/
namespace Go.Proofs.Ytgboiejiodgcnaa.Tk

def clamp (t : Int) : Int := if t < 0 then 0 else if 1099511627776 < t then 1099511627776 else t
def after (t n : Int) : Int := clamp (clamp t + clamp n)
def past (now t : Int) : Bool := decide (clamp t ≠ 1099511627776 ∧ clamp t ≤ clamp now)
def left (now t : Int) : Int := if clamp t = 1099511627776 then 1099511627776 else if clamp t < clamp now then 0 else clamp t - clamp now
/-- Doubled so often, without a bound. -/
def pw : Nat → Int → Int
  | 0, x => x
  | k + 1, x => 2 * pw k x
/-- Doubled so often, at most the greatest time. -/
def dbl : Nat → Int → Int
  | 0, x => x
  | k + 1, x => clamp (dbl k x + dbl k x)
def twice (n : Int) (k : Nat) (b : Int) : Int := min (pw k (clamp n)) (clamp b)

theorem clamp_lo (t : Int) : 0 ≤ clamp t := by unfold clamp; split <;> (try split) <;> omega
theorem clamp_hi (t : Int) : clamp t ≤ 1099511627776 := by unfold clamp; split <;> (try split) <;> omega
theorem clamp_in {t : Int} (h0 : 0 ≤ t) (h1 : t ≤ 1099511627776) : clamp t = t := by unfold clamp; rw [if_neg (by omega), if_neg (by omega)]
theorem clamp_ways (t : Int) : (t < 0 ∧ t ≤ 1099511627776 ∧ clamp t = 0) ∨ (0 ≤ t ∧ 1099511627776 < t ∧ clamp t = 1099511627776) ∨ (0 ≤ t ∧ t ≤ 1099511627776 ∧ clamp t = t) := by
  unfold clamp; split <;> (try split) <;> omega
theorem clamp_eq (t : Int) : max 0 (min t 1099511627776) = clamp t := by unfold clamp; split <;> (try split) <;> omega
theorem clamp_add {x y : Int} (hx : 0 ≤ x) (hy : 0 ≤ y) : clamp (x + y) = if 1099511627776 < x + y then 1099511627776 else x + y := by
  unfold clamp; rw [if_neg (by omega)]
theorem after_lo (t n : Int) : 0 ≤ after t n := clamp_lo _
theorem after_hi (t n : Int) : after t n ≤ 1099511627776 := clamp_hi _
theorem after_left (t n : Int) : clamp t ≤ after t n := by
  have h1 := clamp_lo t; have h2 := clamp_lo n; have h3 := clamp_hi t
  unfold after; rw [clamp_add h1 h2]; split <;> omega
theorem after_right (t n : Int) : clamp n ≤ after t n := by
  have h1 := clamp_lo t; have h2 := clamp_lo n; have h3 := clamp_hi n
  unfold after; rw [clamp_add h1 h2]; split <;> omega
theorem left_lo (n t : Int) : 0 ≤ left n t := by
  have h1 := clamp_lo t; unfold left; split <;> (try split) <;> omega
theorem left_hi (n t : Int) : left n t ≤ 1099511627776 := by
  have h1 := clamp_lo n; have h2 := clamp_hi t; unfold left; split <;> (try split) <;> omega
/-- What is left brings there. -/
theorem left_brings (n t : Int) : clamp t ≤ after n (left n t) := by
  have h1 := clamp_lo t; have h2 := clamp_hi t; have h3 := clamp_lo n; have h4 := clamp_hi n
  have h5 := left_lo n t; have h6 := left_hi n t
  unfold after; rw [clamp_in h5 h6, clamp_add h3 h5]
  have e : left n t = if clamp t = 1099511627776 then 1099511627776 else if clamp t < clamp n then 0 else clamp t - clamp n := rfl
  by_cases hn : clamp t = 1099511627776
  · rw [if_pos hn] at e; split <;> omega
  · rw [if_neg hn] at e; split at e <;> split <;> omega

theorem pw_zero (k : Nat) : pw k 0 = 0 := by induction k with | zero => rfl | succ k ih => simp [pw, ih]
theorem pw_lo (k : Nat) {x : Int} (h : 0 ≤ x) : 0 ≤ pw k x := by induction k with | zero => exact h | succ k ih => simp only [pw]; omega
theorem pw_step (k : Nat) {x : Int} (h : 0 ≤ x) : pw k x ≤ pw (k + 1) x := by have := pw_lo k h; simp only [pw]; omega
theorem pw_mono {j k : Nat} (hjk : j ≤ k) {x : Int} (h : 0 ≤ x) : pw j x ≤ pw k x := by
  induction k with
  | zero => have : j = 0 := by omega
            subst this; exact Int.le_refl _
  | succ k ih =>
    by_cases e : j = k + 1
    · subst e; exact Int.le_refl _
    · exact Int.le_trans (ih (by omega)) (pw_step k h)
theorem pw_great {k : Nat} (hk : 40 ≤ k) {x : Int} (h : 1 ≤ x) : 1099511627776 ≤ pw k x := by
  have h1 : pw 40 x ≤ pw k x := pw_mono hk (by omega)
  have h2 : pw 40 x = 1099511627776 * x := by simp only [pw]; omega
  omega

/-- Cut in each step or behind all: at most a bound below the greatest time it is the same. -/
theorem dbl_pw (k : Nat) {x : Int} (h0 : 0 ≤ x) (h1 : x ≤ 1099511627776) : dbl k x = min (pw k x) 1099511627776 := by
  induction k with
  | zero => simp only [dbl, pw]; omega
  | succ k ih =>
    have hl := pw_lo k h0
    simp only [dbl, pw]; rw [ih, clamp_add (by omega) (by omega)]
    split <;> omega
theorem dbl_lo (k : Nat) {x : Int} (h0 : 0 ≤ x) (h1 : x ≤ 1099511627776) : 0 ≤ dbl k x := by have := pw_lo k h0; rw [dbl_pw k h0 h1]; omega
theorem dbl_hi (k : Nat) {x : Int} (h0 : 0 ≤ x) (h1 : x ≤ 1099511627776) : dbl k x ≤ 1099511627776 := by rw [dbl_pw k h0 h1]; omega
theorem after_self {x : Int} (h0 : 0 ≤ x) (h1 : x ≤ 1099511627776) : after x x = clamp (x + x) := by unfold after; rw [clamp_in h0 h1]
/-- The document's own doubling, at most 64 times, is doubling so often. -/
theorem twice_dbl (n b : Int) (k : Nat) : min (dbl (min k 64) (clamp n)) (clamp b) = twice n k b := by
  have h0 := clamp_lo n; have h1 := clamp_hi n; have h2 := clamp_hi b; have h3 := clamp_lo b
  unfold twice; rw [dbl_pw _ h0 h1]
  by_cases hk : k ≤ 64
  · rw [Nat.min_eq_left hk]; omega
  · rw [Nat.min_eq_right (by omega)]
    by_cases hz : clamp n = 0
    · rw [hz, pw_zero, pw_zero]; omega
    · have g1 := pw_great (k := 64) (by omega) (x := clamp n) (by omega)
      have g2 := pw_great (k := k) (by omega) (x := clamp n) (by omega)
      omega
/-- Where doubling stopped ahead of its last time: at the bound, or at none. -/
theorem twice_stop {n b : Int} {j k : Nat} (hjk : j ≤ k) (h : j = k ∨ pw j (clamp n) ≤ 0 ∨ clamp b ≤ pw j (clamp n)) : min (pw j (clamp n)) (clamp b) = twice n k b := by
  have h0 := clamp_lo n; have hb := clamp_lo b
  unfold twice
  rcases h with rfl | h | h
  · rfl
  · have g1 := pw_mono (Nat.zero_le j) h0
    have g2 : clamp n = 0 := by simp only [pw] at g1; omega
    rw [g2, pw_zero, pw_zero]
  · have := pw_mono hjk h0; omega
theorem twice_lo (n b : Int) (k : Nat) : 0 ≤ twice n k b := by have := pw_lo k (clamp_lo n); have := clamp_lo b; unfold twice; omega
theorem twice_hi (n b : Int) (k : Nat) : twice n k b ≤ 1099511627776 := by have := clamp_hi b; unfold twice; omega
theorem twice_mono (n b : Int) (k : Nat) : twice n k b ≤ twice n (k + 1) b := by have := pw_step k (clamp_lo n); unfold twice; omega
theorem twice_none (n : Int) : twice n 0 1099511627776 = clamp n := by
  have := clamp_hi n; unfold twice; rw [clamp_in (t := 1099511627776) (by omega) (by omega)]; simp only [pw]; omega

end Go.Proofs.Ytgboiejiodgcnaa.Tk
