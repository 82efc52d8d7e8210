/- Numbers of 32 bits: powers by squares, sums from both ends. -/
import Derived.Test.YtgboiejiodgcnaaRows
import Derived.WalkKit
namespace Go.Proofs.Ytgboiejiodgcnaa
open Go.RowKit
namespace Hn

theorem wrap_mul (a b : Int) : (((a % 4294967296) * b) % 4294967296) = ((a * b) % 4294967296) := by
  rw [Int.mul_emod, Int.emod_emod, ← Int.mul_emod]
theorem wrap_mul_right (a b : Int) : ((a * (b % 4294967296)) % 4294967296) = ((a * b) % 4294967296) := by
  rw [Int.mul_comm, wrap_mul, Int.mul_comm]
theorem wrap_add (a b : Int) : (((a % 4294967296) + b) % 4294967296) = ((a + b) % 4294967296) := by
  omega
theorem wrap_add_right (a b : Int) : ((a + (b % 4294967296)) % 4294967296) = ((a + b) % 4294967296) := by
  omega
theorem wrap_wrap (a : Int) : (((a % 4294967296)) % 4294967296) = (a % 4294967296) := by
  omega
theorem wrap_pow (a : Int) : ∀ k : Nat, (((a % 4294967296) ^ k) % 4294967296) = ((a ^ k) % 4294967296)
  | 0 => by rw [Int.pow_zero, Int.pow_zero]
  | k + 1 => by rw [Int.pow_succ, Int.pow_succ, ← wrap_mul, wrap_pow a k, wrap_mul, wrap_mul_right]

/-- To the power k. -/
def pw (x : Int) (k : Nat) : Int := ((x ^ k) % 4294967296)
theorem pw_zero (x : Int) : pw x 0 = 1 := by simp [pw]
theorem pw_succ (x : Int) (k : Nat) : pw x (k + 1) = ((pw x k * x) % 4294967296) := by
  unfold pw; rw [wrap_mul, Int.pow_succ]
/-- What is left to be done: the half, of the square. -/
theorem pow_half (x : Int) (n : Nat) (h : n % 2 = 0) : x ^ n = (x * x) ^ (n / 2) := by
  have e : n = 2 * (n / 2) := by omega
  generalize n / 2 = m at *
  subst e
  rw [Int.pow_mul]
  congr 1
  rw [Int.pow_succ, Int.pow_succ, Int.pow_zero, Int.one_mul]
theorem even_step {a x : Int} {n : Nat} (h : n % 2 = 0) : ((a * ((x * x) % 4294967296) ^ (n / 2)) % 4294967296) = ((a * x ^ n) % 4294967296) := by
  rw [← wrap_mul_right, wrap_pow, wrap_mul_right, ← pow_half x n h]
theorem odd_step {a x : Int} {n : Nat} (h : n % 2 = 1) : ((((a * x) % 4294967296) * ((x * x) % 4294967296) ^ (n / 2)) % 4294967296) = ((a * x ^ n) % 4294967296) := by
  obtain ⟨m, rfl⟩ : ∃ m, n = m + 1 := ⟨n - 1, by omega⟩
  have e : (m + 1) / 2 = m / 2 := by omega
  rw [e, ← wrap_mul_right, wrap_pow, wrap_mul_right, wrap_mul, ← pow_half x m (by omega), Int.pow_succ]
  congr 1
  rw [Int.mul_assoc, Int.mul_comm x]

/-- What is there when the first k were added. -/
def up (X : Nat → Int) (s : Int) : Nat → Int
  | 0 => s
  | k + 1 => ((up X s k + X k) % 4294967296)
/-- What is there when the last k of n were added. -/
def down (X : Nat → Int) (s : Int) (n : Nat) : Nat → Int
  | 0 => s
  | k + 1 => ((down X s n k + X (n - 1 - k)) % 4294967296)
/-- The first k, as they are. -/
def sum (X : Nat → Int) : Nat → Int
  | 0 => 0
  | k + 1 => sum X k + X k
theorem up_sum (X : Nat → Int) {s : Int} (h : (s % 4294967296) = s) (k : Nat) : up X s k = ((s + sum X k) % 4294967296) := by
  induction k with
  | zero => simp [up, sum, h]
  | succ k ih => rw [up, ih, wrap_add, sum, Int.add_assoc]
theorem down_sum (X : Nat → Int) {s : Int} (h : (s % 4294967296) = s) (n : Nat) : ∀ k, k ≤ n → down X s n k = ((s + (sum X n - sum X (n - k))) % 4294967296)
  | 0, _ => by simp [down, h]
  | k + 1, hk => by
    rw [down, down_sum X h n k (by omega), wrap_add]
    obtain ⟨m, hm⟩ : ∃ m, n - k = m + 1 := ⟨n - k - 1, by omega⟩
    rw [show n - (k + 1) = m by omega, show n - 1 - k = m by omega, hm, sum]
    congr 1
    omega
/-- From both ends it comes to the same. -/
theorem ends (X : Nat → Int) {s : Int} (h : (s % 4294967296) = s) (n : Nat) : down X s n n = up X s n := by
  rw [down_sum X h n n (Nat.le_refl _), up_sum X h, Nat.sub_self, sum, Int.sub_zero]
end Hn
end Go.Proofs.Ytgboiejiodgcnaa
