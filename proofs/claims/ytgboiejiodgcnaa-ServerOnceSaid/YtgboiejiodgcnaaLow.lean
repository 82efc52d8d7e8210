/- The lower bits of any number. -/
import Derived.Test.YtgboiejiodgcnaaRows
import Derived.WalkKit
import Derived.WalkSpells
import Derived.WalkLawsBesides
namespace Go.Proofs.Ytgboiejiodgcnaa
open Go.RowKit

/-- The lower bits of any number. -/
theorem i64_low (n : Int) (k : Nat) (h : k ≤ 62) : bits .and .i64 n ((2 ^ k - 1 : Nat) : Int) = n % ((2 ^ k : Nat) : Int) := by
  have hk : (2 : Nat) ^ k ≤ 2 ^ 62 := Nat.pow_le_pow_right (by omega) h
  have h0 : 0 < 2 ^ k := Nat.pos_of_ne_zero (by simp)
  have hm : (BitVec.ofInt 64 ((2 ^ k - 1 : Nat) : Int)).toNat = 2 ^ k - 1 := by
    rw [BitVec.toNat_ofInt]
    omega
  have key : (BitVec.ofInt 64 n &&& BitVec.ofInt 64 ((2 ^ k - 1 : Nat) : Int)).toNat = (n % ((2 ^ 64 : Nat) : Int)).toNat % 2 ^ k := by
    rw [BitVec.toNat_and, BitVec.toNat_ofInt, hm, Nat.and_two_pow_sub_one_eq_mod]
  show IntKind.i64.wrap ((BitVec.ofInt 64 n &&& BitVec.ofInt 64 ((2 ^ k - 1 : Nat) : Int)).toNat : Nat) = _
  rw [key, IntKind.wrap_i64]
  have hd : ((2 ^ k : Nat) : Int) ∣ ((2 ^ 64 : Nat) : Int) := by
    exact_mod_cast Nat.pow_dvd_pow 2 (show k ≤ 64 by omega)
  have e1 : (n % ((2 ^ 64 : Nat) : Int)) % ((2 ^ k : Nat) : Int) = n % ((2 ^ k : Nat) : Int) := Int.emod_emod_of_dvd n hd
  have h1 : 0 ≤ n % ((2 ^ 64 : Nat) : Int) := Int.emod_nonneg _ (by decide)
  have e2 : (((n % ((2 ^ 64 : Nat) : Int)).toNat % 2 ^ k : Nat) : Int) = n % ((2 ^ k : Nat) : Int) := by
    rw [← e1, Int.natCast_emod, Int.toNat_of_nonneg h1]
  rw [e2]
  have h2 : 0 ≤ n % ((2 ^ k : Nat) : Int) := Int.emod_nonneg _ (by omega)
  have h3 : n % ((2 ^ k : Nat) : Int) < ((2 ^ k : Nat) : Int) := Int.emod_lt_of_pos _ (by omega)
  generalize n % ((2 ^ k : Nat) : Int) = m at *
  generalize (2 : Nat) ^ k = z at *
  omega

theorem low255 (n : Int) : bits .and .i64 n 255 = n % 256 := i64_low n 8 (by omega)
theorem low32 (n : Int) : bits .and .i64 n 4294967295 = n % 4294967296 := i64_low n 32 (by omega)
theorem low3 (n : Int) : bits .and .i64 n 3 = n % 4 := i64_low n 2 (by omega)
theorem low15 (n : Int) : bits .and .i64 n 15 = n % 16 := i64_low n 4 (by omega)
theorem low31 (n : Int) : bits .and .i64 n 31 = n % 32 := i64_low n 5 (by omega)
theorem low24 (n : Int) : bits .and .i64 n 16777215 = n % 16777216 := i64_low n 24 (by omega)
theorem low16 (n : Int) : bits .and .i64 n 65535 = n % 65536 := i64_low n 16 (by omega)

theorem low63 (n : Int) : bits .and .i64 n 63 = n % 64 := i64_low n 6 (by omega)
theorem u64_low (t k : Nat) (ht : t < 18446744073709551616) (h : k ≤ 63) : bits .and .u64 (t : Int) ((2 ^ k - 1 : Nat) : Int) = ((t % 2 ^ k : Nat) : Int) := by
  have hk : (2 : Nat) ^ k ≤ 2 ^ 63 := Nat.pow_le_pow_right (by omega) h
  rw [u64_and_nat _ _ ht (by omega), Nat.and_two_pow_sub_one_eq_mod]
theorem u64_low48 (t : Nat) (ht : t < 18446744073709551616) : bits .and .u64 (t : Int) 281474976710655 = ((t % 281474976710656 : Nat) : Int) := u64_low t 48 ht (by omega)

end Go.Proofs.Ytgboiejiodgcnaa
