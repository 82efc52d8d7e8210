/- A number with its lowest bit; a block behind Below; three words held against themselves. -/
import Derived.Test.YtieehpajkidbcaaRngA
import Derived.Test.YtieehpajkidbcaaLow
import Derived.Below
import Derived.ChangeKeysEq
namespace Go.Proofs.Ytieehpajkidbcaa
open Go.RowKit

/-- With its lowest bit a number is odd. -/
theorem or_odd (p : Int) : bits .or .i64 p 1 % 2 = 1 ∧ -9223372036854775808 ≤ bits .or .i64 p 1 ∧ bits .or .i64 p 1 ≤ 9223372036854775807 := by
  have key : (BitVec.ofInt 64 p ||| BitVec.ofInt 64 1).toNat % 2 = 1 := by
    rw [BitVec.toNat_or, show (BitVec.ofInt 64 1).toNat = 1 by decide]
    simp
  have hlt := (BitVec.ofInt 64 p ||| BitVec.ofInt 64 1).isLt
  have e : bits .or .i64 p 1 = IntKind.i64.wrap ((BitVec.ofInt 64 p ||| BitVec.ofInt 64 1).toNat : Nat) := rfl
  rw [e, IntKind.wrap_i64]
  generalize (BitVec.ofInt 64 p ||| BitVec.ofInt 64 1).toNat = m at *
  omega

theorem odd_no (b : Int) {q : Int} (h : q % 2 = 1) : ¬ Rg.May b q := by
  rintro ⟨h1, _, _⟩
  unfold Rg.Pow at h1
  omega

theorem block_held {w w1 : World} {k : Nat} {o : Obj} (h : w.heap[k]? = some o) (hb : Below w.heap.size w w1) : w1.heap[k]? = some o := (hb.block _ (lt_of_block h)).trans h

theorem Try.cellsWordEq : Try.prog.cellsOf 32 = 1 := by kernel_rfl
theorem Try.sizeWordEq : (Try.prog.info? 32).map (·.size) = some 1 := by kernel_rfl
/-- Three words are what they are. -/
theorem words_same (w : World) (a0 a1 a2 : Int) :
    (Op.equalIn 9999 34 (.agg #[.int .u64 a0, .int .u64 a1, .int .u64 a2]) (.agg #[.int .u64 a0, .int .u64 a1, .int .u64 a2])).run Try.prog w = .ok true w := by
  cases hi : Try.prog.info? 32 with
  | none => have := Try.sizeWordEq; rw [hi] at this; cases this
  | some i =>
    rw [run_equalIn_array w 9998 _ _ Try.underlying34 hi, Try.cellsWordEq]
    rw [show List.range 3 = [0, 1, 2] from rfl]
    simp [Op.eqItems, go_sem, Try.underlying32]

/-- Three words are compared, one behind the other. -/
theorem words_top (w : World) (a0 a1 a2 b0 b1 b2 : Int) :
    (Op.equalIn 10000 34 (.agg #[.int .u64 a0, .int .u64 a1, .int .u64 a2]) (.agg #[.int .u64 b0, .int .u64 b1, .int .u64 b2])).run Try.prog w = .ok (a0 == b0 && (a1 == b1 && a2 == b2)) w := by
  cases hi : Try.prog.info? 32 with
  | none => have := Try.sizeWordEq; rw [hi] at this; cases this
  | some i =>
    rw [run_equalIn_array w 9999 _ _ Try.underlying34 hi, Try.cellsWordEq]
    rw [show List.range 3 = [0, 1, 2] from rfl]
    simp [Op.eqItems, go_sem, Try.underlying32]
    by_cases h0 : a0 = b0 <;> by_cases h1 : a1 = b1 <;> by_cases h2 : a2 = b2 <;> simp [h0, h1, h2]
theorem words_top_same (w : World) (a0 a1 a2 : Int) :
    (Op.equalIn 10000 34 (.agg #[.int .u64 a0, .int .u64 a1, .int .u64 a2]) (.agg #[.int .u64 a0, .int .u64 a1, .int .u64 a2])).run Try.prog w = .ok true w := by
  rw [words_top]; simp

/-- How many places the law takes. -/
theorem shl_one (p : Int) : ∃ n : Nat, (n = 2 ∨ n = 4) ∧ wrap64 (2 * 2 ^ min (IntKind.u64.wrap (bits .and .i64 p 1)).toNat 64) = (n : Int) := by
  rw [show bits .and .i64 p 1 = p % 2 from i64_low p 1 (by omega)]
  have h0 : p % 2 = 0 ∨ p % 2 = 1 := by omega
  rcases h0 with h | h <;> rw [h]
  · exact ⟨2, by omega, by kernel_rfl⟩
  · exact ⟨4, by omega, by kernel_rfl⟩

end Go.Proofs.Ytieehpajkidbcaa
