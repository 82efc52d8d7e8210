/- Three words are compared, one behind the other. -/
import Derived.Test.YtcpgigmnmlmpjaaDoorFldA
import Derived.ChangeKeysEq
namespace Go.Proofs.YtcpgigmnmlmpjaaDoor
open Go.RowKit

theorem Tryd.cellsWord : Tryd.prog.cellsOf 26 = 1 := by kernel_rfl
theorem Tryd.infoWord : (Tryd.prog.info? 26).map (·.size) = some 1 := by kernel_rfl

/-- One item of three. -/
theorem words_equal (w : World) (a0 a1 a2 b0 b1 b2 : Int) :
    (Op.equalIn 10000 28 (.agg #[.int .u64 a0, .int .u64 a1, .int .u64 a2]) (.agg #[.int .u64 b0, .int .u64 b1, .int .u64 b2])).run Tryd.prog w = .ok (a0 == b0 && (a1 == b1 && a2 == b2)) w := by
  cases hi : Tryd.prog.info? 26 with
  | none => have := Tryd.infoWord; rw [hi] at this; cases this
  | some i =>
    rw [run_equalIn_array w 9999 _ _ Tryd.underlying28 hi, Tryd.cellsWord]
    rw [show List.range 3 = [0, 1, 2] from rfl]
    simp [Op.eqItems, go_sem, Tryd.underlying26]
    by_cases h0 : a0 = b0 <;> by_cases h1 : a1 = b1 <;> by_cases h2 : a2 = b2 <;> simp [h0, h1, h2]

end Go.Proofs.YtcpgigmnmlmpjaaDoor
