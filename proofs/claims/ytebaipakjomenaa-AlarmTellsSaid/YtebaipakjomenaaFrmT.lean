/- The time that a frame tells, and a frame that tells a time, with any numbers. -/
import Derived.Test.YtebaipakjomenaaBox
import Derived.Test.YtebaipakjomenaaFrmMath
import Derived.Test.YtebaipakjomenaaTkMath
import Derived.Test.YtebaipakjomenaaLow
import Derived.Test.YtebaipakjomenaaResT
import Derived.Laws.ResultCell
namespace Go.Proofs.Ytebaipakjomenaa
open Go.RowKit

theorem join40 (x v : Int) (h1 : 0 ≤ x) (h2 : x ≤ 255) (h3 : 0 ≤ v) (h4 : v < 4294967296) : bits .or .i64 (IntKind.i64.wrap (x * 4294967296)) v = x * 4294967296 + v := by
  rw [IntKind.wrap_i64, show (x * 4294967296 + 9223372036854775808) % 18446744073709551616 - 9223372036854775808 = x * 4294967296 by omega]
  exact bits_join .i64 63 (by decide) (fun n a b => by rw [IntKind.wrap_i64]; omega) 32 _ _ (by omega) (by omega) (by omega) h3 (by omega) (by omega)

set_option maxHeartbeats 1000000 in
/-- When: the time that is told. -/
theorem when_any (k c s t g a r q v : Int) (su st : Bool) (hv : 0 ≤ v ∧ v < 4294967296) (w : World) :
    Calls Try.prog 17 #[.agg #[.int .i64 k, .int .i64 c, .int .i64 s, .int .i64 t, .int .i64 g, .int .u32 a, .int .i64 r, .bool su, .bool st, .int .i64 q, .int .u32 v]] w fun e w' => e = .returned (.int .i64 (q % 256 * 4294967296 + v)) ∧ Below w.heap.size w w' := by
  have H := Lib.hid (join40 (q % 256) v (by omega) (by omega) hv.1 hv.2)
  have h1 := hv.1
  have h2 := hv.2
  go_enter Try.func17, Try.ntmps17
  go_wp2
  go_ret
  refine ⟨?_, below_box _ _⟩
  exact congrArg (fun x => Ending.returned (.int .i64 x)) (by rw [low255, ← IntWalk.i64_left]; exact H.out)

theorem Try.sizeFrame : (Try.prog.info? 27).map (·.size) = some 11 := by kernel_rfl

theorem ret_tm {k c s t g a r q v q' v' : Int} {su st : Bool} (h1 : q = q') (h2 : v = v') :
    Ending.returned (.agg #[.int .i64 k, .int .i64 c, .int .i64 s, .int .i64 t, .int .i64 g, .int .u32 a, .int .i64 r, .bool su, .bool st, .int .i64 q, .int .u32 v]) = .returned (.agg #[.int .i64 k, .int .i64 c, .int .i64 s, .int .i64 t, .int .i64 g, .int .u32 a, .int .i64 r, .bool su, .bool st, .int .i64 q', .int .u32 v']) := by rw [h1, h2]
theorem below_two (w : World) (o p : Obj) : Below w.heap.size w ((w.alloc o).alloc p) := (below_box w o).alloc (by simp) p

set_option maxHeartbeats 1000000 in
/-- At: the frame that tells the time. -/
theorem at_any (k c s t g a r q v n : Int) (su st : Bool) (w : World) :
    Calls Try.prog 14 #[.agg #[.int .i64 k, .int .i64 c, .int .i64 s, .int .i64 t, .int .i64 g, .int .u32 a, .int .i64 r, .bool su, .bool st, .int .i64 q, .int .u32 v], .int .i64 n] w fun e w' => e = .returned (.agg #[.int .i64 k, .int .i64 c, .int .i64 s, .int .i64 t, .int .i64 g, .int .u32 a, .int .i64 r, .bool su, .bool st, .int .i64 (max 0 (min n 1099511627775) / 4294967296), .int .u32 (max 0 (min n 1099511627775) % 4294967296)]) ∧ Below w.heap.size w w' := by
  rcases (show n < 0 ∨ 1099511627775 < n ∨ (0 ≤ n ∧ n ≤ 1099511627775) by omega) with h0 | h0 | ⟨h0, h1⟩
  all_goals
    go_enter Try.func14, Try.ntmps14
    go_wp2
    all_goals (refine bodyPost_ret (results_cell_row Try.results14 _ _ (w.heap.size + 1) 27 _ (0, 0) _ rfl (heap_alloc2_new _ _ _) Try.underlying27 rfl Try.sizeFrame) rfl ⟨ret_tm (by omega) (by rw [low32]; omega), below_two _ _ _⟩)

end Go.Proofs.Ytebaipakjomenaa
