/- The time that a frame tells, and a frame that tells a time, with any numbers. -/
import Derived.Test.YtcpgigmnmlmpjaaDoorFldA
import Derived.Test.YtcpgigmnmlmpjaaDoorFrmMath
import Derived.Test.YtcpgigmnmlmpjaaDoorTkMath
import Derived.Laws.ResultCell
namespace Go.Proofs.YtcpgigmnmlmpjaaDoor
open Go.RowKit

/-- The lower bits of any number. -/
theorem i64_low (n : Int) (k : Nat) (h : k ≤ 62) : bits .and .i64 n ((2 ^ k - 1 : Nat) : Int) = n % ((2 ^ k : Nat) : Int) := by
  have hk : (2 : Nat) ^ k ≤ 2 ^ 62 := Nat.pow_le_pow_right (by omega) h
  have h0 := Fld.pow_pos k
  have hm : (BitVec.ofInt 64 ((2 ^ k - 1 : Nat) : Int)).toNat = 2 ^ k - 1 := by
    rw [BitVec.toNat_ofInt]
    omega
  have key : (BitVec.ofInt 64 n &&& BitVec.ofInt 64 ((2 ^ k - 1 : Nat) : Int)).toNat = (n % ((2 ^ 64 : Nat) : Int)).toNat % 2 ^ k := by
    rw [BitVec.toNat_and, BitVec.toNat_ofInt, hm, Nat.and_two_pow_sub_one_eq_mod]
  show IntKind.i64.wrap ((BitVec.ofInt 64 n &&& BitVec.ofInt 64 ((2 ^ k - 1 : Nat) : Int)).toNat : Nat) = _
  rw [key, IntKind.wrap_i64]
  have hd : ((2 ^ k : Nat) : Int) ∣ ((2 ^ 64 : Nat) : Int) := by
    exact_mod_cast Nat.pow_dvd_pow 2 (show k ≤ 64 by omega)
  have e1 : (n % ((2 ^ 64 : Nat) : Int)) % ((2 ^ k : Nat) : Int) = n % ((2 ^ k : Nat) : Int) := Int.emod_emod_of_dvd n hd
  have h1 : 0 ≤ n % ((2 ^ 64 : Nat) : Int) := Int.emod_nonneg _ (by decide)
  have e2 : (((n % ((2 ^ 64 : Nat) : Int)).toNat % 2 ^ k : Nat) : Int) = n % ((2 ^ k : Nat) : Int) := by
    rw [← e1, Int.natCast_emod, Int.toNat_of_nonneg h1]
  rw [e2]
  have h2 : 0 ≤ n % ((2 ^ k : Nat) : Int) := Int.emod_nonneg _ (by omega)
  have h3 : n % ((2 ^ k : Nat) : Int) < ((2 ^ k : Nat) : Int) := Int.emod_lt_of_pos _ (by omega)
  generalize n % ((2 ^ k : Nat) : Int) = m at *
  generalize (2 : Nat) ^ k = z at *
  omega

theorem low255 (n : Int) : bits .and .i64 n 255 = n % 256 := i64_low n 8 (by omega)
theorem low32 (n : Int) : bits .and .i64 n 4294967295 = n % 4294967296 := i64_low n 32 (by omega)
theorem low3 (n : Int) : bits .and .i64 n 3 = n % 4 := i64_low n 2 (by omega)
theorem low15 (n : Int) : bits .and .i64 n 15 = n % 16 := i64_low n 4 (by omega)
theorem low31 (n : Int) : bits .and .i64 n 31 = n % 32 := i64_low n 5 (by omega)
theorem low24 (n : Int) : bits .and .i64 n 16777215 = n % 16777216 := i64_low n 24 (by omega)
theorem low16 (n : Int) : bits .and .i64 n 65535 = n % 65536 := i64_low n 16 (by omega)

theorem join40 (x v : Int) (h1 : 0 ≤ x) (h2 : x ≤ 255) (h3 : 0 ≤ v) (h4 : v < 4294967296) : bits .or .i64 (IntKind.i64.wrap (x * 4294967296)) v = x * 4294967296 + v := by
  rw [IntKind.wrap_i64, show (x * 4294967296 + 9223372036854775808) % 18446744073709551616 - 9223372036854775808 = x * 4294967296 by omega]
  exact bits_join .i64 63 (by decide) (fun n a b => by rw [IntKind.wrap_i64]; omega) 32 _ _ (by omega) (by omega) (by omega) h3 (by omega) (by omega)

set_option maxHeartbeats 1000000 in
/-- When: the time that is told. -/
theorem when_any (k c s t g a r q v : Int) (su st : Bool) (hv : 0 ≤ v ∧ v < 4294967296) (w : World) :
    Calls Tryd.prog 15 #[.agg #[.int .i64 k, .int .i64 c, .int .i64 s, .int .i64 t, .int .i64 g, .int .u32 a, .int .i64 r, .bool su, .bool st, .int .i64 q, .int .u32 v]] w fun e w' => e = .returned (.int .i64 (q % 256 * 4294967296 + v)) ∧ Below w.heap.size w w' := by
  have H := Lib.hid (join40 (q % 256) v (by omega) (by omega) hv.1 hv.2)
  have h1 := hv.1
  have h2 := hv.2
  go_enter Tryd.func15, Tryd.ntmps15
  go_wp2
  go_ret
  refine ⟨?_, below_box _ _⟩
  exact congrArg (fun x => Ending.returned (.int .i64 x)) (by rw [low255, ← IntWalk.i64_left]; exact H.out)

/-- Two results, the first of them a block that is a struct or an array. -/
theorem results_row_tmp {P : Program} {fn : Func} {p u : Tmp} {ty : TypeId} (h : fn.results = #[.cell p ty, .tmp u]) (tmps : Array Value) (w : World) (g : Nat) (t : TypeId) (cs : Array Value) (fr : Nat × Nat) (d : TypeDesc)
    (hp : tmps.getD p undef = .pointer (some ⟨g, 0, none⟩)) (hg : w.heap[g]? = some (.cells cs t fr))
    (hu : P.underlying ty = some d) (hd : (match d with | .struct _ | .array _ _ => true | _ => false) = true) (hi : (P.info? ty).map (·.size) = some cs.size) :
    (results fn tmps).run P w = .ok (.tuple #[.agg cs, tmps.getD u undef]) w := by
  rw [results_cell_tmp h, hp]
  simp [asAddr, run_loadVar_row w g t ty cs fr d hg hu hd hi]

theorem Tryd.sizeFrame : (Tryd.prog.info? 24).map (·.size) = some 11 := by kernel_rfl
theorem Tryd.sizeWords : (Tryd.prog.info? 28).map (·.size) = some 3 := by kernel_rfl

theorem ret_tm {k c s t g a r q v q' v' : Int} {su st : Bool} (h1 : q = q') (h2 : v = v') :
    Ending.returned (.agg #[.int .i64 k, .int .i64 c, .int .i64 s, .int .i64 t, .int .i64 g, .int .u32 a, .int .i64 r, .bool su, .bool st, .int .i64 q, .int .u32 v]) = .returned (.agg #[.int .i64 k, .int .i64 c, .int .i64 s, .int .i64 t, .int .i64 g, .int .u32 a, .int .i64 r, .bool su, .bool st, .int .i64 q', .int .u32 v']) := by rw [h1, h2]
theorem below_two (w : World) (o p : Obj) : Below w.heap.size w ((w.alloc o).alloc p) := (below_box w o).alloc (by simp) p

set_option maxHeartbeats 1000000 in
/-- At: the frame that tells the time. -/
theorem at_any (k c s t g a r q v n : Int) (su st : Bool) (w : World) :
    Calls Tryd.prog 13 #[.agg #[.int .i64 k, .int .i64 c, .int .i64 s, .int .i64 t, .int .i64 g, .int .u32 a, .int .i64 r, .bool su, .bool st, .int .i64 q, .int .u32 v], .int .i64 n] w fun e w' => e = .returned (.agg #[.int .i64 k, .int .i64 c, .int .i64 s, .int .i64 t, .int .i64 g, .int .u32 a, .int .i64 r, .bool su, .bool st, .int .i64 (max 0 (min n 1099511627775) / 4294967296), .int .u32 (max 0 (min n 1099511627775) % 4294967296)]) ∧ Below w.heap.size w w' := by
  rcases (show n < 0 ∨ 1099511627775 < n ∨ (0 ≤ n ∧ n ≤ 1099511627775) by omega) with h0 | h0 | ⟨h0, h1⟩
  all_goals
    go_enter Tryd.func13, Tryd.ntmps13
    go_wp2
    all_goals (refine bodyPost_ret (results_cell_row Tryd.results13 _ _ (w.heap.size + 1) 24 _ (0, 0) _ rfl (heap_alloc2_new _ _ _) Tryd.underlying24 rfl Tryd.sizeFrame) rfl ⟨ret_tm (by omega) (by rw [low32]; omega), below_two _ _ _⟩)

end Go.Proofs.YtcpgigmnmlmpjaaDoor
