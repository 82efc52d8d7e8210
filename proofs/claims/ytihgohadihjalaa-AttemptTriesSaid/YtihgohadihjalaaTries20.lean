/- With every frame, every three numbers and every list of what happens, the law on how many tries a call has returns true, and its arguments read as they did. -/
import Derived.Test.YtihgohadihjalaaLaw20B
import Derived.Test.YtihgohadihjalaaOpnI3
import Derived.Test.YtihgohadihjalaaOpnG
import Derived.Test.YtihgohadihjalaaOpnF
import Derived.ProofKit
import Derived.OpenShut
namespace Go.Proofs.Ytihgohadihjalaa
open Go.ChangeShapes Go.WideShapes Go.ChangeAt Go.RowKit

theorem Att.own : ownKnob Try.prog.godebug = none := by kernel_rfl
theorem Att.laidOut : laidOutB Try.prog = true := by kernel_rfl

set_option maxRecDepth 100000 in
theorem liftedAtt (os : Os) (started : os.Started) (H : Type) (enc : TypeId × Value → H) :
    ReturnsInHanded {} Try.checked os 4 .any (Rows.attemptTriesSpec.pre6 enc Try.prog Try.f4 Rows.attemptTriesRow.domain false) (Rows.attemptTriesSpec.post enc Try.prog Try.f4 false true false false) := by
  refine returnsInHanded_of_change (C := Try.checked) Att.own started (by kernel_rfl) Try.func4
    (ChangeSpec.witness6 (enc := enc) (C := Try.checked) false ⟨#[], #[.agg #[.int .i64 0, .int .i64 0, .int .i64 0, .int .i64 0, .int .i64 0, .int .u32 0, .int .i64 0, .bool false, .bool false, .int .i64 0, .int .u32 0], .agg #[.int .i64 0, .int .i64 0, .int .i64 0], .slice none 0 0], []⟩ 8 (by kernel_rfl) (by kernel_rfl) (by kernel_rfl) (by kernel_rfl)) ?_
  intro W base args ds gs before hval0 hW _ _
  have hval : ∀ (j : Nat) t v, Try.f4.params[j]? = some t → args[j]? = some v → Value.okWide Try.prog W .any base t v := hval0
  have hW' := hW
  obtain ⟨p, q, hA0, hV, rfl, hfz, hnd⟩ := hW
  have hA : DataW.TrodAll enc Try.prog W 0 (fun _ => true) true Try.f4.params.toList args.toList ds p := hA0
  rw [Try.params4] at hA hval
  obtain ⟨v0, v1, v2, d0, d1, d2, p0, p1, p2, rfl, rfl, rfl, h0, h1, h2⟩ := trodAll_three hA
  obtain ⟨rfl, rfl⟩ := trodVars_none hV
  have h0k := h0
  have h1k := h1
  have h2k := h2
  obtain ⟨fuel, hf⟩ := h2
  obtain ⟨k, c, s, t, g, a, r, qq, x, su, st, rfl, -, -⟩ := open_frame (hval 0 24 v0 rfl rfl) h0
  obtain ⟨t0, t1, t2, rfl⟩ := open_ints3 (hval 1 41 v1 rfl rfl) h1
  clear hA0 hval0 h0 h1
  simp only [List.append_nil] at hW'
  have hlt : ∀ y ∈ p0 ++ (p1 ++ p2), y.block < W.heap.size := fun y hy => by simpa using hW'.lt y (by simpa using hy)
  have g0 : ∀ W', Below W.heap.size W W' → DataW.Trod enc Try.prog W' 0 (fun b => decide (b < W.heap.size)) true 24 _ d0 p0 := fun W' hb =>
    Below.trod Att.laidOut (by kernel_rfl) (of_decide_eq_true (by kernel_rfl)) h0k hb (fun y hy => hlt y (List.mem_append_left _ hy))
  have g1 : ∀ W', Below W.heap.size W W' → DataW.Trod enc Try.prog W' 0 (fun b => decide (b < W.heap.size)) true 41 _ d1 p1 := fun W' hb =>
    Below.trod Att.laidOut (by kernel_rfl) (of_decide_eq_true (by kernel_rfl)) h1k hb (fun y hy => hlt y (List.mem_append_right _ (List.mem_append_left _ hy)))
  have g2 : ∀ W', Below W.heap.size W W' → DataW.Trod enc Try.prog W' 0 (fun b => decide (b < W.heap.size)) true 42 v2 d2 p2 := fun W' hb =>
    Below.trod Att.laidOut (by kernel_rfl) (of_decide_eq_true (by kernel_rfl)) h2k hb (fun y hy => hlt y (List.mem_append_right _ (List.mem_append_right _ hy)))
  obtain ⟨a0, len, cap, rfl⟩ := okWide_slice Try.underlying42 (hval 2 42 v2 rfl rfl)
  have hwalk : Calls Try.prog 4 #[.agg #[.int .i64 k, .int .i64 c, .int .i64 s, .int .i64 t, .int .i64 g, .int .u32 a, .int .i64 r, .bool su, .bool st, .int .i64 qq, .int .u32 x], .agg #[.int .i64 t0, .int .i64 t1, .int .i64 t2], .slice a0 len cap] W fun e w' => e = .returned (.bool true) ∧ Below W.heap.size W w' := by
    rcases open_acts20 hf with hcs | ⟨bk, o, sp, len', cap', L, T, hcs, hs, hc⟩
    · simp [Value.cells] at hcs
      obtain ⟨rfl, rfl, rfl⟩ := hcs
      exact attries_any k c s t g a r qq x su st t0 t1 t2 none 0 0 0 0 (fun _ => 0) (fun _ => 0) W (fun h => absurd h (Nat.lt_irrefl _)) (fun i hi => absurd hi (Nat.not_lt_zero _))
    · simp [Value.cells] at hcs
      obtain ⟨rfl, rfl, rfl⟩ := hcs
      exact attries_any k c s t g a r qq x su st t0 t1 t2 a0 len cap bk o L T W hs hc
  refine hwalk.mono fun e W' ⟨he, hb⟩ => ?_
  subst he
  exact ⟨_, rfl, _, _, _, [], _, [], hW', trodAll_mk1 (shut_bool Try.underlying4 _), trodAll_mk3 (g0 W' hb) (g1 W' hb) (g2 W' hb), rfl, hb.frame _, fun h => by cases h⟩

/-- THE LAW. -/
theorem attempt_tries_holds : Rows.AttemptTriesSaid :=
  OpenClaim.holds_of_wide 4 Try.f4 rfl rfl rfl rfl rfl rfl rfl ⟨rfl, rfl, rfl, rfl, rfl⟩ rfl rfl rfl rfl rfl (by kernel_rfl) Try.func4 (by kernel_rfl)
    (of_decide_eq_true (by kernel_rfl)) (by unfold Func.isWrapper; rw [if_neg (of_decide_eq_false (by kernel_rfl))]; exact ⟨rfl, rfl⟩)
    (fun os started H enc _ => liftedAtt os started H enc)

#print axioms attempt_tries_holds
end Go.Proofs.Ytihgohadihjalaa
