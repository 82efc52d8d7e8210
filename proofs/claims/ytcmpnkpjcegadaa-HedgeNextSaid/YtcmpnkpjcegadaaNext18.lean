/- With every number of hedges, every time, every frame and any three numbers, the law on when the next hedge is sent, and how many there may be, returns true, and its arguments read as they did. -/
import Derived.Test.YtcmpnkpjcegadaaLaw18A
import Derived.Test.YtcmpnkpjcegadaaOpnH
import Derived.Test.YtcmpnkpjcegadaaOpnF
import Derived.ProofKit
import Derived.OpenShut
namespace Go.Proofs.Ytcmpnkpjcegadaa
open Go.ChangeShapes Go.WideShapes Go.ChangeAt Go.RowKit

theorem Hnx.own : ownKnob Try.prog.godebug = none := by kernel_rfl
theorem Hnx.laidOut : laidOutB Try.prog = true := by kernel_rfl

set_option maxRecDepth 100000 in
theorem liftedHnx (os : Os) (started : os.Started) (H : Type) (enc : TypeId × Value → H) :
    ReturnsInHanded {} Try.checked os 3 .any (Rows.hedgeNextSpec.pre6 enc Try.prog Try.f3 Rows.hedgeNextRow.domain false) (Rows.hedgeNextSpec.post enc Try.prog Try.f3 false true false false) := by
  refine returnsInHanded_of_change (C := Try.checked) Hnx.own started (by kernel_rfl) Try.func3
    (ChangeSpec.witness6 (enc := enc) (C := Try.checked) false ⟨#[], #[.agg #[.int .i64 0, .int .i64 0], .agg #[.int .i64 0, .int .i64 0, .int .i64 0, .int .i64 0, .int .i64 0, .int .u32 0, .int .i64 0, .bool false, .bool false, .int .i64 0, .int .u32 0], .agg #[.int .i64 0, .int .i64 0, .int .i64 0]], []⟩ 8 (by kernel_rfl) (by kernel_rfl) (by kernel_rfl) (by kernel_rfl)) ?_
  intro W base args ds gs before hval0 hW _ _
  have hval : ∀ (j : Nat) t v, Try.f3.params[j]? = some t → args[j]? = some v → Value.okWide Try.prog W .any base t v := hval0
  have hW' := hW
  obtain ⟨p, q, hA0, hV, rfl, hfz, hnd⟩ := hW
  have hA : DataW.TrodAll enc Try.prog W 0 (fun _ => true) true Try.f3.params.toList args.toList ds p := hA0
  rw [Try.params3] at hA hval
  obtain ⟨v0, v1, v2, d0, d1, d2, p0, p1, p2, rfl, rfl, rfl, h0, h1, h2⟩ := trodAll_three hA
  obtain ⟨rfl, rfl⟩ := trodVars_none hV
  have h0k := h0
  have h1k := h1
  have h2k := h2
  obtain ⟨M, A, rfl⟩ := open_hedges (hval 0 24 v0 rfl rfl) h0
  obtain ⟨k, c, s, t, g, a, r, qq, x, su, st, rfl, -, -⟩ := open_frame (hval 1 27 v1 rfl rfl) h1
  obtain ⟨t0, t1, t2, rfl⟩ := open_ints3 (hval 2 28 v2 rfl rfl) h2
  clear hA0 hval0 h0 h1 h2
  simp only [List.append_nil] at hW'
  have hlt : ∀ y ∈ p0 ++ (p1 ++ p2), y.block < W.heap.size := fun y hy => by simpa using hW'.lt y (by simpa using hy)
  have g0 : ∀ W', Below W.heap.size W W' → DataW.Trod enc Try.prog W' 0 (fun b => decide (b < W.heap.size)) true 24 _ d0 p0 := fun W' hb =>
    Below.trod Hnx.laidOut (by kernel_rfl) (of_decide_eq_true (by kernel_rfl)) h0k hb (fun y hy => hlt y (List.mem_append_left _ hy))
  have g1 : ∀ W', Below W.heap.size W W' → DataW.Trod enc Try.prog W' 0 (fun b => decide (b < W.heap.size)) true 27 _ d1 p1 := fun W' hb =>
    Below.trod Hnx.laidOut (by kernel_rfl) (of_decide_eq_true (by kernel_rfl)) h1k hb (fun y hy => hlt y (List.mem_append_right _ (List.mem_append_left _ hy)))
  have g2 : ∀ W', Below W.heap.size W W' → DataW.Trod enc Try.prog W' 0 (fun b => decide (b < W.heap.size)) true 28 _ d2 p2 := fun W' hb =>
    Below.trod Hnx.laidOut (by kernel_rfl) (of_decide_eq_true (by kernel_rfl)) h2k hb (fun y hy => hlt y (List.mem_append_right _ (List.mem_append_right _ hy)))
  refine (hednext_any M A k c s t g a r qq x su st t0 t1 t2 W).mono fun e W' ⟨he, hb⟩ => ?_
  subst he
  exact ⟨_, rfl, _, _, _, [], _, [], hW', trodAll_mk1 (shut_bool Try.underlying4 _), trodAll_mk3 (g0 W' hb) (g1 W' hb) (g2 W' hb), rfl, hb.frame _, fun h => by cases h⟩

/-- THE LAW. -/
theorem hedge_next_holds : Rows.HedgeNextSaid :=
  OpenClaim.holds_of_wide 3 Try.f3 rfl rfl rfl rfl rfl rfl rfl ⟨rfl, rfl, rfl, rfl, rfl⟩ rfl rfl rfl rfl rfl (by kernel_rfl) Try.func3 (by kernel_rfl)
    (of_decide_eq_true (by kernel_rfl)) (by unfold Func.isWrapper; rw [if_neg (of_decide_eq_false (by kernel_rfl))]; exact ⟨rfl, rfl⟩)
    (fun os started H enc _ => liftedHnx os started H enc)

#print axioms hedge_next_holds
end Go.Proofs.Ytcmpnkpjcegadaa
