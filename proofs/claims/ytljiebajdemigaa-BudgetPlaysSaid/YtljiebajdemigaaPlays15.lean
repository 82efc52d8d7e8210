/- With every rule of retries, every list of bools and every bool, the law on what retries may take returns true, and its arguments read as they did. -/
import Derived.Test.YtljiebajdemigaaLaw15C
import Derived.Test.YtljiebajdemigaaOpnR
import Derived.Test.YtljiebajdemigaaOpnB
import Derived.ProofKit
import Derived.OpenShut
namespace Go.Proofs.Ytljiebajdemigaa
open Go.ChangeShapes Go.WideShapes Go.ChangeAt Go.RowKit

theorem Bpl.own : ownKnob Try.prog.godebug = none := by kernel_rfl
theorem Bpl.laidOut : laidOutB Try.prog = true := by kernel_rfl

set_option maxRecDepth 100000 in
theorem liftedPlays15 (os : Os) (started : os.Started) (H : Type) (enc : TypeId × Value → H) :
    ReturnsInHanded {} Try.checked os 3 .any (Rows.budgetPlaysSpec.pre6 enc Try.prog Try.f3 Rows.budgetPlaysRow.domain false) (Rows.budgetPlaysSpec.post enc Try.prog Try.f3 false true false false) := by
  refine returnsInHanded_of_change (C := Try.checked) Bpl.own started (by kernel_rfl) Try.func3
    (ChangeSpec.witness6 (enc := enc) (C := Try.checked) false ⟨#[], #[.agg #[.int .i64 0, .int .i64 0, .int .i64 0, .int .i64 0, .int .i64 0, .int .i64 0], .slice none 0 0, .bool false], []⟩ 8 (by kernel_rfl) (by kernel_rfl) (by kernel_rfl) (by kernel_rfl)) ?_
  intro W base args ds gs before hval0 hW _ _
  have hval : ∀ (j : Nat) t v, Try.f3.params[j]? = some t → args[j]? = some v → Value.okWide Try.prog W .any base t v := hval0
  have hW' := hW
  obtain ⟨p, q, hA0, hV, rfl, hfz, hnd⟩ := hW
  have hA : DataW.TrodAll enc Try.prog W 0 (fun _ => true) true Try.f3.params.toList args.toList ds p := hA0
  rw [Try.params3] at hA hval
  obtain ⟨v0, v1, v2, d0, d1, d2, p0, p1, p2, rfl, rfl, rfl, h0, h1, h2⟩ := trodAll_three hA
  obtain ⟨rfl, rfl⟩ := trodVars_none hV
  have h0k := h0
  have h1k := h1
  obtain ⟨n0, n1, n2, n3, n4, n5, rfl⟩ := open_retries (hval 0 24 v0 rfl rfl) h0
  obtain ⟨sm, rfl, rfl, rfl⟩ := open_bool Try.underlying4 (hval 2 4 v2 rfl rfl) h2
  obtain ⟨fuel1, hf1⟩ := h1
  clear hA0 hval0 h0
  simp only [List.append_nil] at hW'
  have hlt : ∀ y ∈ p0 ++ p1, y.block < W.heap.size := fun y hy => by simpa using hW'.lt y (by simpa using hy)
  have g0 : ∀ W', Below W.heap.size W W' → DataW.Trod enc Try.prog W' 0 (fun b => decide (b < W.heap.size)) true 24 _ d0 p0 := fun W' hb =>
    Below.trod Bpl.laidOut (by kernel_rfl) (of_decide_eq_true (by kernel_rfl)) h0k hb (fun y hy => hlt y (List.mem_append_left _ hy))
  have g1 : ∀ W', Below W.heap.size W W' → DataW.Trod enc Try.prog W' 0 (fun b => decide (b < W.heap.size)) true 25 v1 d1 p1 := fun W' hb =>
    Below.trod Bpl.laidOut (by kernel_rfl) (of_decide_eq_true (by kernel_rfl)) h1k hb (fun y hy => hlt y (List.mem_append_right _ hy))
  obtain ⟨a1, len, cap, rfl⟩ := okWide_slice Try.underlying25 (hval 1 25 v1 rfl rfl)
  have hwalk : Calls Try.prog 3 #[.agg #[.int .i64 n0, .int .i64 n1, .int .i64 n2, .int .i64 n3, .int .i64 n4, .int .i64 n5], .slice a1 len cap, .bool sm] W fun e w' => e = .returned (.bool true) ∧ Below W.heap.size W w' := by
    rcases open_bools_list hf1 with hcs | ⟨bk, o, sp, len', cap', Y, hcs, hs, hY⟩
    · simp [Value.cells] at hcs
      obtain ⟨rfl, rfl, rfl⟩ := hcs
      exact bplays_any n0 n1 n2 n3 n4 n5 sm none 0 0 0 0 (fun _ => false) W (fun h => absurd h (Nat.lt_irrefl _)) (fun i hi => absurd hi (Nat.not_lt_zero _))
    · simp [Value.cells] at hcs
      obtain ⟨rfl, rfl, rfl⟩ := hcs
      exact bplays_any n0 n1 n2 n3 n4 n5 sm a1 len cap bk o Y W hs hY
  refine hwalk.mono fun e W' ⟨he, hb⟩ => ?_
  subst he
  exact ⟨_, rfl, _, _, _, [], _, [], hW', trodAll_mk1 (shut_bool Try.underlying4 _), by have k := trodAll_mk3 (g0 W' hb) (g1 W' hb) (shut_bool (enc := enc) Try.underlying4 sm); rw [List.append_nil] at k; exact k, rfl, hb.frame _, fun h => by cases h⟩

/-- THE LAW. -/
theorem budget_plays_holds : Rows.BudgetPlaysSaid :=
  OpenClaim.holds_of_wide 3 Try.f3 rfl rfl rfl rfl rfl rfl rfl ⟨rfl, rfl, rfl, rfl, rfl⟩ rfl rfl rfl rfl rfl (by kernel_rfl) Try.func3 (by kernel_rfl)
    (of_decide_eq_true (by kernel_rfl)) (by unfold Func.isWrapper; rw [if_neg (of_decide_eq_false (by kernel_rfl))]; exact ⟨rfl, rfl⟩)
    (fun os started H enc _ => liftedPlays15 os started H enc)

#print axioms budget_plays_holds
end Go.Proofs.Ytljiebajdemigaa
