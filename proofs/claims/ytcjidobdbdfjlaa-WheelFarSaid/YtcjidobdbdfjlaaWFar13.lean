/- With every time, every distance and every list of steps, the law on when a far alarm has come returns true, and its arguments read as they did. -/
import Derived.Test.YtcjidobdbdfjlaaLaw13C
import Derived.Test.YtcjidobdbdfjlaaOpnP
import Derived.ProofKit
import Derived.OpenShut
namespace Go.Proofs.Ytcjidobdbdfjlaa
open Go.ChangeShapes Go.WideShapes Go.ChangeAt Go.RowKit

theorem Wfa.own : ownKnob Try.prog.godebug = none := by kernel_rfl
theorem Wfa.laidOut : laidOutB Try.prog = true := by kernel_rfl

set_option maxRecDepth 100000 in
theorem liftedWFar (os : Os) (started : os.Started) (H : Type) (enc : TypeId × Value → H) :
    ReturnsInHanded {} Try.checked os 4 .any (Rows.wheelFarSpec.pre6 enc Try.prog Try.f4 Rows.wheelFarRow.domain false) (Rows.wheelFarSpec.post enc Try.prog Try.f4 false true false false) := by
  refine returnsInHanded_of_change (C := Try.checked) Wfa.own started (by kernel_rfl) Try.func4
    (ChangeSpec.witness6 (enc := enc) (C := Try.checked) false ⟨#[], #[.int .i64 0, .int .i64 0, .slice none 0 0], []⟩ 8 (by kernel_rfl) (by kernel_rfl) (by kernel_rfl) (by kernel_rfl)) ?_
  intro W base args ds gs before hval0 hW _ _
  have hval : ∀ (j : Nat) t v, Try.f4.params[j]? = some t → args[j]? = some v → Value.okWide Try.prog W .any base t v := hval0
  have hW' := hW
  obtain ⟨p, q, hA0, hV, rfl, hfz, hnd⟩ := hW
  have hA : DataW.TrodAll enc Try.prog W 0 (fun _ => true) true Try.f4.params.toList args.toList ds p := hA0
  rw [Try.params4] at hA hval
  obtain ⟨v0, v1, v2, d0, d1, d2, p0, p1, p2, rfl, rfl, rfl, h0, h1, h2⟩ := trodAll_three hA
  obtain ⟨rfl, rfl⟩ := trodVars_none hV
  obtain ⟨n, rfl, rfl, rfl, wn⟩ := open_int Try.underlying22 (hval 0 22 v0 rfl rfl) h0
  obtain ⟨m, rfl, rfl, rfl, wm⟩ := open_int Try.underlying22 (hval 1 22 v1 rfl rfl) h1
  have h2k := h2
  obtain ⟨fuel, hf⟩ := h2
  clear hA0 hval0
  simp only [List.append_nil, List.nil_append] at hW'
  have hlt : ∀ y ∈ p2, y.block < W.heap.size := fun y hy => by simpa using hW'.lt y hy
  have hargs : ∀ W', Below W.heap.size W W' → DataW.Trod enc Try.prog W' 0 (fun b => decide (b < W.heap.size)) true 48 v2 d2 p2 := fun W' hb =>
    Below.trod Wfa.laidOut (by kernel_rfl) (of_decide_eq_true (by kernel_rfl)) h2k hb hlt
  obtain ⟨a0, len, cap, rfl⟩ := okWide_slice Try.underlying48 (hval 2 48 v2 rfl rfl)
  have hwalk : Calls Try.prog 4 #[.int .i64 n, .int .i64 m, .slice a0 len cap] W fun e w' => e = .returned (.bool true) ∧ Rest (fun _ => False) W w' := by
    rcases open_ints_list Try.underlying48 hf with hcs | ⟨bk, o, sp, len', cap', X, hcs, hs, hc⟩
    · simp [Value.cells] at hcs
      obtain ⟨rfl, rfl, rfl⟩ := hcs
      exact wfar_any n m none 0 0 0 0 (fun _ => 0) W (fun h => absurd h (Nat.lt_irrefl _)) (fun i hi => absurd hi (Nat.not_lt_zero _))
    · simp [Value.cells] at hcs
      obtain ⟨rfl, rfl, rfl⟩ := hcs
      exact wfar_any n m a0 len cap bk o X W hs (fun i hi => (hc i hi).1)
  refine hwalk.mono fun e W' ⟨he, hr⟩ => ?_
  have hb : Below W.heap.size W W' := hr.below (Nat.le_refl _) (fun _ x => x.elim)
  subst he
  exact ⟨_, rfl, _, _, _, [], p2, [], hW', trodAll_mk1 (shut_bool Try.underlying4 _), by have k := trodAll_mk3 (shut_int (enc := enc) Try.underlying22 wn) (shut_int (enc := enc) Try.underlying22 wm) (hargs W' hb); rw [List.nil_append, List.nil_append] at k; exact k, rfl, hb.frame _, fun h => by cases h⟩

/-- THE LAW. -/
theorem wheel_far_holds : Rows.WheelFarSaid :=
  OpenClaim.holds_of_wide 4 Try.f4 rfl rfl rfl rfl rfl rfl rfl ⟨rfl, rfl, rfl, rfl, rfl⟩ rfl rfl rfl rfl rfl (by kernel_rfl) Try.func4 (by kernel_rfl)
    (of_decide_eq_true (by kernel_rfl)) (by unfold Func.isWrapper; rw [if_neg (of_decide_eq_false (by kernel_rfl))]; exact ⟨rfl, rfl⟩)
    (fun os started H enc _ => liftedWFar os started H enc)

#print axioms wheel_far_holds
end Go.Proofs.Ytcjidobdbdfjlaa
