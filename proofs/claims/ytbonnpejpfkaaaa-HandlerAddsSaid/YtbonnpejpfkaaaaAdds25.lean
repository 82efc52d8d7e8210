/- With every list of numbers and every number, the law on what is added returns true, and its arguments read as they did. -/
import Derived.Test.YtbonnpejpfkaaaaLaw25C
import Derived.Test.YtbonnpejpfkaaaaOpnV
import Derived.ProofKit
import Derived.OpenShut
namespace Go.Proofs.Ytbonnpejpfkaaaa
open Go.ChangeShapes Go.WideShapes Go.ChangeAt Go.RowKit

theorem Hna.own : ownKnob Try.prog.godebug = none := by kernel_rfl
theorem Hna.laidOut : laidOutB Try.prog = true := by kernel_rfl

set_option maxRecDepth 100000 in
theorem liftedAdds25 (os : Os) (started : os.Started) (H : Type) (enc : TypeId × Value → H) :
    ReturnsInHanded {} Try.checked os 5 .any (Rows.handlerAddsSpec.pre6 enc Try.prog Try.f5 Rows.handlerAddsRow.domain false) (Rows.handlerAddsSpec.post enc Try.prog Try.f5 false true false false) := by
  refine returnsInHanded_of_change (C := Try.checked) Hna.own started (by kernel_rfl) Try.func5
    (ChangeSpec.witness6 (enc := enc) (C := Try.checked) false ⟨#[], #[.slice none 0 0, .int .u32 0], []⟩ 8 (by kernel_rfl) (by kernel_rfl) (by kernel_rfl) (by kernel_rfl)) ?_
  intro W base args ds gs before hval0 hW _ _
  have hval : ∀ (j : Nat) t v, Try.f5.params[j]? = some t → args[j]? = some v → Value.okWide Try.prog W .any base t v := hval0
  have hW' := hW
  obtain ⟨p, q, hA0, hV, rfl, hfz, hnd⟩ := hW
  have hA : DataW.TrodAll enc Try.prog W 0 (fun _ => true) true Try.f5.params.toList args.toList ds p := hA0
  rw [Try.params5] at hA hval
  obtain ⟨v0, v1, d0, d1, p0, p1, rfl, rfl, rfl, h0, h1⟩ := trodAll_two hA
  obtain ⟨rfl, rfl⟩ := trodVars_none hV
  obtain ⟨z, rfl, rfl, rfl, wz⟩ := open_int Try.underlying22 (hval 1 22 v1 rfl rfl) h1
  have h0k := h0
  obtain ⟨fuel, hf⟩ := h0
  clear hA0 hval0
  simp only [List.append_nil] at hW'
  have hlt : ∀ y ∈ p0, y.block < W.heap.size := fun y hy => by simpa using hW'.lt y hy
  have hargs : ∀ W', Below W.heap.size W W' → DataW.Trod enc Try.prog W' 0 (fun b => decide (b < W.heap.size)) true 30 v0 d0 p0 := fun W' hb =>
    Below.trod Hna.laidOut (by kernel_rfl) (of_decide_eq_true (by kernel_rfl)) h0k hb hlt
  obtain ⟨a0, len, cap, rfl⟩ := okWide_slice Try.underlying30 (hval 0 30 v0 rfl rfl)
  have hwalk : Calls Try.prog 5 #[.slice a0 len cap, .int .u32 z] W fun e w' => e = .returned (.bool true) ∧ W = w' := by
    obtain ⟨hlc, X, hX⟩ := open_numk (t := 30) Try.underlying30 Try.underlying22 (by kernel_rfl) (cap := cap) (len := len) (a := a0) (by simpa [Value.cells] using hf)
    exact handleradds_any z (bounds_u32 wz) W hX hlc
  refine hwalk.mono fun e W' ⟨he, hb⟩ => ?_
  subst he
  subst hb
  exact ⟨_, rfl, _, _, _, [], p0, [], hW', trodAll_mk1 (shut_bool Try.underlying4 _), by have k := trodAll_mk2 (hargs _ (Below.refl _ _)) (shut_int (enc := enc) Try.underlying22 wz); rw [List.append_nil] at k; exact k, rfl, (Below.refl _ _).frame _, fun h => by cases h⟩

/-- THE LAW. -/
theorem handler_adds_holds : Rows.HandlerAddsSaid :=
  OpenClaim.holds_of_wide 5 Try.f5 rfl rfl rfl rfl rfl rfl rfl ⟨rfl, rfl, rfl, rfl, rfl⟩ rfl rfl rfl rfl rfl (by kernel_rfl) Try.func5 (by kernel_rfl)
    (of_decide_eq_true (by kernel_rfl)) (by unfold Func.isWrapper; rw [if_neg (of_decide_eq_false (by kernel_rfl))]; exact ⟨rfl, rfl⟩)
    (fun os started H enc _ => liftedAdds25 os started H enc)

#print axioms handler_adds_holds
end Go.Proofs.Ytbonnpejpfkaaaa
