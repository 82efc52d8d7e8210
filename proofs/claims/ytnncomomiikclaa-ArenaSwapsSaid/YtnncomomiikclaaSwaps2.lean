/- With every list of words and every word, the law on swaps returns true, and its arguments read as they did. -/
import Derived.Test.YtnncomomiikclaaLaw2B
import Derived.ProofKit
import Derived.OpenShut
namespace Go.Proofs.Ytnncomomiikclaa
open Go.ChangeShapes Go.WideShapes Go.ChangeAt Go.RowKit

theorem Sw.own : ownKnob Try.prog.godebug = none := by kernel_rfl
theorem Sw.laidOut : laidOutB Try.prog = true := by kernel_rfl
theorem Sw.cells : Try.prog.cellsOf 22 = 1 := by kernel_rfl

set_option maxRecDepth 100000 in
theorem liftedSwaps (os : Os) (started : os.Started) (H : Type) (enc : TypeId × Value → H) :
    ReturnsInHanded {} Try.checked os 4 .any (Rows.arenaSwapsSpec.pre6 enc Try.prog Try.f4 Rows.arenaSwapsRow.domain false) (Rows.arenaSwapsSpec.post enc Try.prog Try.f4 false true false false) := by
  refine returnsInHanded_of_change (C := Try.checked) Sw.own started (by kernel_rfl) Try.func4
    (ChangeSpec.witness6 (enc := enc) (C := Try.checked) false ⟨#[], #[.slice none 0 0, .int .u64 0], []⟩ 8 (by kernel_rfl) (by kernel_rfl) (by kernel_rfl) (by kernel_rfl)) ?_
  intro W base args ds gs before hval0 hW _ _
  have hval : ∀ (j : Nat) t v, Try.f4.params[j]? = some t → args[j]? = some v → Value.okWide Try.prog W .any base t v := hval0
  have hW' := hW
  obtain ⟨p, q, hA0, hV, rfl, hfz, hnd⟩ := hW
  have hA : DataW.TrodAll enc Try.prog W 0 (fun _ => true) true Try.f4.params.toList args.toList ds p := hA0
  rw [Try.params4] at hA hval
  obtain ⟨v0, v1, d0, d1, p0, p1, rfl, rfl, rfl, h0, h1⟩ := trodAll_two hA
  obtain ⟨rfl, rfl⟩ := trodVars_none hV
  obtain ⟨z, rfl, rfl, rfl, wz⟩ := open_int Try.underlying22 (hval 1 22 v1 rfl rfl) h1
  have h0k := h0
  obtain ⟨fuel, hf⟩ := h0
  clear hA0 hval0
  simp only [List.append_nil] at hW'
  have hlt : ∀ y ∈ p0, y.block < W.heap.size := fun y hy => by simpa using hW'.lt y hy
  have hargs : ∀ W', Below W.heap.size W W' → DataW.Trod enc Try.prog W' 0 (fun b => decide (b < W.heap.size)) true 33 v0 d0 p0 := fun W' hb =>
    Below.trod Sw.laidOut (by kernel_rfl) (of_decide_eq_true (by kernel_rfl)) h0k hb hlt
  obtain ⟨a0, len, cap, rfl⟩ := okWide_slice Try.underlying33 (hval 0 33 v0 rfl rfl)
  have bz := bounds_u64 wz
  obtain ⟨zn, rfl⟩ := Int.eq_ofNat_of_zero_le bz.1
  have hwalk : Calls Try.prog 4 #[.slice a0 len cap, .int .u64 (zn : Int)] W fun e w' => e = .returned (.bool true) ∧ Below W.heap.size W w' := by
    rcases open_ints Try.underlying33 Try.underlying22 Sw.cells hf with ⟨hcs, _⟩ | ⟨a, len', cap', zs, hcs, _, hl, hm, hz, _, hi, hwf⟩
    · simp [Value.cells] at hcs
      obtain ⟨rfl, rfl, rfl⟩ := hcs
      exact swaps_any (fun _ => 0) none zn 0 0 0 0 (by omega) (fun h => absurd h (Nat.lt_irrefl _)) W (fun i hi => absurd hi (Nat.not_lt_zero _)) (fun i hi => absurd hi (Nat.not_lt_zero _))
    · simp [Value.cells] at hcs
      obtain ⟨rfl, rfl, rfl⟩ := hcs
      have hlz : len ≤ zs.length := by rw [hz]; split <;> omega
      have hb : ∀ i, i < len → 0 ≤ zs.getD i 0 ∧ zs.getD i 0 ≤ 18446744073709551615 := fun i hil => by
        have hmem : zs.getD i 0 ∈ zs := by
          rw [List.getD_eq_getElem?_getD, List.getElem?_eq_getElem (by omega)]
          exact List.getElem_mem _
        exact bounds_u64 (hwf _ hmem)
      obtain ⟨bk, o, spot⟩ := a
      have hs : 0 < len → (some ⟨bk, o, spot⟩ : Option Addr) = some ⟨bk, o, none⟩ := fun h => by
        have hspot : spot = none := by simpa [Addr.add] using World.cell?_spot (hi 0 (by omega))
        rw [hspot]
      refine swaps_any (fun i => (zs.getD i 0).toNat) _ zn len cap bk o (by omega) hs W (fun i hil => ?_) (fun i hil => by have := hb i hil; show (zs.getD i 0).toNat < _; omega)
      have e := hs (by omega)
      simp only [Option.some.injEq, Addr.mk.injEq, true_and] at e
      subst e
      have h := hi i (by omega)
      rw [add_plain] at h
      rw [h, Int.toNat_of_nonneg (hb i hil).1]
  refine hwalk.mono fun e W' ⟨he, hb⟩ => ?_
  subst he
  exact ⟨_, rfl, _, _, _, [], p0, [], hW', trodAll_mk1 (shut_bool Try.underlying4 _), by have k := trodAll_mk2 (hargs W' hb) (shut_int (enc := enc) Try.underlying22 wz); rw [List.append_nil] at k; exact k, rfl, hb.frame _, fun h => by cases h⟩

/-- THE LAW ON SWAPS. -/
theorem arena_swaps_holds : Rows.ArenaSwapsSaid :=
  OpenClaim.holds_of_wide 4 Try.f4 rfl rfl rfl rfl rfl rfl rfl ⟨rfl, rfl, rfl, rfl, rfl⟩ rfl rfl rfl rfl rfl (by kernel_rfl) Try.func4 (by kernel_rfl)
    (of_decide_eq_true (by kernel_rfl)) (by unfold Func.isWrapper; rw [if_neg (of_decide_eq_false (by kernel_rfl))]; exact ⟨rfl, rfl⟩)
    (fun os started H enc _ => liftedSwaps os started H enc)

#print axioms arena_swaps_holds
end Go.Proofs.Ytnncomomiikclaa
