/- The law's own first look: one task ends a turn. -/
import Derived.Test.YteijikcggflaoaaDoorStlC
import Derived.Test.YteijikcggflaoaaDoorSkip
import Derived.IntWalk
import Derived.Deep.CutBlock
namespace Go.Proofs.YteijikcggflaoaaDoor
open Go.RowKit
attribute [local go_sem ↓] Go.wp_at_zero Go.wp_at_succ

/-- A task that ended its turn tells so; one that did not. -/
theorem ldone_won (i g m x : Int) (w : World) : Calls Tryd.prog 9 #[.agg #[.int .i64 i, .int .i64 g, .int .i64 m, .int .i64 2, .int .u64 x]] w fun e w' => e = .returned (.tuple #[.int .i64 0, .bool true]) ∧ Below w.heap.size w w' := ldone_any i g m 2 x w
theorem ldone_stale (i g m x : Int) (w : World) : Calls Tryd.prog 9 #[.agg #[.int .i64 i, .int .i64 g, .int .i64 m, .int .i64 3, .int .u64 x]] w fun e w' => e = .returned (.tuple #[.int .i64 5, .bool true]) ∧ Below w.heap.size w w' := ldone_any i g m 3 x w
theorem ldone_begun (i g m x : Int) (w : World) : Calls Tryd.prog 9 #[.agg #[.int .i64 i, .int .i64 g, .int .i64 m, .int .i64 0, .int .u64 x]] w fun e w' => e = .returned (.tuple #[.int .i64 0, .bool false]) ∧ Below w.heap.size w w' := ldone_any i g m 0 x w
theorem lword_won (i g m x : Int) (w : World) : Calls Tryd.prog 22 #[.agg #[.int .i64 i, .int .i64 g, .int .i64 m, .int .i64 2, .int .u64 x]] w fun e w' => e = .returned (.int .u64 x) ∧ Below w.heap.size w w' := lword_any i g m 2 x w

set_option maxRecDepth 100000 in
set_option maxHeartbeats 2000000 in
theorem awake11_any (w : World) (hL : SLay w) : Calls Tryd.prog 11 #[] w fun e w' => e = .returned (.bool true) ∧ Below w.heap.size w w' := by
  have HL := Lib.hid hL
  clear hL
  go_enter Tryd.func11, Tryd.ntmps11
  go_wp2_with fail
  refine (new_yes 2 _ (by decide) (by decide)).mono ?_
  rintro e w1 hF
  obtain ⟨P, rfl, h1⟩ := St.fresh hF
  have H1 := Lib.hid h1
  clear hF h1
  go_wp2_with fail
  refine (sword_any 3 1 (by decide) (by decide) _ (H1.out.lay HL.out)).mono ?_
  rintro e w2 ⟨rfl, hb⟩
  have H2 := Lib.hid (H1.out.below hb)
  clear hb H1
  rw [show Slt.word (min (Int.toNat 3) 16777215) (min (Int.toNat 1) 3) = 16777219 by rfl]
  go_wp2_with fail
  refine (H2.out.write 1 16777219 (by decide) (by decide)).mono ?_
  rintro e w3 ⟨rfl, h3⟩
  have H3 := Lib.hid h3
  clear h3 H2
  go_wp2_with fail
  refine (lnew_any 1 3 9 _).mono ?_
  rintro e w4 ⟨rfl, hb⟩
  have H4 := Lib.hid (H3.out.below hb)
  clear hb H3
  go_wp2_with fail
  refine (H4.out.step5 HL.out 1 3 9 0 0 1 3 9 1 16777219 ((((Ar.new 2).touch 1).put 1 16777219).touch 1) ⟨by decide, by decide, fun e => by simp at e⟩ (by rfl)).mono ?_
  rintro e w5 ⟨rfl, h5⟩
  have H5 := Lib.hid h5
  clear h5 H4
  go_wp2_with fail
  refine (H5.out.step5 HL.out 1 3 9 1 16777219 1 3 9 2 3 ((((((Ar.new 2).touch 1).put 1 16777219).touch 1).touch 1).put 1 3) ⟨by decide, by decide, fun _ => by decide⟩ (by rfl)).mono ?_
  rintro e w6 ⟨rfl, h6⟩
  have H6 := Lib.hid h6
  clear h6 H5
  generalize hb : w6.heap.size = b at *
  have H7 := Lib.hid (hb ▸ H6.out.add (.cells (Stl.cells ⟨1, 3, 9, 2, 3⟩) 27 (0, 0)))
  have hc := H7.out.task_cells
  go_wp2_with fail
  refine (ldone_won 1 3 9 3 _).mono ?_
  rintro e w7 ⟨rfl, hbl⟩
  have H8 := Lib.hid (H7.out.below hbl)
  clear hbl hc H7 H6
  have hc := H8.out.task_cells
  go_wp2_with fail
  refine wp_region_held_drew (S := fun w' => w'.cell? ⟨b, 0, none⟩ = some (.int .i64 (1 : Nat)) ∧ w'.cell? ⟨b, 1, none⟩ = some (.int .i64 3) ∧ w'.cell? ⟨b, 2, none⟩ = some (.int .i64 9) ∧ w'.cell? ⟨b, 3, none⟩ = some (.int .i64 (2 : Nat)) ∧ w'.cell? ⟨b, 4, none⟩ = some (.int .u64 (3 : Nat))) (by kernel_rfl) hc (fun hHeld => ?_)
  have H9 := Lib.hid H8.out.drew
  clear H8 hc
  generalize w7.drew = wd at H9 hHeld ⊢
  refine wpAnyH_yield 0 (.bool true) rfl (by kernel_rfl) (by kernel_rfl) (by kernel_rfl) (fun d _ _ _ h => by cases d <;> exact h) (by rfl) (by assumption) (fun _ _ => by go_simp) ?_
  simp only [Act.put, List.setIfInBounds_toArray, List.set_cons_zero, List.set_cons_succ]
  refine wpAnyH_yield 1 (.bool true) rfl (by kernel_rfl) (by kernel_rfl) (by kernel_rfl) (fun d _ _ _ h => by cases d <;> exact h) (by rfl) (by assumption) (fun _ _ => by go_simp) ?_
  simp only [Act.put, List.setIfInBounds_toArray, List.set_cons_zero, List.set_cons_succ]
  refine wpAnyH_yield 2 (.int .i64 0) rfl (by kernel_rfl) (by kernel_rfl) (by kernel_rfl) (fun d _ _ _ h => by cases d <;> exact h) (by rfl) (by assumption) (fun _ _ => by go_simp) ?_
  simp only [Act.put, List.setIfInBounds_toArray, List.set_cons_zero, List.set_cons_succ]
  refine wpAnyH_yield 3 (.bool true) rfl (by kernel_rfl) (by kernel_rfl) (by kernel_rfl) (fun d _ _ _ h => by cases d <;> exact h) (by rfl) (by assumption) (fun _ _ => by go_simp) ?_
  simp only [Act.put, List.setIfInBounds_toArray, List.set_cons_zero, List.set_cons_succ]
  refine wpAnyH_yield 4 (.bool true) rfl (by kernel_rfl) (by kernel_rfl) (by kernel_rfl) (fun d _ _ _ h => by cases d <;> exact h) (by rfl) (by assumption) (fun _ _ => by go_simp) ?_
  simp only [Act.put, List.setIfInBounds_toArray, List.set_cons_zero, List.set_cons_succ]
  refine wpAnyH_yield 5 (.bool true) rfl (by kernel_rfl) (by kernel_rfl) (by kernel_rfl) (fun d _ _ _ h => by cases d <;> exact h) (by rfl) (by assumption) (fun _ _ => by go_simp) ?_
  simp only [Act.put, List.setIfInBounds_toArray, List.set_cons_zero, List.set_cons_succ]
  refine wpAnyH_yield 6 (.agg #[.int .i64 1, .int .i64 3, .int .i64 9, .int .i64 2, .int .u64 3]) rfl (by kernel_rfl) (by kernel_rfl) (by kernel_rfl) (fun d _ _ _ h => by cases d <;> exact h) (by rfl) (by assumption) (fun _ hSw => by (try dsimp only at hSw); go_simp) ?_
  simp only [Act.put, List.setIfInBounds_toArray, List.set_cons_zero, List.set_cons_succ]
  refine wpAnyH_ready (rs := [7]) (by kernel_rfl) (by simp) (AllReadyH.cons rfl (fun K hK => ?_) AllReadyH.nil)
  go_simp
  go_at_call 22
  refine (lword_won 1 3 9 3 _).mono ?_
  rintro e w8 ⟨rfl, hbl⟩
  have H10 := Lib.hid (H9.out.below hbl)
  clear hbl H9
  refine hK.out _ _ (H10.out.task_cells) (fun hHeld => ?_)
  clear hK K
  try simp only [Act.put, List.setIfInBounds_toArray, List.set_cons_zero, List.set_cons_succ]
  refine wpAnyH_ready (rs := [8]) (by kernel_rfl) (by simp) (AllReadyH.cons rfl (fun K hK => ?_) AllReadyH.nil)
  go_simp
  go_at_call 13
  refine (sword_any 3 0 (by decide) (by decide) _ (H10.out.lay HL.out)).mono ?_
  rintro e w9 ⟨rfl, hbl⟩
  have H11 := Lib.hid (H10.out.below hbl)
  clear hbl H10
  rw [show Slt.word (min (Int.toNat 3) 16777215) (min (Int.toNat 0) 3) = 3 by rfl]
  refine hK.out _ _ (H11.out.task_cells) (fun hHeld => ?_)
  clear hK K
  try simp only [Act.put, List.setIfInBounds_toArray, List.set_cons_zero, List.set_cons_succ]
  refine wpAnyH_yield 9 (.bool true) rfl (by kernel_rfl) (by kernel_rfl) (by kernel_rfl) (fun d _ _ _ h => by cases d <;> exact h) (by rfl) (by assumption) (fun _ _ => by go_simp) ?_
  simp only [Act.put, List.setIfInBounds_toArray, List.set_cons_zero, List.set_cons_succ]
  refine wpAnyH_yield 10 (.bool true) rfl (by kernel_rfl) (by kernel_rfl) (by kernel_rfl) (fun d _ _ _ h => by cases d <;> exact h) (by rfl) (by assumption) (fun _ _ => by go_simp) ?_
  simp only [Act.put, List.setIfInBounds_toArray, List.set_cons_zero, List.set_cons_succ]
  refine wpAnyH_yield 11 (.bool true) rfl (by kernel_rfl) (by kernel_rfl) (by kernel_rfl) (fun d _ _ _ h => by cases d <;> exact h) (by rfl) (by assumption) (fun _ _ => by go_simp) ?_
  simp only [Act.put, List.setIfInBounds_toArray, List.set_cons_zero, List.set_cons_succ]
  refine wpAnyH_yield 12 (.pointer (some ⟨P, 0, none⟩)) rfl (by kernel_rfl) (by kernel_rfl) (by kernel_rfl) (fun d _ _ _ h => by cases d <;> exact h) (by rfl) (by assumption) (fun _ _ => by go_simp) ?_
  simp only [Act.put, List.setIfInBounds_toArray, List.set_cons_zero, List.set_cons_succ]
  refine wpAnyH_yield 14 (.agg #[.int .i64 1, .int .i64 3, .int .i64 9, .int .i64 2, .int .u64 3]) rfl (by kernel_rfl) (by kernel_rfl) (by kernel_rfl) (fun d _ _ _ h => by cases d <;> exact h) (by rfl) (by assumption) (fun _ hSw => by (try dsimp only at hSw); go_simp) ?_
  simp only [Act.put, List.setIfInBounds_toArray, List.set_cons_zero, List.set_cons_succ]
  refine wpAnyH_ready (rs := [13]) (by kernel_rfl) (by simp) (AllReadyH.cons rfl (fun K hK => ?_) AllReadyH.nil)
  go_simp
  go_at_call 12
  refine (H11.out.look 1 (by decide)).mono ?_
  rintro e w10 ⟨rfl, rfl⟩
  rw [show ((((((Ar.new 2).touch 1).put 1 16777219).touch 1).touch 1).put 1 3).cs.getD 1 0 = 3 by rfl]
  refine hK.out _ _ (hHeld) (fun hHeld => ?_)
  clear hK K
  try simp only [Act.put, List.setIfInBounds_toArray, List.set_cons_zero, List.set_cons_succ]
  refine wpAnyH_ready (rs := [15]) (by kernel_rfl) (by simp) (AllReadyH.cons rfl (fun K hK => ?_) AllReadyH.nil)
  go_simp
  go_at_call 22
  refine (lword_won 1 3 9 3 _).mono ?_
  rintro e w11 ⟨rfl, hbl⟩
  have H12 := Lib.hid (H11.out.below hbl)
  clear hbl H11
  refine hK.out _ _ (H12.out.task_cells) (fun hHeld => ?_)
  clear hK K
  try simp only [Act.put, List.setIfInBounds_toArray, List.set_cons_zero, List.set_cons_succ]
  refine wpAnyH_yield 16 (.bool true) rfl (by kernel_rfl) (by kernel_rfl) (by kernel_rfl) (fun d _ _ _ h => by cases d <;> exact h) (by rfl) (by assumption) (fun _ _ => by go_simp) ?_
  simp only [Act.put, List.setIfInBounds_toArray, List.set_cons_zero, List.set_cons_succ]
  refine wpAnyH_yield 17 (.bool true) rfl (by kernel_rfl) (by kernel_rfl) (by kernel_rfl) (fun d _ _ _ h => by cases d <;> exact h) (by rfl) (by assumption) (fun _ _ => by go_simp) ?_
  simp only [Act.put, List.setIfInBounds_toArray, List.set_cons_zero, List.set_cons_succ]
  refine wpAnyH_yield 18 (.bool true) rfl (by kernel_rfl) (by kernel_rfl) (by kernel_rfl) (fun d _ _ _ h => by cases d <;> exact h) (by rfl) (by assumption) (fun _ _ => by go_simp) ?_
  simp only [Act.put, List.setIfInBounds_toArray, List.set_cons_zero]
  refine wpAnyH_done (by kernel_rfl) ?_ _
  go_wp2
  go_ret
  exact ⟨rfl, H12.out.low⟩
end Go.Proofs.YteijikcggflaoaaDoor
