/- awake; DedupNone. -/
import Derived.Test.YthkcomnmihmccaaDdW
namespace Go.Proofs.Ythkcomnmihmccaa
open Go.RowKit Go.Sort

theorem Dd.one (x : Cl) {c k : Int} (h : x.is c k) : At [x] c k 0 x := ⟨rfl, h, fun _ _ hj => absurd hj (Nat.not_lt_zero _)⟩
set_option maxHeartbeats 2000000 in
/-- awake. -/
theorem awake23_any (w : World) : Calls Try.prog 12 #[] w fun e w' => e = .returned (.bool true) ∧ Below w.heap.size w w' := by
  go_enter Try.func12, Try.ntmps12
  go_wp2_with fail
  refine (dw_new 2 w).mono ?_
  rintro e w1 ⟨rfl, h1⟩
  generalize w.heap.size = P at h1 ⊢
  have H1 := Lib.hid (h1.lay (.cells #[.int .i64 0, .int .i64 1, .int .i64 0, .int .i64 0, .int .i64 0, .int .u32 5, .int .i64 0, .bool true, .bool false, .int .i64 0, .int .u32 0] 28))
  clear h1
  go_upto_region 3 with fail
  generalize w1.alloc _ = w2 at H1 ⊢
  generalize w1.heap.size = bF at H1 ⊢
  refine wp_region_held_drew (S := fun w' => w'.heap[bF]? = some (.cells #[.int .i64 0, .int .i64 1, .int .i64 0, .int .i64 0, .int .i64 0, .int .u32 5, .int .i64 0, .bool true, .bool false, .int .i64 0, .int .u32 0] 28 (0, 0))) (by kernel_rfl) (H1.out.get 0 rfl) (fun hHeld => ?_)
  have H2 := Lib.hid H1.out.drew
  clear H1
  generalize w2.drew = w3 at H2 hHeld ⊢
  refine wpAnyH_yield 0 (.pointer (some ⟨P, 0, none⟩)) rfl (by kernel_rfl) (by kernel_rfl) (by kernel_rfl) (fun d _ _ _ h => by cases d <;> exact h) (by rfl) (by assumption) (fun _ _ => by go_simp) ?_
  simp only [Act.put, List.setIfInBounds_toArray, List.set_cons_zero, List.set_cons_succ]
  refine wpAnyH_yield 1 (.agg #[.int .i64 0, .int .i64 1, .int .i64 0, .int .i64 0, .int .i64 0, .int .u32 5, .int .i64 0, .bool true, .bool false, .int .i64 0, .int .u32 0]) rfl (by kernel_rfl) (by kernel_rfl) (by kernel_rfl) (fun d _ _ _ h => by cases d <;> exact h) (by rfl) (by assumption) (fun _ hSw => by have hcs := frame_cells hSw; go_simp) ?_
  simp only [Act.put, List.setIfInBounds_toArray, List.set_cons_zero, List.set_cons_succ]
  refine wpAnyH_yield 3 (.pointer (some ⟨P, 0, none⟩)) rfl (by kernel_rfl) (by kernel_rfl) (by kernel_rfl) (fun d _ _ _ h => by cases d <;> exact h) (by rfl) (by assumption) (fun _ _ => by go_simp) ?_
  simp only [Act.put, List.setIfInBounds_toArray, List.set_cons_zero, List.set_cons_succ]
  refine wpAnyH_yield 4 (.agg #[.int .i64 0, .int .i64 1, .int .i64 0, .int .i64 0, .int .i64 0, .int .u32 5, .int .i64 0, .bool true, .bool false, .int .i64 0, .int .u32 0]) rfl (by kernel_rfl) (by kernel_rfl) (by kernel_rfl) (fun d _ _ _ h => by cases d <;> exact h) (by rfl) (by assumption) (fun _ hSw => by have hcs := frame_cells hSw; go_simp) ?_
  simp only [Act.put, List.setIfInBounds_toArray, List.set_cons_zero, List.set_cons_succ]
  refine wpAnyH_ready (rs := [2]) (by kernel_rfl) (by simp) (AllReadyH.cons rfl (fun K hK => ?_) AllReadyH.nil)
  go_simp
  go_at_call 6
  refine (dw_fresh (T := 0) (by decide) (by decide) (fun j y hj => by simp at hj) (by decide) w3 H2.out).mono ?_
  rintro e w4 ⟨rfl, h4⟩
  have H4 := Lib.hid h4
  clear h4 H2
  refine hK.out _ _ (H4.out.get 0 rfl) (fun hHeld => ?_)
  clear hK K
  try simp only [Act.put, List.setIfInBounds_toArray, List.set_cons_zero, List.set_cons_succ]
  refine wpAnyH_ready (rs := [5]) (by kernel_rfl) (by simp) (AllReadyH.cons rfl (fun K hK => ?_) AllReadyH.nil)
  go_simp
  go_at_call 6
  refine (dw_seen (T := 0) (by decide) (by decide) (Dd.one (Dd.first 1 5 0) ⟨rfl, rfl⟩) rfl w4 H4.out).mono ?_
  rintro e w5 ⟨rfl, h5⟩
  have H5 := Lib.hid h5
  clear h5 H4
  refine hK.out _ _ (H5.out.get 0 rfl) (fun hHeld => ?_)
  clear hK K
  try simp only [Act.put, List.setIfInBounds_toArray, List.set_cons_zero, List.set_cons_succ]
  refine wpAnyH_ready (rs := [6]) (by kernel_rfl) (by simp) (AllReadyH.cons rfl (fun K hK => ?_) AllReadyH.nil)
  go_simp
  refine hK.out _ _ (hHeld) (fun hHeld => ?_)
  clear hK K
  try simp only [Act.put, List.setIfInBounds_toArray, List.set_cons_zero, List.set_cons_succ]
  refine wpAnyH_ready (rs := [7]) (by kernel_rfl) (by simp) (AllReadyH.cons rfl (fun K hK => ?_) AllReadyH.nil)
  go_simp
  refine hK.out _ _ (hHeld) (fun hHeld => ?_)
  clear hK K
  try simp only [Act.put, List.setIfInBounds_toArray, List.set_cons_zero, List.set_cons_succ]
  refine wpAnyH_done (by kernel_rfl) ?_ _
  clear hHeld
  obtain ⟨f0, f1, f2, f3, f4, f5, f6, f7, f8, f9, f10⟩ := frame_cells (H5.out.get 0 rfl)
  go_wp2_with fail
  refine (dw_done (by decide) (Dd.one (Dd.first 1 5 0) ⟨rfl, rfl⟩) rfl w5 H5.out).mono ?_
  rintro e w6 ⟨rfl, h6⟩
  have H6 := Lib.hid h6
  clear h6 H5 f0 f1 f2 f3 f4 f5 f6 f7 f8 f9 f10
  have f6 := (frame_free (H6.out.get 0 rfl)).2.2.2.2.2.2.1
  obtain ⟨-, -, -, -, -, -, c6, -⟩ := frame_cells (H6.out.get 0 rfl)
  go_upto_region 6 with fail
  have H7 : Hid (Dw w (w6.setCell ⟨bF, 6, none⟩ (.int .i64 1)) P (Dd.room 2) _ [(bF, Is (.cells #[.int .i64 0, .int .i64 1, .int .i64 0, .int .i64 0, .int .i64 0, .int .u32 5, .int .i64 1, .bool true, .bool false, .int .i64 0, .int .u32 0] 28 (0, 0)))]) := Lib.hid (H6.out.set (heap_setCell_same _ _ 6 _ _ (.int .i64 1) (H6.out.get 0 rfl)))
  clear H6 f6 c6
  generalize w6.setCell _ _ = w7 at H7 ⊢
  obtain ⟨f0, f1, f2, f3, f4, f5, f6, f7, f8, f9, f10⟩ := frame_cells (H7.out.get 0 rfl)
  go_wp2_with fail
  refine (dw_value (by decide) (Dd.one ((Dd.first 1 5 0).done true 7) ⟨rfl, rfl⟩) w7 H7.out).mono ?_
  rintro e w8 ⟨rfl, hb⟩
  have H8 := Lib.hid (H7.out.below hb)
  clear hb H7 f0 f1 f2 f3 f4 f5 f6 f7 f8 f9 f10
  obtain ⟨f0, f1, f2, f3, f4, f5, f6, f7, f8, f9, f10⟩ := frame_cells (H8.out.get 0 rfl)
  have hv : ((Dd.first 1 5 0).done true 7).v = 7 := rfl
  have ho : ((Dd.first 1 5 0).done true 7).o = true := rfl
  have hd : ((Dd.first 1 5 0).done true 7).d = true := rfl
  go_wp2_with fail
  refine (dw_again (T := 1) (by decide) (by decide) (Dd.one ((Dd.first 1 5 0).done true 7) ⟨rfl, rfl⟩) rfl w8 H8.out).mono ?_
  rintro e w9 ⟨rfl, h9⟩
  have H9 := Lib.hid h9
  have hc : Dd.code true ((Dd.first 1 5 0).done true 7).d = 3 := rfl
  rw [hc]
  clear h9 H8 f0 f1 f2 f3 f4 f5 f6 f7 f8 f9 f10 hc
  obtain ⟨f0, f1, f2, f3, f4, f5, f6, f7, f8, f9, f10⟩ := frame_cells (H9.out.get 0 rfl)
  go_wp2_with fail
  refine (dw_runs (by decide) (Dd.one (Dd.again ((Dd.first 1 5 0).done true 7) 1 true) ⟨rfl, rfl⟩) w9 H9.out).mono ?_
  rintro e w10 ⟨rfl, hb⟩
  have H10 := Lib.hid (H9.out.below hb).rest
  have hr : (Dd.again ((Dd.first 1 5 0).done true 7) 1 true).r = 1 := rfl
  rw [hr]
  clear hb H9 f0 f1 f2 f3 f4 f5 f6 f7 f8 f9 f10 hr
  go_wp2_with fail
  go_ret
  exact ⟨rfl, H10.out.below (Nat.le_refl _) (fun _ => False.elim)⟩
end Go.Proofs.Ythkcomnmihmccaa
