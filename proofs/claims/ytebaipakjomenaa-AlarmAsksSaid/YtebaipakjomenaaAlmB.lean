/- The contracts of alarm's calls, with any numbers: the frame that asks for an alarm, the alarm of a frame, the one that is to come soon. -/
import Derived.Test.YtebaipakjomenaaAlmA
namespace Go.Proofs.Ytebaipakjomenaa
open Go.RowKit

/-- A frame that tells a time that may be told. -/
theorem at_in (k c s t g a r q v n : Int) (su st : Bool) (h0 : 0 ≤ n) (h1 : n < 1099511627776) (w : World) :
    Calls Try.prog 14 #[.agg #[.int .i64 k, .int .i64 c, .int .i64 s, .int .i64 t, .int .i64 g, .int .u32 a, .int .i64 r, .bool su, .bool st, .int .i64 q, .int .u32 v], .int .i64 n] w fun e w' => e = .returned (.agg #[.int .i64 k, .int .i64 c, .int .i64 s, .int .i64 t, .int .i64 g, .int .u32 a, .int .i64 r, .bool su, .bool st, .int .i64 (n / 4294967296), .int .u32 (n % 4294967296)]) ∧ Below w.heap.size w w' := by
  refine (at_any k c s t g a r q v n su st w).mono ?_
  rintro e w1 ⟨rfl, hb⟩
  have hm : max 0 (min n 1099511627775) = n := by omega
  rw [hm]
  exact ⟨rfl, hb⟩

set_option maxHeartbeats 1000000 in
/-- Ask: an alarm that may be. -/
theorem ask_yes (a c s g x : Int) (h : Al.May a c s g x) (w : World) :
    Calls Try.prog 5 #[.agg #[.int .i64 a, .int .i64 c, .int .i64 s, .int .i64 g, .int .i64 x]] w fun e w' => e = .returned (.tuple #[.agg #[.int .i64 9, .int .i64 c, .int .i64 0, .int .i64 s, .int .i64 g, .int .u32 0, .int .i64 x, .bool false, .bool false, .int .i64 (a / 4294967296), .int .u32 (a % 4294967296)], .bool true]) ∧ Below w.heap.size w w' := by
  have h0 := h.1.1
  have h1 := h.1.2
  go_enter Try.func5, Try.ntmps5
  go_wp2_with fail
  refine (amay_yes a c s g x h _).mono ?_
  rintro e w1 ⟨rfl, hb⟩
  have HR := Lib.hid (keep (heap_alloc2_new w _ _) hb)
  have HA := Lib.hid (keep (heap_alloc2_old w _ _) hb)
  have HB := Lib.hid (on (below_two w _ _) hb)
  clear hb
  go_wp2_with fail
  refine wp_region_held_drew (S := fun w' => w'.cell? ⟨w.heap.size, 0, none⟩ = some (.int .i64 a) ∧ w'.cell? ⟨w.heap.size, 1, none⟩ = some (.int .i64 c) ∧ w'.cell? ⟨w.heap.size, 2, none⟩ = some (.int .i64 s) ∧ w'.cell? ⟨w.heap.size, 3, none⟩ = some (.int .i64 g) ∧ w'.cell? ⟨w.heap.size, 4, none⟩ = some (.int .i64 x)) (by kernel_rfl) (alarm_cells HA.out) (fun hHeld => ?_)
  have HR := Lib.hid (show w1.drew.heap[w.heap.size + 1]? = _ from HR.out)
  have HA := Lib.hid (show w1.drew.heap[w.heap.size]? = _ from HA.out)
  have HB := Lib.hid HB.out.drew
  generalize w1.drew = wd at HR HA HB hHeld ⊢
  refine wpAnyH_yield 0 (.agg #[.int .i64 a, .int .i64 c, .int .i64 s, .int .i64 g, .int .i64 x]) rfl (by kernel_rfl) (by kernel_rfl) (by kernel_rfl) (fun d _ _ _ h => by cases d <;> exact h) (by rfl) (by assumption) (fun _ hSw => by (try dsimp only at hSw); go_simp) ?_
  simp only [Act.put, List.setIfInBounds_toArray, List.set_cons_zero, List.set_cons_succ]
  refine wpAnyH_yield 2 (.pointer (some ⟨w.heap.size, 0, none⟩)) rfl (by kernel_rfl) (by kernel_rfl) (by kernel_rfl) (fun d _ _ _ h => by cases d <;> exact h) (by rfl) (by assumption) (fun _ _ => by go_simp) ?_
  simp only [Act.put, List.setIfInBounds_toArray, List.set_cons_zero, List.set_cons_succ]
  refine wpAnyH_yield 3 (.int .i64 a) rfl (by kernel_rfl) (by kernel_rfl) (by kernel_rfl) (fun d _ _ _ h => by cases d <;> exact h) (by rfl) (by assumption) (fun _ hSw => by (try dsimp only at hSw); go_simp) ?_
  simp only [Act.put, List.setIfInBounds_toArray, List.set_cons_zero, List.set_cons_succ]
  refine wpAnyH_ready (rs := [1]) (by kernel_rfl) (by simp) (AllReadyH.cons rfl (fun K hK => ?_) AllReadyH.nil)
  go_simp
  go_at_call 15
  refine (about_any 9 a c s g x wd).mono ?_
  rintro e w2 ⟨rfl, hb⟩
  have HR := Lib.hid (keep HR.out hb)
  have HA := Lib.hid (keep HA.out hb)
  have HB := Lib.hid (on HB.out hb)
  clear hb
  refine hK.out _ _ ((alarm_cells HA.out)) (fun hHeld => ?_)
  clear hK K
  try simp only [Act.put, List.setIfInBounds_toArray, List.set_cons_zero, List.set_cons_succ]
  refine wpAnyH_ready (rs := [4]) (by kernel_rfl) (by simp) (AllReadyH.cons rfl (fun K hK => ?_) AllReadyH.nil)
  go_simp
  go_at_call 14
  refine (at_in _ _ _ _ _ _ _ _ _ a _ _ h0 h1 w2).mono ?_
  rintro e w3 ⟨rfl, hb⟩
  have hr := keep HR.out hb
  have HR := Lib.hid hr
  have HA := Lib.hid (keep HA.out hb)
  have HB := Lib.hid (on HB.out hb)
  clear hb
  refine hK.out _ _ ((alarm_cells HA.out)) (fun hHeld => ?_)
  clear hK K
  try simp only [Act.put, List.setIfInBounds_toArray, List.set_cons_zero, List.set_cons_succ]
  obtain ⟨c0, c1, c2, c3, c4, c5, c6, c7, c8, c9, c10⟩ := frame_cells hr
  obtain ⟨f0, f1, f2, f3, f4, f5, f6, f7, f8, f9, f10⟩ := frame_free hr
  clear hr hHeld
  refine wpAnyH_ready (rs := [5]) (by kernel_rfl) (by simp) (AllReadyH.cons rfl (fun K hK => ?_) AllReadyH.nil)
  go_simp
  refine hK.out _ _ ((alarm_cells ((frame_other (by omega)).trans HA.out))) (fun hHeld => ?_)
  clear hK K
  try simp only [Act.put, List.setIfInBounds_toArray, List.set_cons_zero, List.set_cons_succ]
  clear c0 c1 c2 c3 c4 c5 c6 c7 c8 c9 c10 f0 f1 f2 f3 f4 f5 f6 f7 f8 f9 f10
  refine wpAnyH_yield 6 (.bool true) rfl (by kernel_rfl) (by kernel_rfl) (by kernel_rfl) (fun d _ _ _ h => by cases d <;> exact h) (by rfl) (by assumption) (fun _ _ => by go_simp) ?_
  simp only [Act.put, List.setIfInBounds_toArray, List.set_cons_zero, List.set_cons_succ]
  refine wpAnyH_done (by kernel_rfl) ?_ _
  go_wp2
  exact bodyPost_ret (results_row_tmp Try.results5 _ _ (w.heap.size + 1) 27 _ (0, 0) _ rfl (frame_laid rfl HR.out) Try.underlying27 rfl Try.sizeFrame) rfl ⟨rfl, frame_below HB.out (by simp)⟩

set_option maxHeartbeats 1000000 in
/-- .. one that may not be. -/
theorem ask_no (a c s g x : Int) (h : ¬ Al.May a c s g x) (w : World) :
    Calls Try.prog 5 #[.agg #[.int .i64 a, .int .i64 c, .int .i64 s, .int .i64 g, .int .i64 x]] w fun e w' => e = .returned (.tuple #[.agg #[.int .i64 0, .int .i64 0, .int .i64 0, .int .i64 0, .int .i64 0, .int .u32 0, .int .i64 0, .bool false, .bool false, .int .i64 0, .int .u32 0], .bool false]) ∧ Below w.heap.size w w' := by
  go_enter Try.func5, Try.ntmps5
  go_wp2_with fail
  refine (amay_no a c s g x h _).mono ?_
  rintro e w1 ⟨rfl, hb⟩
  have hr := keep (heap_alloc2_new w _ _) hb
  have HR := Lib.hid hr
  have HB := Lib.hid (on (below_two w _ _) hb)
  obtain ⟨c0, c1, c2, c3, c4, c5, c6, c7, c8, c9, c10⟩ := frame_cells hr
  obtain ⟨f0, f1, f2, f3, f4, f5, f6, f7, f8, f9, f10⟩ := frame_free hr
  clear hb hr
  go_wp2_with fail
  exact bodyPost_ret (results_row_tmp Try.results5 _ _ (w.heap.size + 1) 27 _ (0, 0) _ rfl (frame_laid rfl HR.out) Try.underlying27 rfl Try.sizeFrame) rfl ⟨rfl, frame_below HB.out (by simp)⟩

set_option maxHeartbeats 1000000 in
/-- Soon. -/
theorem soon_any (n o z k c s t g a r q v x : Int) (su st : Bool) (w : World) :
    Calls Try.prog 11 #[.int .i64 n, .int .i64 o, .int .i64 z, .agg #[.int .i64 k, .int .i64 c, .int .i64 s, .int .i64 t, .int .i64 g, .int .u32 a, .int .i64 r, .bool su, .bool st, .int .i64 q, .int .u32 v], .int .i64 x] w fun e w' => e = .returned (.agg #[.int .i64 (min (Tk.after n o) (Tk.clamp z)), .int .i64 c, .int .i64 t, .int .i64 g, .int .i64 x]) ∧ Below w.heap.size w w' := by
  have hlt : (if Tk.after n o < Tk.clamp z then Tk.after n o else Tk.clamp z) = min (Tk.after n o) (Tk.clamp z) := by split <;> omega
  have hlt2 : (if Tk.clamp z < Tk.after n o then Tk.clamp z else Tk.after n o) = min (Tk.after n o) (Tk.clamp z) := by split <;> omega
  go_enter Try.func11, Try.ntmps11
  go_wp2_with fail
  have hA := heap_alloc2_old w (.cells #[.int .i64 k, .int .i64 c, .int .i64 s, .int .i64 t, .int .i64 g, .int .u32 a, .int .i64 r, .bool su, .bool st, .int .i64 q, .int .u32 v] 27) (.cells #[.int .i64 0, .int .i64 0, .int .i64 0, .int .i64 0, .int .i64 0] 24)
  have hR := heap_alloc2_new w (.cells #[.int .i64 k, .int .i64 c, .int .i64 s, .int .i64 t, .int .i64 g, .int .u32 a, .int .i64 r, .bool su, .bool st, .int .i64 q, .int .u32 v] 27) (.cells #[.int .i64 0, .int .i64 0, .int .i64 0, .int .i64 0, .int .i64 0] 24)
  have HA := Lib.hid hA
  have HR := Lib.hid hR
  have HB := Lib.hid (below_two w (.cells #[.int .i64 k, .int .i64 c, .int .i64 s, .int .i64 t, .int .i64 g, .int .u32 a, .int .i64 r, .bool su, .bool st, .int .i64 q, .int .u32 v] 27) (.cells #[.int .i64 0, .int .i64 0, .int .i64 0, .int .i64 0, .int .i64 0] 24))
  clear hA hR
  generalize (w.alloc _).alloc _ = w1 at HA HR HB ⊢
  refine wp_region_held_drew (S := fun w' => w'.cell? ⟨w.heap.size, 0, none⟩ = some (.int .i64 k) ∧ w'.cell? ⟨w.heap.size, 1, none⟩ = some (.int .i64 c) ∧ w'.cell? ⟨w.heap.size, 2, none⟩ = some (.int .i64 s) ∧ w'.cell? ⟨w.heap.size, 3, none⟩ = some (.int .i64 t) ∧ w'.cell? ⟨w.heap.size, 4, none⟩ = some (.int .i64 g) ∧ w'.cell? ⟨w.heap.size, 5, none⟩ = some (.int .u32 a) ∧ w'.cell? ⟨w.heap.size, 6, none⟩ = some (.int .i64 r) ∧ w'.cell? ⟨w.heap.size, 7, none⟩ = some (.bool su) ∧ w'.cell? ⟨w.heap.size, 8, none⟩ = some (.bool st) ∧ w'.cell? ⟨w.heap.size, 9, none⟩ = some (.int .i64 q) ∧ w'.cell? ⟨w.heap.size, 10, none⟩ = some (.int .u32 v)) (by kernel_rfl) (frame_cells HA.out) (fun hHeld => ?_)
  have HR := Lib.hid (show w1.drew.heap[w.heap.size + 1]? = _ from HR.out)
  have HA := Lib.hid (show w1.drew.heap[w.heap.size]? = _ from HA.out)
  have HB := Lib.hid HB.out.drew
  generalize w1.drew = wd at HR HA HB hHeld ⊢
  refine wpAnyH_yield 0 (.agg #[.int .i64 k, .int .i64 c, .int .i64 s, .int .i64 t, .int .i64 g, .int .u32 a, .int .i64 r, .bool su, .bool st, .int .i64 q, .int .u32 v]) rfl (by kernel_rfl) (by kernel_rfl) (by kernel_rfl) (fun d _ _ _ h => by cases d <;> exact h) (by rfl) (by assumption) (fun _ hSw => by (try dsimp only at hSw); go_simp) ?_
  simp only [Act.put, List.setIfInBounds_toArray, List.set_cons_zero, List.set_cons_succ]
  refine wpAnyH_yield 1 (.int .i64 n) rfl (by kernel_rfl) (by kernel_rfl) (by kernel_rfl) (fun d _ _ _ h => by cases d <;> exact h) (by rfl) (by assumption) (fun _ _ => by go_simp) ?_
  simp only [Act.put, List.setIfInBounds_toArray, List.set_cons_zero, List.set_cons_succ]
  refine wpAnyH_yield 2 (.int .i64 o) rfl (by kernel_rfl) (by kernel_rfl) (by kernel_rfl) (fun d _ _ _ h => by cases d <;> exact h) (by rfl) (by assumption) (fun _ _ => by go_simp) ?_
  simp only [Act.put, List.setIfInBounds_toArray, List.set_cons_zero, List.set_cons_succ]
  refine wpAnyH_yield 4 (.int .i64 z) rfl (by kernel_rfl) (by kernel_rfl) (by kernel_rfl) (fun d _ _ _ h => by cases d <;> exact h) (by rfl) (by assumption) (fun _ _ => by go_simp) ?_
  simp only [Act.put, List.setIfInBounds_toArray, List.set_cons_zero, List.set_cons_succ]
  refine wpAnyH_yield 7 (.int .i64 x) rfl (by kernel_rfl) (by kernel_rfl) (by kernel_rfl) (fun d _ _ _ h => by cases d <;> exact h) (by rfl) (by assumption) (fun _ _ => by go_simp) ?_
  simp only [Act.put, List.setIfInBounds_toArray, List.set_cons_zero, List.set_cons_succ]
  refine wpAnyH_ready (rs := [3]) (by kernel_rfl) (by simp) (AllReadyH.cons rfl (fun K hK => ?_) AllReadyH.nil)
  go_simp
  go_at_call 19
  refine (after_any n o wd).mono ?_
  rintro e w2 ⟨rfl, rfl⟩
  refine hK.out _ _ (hHeld) (fun hHeld => ?_)
  clear hK K
  try simp only [Act.put, List.setIfInBounds_toArray, List.set_cons_zero, List.set_cons_succ]
  refine wpAnyH_ready (rs := [5]) (by kernel_rfl) (by simp) (AllReadyH.cons rfl (fun K hK => ?_) AllReadyH.nil)
  go_simp
  go_at_call 20
  refine (clamp_any z wd).mono ?_
  rintro e w2 ⟨rfl, rfl⟩
  refine hK.out _ _ (hHeld) (fun hHeld => ?_)
  clear hK K
  try simp only [Act.put, List.setIfInBounds_toArray, List.set_cons_zero, List.set_cons_succ]
  refine wpAnyH_yield 6 (.int .i64 (min (Tk.after n o) (Tk.clamp z))) rfl (by kernel_rfl) (by kernel_rfl) (by kernel_rfl) (fun d _ _ _ h => by cases d <;> exact h) (by rfl) (by assumption) (fun _ _ => by go_simp) ?_
  simp only [Act.put, List.setIfInBounds_toArray, List.set_cons_zero, List.set_cons_succ]
  refine wpAnyH_ready (rs := [8]) (by kernel_rfl) (by simp) (AllReadyH.cons rfl (fun K hK => ?_) AllReadyH.nil)
  go_simp
  go_at_call 16
  refine (aturn_any k c s t g a r q v _ x su st wd).mono ?_
  rintro e w3 ⟨rfl, hb⟩
  have hr := keep HR.out hb
  have HR := Lib.hid hr
  have HA := Lib.hid (keep HA.out hb)
  have HB := Lib.hid (on HB.out hb)
  clear hb
  refine hK.out _ _ ((frame_cells HA.out)) (fun hHeld => ?_)
  clear hK K
  try simp only [Act.put, List.setIfInBounds_toArray, List.set_cons_zero, List.set_cons_succ]
  obtain ⟨c0, c1, c2, c3, c4⟩ := alarm_cells hr
  obtain ⟨f0, f1, f2, f3, f4⟩ := alarm_free hr
  clear hr hHeld
  refine wpAnyH_ready (rs := [9]) (by kernel_rfl) (by simp) (AllReadyH.cons rfl (fun K hK => ?_) AllReadyH.nil)
  go_simp
  refine hK.out _ _ ((frame_cells ((alarm_other (by omega)).trans HA.out))) (fun hHeld => ?_)
  clear hK K
  try simp only [Act.put, List.setIfInBounds_toArray, List.set_cons_zero, List.set_cons_succ]
  clear c0 c1 c2 c3 c4 f0 f1 f2 f3 f4
  refine wpAnyH_done (by kernel_rfl) ?_ _
  go_wp2
  exact bodyPost_ret (results_cell_row Try.results11 _ _ (w.heap.size + 1) 24 _ (0, 0) _ rfl (alarm_laid HR.out) Try.underlying24 rfl Try.sizeAlarm14) rfl ⟨rfl, alarm_below HB.out (by simp)⟩

end Go.Proofs.Ytebaipakjomenaa
