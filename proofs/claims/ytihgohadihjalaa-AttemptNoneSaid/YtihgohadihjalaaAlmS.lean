/- The contracts of alarm's turn and Soon, with any numbers: the alarm of the turn of a slot that a frame is of, the one that is to come soon. -/
import Derived.Test.YtihgohadihjalaaKeep
import Derived.Test.YtihgohadihjalaaTkA
import Derived.Test.YtihgohadihjalaaSkip
namespace Go.Proofs.Ytihgohadihjalaa
open Go.RowKit

theorem Try.sizeAlarm14 : (Try.prog.info? 53).map (·.size) = some 5 := by kernel_rfl

/-- The alarm of the turn that a frame is of. -/
theorem aturn_any (k c s t g a r q v n x : Int) (su st : Bool) (w : World) :
    Calls Try.prog 31 #[.agg #[.int .i64 k, .int .i64 c, .int .i64 s, .int .i64 t, .int .i64 g, .int .u32 a, .int .i64 r, .bool su, .bool st, .int .i64 q, .int .u32 v], .int .i64 n, .int .i64 x] w fun e w' => e = .returned (.agg #[.int .i64 n, .int .i64 c, .int .i64 t, .int .i64 g, .int .i64 x]) ∧ Below w.heap.size w w' := by
  go_enter Try.func31, Try.ntmps31
  go_wp2
  refine bodyPost_ret (results_cell_row Try.results31 _ _ (w.heap.size + 1) 53 _ (0, 0) _ rfl (heap_alloc2_new _ _ _) Try.underlying53 rfl Try.sizeAlarm14) rfl ⟨rfl, below_two _ _ _⟩

set_option maxHeartbeats 1000000 in
/-- Soon. -/
theorem soon_any (n o z k c s t g a r q v x : Int) (su st : Bool) (w : World) :
    Calls Try.prog 20 #[.int .i64 n, .int .i64 o, .int .i64 z, .agg #[.int .i64 k, .int .i64 c, .int .i64 s, .int .i64 t, .int .i64 g, .int .u32 a, .int .i64 r, .bool su, .bool st, .int .i64 q, .int .u32 v], .int .i64 x] w fun e w' => e = .returned (.agg #[.int .i64 (min (Tk.after n o) (Tk.clamp z)), .int .i64 c, .int .i64 t, .int .i64 g, .int .i64 x]) ∧ Below w.heap.size w w' := by
  have hlt : (if Tk.after n o < Tk.clamp z then Tk.after n o else Tk.clamp z) = min (Tk.after n o) (Tk.clamp z) := by split <;> omega
  have hlt2 : (if Tk.clamp z < Tk.after n o then Tk.clamp z else Tk.after n o) = min (Tk.after n o) (Tk.clamp z) := by split <;> omega
  go_enter Try.func20, Try.ntmps20
  go_wp2_with fail
  have hA := heap_alloc2_old w (.cells #[.int .i64 k, .int .i64 c, .int .i64 s, .int .i64 t, .int .i64 g, .int .u32 a, .int .i64 r, .bool su, .bool st, .int .i64 q, .int .u32 v] 24) (.cells #[.int .i64 0, .int .i64 0, .int .i64 0, .int .i64 0, .int .i64 0] 53)
  have hR := heap_alloc2_new w (.cells #[.int .i64 k, .int .i64 c, .int .i64 s, .int .i64 t, .int .i64 g, .int .u32 a, .int .i64 r, .bool su, .bool st, .int .i64 q, .int .u32 v] 24) (.cells #[.int .i64 0, .int .i64 0, .int .i64 0, .int .i64 0, .int .i64 0] 53)
  have HA := Lib.hid hA
  have HR := Lib.hid hR
  have HB := Lib.hid (below_two w (.cells #[.int .i64 k, .int .i64 c, .int .i64 s, .int .i64 t, .int .i64 g, .int .u32 a, .int .i64 r, .bool su, .bool st, .int .i64 q, .int .u32 v] 24) (.cells #[.int .i64 0, .int .i64 0, .int .i64 0, .int .i64 0, .int .i64 0] 53))
  clear hA hR
  generalize (w.alloc _).alloc _ = w1 at HA HR HB ⊢
  refine wp_region_held_drew (S := fun w' => w'.cell? ⟨w.heap.size, 0, none⟩ = some (.int .i64 k) ∧ w'.cell? ⟨w.heap.size, 1, none⟩ = some (.int .i64 c) ∧ w'.cell? ⟨w.heap.size, 2, none⟩ = some (.int .i64 s) ∧ w'.cell? ⟨w.heap.size, 3, none⟩ = some (.int .i64 t) ∧ w'.cell? ⟨w.heap.size, 4, none⟩ = some (.int .i64 g) ∧ w'.cell? ⟨w.heap.size, 5, none⟩ = some (.int .u32 a) ∧ w'.cell? ⟨w.heap.size, 6, none⟩ = some (.int .i64 r) ∧ w'.cell? ⟨w.heap.size, 7, none⟩ = some (.bool su) ∧ w'.cell? ⟨w.heap.size, 8, none⟩ = some (.bool st) ∧ w'.cell? ⟨w.heap.size, 9, none⟩ = some (.int .i64 q) ∧ w'.cell? ⟨w.heap.size, 10, none⟩ = some (.int .u32 v)) (by kernel_rfl) (frame_cells HA.out) (fun hHeld => ?_)
  have HR := Lib.hid (show w1.drew.heap[w.heap.size + 1]? = _ from HR.out)
  have HA := Lib.hid (show w1.drew.heap[w.heap.size]? = _ from HA.out)
  have HB := Lib.hid HB.out.drew
  generalize w1.drew = wd at HR HA HB hHeld ⊢
  refine wpAnyH_yield 0 (.agg #[.int .i64 k, .int .i64 c, .int .i64 s, .int .i64 t, .int .i64 g, .int .u32 a, .int .i64 r, .bool su, .bool st, .int .i64 q, .int .u32 v]) rfl (by kernel_rfl) (by kernel_rfl) (by kernel_rfl) (fun d _ _ _ h => by cases d <;> exact h) (by rfl) (by assumption) (fun _ hSw => by (try dsimp only at hSw); go_simp) ?_
  simp only [Act.put, List.setIfInBounds_toArray, List.set_cons_zero, List.set_cons_succ]
  refine wpAnyH_yield 1 (.int .i64 n) rfl (by kernel_rfl) (by kernel_rfl) (by kernel_rfl) (fun d _ _ _ h => by cases d <;> exact h) (by rfl) (by assumption) (fun _ _ => by go_simp) ?_
  simp only [Act.put, List.setIfInBounds_toArray, List.set_cons_zero, List.set_cons_succ]
  refine wpAnyH_yield 2 (.int .i64 o) rfl (by kernel_rfl) (by kernel_rfl) (by kernel_rfl) (fun d _ _ _ h => by cases d <;> exact h) (by rfl) (by assumption) (fun _ _ => by go_simp) ?_
  simp only [Act.put, List.setIfInBounds_toArray, List.set_cons_zero, List.set_cons_succ]
  refine wpAnyH_yield 4 (.int .i64 z) rfl (by kernel_rfl) (by kernel_rfl) (by kernel_rfl) (fun d _ _ _ h => by cases d <;> exact h) (by rfl) (by assumption) (fun _ _ => by go_simp) ?_
  simp only [Act.put, List.setIfInBounds_toArray, List.set_cons_zero, List.set_cons_succ]
  refine wpAnyH_yield 7 (.int .i64 x) rfl (by kernel_rfl) (by kernel_rfl) (by kernel_rfl) (fun d _ _ _ h => by cases d <;> exact h) (by rfl) (by assumption) (fun _ _ => by go_simp) ?_
  simp only [Act.put, List.setIfInBounds_toArray, List.set_cons_zero, List.set_cons_succ]
  refine wpAnyH_ready (rs := [3]) (by kernel_rfl) (by simp) (AllReadyH.cons rfl (fun K hK => ?_) AllReadyH.nil)
  go_simp
  go_at_call 32
  refine (after_any n o wd).mono ?_
  rintro e w2 ⟨rfl, rfl⟩
  refine hK.out _ _ (hHeld) (fun hHeld => ?_)
  clear hK K
  try simp only [Act.put, List.setIfInBounds_toArray, List.set_cons_zero, List.set_cons_succ]
  refine wpAnyH_ready (rs := [5]) (by kernel_rfl) (by simp) (AllReadyH.cons rfl (fun K hK => ?_) AllReadyH.nil)
  go_simp
  go_at_call 33
  refine (clamp_any z wd).mono ?_
  rintro e w2 ⟨rfl, rfl⟩
  refine hK.out _ _ (hHeld) (fun hHeld => ?_)
  clear hK K
  try simp only [Act.put, List.setIfInBounds_toArray, List.set_cons_zero, List.set_cons_succ]
  refine wpAnyH_yield 6 (.int .i64 (min (Tk.after n o) (Tk.clamp z))) rfl (by kernel_rfl) (by kernel_rfl) (by kernel_rfl) (fun d _ _ _ h => by cases d <;> exact h) (by rfl) (by assumption) (fun _ _ => by go_simp) ?_
  simp only [Act.put, List.setIfInBounds_toArray, List.set_cons_zero, List.set_cons_succ]
  refine wpAnyH_ready (rs := [8]) (by kernel_rfl) (by simp) (AllReadyH.cons rfl (fun K hK => ?_) AllReadyH.nil)
  go_simp
  go_at_call 31
  refine (aturn_any k c s t g a r q v _ x su st wd).mono ?_
  rintro e w3 ⟨rfl, hb⟩
  have hr := keep HR.out hb
  have HR := Lib.hid hr
  have HA := Lib.hid (keep HA.out hb)
  have HB := Lib.hid (on HB.out hb)
  clear hb
  refine hK.out _ _ ((frame_cells HA.out)) (fun hHeld => ?_)
  clear hK K
  try simp only [Act.put, List.setIfInBounds_toArray, List.set_cons_zero, List.set_cons_succ]
  obtain ⟨c0, c1, c2, c3, c4⟩ := alarm_cells hr
  obtain ⟨f0, f1, f2, f3, f4⟩ := alarm_free hr
  clear hr hHeld
  refine wpAnyH_ready (rs := [9]) (by kernel_rfl) (by simp) (AllReadyH.cons rfl (fun K hK => ?_) AllReadyH.nil)
  go_simp
  refine hK.out _ _ ((frame_cells ((alarm_other (by omega)).trans HA.out))) (fun hHeld => ?_)
  clear hK K
  try simp only [Act.put, List.setIfInBounds_toArray, List.set_cons_zero, List.set_cons_succ]
  clear c0 c1 c2 c3 c4 f0 f1 f2 f3 f4
  refine wpAnyH_done (by kernel_rfl) ?_ _
  go_wp2
  exact bodyPost_ret (results_cell_row Try.results20 _ _ (w.heap.size + 1) 53 _ (0, 0) _ rfl (alarm_laid HR.out) Try.underlying53 rfl Try.sizeAlarm14) rfl ⟨rfl, alarm_below HB.out (by simp)⟩
end Go.Proofs.Ytihgohadihjalaa
