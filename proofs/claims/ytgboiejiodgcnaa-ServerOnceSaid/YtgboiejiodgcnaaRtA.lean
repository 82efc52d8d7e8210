/- Who is ahead of whom: the closure of route; the lowest and the highest. -/
import Derived.Test.YtgboiejiodgcnaaRtM
import Derived.Test.YtgboiejiodgcnaaNums
import Derived.Test.YtgboiejiodgcnaaSkip
import Derived.Test.YtgboiejiodgcnaaBaseA
import Derived.Sort.Grow
import Derived.Deep.QuietTactic
import Derived.Deep.LoopGhost
import Derived.Shelf.SlSortCmp.QuietGrown
namespace Go.Proofs.Ytgboiejiodgcnaa
open Go.RowKit Go.Sort

theorem Rt.cell_new (w : World) (r : Array Value) (t : TypeId) (r2 : Nat × Nat) (j : Nat) (v : Value) (h : r[j]? = some v) (h2 : r2 = (0, 0)) : (w.alloc (.cells r t r2)).cell? ⟨w.heap.size, j, none⟩ = some v := by
  subst h2
  rw [cell_of_row _ _ _ _ _ _ (heap_alloc_new _ _)]; exact h

set_option maxHeartbeats 2000000 in
set_option maxRecDepth 100000 in
/-- Of two places, who is ahead. -/
theorem rtwho_any {X : Nat → Int} {B g o n c x y : Nat} (w : World) (hB : w.cell? ⟨B, 0, none⟩ = some (.slice (some ⟨g, o, none⟩) n c)) (hx : w.cell? ⟨g, o + x, none⟩ = some (.int .i64 (X x))) (hy : w.cell? ⟨g, o + y, none⟩ = some (.int .i64 (X y))) (hxn : x < n) (hyn : y < n) :
    Calls Try.prog 67 #[.int .i64 x, .int .i64 y, .pointer (some ⟨B, 0, none⟩)] w fun e w' => e = .returned (.int .i64 (Rt.cmp X x y)) ∧ ∃ q os, w' = grow (w.drewN q) os := by
  have hr : Rt.cmp X x y = if Hp.cmp (X x) (X y) ≠ 0 then Hp.cmp (X x) (X y) else Hp.cmp (x : Int) (y : Int) := rfl
  rw [hr]
  clear hr
  generalize X x = X1 at *
  generalize X y = X2 at *
  have hc1 := fun w => cmp_int X1 X2 w
  have hc2 := fun w => cmp_int (x : Int) (y : Int) w
  generalize Hp.cmp X1 X2 = u1 at hc1 ⊢
  generalize Hp.cmp (x : Int) (y : Int) = u2 at hc2 ⊢
  generalize hR : (if u1 ≠ 0 then u1 else u2) = r
  have HR := Lib.hid hR
  have hBl := block_lt_of_cell hB
  have hgl := block_lt_of_cell hx
  have hxn' : (x : Int) < (n : Int) := by omega
  have hyn' : (y : Int) < (n : Int) := by omega
  clear hR
  go_enter Try.func67, Try.ntmps67
  go_wp2_with fail
  refine wp_region_held_drew (S := fun w' => w'.cell? ⟨B, 0, none⟩ = some (.slice (some ⟨g, o, none⟩) n c) ∧ w'.cell? ⟨g, o + x, none⟩ = some (.int .i64 X1) ∧ w'.cell? ⟨g, o + y, none⟩ = some (.int .i64 X2)) (by kernel_rfl) ⟨hB, hx, hy⟩ (fun hHeld => ?_)
  clear hB hx hy
  generalize hwd : World.drew _ = wd at hHeld ⊢
  refine wpAnyH_yield 0 (.slice (some ⟨g, o, none⟩) n c) rfl (by kernel_rfl) (by kernel_rfl) (by kernel_rfl) (fun d _ _ _ h => by cases d <;> exact h) (by rfl) (by assumption) (fun _ hSw => by (try dsimp only at hSw); go_simp) ?_
  simp only [Act.put, List.setIfInBounds_toArray, List.set_cons_zero, List.set_cons_succ]
  refine wpAnyH_yield 1 (.int .i64 x) rfl (by kernel_rfl) (by kernel_rfl) (by kernel_rfl) (fun d _ _ _ h => by cases d <;> exact h) (by rfl) (by assumption) (fun _ _ => by go_simp) ?_
  simp only [Act.put, List.setIfInBounds_toArray, List.set_cons_zero, List.set_cons_succ]
  refine wpAnyH_yield 2 (.pointer (some ⟨g, o + x, none⟩)) rfl (by kernel_rfl) (by kernel_rfl) (by kernel_rfl) (fun d _ _ _ h => by cases d <;> exact h) (by rfl) (by assumption) (fun _ _ => by go_simp) ?_
  simp only [Act.put, List.setIfInBounds_toArray, List.set_cons_zero, List.set_cons_succ]
  refine wpAnyH_yield 3 (.int .i64 X1) rfl (by kernel_rfl) (by kernel_rfl) (by kernel_rfl) (fun d _ _ _ h => by cases d <;> exact h) (by rfl) (by assumption) (fun _ hSw => by (try dsimp only at hSw); go_simp) ?_
  simp only [Act.put, List.setIfInBounds_toArray, List.set_cons_zero, List.set_cons_succ]
  refine wpAnyH_yield 4 (.slice (some ⟨g, o, none⟩) n c) rfl (by kernel_rfl) (by kernel_rfl) (by kernel_rfl) (fun d _ _ _ h => by cases d <;> exact h) (by rfl) (by assumption) (fun _ hSw => by (try dsimp only at hSw); go_simp) ?_
  simp only [Act.put, List.setIfInBounds_toArray, List.set_cons_zero, List.set_cons_succ]
  refine wpAnyH_yield 5 (.int .i64 y) rfl (by kernel_rfl) (by kernel_rfl) (by kernel_rfl) (fun d _ _ _ h => by cases d <;> exact h) (by rfl) (by assumption) (fun _ _ => by go_simp) ?_
  simp only [Act.put, List.setIfInBounds_toArray, List.set_cons_zero, List.set_cons_succ]
  refine wpAnyH_yield 6 (.pointer (some ⟨g, o + y, none⟩)) rfl (by kernel_rfl) (by kernel_rfl) (by kernel_rfl) (fun d _ _ _ h => by cases d <;> exact h) (by rfl) (by assumption) (fun _ _ => by go_simp) ?_
  simp only [Act.put, List.setIfInBounds_toArray, List.set_cons_zero, List.set_cons_succ]
  refine wpAnyH_yield 7 (.int .i64 X2) rfl (by kernel_rfl) (by kernel_rfl) (by kernel_rfl) (fun d _ _ _ h => by cases d <;> exact h) (by rfl) (by assumption) (fun _ hSw => by (try dsimp only at hSw); go_simp) ?_
  simp only [Act.put, List.setIfInBounds_toArray, List.set_cons_zero, List.set_cons_succ]
  refine wpAnyH_yield 9 (.int .i64 x) rfl (by kernel_rfl) (by kernel_rfl) (by kernel_rfl) (fun d _ _ _ h => by cases d <;> exact h) (by rfl) (by assumption) (fun _ _ => by go_simp) ?_
  simp only [Act.put, List.setIfInBounds_toArray, List.set_cons_zero, List.set_cons_succ]
  refine wpAnyH_yield 10 (.int .i64 y) rfl (by kernel_rfl) (by kernel_rfl) (by kernel_rfl) (fun d _ _ _ h => by cases d <;> exact h) (by rfl) (by assumption) (fun _ _ => by go_simp) ?_
  simp only [Act.put, List.setIfInBounds_toArray, List.set_cons_zero, List.set_cons_succ]
  refine wpAnyH_ready (rs := [8]) (by kernel_rfl) (by simp) (AllReadyH.cons rfl (fun K hK => ?_) AllReadyH.nil)
  go_simp
  go_at_call 69
  refine (hc1 _).mono ?_
  rintro e w3 ⟨rfl, rfl⟩
  refine hK.out _ _ (hHeld) (fun hHeld => ?_)
  clear hK K
  try simp only [Act.put, List.setIfInBounds_toArray, List.set_cons_zero, List.set_cons_succ]
  refine wpAnyH_ready (rs := [11]) (by kernel_rfl) (by simp) (AllReadyH.cons rfl (fun K hK => ?_) AllReadyH.nil)
  go_simp
  go_at_call 69
  refine (hc2 _).mono ?_
  rintro e w3 ⟨rfl, rfl⟩
  refine hK.out _ _ (hHeld) (fun hHeld => ?_)
  clear hK K
  try simp only [Act.put, List.setIfInBounds_toArray, List.set_cons_zero, List.set_cons_succ]
  refine wpAnyH_ready (rs := [12]) (by kernel_rfl) (by simp) (AllReadyH.cons rfl (fun K hK => ?_) AllReadyH.nil)
  go_simp
  have hsz : wd.heap.size = w.heap.size := by rw [← hwd]; rfl
  have hB : Below wd.heap.size wd (wd.alloc (.cells #[.int .i64 u1, .int .i64 u2] 3)) := (Below.refl _ _).alloc (Nat.le_refl _) _
  have e0 : (wd.alloc (.cells #[.int .i64 u1, .int .i64 u2] 3)).cell? ⟨wd.heap.size, 0, none⟩ = some (.int .i64 u1) := Rt.cell_new wd _ _ _ 0 _ rfl rfl
  have e1 : (wd.alloc (.cells #[.int .i64 u1, .int .i64 u2] 3)).cell? ⟨wd.heap.size, 1, none⟩ = some (.int .i64 u2) := Rt.cell_new wd _ _ _ 1 _ rfl rfl
  refine hK.out _ _ ((by obtain ⟨k0, k1, k2⟩ := hHeld; refine ⟨?_, ?_, ?_⟩ <;> rw [hB.cell (by simp [hsz]; omega)] <;> assumption)) (fun hHeld => ?_)
  clear hK K
  try simp only [Act.put, List.setIfInBounds_toArray, List.set_cons_zero, List.set_cons_succ]
  generalize hw5 : wd.alloc _ = w5 at hHeld e0 e1 ⊢
  have hor := or_two u1 u2 _ _ e0 e1
  rw [HR.out] at hor
  have HW := Lib.hid hw5
  have HD := Lib.hid hwd
  clear e0 e1 hB hsz hc1 hc2 hw5 hwd
  refine wpAnyH_ready (rs := [13]) (by kernel_rfl) (by simp) (AllReadyH.cons rfl (fun K hK => ?_) AllReadyH.nil)
  go_simp
  go_at_call 68
  refine hor.mono ?_
  rintro e w3 ⟨rfl, rfl⟩
  refine hK.out _ _ (hHeld) (fun hHeld => ?_)
  clear hK K
  try simp only [Act.put, List.setIfInBounds_toArray, List.set_cons_zero, List.set_cons_succ]
  refine wpAnyH_yield 14 (.int .i64 r) rfl (by kernel_rfl) (by kernel_rfl) (by kernel_rfl) (fun d _ _ _ h => by cases d <;> exact h) (by rfl) (by assumption) (fun _ _ => by go_simp) ?_
  simp only [Act.put, List.setIfInBounds_toArray, List.set_cons_zero, List.set_cons_succ]
  refine wpAnyH_done (by kernel_rfl) ?_ _
  go_wp2
  go_ret
  refine ⟨rfl, 1, ?_⟩
  rw [← HW.out, ← HD.out]
  exact ⟨_, alloc_eq_grow _ _⟩

/-- The closure is made. -/
theorem rtahead_any (a : Option Addr) (n c : Nat) (w : World) :
    Calls Try.prog 55 #[.slice a n c] w fun e w' => e = .returned (.func (.func 67) #[] #[.pointer (some ⟨w.heap.size, 0, none⟩)]) ∧ w' = w.alloc (.cells #[.slice a n c] 42) := by
  go_enter Try.func55, Try.ntmps55
  go_wp2_with fail
  go_ret
  exact ⟨rfl, rfl⟩


end Go.Proofs.Ytgboiejiodgcnaa
