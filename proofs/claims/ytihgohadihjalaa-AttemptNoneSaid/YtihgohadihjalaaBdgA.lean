/- The contracts of all of budget's calls, nil and not: what retries may take, and how long they wait. -/
import Derived.Test.YtihgohadihjalaaHeldB
import Derived.Test.YtihgohadihjalaaTkA
import Derived.Test.YtihgohadihjalaaSkip
import Derived.RegionTactic
import Derived.BigRegion
import Derived.BigQuiet
namespace Go.Proofs.Ytihgohadihjalaa
open Go.RowKit

namespace Bd
/-- The nearest number from 0 to m. -/
def near (n m : Int) : Int := if n < 0 then 0 else if m < n then m else n
theorem near_ways (n m : Int) (hm : 0 ≤ m) : (n < 0 ∧ n ≤ m ∧ near n m = 0) ∨ (0 ≤ n ∧ m < n ∧ near n m = m) ∨ (0 ≤ n ∧ n ≤ m ∧ near n m = n) := by
  unfold near; split <;> (try split) <;> omega
theorem near_lo (n m : Int) (hm : 0 ≤ m) : 0 ≤ near n m := by rcases near_ways n m hm with h | h | h <;> omega
theorem below_drewN {B : Nat} {a w : World} (h : Below B a w) (n : Nat) : Below B a (w.drewN n) := ⟨h.os, h.tape, h.output, h.size, h.block⟩
theorem near_hi (n m : Int) (hm : 0 ≤ m) : near n m ≤ m := by rcases near_ways n m hm with h | h | h <;> omega
end Bd

/-- nearest. -/
theorem bnear_any (n m : Int) (hm : 0 ≤ m) (w : World) :
    Calls Try.prog 15 #[.int .i64 n, .int .i64 m] w fun e w' => e = .returned (.int .i64 (Bd.near n m)) ∧ w = w' := by
  rcases Bd.near_ways n m hm with ⟨h1, h2, hc⟩ | ⟨h1, h2, hc⟩ | ⟨h1, h2, hc⟩
  all_goals
    have HC := Lib.hid hc
    clear hc
    go_enter Try.func15, Try.ntmps15
    go_wp2
    all_goals (go_ret; exact ⟨ret_i64 (by have := HC.out; omega), rfl⟩)

/-! Of none. -/
theorem bmost_nil (w : World) : Calls Try.prog 28 #[.pointer none] w fun e w' => e = .returned (.int .i64 0) ∧ w = w' := by
  go_enter Try.func28, Try.ntmps28
  go_wp2
  go_ret
  exact ⟨rfl, rfl⟩
theorem bwait_nil (n : Int) (w : World) : Calls Try.prog 21 #[.pointer none, .int .i64 n] w fun e w' => e = .returned (.int .i64 1) ∧ w = w' := by
  go_enter Try.func21, Try.ntmps21
  go_wp2
  go_ret
  exact ⟨rfl, rfl⟩
theorem btake_nil (w : World) : Calls Try.prog 30 #[.pointer none] w fun e w' => e = .returned (.bool false) ∧ Below w.heap.size w w' := by
  go_enter Try.func30, Try.ntmps30
  go_wp2_with fail
  go_quiet (fail)
  go_wp2
  go_ret
  exact ⟨rfl, Bd.below_drewN (Below.refl _ _) _⟩

/-! Of one. -/
/-- Its cells. -/
theorem budget_cells {w : World} {P : Nat} {t : TypeId} {c0 c1 c2 c3 c4 c5 c6 : Value} (h : w.heap[P]? = some (.cells #[c0, c1, c2, c3, c4, c5, c6] t (0, 0))) :
    w.cell? ⟨P, 0, none⟩ = some c0 ∧ w.cell? ⟨P, 1, none⟩ = some c1 ∧ w.cell? ⟨P, 2, none⟩ = some c2 ∧ w.cell? ⟨P, 3, none⟩ = some c3 ∧ w.cell? ⟨P, 4, none⟩ = some c4 ∧ w.cell? ⟨P, 5, none⟩ = some c5 ∧ w.cell? ⟨P, 6, none⟩ = some c6 :=
  ⟨cell_of_row _ _ _ _ _ _ h, cell_of_row _ _ _ _ _ _ h, cell_of_row _ _ _ _ _ _ h, cell_of_row _ _ _ _ _ _ h, cell_of_row _ _ _ _ _ _ h, cell_of_row _ _ _ _ _ _ h, cell_of_row _ _ _ _ _ _ h⟩

theorem bmost_any {P : Nat} {m g c r t b l : Int} (w : World) (h : w.heap[P]? = some (Obj.cells #[.int .i64 m, .int .i64 g, .int .i64 c, .int .i64 r, .int .i64 t, .int .i64 b, .int .i64 l] 51 (0, 0))) :
    Calls Try.prog 28 #[.pointer (some ⟨P, 0, none⟩)] w fun e w' => e = .returned (.int .i64 m) ∧ w = w' := by
  obtain ⟨c0, -⟩ := budget_cells h
  clear h
  go_enter Try.func28, Try.ntmps28
  go_wp2
  go_ret
  exact ⟨rfl, rfl⟩

theorem budget_laid {w wd : World} {P : Nat} {m g c r t b l l' x : Int} (h : w.heap[P]? = some (Obj.cells #[.int .i64 m, .int .i64 g, .int .i64 c, .int .i64 r, .int .i64 t, .int .i64 b, .int .i64 l] 51 (0, 0))) (hd : wd = (w.setCell ⟨P, 6, none⟩ (.int .i64 x)).drew) (hx : x = l') :
    wd.heap[P]? = some (Obj.cells #[.int .i64 m, .int .i64 g, .int .i64 c, .int .i64 r, .int .i64 t, .int .i64 b, .int .i64 l'] 51 (0, 0)) ∧ Rest (fun k => k = P) w wd := by
  subst hd hx
  exact ⟨heap_setCell_same _ _ 6 _ _ _ h, (Rest.setCell (own := fun k => k = P) w _ _ rfl).trans (Rest.drew (fun k => k = P) _) (fun _ _ => id) (fun _ _ => id)⟩

theorem budget_laid2 {w wd : World} {P k : Nat} {m g c r t b l l' : Int} (h : w.heap[P]? = some (Obj.cells #[.int .i64 m, .int .i64 g, .int .i64 c, .int .i64 r, .int .i64 t, .int .i64 b, .int .i64 l] 51 (0, 0))) (hd : wd = (w.drewN k).setCell ⟨P, 6, none⟩ (.int .i64 l')) :
    wd.heap[P]? = some (Obj.cells #[.int .i64 m, .int .i64 g, .int .i64 c, .int .i64 r, .int .i64 t, .int .i64 b, .int .i64 l'] 51 (0, 0)) ∧ Rest (fun k => k = P) w wd := by
  subst hd
  have hr : Rest (fun k => k = P) w (w.drewN k) := ⟨rfl, rfl, rfl, Nat.le_refl _, fun _ _ _ => rfl⟩
  exact ⟨heap_setCell_same _ _ 6 _ _ _ (show (w.drewN k).heap[P]? = _ from h), hr.trans (Rest.setCell (own := fun k => k = P) (w.drewN k) ⟨P, 6, none⟩ _ rfl) (fun _ _ => id) (fun _ _ => id)⟩


set_option maxHeartbeats 1000000 in
/-- Take: so much is left. -/
theorem btake_yes {P : Nat} {m g c r t b l : Int} (hc : 0 ≤ c ∧ c ≤ l) (hl : l ≤ 1048576) (w : World) (h : w.heap[P]? = some (Obj.cells #[.int .i64 m, .int .i64 g, .int .i64 c, .int .i64 r, .int .i64 t, .int .i64 b, .int .i64 l] 51 (0, 0))) :
    Calls Try.prog 30 #[.pointer (some ⟨P, 0, none⟩)] w fun e w' => e = .returned (.bool true) ∧ w'.heap[P]? = some (Obj.cells #[.int .i64 m, .int .i64 g, .int .i64 c, .int .i64 r, .int .i64 t, .int .i64 b, .int .i64 (l - c)] 51 (0, 0)) ∧ Rest (fun k => k = P) w w' := by
  have H := Lib.hid h
  obtain ⟨-, -, c2, -, -, -, c6⟩ := budget_cells h
  have f6 : w.frozen? ⟨P, 6, none⟩ = false := frozen_of_row _ _ _ _ _ h
  obtain ⟨h0, h1⟩ := hc
  have hw : IntKind.i64.wrap (l - c) = l - c := by rw [IntKind.wrap_i64]; omega
  have hd : decide (l < c) = false := by simp; omega
  clear h
  go_enter Try.func30, Try.ntmps30
  go_wp2_with fail
  go_quiet (fail)
  go_wp2_with fail
  go_region
  go_wp2
  go_ret
  exact ⟨rfl, budget_laid2 H.out rfl⟩
/-- .. it is not. -/
theorem btake_no {P : Nat} {m g c r t b l : Int} (hc : l < c) (w : World) (h : w.heap[P]? = some (Obj.cells #[.int .i64 m, .int .i64 g, .int .i64 c, .int .i64 r, .int .i64 t, .int .i64 b, .int .i64 l] 51 (0, 0))) :
    Calls Try.prog 30 #[.pointer (some ⟨P, 0, none⟩)] w fun e w' => e = .returned (.bool false) ∧ Below w.heap.size w w' := by
  obtain ⟨-, -, c2, -, -, -, c6⟩ := budget_cells h
  have hd : decide (l < c) = true := by simp; omega
  clear h
  go_enter Try.func30, Try.ntmps30
  go_wp2_with fail
  go_quiet (fail)
  go_wp2
  go_ret
  exact ⟨rfl, Bd.below_drewN (Below.refl _ _) _⟩

set_option maxHeartbeats 1000000 in
/-- Wait. -/
theorem bwait_any {P : Nat} {m g c r t b l : Int} (n : Int) (hn : -9223372036854775808 ≤ n ∧ n ≤ 9223372036854775807) (w : World) (h : w.heap[P]? = some (Obj.cells #[.int .i64 m, .int .i64 g, .int .i64 c, .int .i64 r, .int .i64 t, .int .i64 b, .int .i64 l] 51 (0, 0))) :
    Calls Try.prog 21 #[.pointer (some ⟨P, 0, none⟩), .int .i64 n] w fun e w' => e = .returned (.int .i64 (max 1 (Tk.twice t (max 1 n - 1).toNat b))) ∧ Below w.heap.size w w' := by
  obtain ⟨-, -, -, -, c4, c5, -⟩ := budget_cells h
  obtain ⟨n0, n1⟩ := hn
  have hq1 : (if 1 < n then n else 1) = max 1 n := by omega
  have hq2 : (if n < 1 then 1 else n) = max 1 n := by omega
  have hq0 : 1 ≤ max 1 n ∧ max 1 n ≤ 9223372036854775807 := by omega
  generalize max 1 n = q at hq1 hq2 hq0 ⊢
  obtain ⟨q0, q1⟩ := hq0
  have hw : IntKind.i64.wrap (q - 1) = q - 1 := by rw [IntKind.wrap_i64]; omega
  have ht := fun w => twice_any t (q - 1) b (by omega) w
  generalize Tk.twice t (q - 1).toNat b = x at ht ⊢
  have hy1 : (if 1 < x then x else 1) = max 1 x := by omega
  have hy2 : (if x < 1 then 1 else x) = max 1 x := by omega
  generalize max 1 x = y at hy1 hy2 ⊢
  clear h
  go_enter Try.func21, Try.ntmps21
  go_wp2_with fail
  refine wp_region_held_drew (S := fun w' => w'.cell? ⟨P, 4, none⟩ = some (.int .i64 t) ∧ w'.cell? ⟨P, 5, none⟩ = some (.int .i64 b)) (by kernel_rfl) ⟨c4, c5⟩ (fun hHeld => ?_)
  have HB := Lib.hid (Below.refl w.heap.size w).drew
  generalize w.drew = wd at HB hHeld ⊢
  refine wpAnyH_yield 0 (.pointer (some ⟨P, 0, none⟩)) rfl (by kernel_rfl) (by kernel_rfl) (by kernel_rfl) (fun d _ _ _ h => by cases d <;> exact h) (by rfl) (by assumption) (fun _ _ => by go_simp) ?_
  simp only [Act.put, List.setIfInBounds_toArray, List.set_cons_zero, List.set_cons_succ]
  refine wpAnyH_yield 1 (.pointer (some ⟨P, 0, none⟩)) rfl (by kernel_rfl) (by kernel_rfl) (by kernel_rfl) (fun d _ _ _ h => by cases d <;> exact h) (by rfl) (by assumption) (fun _ _ => by go_simp) ?_
  simp only [Act.put, List.setIfInBounds_toArray, List.set_cons_zero, List.set_cons_succ]
  refine wpAnyH_yield 2 (.pointer (some ⟨P, 0, none⟩)) rfl (by kernel_rfl) (by kernel_rfl) (by kernel_rfl) (fun d _ _ _ h => by cases d <;> exact h) (by rfl) (by assumption) (fun _ _ => by go_simp) ?_
  simp only [Act.put, List.setIfInBounds_toArray, List.set_cons_zero, List.set_cons_succ]
  refine wpAnyH_yield 3 (.pointer (some ⟨P, 4, none⟩)) rfl (by kernel_rfl) (by kernel_rfl) (by kernel_rfl) (fun d _ _ _ h => by cases d <;> exact h) (by rfl) (by assumption) (fun _ _ => by go_simp) ?_
  simp only [Act.put, List.setIfInBounds_toArray, List.set_cons_zero, List.set_cons_succ]
  refine wpAnyH_yield 4 (.int .i64 t) rfl (by kernel_rfl) (by kernel_rfl) (by kernel_rfl) (fun d _ _ _ h => by cases d <;> exact h) (by rfl) (by assumption) (fun _ hSw => by (try dsimp only at hSw); go_simp) ?_
  simp only [Act.put, List.setIfInBounds_toArray, List.set_cons_zero, List.set_cons_succ]
  refine wpAnyH_yield 5 (.int .i64 n) rfl (by kernel_rfl) (by kernel_rfl) (by kernel_rfl) (fun d _ _ _ h => by cases d <;> exact h) (by rfl) (by assumption) (fun _ _ => by go_simp) ?_
  simp only [Act.put, List.setIfInBounds_toArray, List.set_cons_zero, List.set_cons_succ]
  refine wpAnyH_yield 6 (.int .i64 q) rfl (by kernel_rfl) (by kernel_rfl) (by kernel_rfl) (fun d _ _ _ h => by cases d <;> exact h) (by rfl) (by assumption) (fun _ _ => by go_simp) ?_
  simp only [Act.put, List.setIfInBounds_toArray, List.set_cons_zero, List.set_cons_succ]
  refine wpAnyH_yield 7 (.int .i64 (q - 1)) rfl (by kernel_rfl) (by kernel_rfl) (by kernel_rfl) (fun d _ _ _ h => by cases d <;> exact h) (by rfl) (by assumption) (fun _ _ => by go_simp) ?_
  simp only [Act.put, List.setIfInBounds_toArray, List.set_cons_zero, List.set_cons_succ]
  refine wpAnyH_yield 8 (.pointer (some ⟨P, 0, none⟩)) rfl (by kernel_rfl) (by kernel_rfl) (by kernel_rfl) (fun d _ _ _ h => by cases d <;> exact h) (by rfl) (by assumption) (fun _ _ => by go_simp) ?_
  simp only [Act.put, List.setIfInBounds_toArray, List.set_cons_zero, List.set_cons_succ]
  refine wpAnyH_yield 9 (.pointer (some ⟨P, 0, none⟩)) rfl (by kernel_rfl) (by kernel_rfl) (by kernel_rfl) (fun d _ _ _ h => by cases d <;> exact h) (by rfl) (by assumption) (fun _ _ => by go_simp) ?_
  simp only [Act.put, List.setIfInBounds_toArray, List.set_cons_zero, List.set_cons_succ]
  refine wpAnyH_yield 10 (.pointer (some ⟨P, 0, none⟩)) rfl (by kernel_rfl) (by kernel_rfl) (by kernel_rfl) (fun d _ _ _ h => by cases d <;> exact h) (by rfl) (by assumption) (fun _ _ => by go_simp) ?_
  simp only [Act.put, List.setIfInBounds_toArray, List.set_cons_zero, List.set_cons_succ]
  refine wpAnyH_yield 11 (.pointer (some ⟨P, 5, none⟩)) rfl (by kernel_rfl) (by kernel_rfl) (by kernel_rfl) (fun d _ _ _ h => by cases d <;> exact h) (by rfl) (by assumption) (fun _ _ => by go_simp) ?_
  simp only [Act.put, List.setIfInBounds_toArray, List.set_cons_zero, List.set_cons_succ]
  refine wpAnyH_yield 12 (.int .i64 b) rfl (by kernel_rfl) (by kernel_rfl) (by kernel_rfl) (fun d _ _ _ h => by cases d <;> exact h) (by rfl) (by assumption) (fun _ hSw => by (try dsimp only at hSw); go_simp) ?_
  simp only [Act.put, List.setIfInBounds_toArray, List.set_cons_zero, List.set_cons_succ]
  refine wpAnyH_ready (rs := [13]) (by kernel_rfl) (by simp) (AllReadyH.cons rfl (fun K hK => ?_) AllReadyH.nil)
  go_simp
  go_at_call 34
  refine (ht _).mono ?_
  rintro e w2 ⟨rfl, rfl⟩
  refine hK.out _ _ (hHeld) (fun hHeld => ?_)
  clear hK K
  try simp only [Act.put, List.setIfInBounds_toArray, List.set_cons_zero, List.set_cons_succ]
  refine wpAnyH_yield 14 (.int .i64 y) rfl (by kernel_rfl) (by kernel_rfl) (by kernel_rfl) (fun d _ _ _ h => by cases d <;> exact h) (by rfl) (by assumption) (fun _ _ => by go_simp) ?_
  simp only [Act.put, List.setIfInBounds_toArray, List.set_cons_zero, List.set_cons_succ]
  refine wpAnyH_yield 15 (.int .i64 y) rfl (by kernel_rfl) (by kernel_rfl) (by kernel_rfl) (fun d _ _ _ h => by cases d <;> exact h) (by rfl) (by assumption) (fun _ _ => by go_simp) ?_
  simp only [Act.put, List.setIfInBounds_toArray, List.set_cons_zero, List.set_cons_succ]
  refine wpAnyH_done (by kernel_rfl) ?_ _
  go_wp2
  go_ret
  exact ⟨rfl, HB.out⟩

set_option maxHeartbeats 1000000 in
/-- New. -/
theorem bnew_any (m g c r t b : Int) (w : World) :
    Calls Try.prog 6 #[.agg #[.int .i64 m, .int .i64 g, .int .i64 c, .int .i64 r, .int .i64 t, .int .i64 b]] w fun e w' => e = .returned (.pointer (some ⟨w.heap.size + 1, 0, none⟩)) ∧
      w'.heap[w.heap.size + 1]? = some (.cells #[.int .i64 (Bd.near m 14), .int .i64 (Bd.near g 1048576), .int .i64 (Bd.near c 1048576), .int .i64 (Bd.near r 1048576), .int .i64 t, .int .i64 b, .int .i64 (Bd.near r 1048576)] 51 (0, 0)) ∧ Below w.heap.size w w' := by
  have hm := fun w => bnear_any m 14 (by decide) w
  have hg := fun w => bnear_any g 1048576 (by decide) w
  have hc := fun w => bnear_any c 1048576 (by decide) w
  have hr := fun w => bnear_any r 1048576 (by decide) w
  generalize Bd.near m 14 = m1 at hm ⊢
  generalize Bd.near g 1048576 = g1 at hg ⊢
  generalize Bd.near c 1048576 = c1 at hc ⊢
  generalize Bd.near r 1048576 = r1 at hr ⊢
  go_enter Try.func6, Try.ntmps6
  go_wp2_with fail
  refine (hm _).mono ?_
  rintro e w1 ⟨rfl, rfl⟩
  go_wp2_with fail
  refine (hg _).mono ?_
  rintro e w1 ⟨rfl, rfl⟩
  go_wp2_with fail
  refine (hc _).mono ?_
  rintro e w1 ⟨rfl, rfl⟩
  go_wp2_with fail
  refine (hr _).mono ?_
  rintro e w1 ⟨rfl, rfl⟩
  go_wp2
  go_ret
  exact ⟨rfl, heap_alloc2_new _ _ _, ((Below.refl _ _).alloc (Nat.le_refl _) _).alloc (by simp) _⟩

end Go.Proofs.Ytihgohadihjalaa
