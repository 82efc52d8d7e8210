/- The contracts of breaker's calls: Counts, New, and all calls of none. -/
import Derived.Test.YtieggfnkhpfccaaBrB
import Derived.Test.YtieggfnkhpfccaaSkip
namespace Go.Proofs.Ytieggfnkhpfccaa
open Go.RowKit

variable {w wx : World} {B P R : Nat} {r : BRule} {s : Br} {l : List (Nat × Obj)}

set_option maxHeartbeats 1000000 in
/-- Counts. -/
theorem brcounts_any (t : Int) (h : Brk w wx B P R r s l) :
    Calls Try.prog 11 #[.pointer (some ⟨B, 0, none⟩), .int .i64 t] wx fun e w' => e = .returned (.agg #[.int .i64 ((s.meet r t).lately r true), .int .i64 ((s.meet r t).lately r false)]) ∧ Brk w w' B P R r (s.meet r t) l := by
  have H1 := Lib.hid (h.lay (.cells #[.int .i64 0, .int .i64 0] 33))
  have HC := Lib.hid (fun w1 (h1 : Brk w w1 B P R r s ((wx.heap.size, .cells #[.int .i64 0, .int .i64 0] 33 (0, 0)) :: l)) => brwin_counts t h1)
  clear h
  generalize (s.meet r t).lately r true = a at HC ⊢
  generalize (s.meet r t).lately r false = b at HC ⊢
  go_enter Try.func11, Try.ntmps11
  go_wp2_with fail
  generalize wx.alloc (.cells #[.int .i64 0, .int .i64 0] 33) = w1 at H1 ⊢
  generalize wx.heap.size = z at H1 HC ⊢
  refine (brnone_any w1 H1.out.at_).mono ?_
  rintro e w2 ⟨rfl, rfl⟩
  obtain ⟨-, -, -, -, c6, -⟩ := brk_cells H1.out.at_
  go_wp2_with fail
  refine (HC.out _ H1.out).mono ?_
  rintro e w2 ⟨rfl, h2⟩
  have H2 := Lib.hid h2
  clear h2 HC c6 H1
  obtain ⟨z0, z1⟩ := two_cells (H2.out.wnl.held.get 1 rfl)
  have f0 : ∀ i, w2.frozen? ⟨z, i, none⟩ = false := fun _ => frozen_of_row _ _ _ _ _ (H2.out.wnl.held.get 1 rfl)
  have H3 := Lib.hid (H2.out.two (.int .i64 a) (.int .i64 b))
  clear H2
  go_wp2_with fail
  exact bodyPost_ret (results_cell_row Try.results11 _ _ z 33 _ (0, 0) _ rfl (H3.out.wnl.held.get 1 rfl) Try.underlying33 rfl Try.sizeC16) rfl ⟨rfl, H3.out.but⟩

/-! Of none. -/
theorem brstate_nil (t : Int) (w : World) : Calls Try.prog 9 #[.pointer none, .int .i64 t] w fun e w' => e = .returned (.int .i64 0) ∧ w = w' := by
  go_enter Try.func9, Try.ntmps9
  go_wp2_with fail
  refine (brnone_nil w).mono ?_
  rintro e w1 ⟨rfl, rfl⟩
  go_wp2
  go_ret
  exact ⟨rfl, rfl⟩
theorem brmay_nil (t : Int) (w : World) : Calls Try.prog 10 #[.pointer none, .int .i64 t] w fun e w' => e = .returned (.bool true) ∧ w = w' := by
  go_enter Try.func10, Try.ntmps10
  go_wp2_with fail
  refine (brstate_nil t w).mono ?_
  rintro e w1 ⟨rfl, rfl⟩
  go_wp2
  go_ret
  exact ⟨rfl, rfl⟩
theorem brnote_nil (t : Int) (v : Bool) (w : World) : Calls Try.prog 7 #[.pointer none, .int .i64 t, .bool v] w fun e w' => e = .returned (.tuple #[]) ∧ w = w' := by
  go_enter Try.func7, Try.ntmps7
  go_wp2_with fail
  refine (brnone_nil w).mono ?_
  rintro e w1 ⟨rfl, rfl⟩
  go_wp2
  refine bodyPost_ret (results_none rfl _ _ _) rfl ?_
  exact ⟨rfl, rfl⟩
theorem brcounts_nil (t : Int) (w : World) : Calls Try.prog 11 #[.pointer none, .int .i64 t] w fun e w' => e = .returned (.agg #[.int .i64 0, .int .i64 0]) ∧ Below w.heap.size w w' := by
  go_enter Try.func11, Try.ntmps11
  go_wp2_with fail
  have H1 := Lib.hid ((Held.start w).lay (.cells #[.int .i64 0, .int .i64 0] 33))
  generalize w.alloc (.cells #[.int .i64 0, .int .i64 0] 33) = w1 at H1 ⊢
  refine (brnone_nil w1).mono ?_
  rintro e w2 ⟨rfl, rfl⟩
  obtain ⟨c0, c1⟩ := two_cells (H1.out.get 0 rfl)
  have f0 : ∀ i, w1.frozen? ⟨w.heap.size, i, none⟩ = false := fun _ => frozen_of_row _ _ _ _ _ (H1.out.get 0 rfl)
  have H2 := Lib.hid (H1.out.two (.int .i64 0) (.int .i64 0))
  clear H1
  go_wp2_with fail
  exact bodyPost_ret (results_cell_row Try.results11 _ _ w.heap.size 33 _ (0, 0) _ rfl (H2.out.get 0 rfl) Try.underlying33 rfl Try.sizeC16) rfl ⟨rfl, H2.out.below⟩

/-- The cells of a block of six. -/
theorem cells_six {w : World} {P : Nat} {t : TypeId} {c0 c1 c2 c3 c4 c5 : Value} (h : w.heap[P]? = some (.cells #[c0, c1, c2, c3, c4, c5] t (0, 0))) :
    w.cell? ⟨P, 0, none⟩ = some c0 ∧ w.cell? ⟨P, 1, none⟩ = some c1 ∧ w.cell? ⟨P, 2, none⟩ = some c2 ∧ w.cell? ⟨P, 3, none⟩ = some c3 ∧ w.cell? ⟨P, 4, none⟩ = some c4 ∧ w.cell? ⟨P, 5, none⟩ = some c5 :=
  ⟨cell_of_row _ _ _ _ _ _ h, cell_of_row _ _ _ _ _ _ h, cell_of_row _ _ _ _ _ _ h, cell_of_row _ _ _ _ _ _ h, cell_of_row _ _ _ _ _ _ h, cell_of_row _ _ _ _ _ _ h⟩

set_option maxHeartbeats 1000000 in
/-- New. -/
theorem brnew_any (r : BRule) (h : Held w wx l) (ht : r.tr ≤ 9223372036854775807) :
    Calls Try.prog 6 #[.agg #[.int .i64 r.n, .int .i64 r.wd, .int .i64 r.le, .int .i64 r.pa, .int .i64 r.co, .int .i64 r.tr]] wx fun e w' => ∃ B P R, e = .returned (.pointer (some ⟨B, 0, none⟩)) ∧ Brk w w' B P R r.near Br.new l := by
  have H := Lib.hid h
  have HG := Lib.hid (BRule.near_good ht)
  clear h ht
  obtain ⟨n, wd, le, pa, co, tr⟩ := r
  unfold BRule.near at HG ⊢
  dsimp only at HG ⊢
  have l1 : (if 1 < le then le else 1) = max 1 le := by omega
  have l2 : (if le < 1 then 1 else le) = max 1 le := by omega
  have o1 : (if 1 < co then co else 1) = max 1 co := by omega
  have o2 : (if co < 1 then 1 else co) = max 1 co := by omega
  have t1 : (if 1 < tr then tr else 1) = max 1 tr := by omega
  have t2 : (if tr < 1 then 1 else tr) = max 1 tr := by omega
  have p1 : (if pa < 100 then pa else 100) = min pa 100 := by omega
  have p2 : (if (100 : Int) < pa then 100 else pa) = min pa 100 := by omega
  have p3 : (if 1 < min pa 100 then min pa 100 else 1) = max 1 (min pa 100) := by omega
  have p4 : (if min pa 100 < 1 then 1 else min pa 100) = max 1 (min pa 100) := by omega
  generalize max 1 (min pa 100) = pa' at p3 p4 HG ⊢
  generalize min pa 100 = pm at p1 p2 p3 p4
  generalize max 1 le = le' at l1 l2 HG ⊢
  generalize max 1 co = co' at o1 o2 HG ⊢
  generalize max 1 tr = tr' at t1 t2 HG ⊢
  go_enter Try.func6, Try.ntmps6
  go_upto_region 5 with fail
  have H1 := Lib.hid (H.out.lay (.cells #[.int .i64 n, .int .i64 wd, .int .i64 le', .int .i64 pa', .int .i64 co', .int .i64 tr'] 24))
  generalize wx.alloc (.cells #[.int .i64 n, .int .i64 wd, .int .i64 le', .int .i64 pa', .int .i64 co', .int .i64 tr'] 24) = w1 at H1 ⊢
  generalize wx.heap.size = z at H1 ⊢
  clear l1 l2 o1 o2 t1 t2 p1 p2 p3 p4
  have HS : Hid (∀ (w' : World) (L : List (Nat × Obj)), Held w w' L → (z, Obj.cells #[.int .i64 n, .int .i64 wd, .int .i64 le', .int .i64 pa', .int .i64 co', .int .i64 tr'] 24 (0, 0)) ∈ L → w'.cell? ⟨z, 0, none⟩ = some (.int .i64 n) ∧ w'.cell? ⟨z, 1, none⟩ = some (.int .i64 wd) ∧ w'.cell? ⟨z, 2, none⟩ = some (.int .i64 le') ∧ w'.cell? ⟨z, 3, none⟩ = some (.int .i64 pa') ∧ w'.cell? ⟨z, 4, none⟩ = some (.int .i64 co') ∧ w'.cell? ⟨z, 5, none⟩ = some (.int .i64 tr')) :=
    Lib.hid fun w' L h hm => cells_six (h.own _ hm).2
  refine wp_region_held_drew (S := fun w' => w'.cell? ⟨z, 0, none⟩ = some (.int .i64 n) ∧ w'.cell? ⟨z, 1, none⟩ = some (.int .i64 wd) ∧ w'.cell? ⟨z, 2, none⟩ = some (.int .i64 le') ∧ w'.cell? ⟨z, 3, none⟩ = some (.int .i64 pa') ∧ w'.cell? ⟨z, 4, none⟩ = some (.int .i64 co') ∧ w'.cell? ⟨z, 5, none⟩ = some (.int .i64 tr')) (by kernel_rfl) (cells_six (H1.out.get 0 rfl)) (fun hHeld => ?_)
  have H2 := Lib.hid H1.out.drew
  generalize w1.drew = w2 at H2 hHeld ⊢
  clear H1
  refine wpAnyH_yield 0 (.agg #[.int .i64 n, .int .i64 wd, .int .i64 le', .int .i64 pa', .int .i64 co', .int .i64 tr']) rfl (by kernel_rfl) (by kernel_rfl) (by kernel_rfl) (fun d _ _ _ h => by cases d <;> exact h) (by rfl) (by assumption) (fun _ hSw => by (try dsimp only at hSw); go_simp) ?_
  simp only [Act.put, List.setIfInBounds_toArray, List.set_cons_zero, List.set_cons_succ]
  refine wpAnyH_yield 1 (.pointer (some ⟨z, 0, none⟩)) rfl (by kernel_rfl) (by kernel_rfl) (by kernel_rfl) (fun d _ _ _ h => by cases d <;> exact h) (by rfl) (by assumption) (fun _ _ => by go_simp) ?_
  simp only [Act.put, List.setIfInBounds_toArray, List.set_cons_zero, List.set_cons_succ]
  refine wpAnyH_yield 2 (.int .i64 n) rfl (by kernel_rfl) (by kernel_rfl) (by kernel_rfl) (fun d _ _ _ h => by cases d <;> exact h) (by rfl) (by assumption) (fun _ hSw => by (try dsimp only at hSw); go_simp) ?_
  simp only [Act.put, List.setIfInBounds_toArray, List.set_cons_zero, List.set_cons_succ]
  refine wpAnyH_yield 3 (.pointer (some ⟨z, 1, none⟩)) rfl (by kernel_rfl) (by kernel_rfl) (by kernel_rfl) (fun d _ _ _ h => by cases d <;> exact h) (by rfl) (by assumption) (fun _ _ => by go_simp) ?_
  simp only [Act.put, List.setIfInBounds_toArray, List.set_cons_zero, List.set_cons_succ]
  refine wpAnyH_yield 4 (.int .i64 wd) rfl (by kernel_rfl) (by kernel_rfl) (by kernel_rfl) (fun d _ _ _ h => by cases d <;> exact h) (by rfl) (by assumption) (fun _ hSw => by (try dsimp only at hSw); go_simp) ?_
  simp only [Act.put, List.setIfInBounds_toArray, List.set_cons_zero, List.set_cons_succ]
  refine wpAnyH_ready (rs := [5]) (by kernel_rfl) (by simp) (AllReadyH.cons rfl (fun K hK => ?_) AllReadyH.nil)
  go_simp
  go_at_call 12
  refine (wnl_new n wd H2.out).mono ?_
  rintro e w3 ⟨rfl, h3⟩
  have H3 := Lib.hid h3
  clear h3 H2
  generalize w2.heap.size + 1 = P at H3 ⊢
  generalize w2.heap.size = R at H3 ⊢
  refine hK.out _ _ ((HS.out _ _ H3.out.held List.mem_cons_self)) (fun hHeld => ?_)
  clear hK K
  try simp only [Act.put, List.setIfInBounds_toArray, List.set_cons_zero, List.set_cons_succ]
  refine wpAnyH_yield 6 (.agg #[.int .i64 n, .int .i64 wd, .int .i64 le', .int .i64 pa', .int .i64 co', .int .i64 tr', .pointer (some ⟨P, 0, none⟩), .int .i64 0, .int .i64 0, .int .i64 0, .int .i64 0]) rfl (by kernel_rfl) (by kernel_rfl) (by kernel_rfl) (fun d _ _ _ h => by cases d <;> exact h) (by rfl) (by assumption) (fun _ _ => by go_simp) ?_
  simp only [Act.put, List.setIfInBounds_toArray, List.set_cons_zero, List.set_cons_succ]
  refine wpAnyH_ready (rs := [7]) (by kernel_rfl) (by simp) (AllReadyH.cons rfl (fun K hK => ?_) AllReadyH.nil)
  go_simp
  refine hK.out _ _ ((HS.out _ _ (H3.out.lay (brk ⟨n, wd, le', pa', co', tr'⟩ P 0 0 0 0)).held (List.mem_cons_of_mem _ List.mem_cons_self))) (fun hHeld => ?_)
  clear hK K
  try simp only [Act.put, List.setIfInBounds_toArray, List.set_cons_zero, List.set_cons_succ]
  refine wpAnyH_yield 8 (.pointer (some ⟨w3.heap.size, 0, none⟩)) rfl (by kernel_rfl) (by kernel_rfl) (by kernel_rfl) (fun d _ _ _ h => by cases d <;> exact h) (by rfl) (by assumption) (fun _ _ => by go_simp) ?_
  simp only [Act.put, List.setIfInBounds_toArray, List.set_cons_zero, List.set_cons_succ]
  refine wpAnyH_done (by kernel_rfl) ?_ _
  go_wp2
  go_ret
  exact ⟨_, _, _, rfl, (H3.out.lay (brk ⟨n, wd, le', pa', co', tr'⟩ P 0 0 0 0)).swap.tail, HG.out, Br.Ok.new HG.out⟩
end Go.Proofs.Ytieggfnkhpfccaa
