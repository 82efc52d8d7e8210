/- The document's own window: New, Meet. -/
import Derived.Test.YtakenaejmhdhnaaHeldB
import Derived.Test.YtakenaejmhdhnaaEnRow
import Derived.Test.YtakenaejmhdhnaaTkA
import Derived.Test.YtakenaejmhdhnaaSkipZ
import Derived.RegionTactic
import Derived.BigRegion
import Derived.BigQuiet
namespace Go.Proofs.Ytakenaejmhdhnaa
open Go.RowKit

theorem Try.sizeW16 : (Try.prog.info? 29).map (·.size) = some 5 := by kernel_rfl
/-- Five cells of a block. -/
theorem cells_five {w : World} {B : Nat} {t : TypeId} {c0 c1 c2 c3 c4 : Value} (h : w.heap[B]? = some (.cells #[c0, c1, c2, c3, c4] t (0, 0))) :
    w.cell? ⟨B, 0, none⟩ = some c0 ∧ w.cell? ⟨B, 1, none⟩ = some c1 ∧ w.cell? ⟨B, 2, none⟩ = some c2 ∧ w.cell? ⟨B, 3, none⟩ = some c3 ∧ w.cell? ⟨B, 4, none⟩ = some c4 :=
  ⟨cell_of_row _ _ _ _ _ _ h, cell_of_row _ _ _ _ _ _ h, cell_of_row _ _ _ _ _ _ h, cell_of_row _ _ _ _ _ _ h, cell_of_row _ _ _ _ _ _ h⟩
/-- One cell of one's first block is written. -/
theorem Held.set {w wx : World} {l : List (Nat × Obj)} {b k : Nat} {t : TypeId} {cs : Array Value} (h : Held w wx ((b, .cells cs t (0, 0)) :: l)) (v : Value) :
    Held w (wx.setCell ⟨b, k, none⟩ v) ((b, .cells (cs.setIfInBounds k v) t (0, 0)) :: l) :=
  h.put (h.below.setCell (h.old 0 rfl) _) (heap_setCell_same _ _ k _ _ _ (h.get 0 rfl)) (fun _ hk => heap_setCell_other _ _ _ _ hk)
theorem Held.none_ {w wx : World} {l : List (Nat × Obj)} (h : Held w wx l) : Rest (fun _ => False) w wx := Rest.of_below h.below

set_option maxHeartbeats 2000000 in
/-- New. -/
theorem rwnew_any (n wd : Int) (w : World) :
    Calls Try.prog 6 #[.int .i64 n, .int .i64 wd] w fun e w' => e = .returned (.agg #[.int .i64 (max 1 (min n 16)), .int .i64 (max 1 (Tk.clamp wd)), .int .i64 0, .slice none 0 0, .slice none 0 0]) ∧ Below w.heap.size w w' := by
  have hcl := fun w => rclamp_any wd w
  have hn1 : (if n < 1 then 1 else n) = max n 1 := by omega
  have hn2 : (if (1 : Int) < n then n else 1) = max n 1 := by omega
  have hn3 : (if max n 1 < 16 then max n 1 else 16) = max 1 (min n 16) := by omega
  have hn4 : (if (16 : Int) < max n 1 then 16 else max n 1) = max 1 (min n 16) := by omega
  generalize max 1 (min n 16) = m at hn3 hn4 ⊢
  generalize max n 1 = q at hn1 hn2 hn3 hn4
  generalize Tk.clamp wd = d at hcl ⊢
  go_enter Try.func6, Try.ntmps6
  go_wp2_with fail
  refine (hcl _).mono ?_
  rintro e w1 ⟨rfl, rfl⟩
  have HB := Lib.hid (fun p q => ((Below.refl w.heap.size w).alloc (Nat.le_refl _) p).alloc (by simp) q)
  by_cases hd : d < 1
  · go_wp2_with fail
    exact bodyPost_ret (results_cell_row Try.results6 _ _ w.heap.size 29 _ (0, 0) _ rfl (keep1 (heap_alloc_new w _) _) Try.underlying29 rfl Try.sizeW16) rfl ⟨by rw [Int.max_eq_left (by omega)], HB.out _ _⟩
  · go_wp2_with fail
    exact bodyPost_ret (results_cell_row Try.results6 _ _ w.heap.size 29 _ (0, 0) _ rfl (keep1 (heap_alloc_new w _) _) Try.underlying29 rfl Try.sizeW16) rfl ⟨by rw [Int.max_eq_right (by omega)], HB.out _ _⟩

set_option maxHeartbeats 2000000 in
/-- Meet. -/
theorem rwmeet_any (n wd last t : Int) (a a2 : Option Addr) (k c k2 c2 : Nat) (w : World) (hwd : 1 ≤ wd) :
    Calls Try.prog 7 #[.agg #[.int .i64 n, .int .i64 wd, .int .i64 last, .slice a k c, .slice a2 k2 c2], .int .i64 t] w fun e w' =>
      e = .returned (.agg #[.int .i64 n, .int .i64 wd, .int .i64 (max last (Tk.clamp t / wd)), .slice a k c, .slice a2 k2 c2]) ∧ Below w.heap.size w w' := by
  have hcl := fun w => rclamp_any t w
  have hc0 := Tk.clamp_lo t
  have hc1 := Tk.clamp_hi t
  generalize Tk.clamp t = x at hcl hc0 hc1 ⊢
  have hq : x.tdiv wd = x / wd := Int.tdiv_eq_ediv_of_nonneg hc0
  have hb0 : 0 ≤ x / wd := Int.ediv_nonneg hc0 (by omega)
  have hb1 : x / wd ≤ x := Int.ediv_le_self _ hc0
  have hwb : IntKind.i64.wrap (x / wd) = x / wd := by rw [IntKind.wrap_i64]; omega
  have hne : wd ≠ 0 := by omega
  generalize x / wd = b at hq hb0 hb1 hwb ⊢
  have hm1 : (if last < b then b else last) = max last b := by omega
  have hm2 : (if b < last then last else b) = max last b := by omega
  generalize max last b = m at hm1 hm2 ⊢
  go_enter Try.func7, Try.ntmps7
  go_wp2_with fail
  have H := Lib.hid (((Held.start w).lay (.cells #[.int .i64 n, .int .i64 wd, .int .i64 last, .slice a k c, .slice a2 k2 c2] 29)).lay (.cells #[.int .i64 0, .int .i64 0, .int .i64 0, .slice none 0 0, .slice none 0 0] 29))
  rw [show (w.alloc (.cells #[.int .i64 n, .int .i64 wd, .int .i64 last, .slice a k c, .slice a2 k2 c2] 29)).heap.size = w.heap.size + 1 by simp] at H
  generalize (w.alloc (.cells #[.int .i64 n, .int .i64 wd, .int .i64 last, .slice a k c, .slice a2 k2 c2] 29)).alloc (.cells #[.int .i64 0, .int .i64 0, .int .i64 0, .slice none 0 0, .slice none 0 0] 29) = w1 at H ⊢
  obtain ⟨-, c1, z2, -⟩ := cells_five (H.out.get 1 rfl)
  refine wp_region_Z_drew 9 (S := fun w' => w'.cell? ⟨w.heap.size, 1, none⟩ = some (.int .i64 wd) ∧ w'.cell? ⟨w.heap.size, 2, none⟩ = some (.int .i64 last)) (by kernel_rfl) ⟨c1, z2⟩ (fun hHeld => ?_)
  have H1 := Lib.hid H.out.drew
  clear H c1 z2
  generalize w1.drew = w2 at H1 hHeld ⊢
  refine wpAnyZ_yield 0 (.pointer (some ⟨w.heap.size, 2, none⟩)) rfl (by kernel_rfl) (by kernel_rfl) (by kernel_rfl) (fun d _ _ _ h => by cases d <;> exact h) (by rfl) (by assumption) (fun _ _ => by go_simp) ?_
  simp only [Act.put, List.setIfInBounds_toArray, List.set_cons_zero, List.set_cons_succ]
  refine wpAnyZ_yield 1 (.int .i64 last) rfl (by kernel_rfl) (by kernel_rfl) (by kernel_rfl) (fun d _ _ _ h => by cases d <;> exact h) (by rfl) (by assumption) (fun _ hSw => by (try dsimp only at hSw); go_simp) ?_
  simp only [Act.put, List.setIfInBounds_toArray, List.set_cons_zero, List.set_cons_succ]
  refine wpAnyZ_yield 2 (.int .i64 t) rfl (by kernel_rfl) (by kernel_rfl) (by kernel_rfl) (fun d _ _ _ h => by cases d <;> exact h) (by rfl) (by assumption) (fun _ _ => by go_simp) ?_
  simp only [Act.put, List.setIfInBounds_toArray, List.set_cons_zero, List.set_cons_succ]
  refine wpAnyZ_yield 4 (.pointer (some ⟨w.heap.size, 1, none⟩)) rfl (by kernel_rfl) (by kernel_rfl) (by kernel_rfl) (fun d _ _ _ h => by cases d <;> exact h) (by rfl) (by assumption) (fun _ _ => by go_simp) ?_
  simp only [Act.put, List.setIfInBounds_toArray, List.set_cons_zero, List.set_cons_succ]
  refine wpAnyZ_yield 5 (.int .i64 wd) rfl (by kernel_rfl) (by kernel_rfl) (by kernel_rfl) (fun d _ _ _ h => by cases d <;> exact h) (by rfl) (by assumption) (fun _ hSw => by (try dsimp only at hSw); go_simp) ?_
  simp only [Act.put, List.setIfInBounds_toArray, List.set_cons_zero, List.set_cons_succ]
  refine wpAnyZ_ready (rs := [3]) (by kernel_rfl) (by simp) (AllReadyZ.cons rfl (fun K hK => ?_) AllReadyZ.nil)
  go_simp
  go_at_call 14
  refine (hcl _).mono ?_
  rintro e w3 ⟨rfl, rfl⟩
  refine hK.out _ _ (fun _ => hHeld) (fun hZ => ?_)
  have hHeld := hZ (by decide)
  clear hK K hZ
  try simp only [Act.put, List.setIfInBounds_toArray, List.set_cons_zero, List.set_cons_succ]
  refine wpAnyZ_yield 6 (.int .i64 b) rfl (by kernel_rfl) (by kernel_rfl) (by kernel_rfl) (fun d _ _ _ h => by cases d <;> exact h) (by rfl) (by assumption) (fun _ _ => by go_simp) ?_
  simp only [Act.put, List.setIfInBounds_toArray, List.set_cons_zero, List.set_cons_succ]
  refine wpAnyZ_yield 7 (.int .i64 m) rfl (by kernel_rfl) (by kernel_rfl) (by kernel_rfl) (fun d _ _ _ h => by cases d <;> exact h) (by rfl) (by assumption) (fun _ _ => by go_simp) ?_
  simp only [Act.put, List.setIfInBounds_toArray, List.set_cons_zero, List.set_cons_succ]
  refine wpAnyZ_yield 8 (.pointer (some ⟨w.heap.size, 2, none⟩)) rfl (by kernel_rfl) (by kernel_rfl) (by kernel_rfl) (fun d _ _ _ h => by cases d <;> exact h) (by rfl) (by assumption) (fun _ _ => by go_simp) ?_
  simp only [Act.put, List.setIfInBounds_toArray, List.set_cons_zero, List.set_cons_succ]
  have z2 : w2.cell? ⟨w.heap.size, 2, none⟩ = some (.int .i64 last) := hHeld.2
  have f2 : w2.frozen? ⟨w.heap.size, 2, none⟩ = false := frozen_of_row _ _ _ _ _ (H1.out.get 1 rfl)
  have h3 := H1.out.swap.set (k := 2) (.int .i64 m)
  have H3 := Lib.hid h3.swap
  clear h3
  refine wpAnyZ_ready (rs := [9]) (by kernel_rfl) (by simp) (AllReadyZ.cons rfl (fun K hK => ?_) AllReadyZ.nil)
  go_simp
  refine hK.out _ _ (fun h => absurd rfl h) (fun _ => ?_)
  clear hK K
  try simp only [Act.put, List.setIfInBounds_toArray, List.set_cons_zero, List.set_cons_succ]
  refine wpAnyZ_done (by kernel_rfl) ?_ _
  clear hHeld z2 f2 H1
  generalize w2.setCell ⟨w.heap.size, 2, none⟩ (.int .i64 m) = w4 at H3 ⊢
  obtain ⟨d0, d1, d2, d3, d4⟩ := cells_five (H3.out.get 1 rfl)
  obtain ⟨e0, e1, e2, e3, e4⟩ := cells_five (H3.out.get 0 rfl)
  have f0 : ∀ i, w4.frozen? ⟨w.heap.size + 1, i, none⟩ = false := fun _ => frozen_of_row _ _ _ _ _ (H3.out.get 0 rfl)
  have H4 := Lib.hid (H3.out.alarm (c0 := .int .i64 n) (c1 := .int .i64 wd) (c2 := .int .i64 m) (c3 := .slice a k c) (c4 := .slice a2 k2 c2))
  clear hcl hm1 hm2 hq hne hwb H3
  go_wp2_with fail
  exact bodyPost_ret (results_cell_row Try.results7 _ _ (w.heap.size + 1) 29 _ (0, 0) _ rfl (H4.out.get 0 rfl) Try.underlying29 rfl Try.sizeW16) rfl ⟨rfl, H4.out.below⟩
end Go.Proofs.Ytakenaejmhdhnaa
