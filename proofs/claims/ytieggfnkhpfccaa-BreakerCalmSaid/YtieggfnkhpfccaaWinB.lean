/- The contracts of window's small calls, and how it meets a time. -/
import Derived.Test.YtieggfnkhpfccaaWinA
import Derived.Test.YtieggfnkhpfccaaTkA
import Derived.Test.YtieggfnkhpfccaaSkip
import Derived.RegionTactic
import Derived.BigRegion
import Derived.BigQuiet
namespace Go.Proofs.Ytieggfnkhpfccaa
open Go.RowKit

/-! Of none. -/
theorem wnone_nil (w : World) : Calls Try.prog 20 #[.pointer none] w fun e w' => e = .returned (.bool true) ∧ w = w' := by
  go_enter Try.func20, Try.ntmps20
  go_wp2
  go_ret
  exact ⟨rfl, rfl⟩
theorem wnone_any {P R n : Nat} {wd last : Int} {X Y : Nat → Int} (w : World) (h : Win w P R n wd last X Y) : Calls Try.prog 20 #[.pointer (some ⟨P, 0, none⟩)] w fun e w' => e = .returned (.bool false) ∧ w = w' := by
  obtain ⟨-, -, c2⟩ := h.cells
  have hn : ((n : Int) == 0) = false := by have := h.some_; simp; omega
  clear h
  go_enter Try.func20, Try.ntmps20
  go_wp2
  go_ret
  exact ⟨rfl, rfl⟩

theorem Try.elemC16 : Try.prog.elem 43 = 33 := by kernel_rfl
/-- All buckets behind g of them. -/
theorem slice_from (R n g : Nat) (hg : g ≤ n) (hn : n ≤ 16) : ∃ o, (g < n → o = g * 2) ∧ o ≤ n * 2 ∧ ∀ w,
    (Instr.sliceAt 43 (.slice (some ⟨R, 0, none⟩) n n) (some (.int .i64 (g : Int))) none none).run Try.prog w = .ok (.slice (some ⟨R, o, none⟩) (n - g) (n - g)) w := by
  obtain ⟨i0, hinf, hz0, hz1, hz2⟩ := infoC_parts
  have hrun : ∀ w, (Instr.sliceAt 43 (.slice (some ⟨R, 0, none⟩) n n) (some (.int .i64 (g : Int))) none none).run Try.prog w = .ok (sliced (some ⟨R, 0, none⟩) g n n 2) w := fun w => by
    rw [run_sliceAt_slice w 43 _ _ _ _ Try.underlying43, run_slice_l w 43 _ _ _ Try.underlying43 .i64 (g : Int) (by omega) (by omega), Try.elemC16]
    simp only [sizeOf, typeInfo, Sem.run_bind]
    rw [show (g : Int).toNat = g by omega]
    simp [hinf, hz1]
  by_cases e : n = g
  · exact ⟨0, fun h => by omega, by omega, fun w => by rw [hrun w]; simp [sliced, e]⟩
  · exact ⟨g * 2, fun _ => rfl, by omega, fun w => by rw [hrun w]; simp [sliced, e, Addr.add]; omega⟩
/-- .. ahead of them. -/
theorem slice_to (R n g : Nat) (hg : g ≤ n) : ∃ c, ∀ w,
    (Instr.sliceAt 43 (.slice (some ⟨R, 0, none⟩) n n) none (some (.int .i64 (g : Int))) none).run Try.prog w = .ok (.slice (some ⟨R, 0, none⟩) g c) w := by
  refine ⟨n, fun w => ?_⟩
  rw [run_sliceAt_slice w 43 _ _ _ _ Try.underlying43, run_slice_h w 43 _ _ _ Try.underlying43 .i64 (g : Int) (by omega) (by omega), Try.elemC16]
  simp [sliced, Addr.add]

set_option maxHeartbeats 2000000 in
/-- A time is met. -/
theorem wmeet_any {P R n : Nat} {wd last : Int} {X Y : Nat → Int} (t : Int) (w : World) (h : Win w P R n wd last X Y) (hl : last ≤ 1099511627776) :
    Calls Try.prog 21 #[.pointer (some ⟨P, 0, none⟩), .int .i64 t] w fun e w' => e = .returned (.tuple #[]) ∧
      Win w' P R n wd (max last (Tk.clamp t / wd)) (Wn.shift (Wn.gone n last (Tk.clamp t / wd)) X) (Wn.shift (Wn.gone n last (Tk.clamp t / wd)) Y) ∧ Rest (fun k => k = P ∨ k = R) w w' := by
  have H := Lib.hid h
  obtain ⟨c0, c1, c2⟩ := h.cells
  have hwd := h.wide
  have hl0 := h.from_
  have hn0 := h.some_
  have hn16 := h.few
  have hcl := fun w => clamp_any t w
  have hc0 := Tk.clamp_lo t
  have hc1 := Tk.clamp_hi t
  generalize Tk.clamp t = c at hcl hc0 hc1 ⊢
  have hq : c.tdiv wd = c / wd := Int.tdiv_eq_ediv_of_nonneg hc0
  have hb0 : 0 ≤ c / wd := Int.ediv_nonneg hc0 (by omega)
  have hb1 : c / wd ≤ c := Int.ediv_le_self _ hc0
  have hwb : IntKind.i64.wrap (c / wd) = c / wd := by rw [IntKind.wrap_i64]; omega
  have hne : wd ≠ 0 := by omega
  generalize c / wd = b at hq hb0 hb1 hwb ⊢
  clear h
  go_enter Try.func21, Try.ntmps21
  go_wp2_with fail
  refine wp_region_held_drew (S := fun w' => w'.cell? ⟨P, 0, none⟩ = some (.int .i64 wd)) (by kernel_rfl) c0 (fun hHeld => ?_)
  have H1 := Lib.hid (H.out.past (Rest.drew (fun _ => False) w) id id)
  have HR := Lib.hid (Rest.drew (fun k => k = P ∨ k = R) w)
  clear H c0 c1 c2
  generalize w.drew = wd1 at H1 HR hHeld ⊢
  refine wpAnyH_yield 0 (.int .i64 t) rfl (by kernel_rfl) (by kernel_rfl) (by kernel_rfl) (fun d _ _ _ h => by cases d <;> exact h) (by rfl) (by assumption) (fun _ _ => by go_simp) ?_
  simp only [Act.put, List.setIfInBounds_toArray, List.set_cons_zero, List.set_cons_succ]
  refine wpAnyH_yield 2 (.pointer (some ⟨P, 0, none⟩)) rfl (by kernel_rfl) (by kernel_rfl) (by kernel_rfl) (fun d _ _ _ h => by cases d <;> exact h) (by rfl) (by assumption) (fun _ _ => by go_simp) ?_
  simp only [Act.put, List.setIfInBounds_toArray, List.set_cons_zero, List.set_cons_succ]
  refine wpAnyH_yield 3 (.pointer (some ⟨P, 0, none⟩)) rfl (by kernel_rfl) (by kernel_rfl) (by kernel_rfl) (fun d _ _ _ h => by cases d <;> exact h) (by rfl) (by assumption) (fun _ _ => by go_simp) ?_
  simp only [Act.put, List.setIfInBounds_toArray, List.set_cons_zero, List.set_cons_succ]
  refine wpAnyH_yield 4 (.pointer (some ⟨P, 0, none⟩)) rfl (by kernel_rfl) (by kernel_rfl) (by kernel_rfl) (fun d _ _ _ h => by cases d <;> exact h) (by rfl) (by assumption) (fun _ _ => by go_simp) ?_
  simp only [Act.put, List.setIfInBounds_toArray, List.set_cons_zero, List.set_cons_succ]
  refine wpAnyH_yield 5 (.int .i64 wd) rfl (by kernel_rfl) (by kernel_rfl) (by kernel_rfl) (fun d _ _ _ h => by cases d <;> exact h) (by rfl) (by assumption) (fun _ hSw => by (try dsimp only at hSw); go_simp) ?_
  simp only [Act.put, List.setIfInBounds_toArray, List.set_cons_zero, List.set_cons_succ]
  refine wpAnyH_ready (rs := [1]) (by kernel_rfl) (by simp) (AllReadyH.cons rfl (fun K hK => ?_) AllReadyH.nil)
  go_simp
  go_at_call 25
  refine (hcl _).mono ?_
  rintro e w2 ⟨rfl, rfl⟩
  refine hK.out _ _ (hHeld) (fun hHeld => ?_)
  clear hK K
  try simp only [Act.put, List.setIfInBounds_toArray, List.set_cons_zero, List.set_cons_succ]
  refine wpAnyH_yield 6 (.int .i64 b) rfl (by kernel_rfl) (by kernel_rfl) (by kernel_rfl) (fun d _ _ _ h => by cases d <;> exact h) (by rfl) (by assumption) (fun _ _ => by go_simp) ?_
  simp only [Act.put, List.setIfInBounds_toArray, List.set_cons_zero, List.set_cons_succ]
  refine wpAnyH_yield 7 (.int .i64 b) rfl (by kernel_rfl) (by kernel_rfl) (by kernel_rfl) (fun d _ _ _ h => by cases d <;> exact h) (by rfl) (by assumption) (fun _ _ => by go_simp) ?_
  simp only [Act.put, List.setIfInBounds_toArray, List.set_cons_zero, List.set_cons_succ]
  refine wpAnyH_done (by kernel_rfl) ?_ _
  obtain ⟨c0, c1, c2⟩ := H1.out.cells
  clear hHeld hcl c0 hq hne hwb
  by_cases hbl : b ≤ last
  · go_wp2_with fail
    refine bodyPost_ret (results_none rfl _ _ _) rfl ?_
    rw [Wn.gone_zero n hbl, Wn.shift_zero, Wn.shift_zero, Int.max_eq_left hbl]
    exact ⟨rfl, H1.out, HR.out⟩
  · have hg1 := Wn.gone_pos (n := n) hbl
    have hg2 := Wn.gone_le n last b
    have hmx : max last b = b := by omega
    have hws : IntKind.i64.wrap (b - last) = b - last := by rw [IntKind.wrap_i64]; omega
    have HG := Lib.hid hmx
    generalize hgg : Wn.gone n last b = g at hg1 hg2
    have HGG := Lib.hid hgg
    clear hgg
    have hm1 : (if b - last < (n : Int) then b - last else (n : Int)) = (g : Int) := by omega
    have hm2 : (if (n : Int) < b - last then (n : Int) else b - last) = (g : Int) := by omega
    clear hg1 hmx
    go_wp2_with fail
    refine wp_region_held_drew (S := fun w' => w'.cell? ⟨P, 1, none⟩ = some (.int .i64 last) ∧ w'.cell? ⟨P, 2, none⟩ = some (.slice (some ⟨R, 0, none⟩) n n)) (by kernel_rfl) ⟨c1, c2⟩ (fun hHeld => ?_)
    have H2 := Lib.hid (H1.out.past (Rest.drew (fun _ => False) _) id id)
    have HR2 := Lib.hid (HR.out.trans (o3 := fun k => k = P ∨ k = R) (Rest.drew (fun k => k = P ∨ k = R) _) (fun _ _ => id) (fun _ _ => id))
    clear H1 HR c1 c2
    generalize wd1.drew = w3 at H2 HR2 hHeld ⊢
    refine wpAnyH_yield 0 (.int .i64 b) rfl (by kernel_rfl) (by kernel_rfl) (by kernel_rfl) (fun d _ _ _ h => by cases d <;> exact h) (by rfl) (by assumption) (fun _ _ => by go_simp) ?_
    simp only [Act.put, List.setIfInBounds_toArray, List.set_cons_zero, List.set_cons_succ]
    refine wpAnyH_yield 1 (.pointer (some ⟨P, 0, none⟩)) rfl (by kernel_rfl) (by kernel_rfl) (by kernel_rfl) (fun d _ _ _ h => by cases d <;> exact h) (by rfl) (by assumption) (fun _ _ => by go_simp) ?_
    simp only [Act.put, List.setIfInBounds_toArray, List.set_cons_zero, List.set_cons_succ]
    refine wpAnyH_yield 2 (.pointer (some ⟨P, 0, none⟩)) rfl (by kernel_rfl) (by kernel_rfl) (by kernel_rfl) (fun d _ _ _ h => by cases d <;> exact h) (by rfl) (by assumption) (fun _ _ => by go_simp) ?_
    simp only [Act.put, List.setIfInBounds_toArray, List.set_cons_zero, List.set_cons_succ]
    refine wpAnyH_yield 3 (.pointer (some ⟨P, 1, none⟩)) rfl (by kernel_rfl) (by kernel_rfl) (by kernel_rfl) (fun d _ _ _ h => by cases d <;> exact h) (by rfl) (by assumption) (fun _ _ => by go_simp) ?_
    simp only [Act.put, List.setIfInBounds_toArray, List.set_cons_zero, List.set_cons_succ]
    refine wpAnyH_yield 4 (.int .i64 last) rfl (by kernel_rfl) (by kernel_rfl) (by kernel_rfl) (fun d _ _ _ h => by cases d <;> exact h) (by rfl) (by assumption) (fun _ hSw => by (try dsimp only at hSw); go_simp) ?_
    simp only [Act.put, List.setIfInBounds_toArray, List.set_cons_zero, List.set_cons_succ]
    refine wpAnyH_yield 5 (.int .i64 (b - last)) rfl (by kernel_rfl) (by kernel_rfl) (by kernel_rfl) (fun d _ _ _ h => by cases d <;> exact h) (by rfl) (by assumption) (fun _ _ => by go_simp) ?_
    simp only [Act.put, List.setIfInBounds_toArray, List.set_cons_zero, List.set_cons_succ]
    refine wpAnyH_yield 6 (.pointer (some ⟨P, 0, none⟩)) rfl (by kernel_rfl) (by kernel_rfl) (by kernel_rfl) (fun d _ _ _ h => by cases d <;> exact h) (by rfl) (by assumption) (fun _ _ => by go_simp) ?_
    simp only [Act.put, List.setIfInBounds_toArray, List.set_cons_zero, List.set_cons_succ]
    refine wpAnyH_yield 7 (.pointer (some ⟨P, 0, none⟩)) rfl (by kernel_rfl) (by kernel_rfl) (by kernel_rfl) (fun d _ _ _ h => by cases d <;> exact h) (by rfl) (by assumption) (fun _ _ => by go_simp) ?_
    simp only [Act.put, List.setIfInBounds_toArray, List.set_cons_zero, List.set_cons_succ]
    refine wpAnyH_yield 8 (.pointer (some ⟨P, 2, none⟩)) rfl (by kernel_rfl) (by kernel_rfl) (by kernel_rfl) (fun d _ _ _ h => by cases d <;> exact h) (by rfl) (by assumption) (fun _ _ => by go_simp) ?_
    simp only [Act.put, List.setIfInBounds_toArray, List.set_cons_zero, List.set_cons_succ]
    refine wpAnyH_yield 9 (.slice (some ⟨R, 0, none⟩) n n) rfl (by kernel_rfl) (by kernel_rfl) (by kernel_rfl) (fun d _ _ _ h => by cases d <;> exact h) (by rfl) (by assumption) (fun _ hSw => by (try dsimp only at hSw); go_simp) ?_
    simp only [Act.put, List.setIfInBounds_toArray, List.set_cons_zero, List.set_cons_succ]
    refine wpAnyH_yield 10 (.int .i64 (n : Int)) rfl (by kernel_rfl) (by kernel_rfl) (by kernel_rfl) (fun d _ _ _ h => by cases d <;> exact h) (by rfl) (by assumption) (fun _ _ => by go_simp) ?_
    simp only [Act.put, List.setIfInBounds_toArray, List.set_cons_zero, List.set_cons_succ]
    refine wpAnyH_yield 11 (.int .i64 (g : Int)) rfl (by kernel_rfl) (by kernel_rfl) (by kernel_rfl) (fun d _ _ _ h => by cases d <;> exact h) (by rfl) (by assumption) (fun _ _ => by go_simp) ?_
    simp only [Act.put, List.setIfInBounds_toArray, List.set_cons_zero, List.set_cons_succ]
    refine wpAnyH_yield 12 (.int .i64 (g : Int)) rfl (by kernel_rfl) (by kernel_rfl) (by kernel_rfl) (fun d _ _ _ h => by cases d <;> exact h) (by rfl) (by assumption) (fun _ _ => by go_simp) ?_
    simp only [Act.put, List.setIfInBounds_toArray, List.set_cons_zero, List.set_cons_succ]
    refine wpAnyH_done (by kernel_rfl) ?_ _
    clear hHeld hws hm1 hm2
    obtain ⟨o, ho1, ho2, hsl⟩ := slice_from R n g hg2 hn16
    obtain ⟨sc, hst⟩ := slice_to R n g hg2
    obtain ⟨c0, c1, c2⟩ := H2.out.cells
    clear c0 c1
    go_wp2_with fail
    refine wp_region_held_drew (S := fun w' => w'.cell? ⟨P, 2, none⟩ = some (.slice (some ⟨R, 0, none⟩) n n)) (by kernel_rfl) c2 (fun hHeld => ?_)
    have H3 := Lib.hid (H2.out.past (Rest.drew (fun _ => False) _) id id)
    have HR3 := Lib.hid (HR2.out.trans (o3 := fun k => k = P ∨ k = R) (Rest.drew (fun k => k = P ∨ k = R) _) (fun _ _ => id) (fun _ _ => id))
    clear H2 HR2 c2
    generalize w3.drew = w4 at H3 HR3 hHeld ⊢
    refine wpAnyH_yield 0 (.pointer (some ⟨P, 0, none⟩)) rfl (by kernel_rfl) (by kernel_rfl) (by kernel_rfl) (fun d _ _ _ h => by cases d <;> exact h) (by rfl) (by assumption) (fun _ _ => by go_simp) ?_
    simp only [Act.put, List.setIfInBounds_toArray, List.set_cons_zero, List.set_cons_succ]
    refine wpAnyH_yield 1 (.pointer (some ⟨P, 0, none⟩)) rfl (by kernel_rfl) (by kernel_rfl) (by kernel_rfl) (fun d _ _ _ h => by cases d <;> exact h) (by rfl) (by assumption) (fun _ _ => by go_simp) ?_
    simp only [Act.put, List.setIfInBounds_toArray, List.set_cons_zero, List.set_cons_succ]
    refine wpAnyH_yield 2 (.pointer (some ⟨P, 2, none⟩)) rfl (by kernel_rfl) (by kernel_rfl) (by kernel_rfl) (fun d _ _ _ h => by cases d <;> exact h) (by rfl) (by assumption) (fun _ _ => by go_simp) ?_
    simp only [Act.put, List.setIfInBounds_toArray, List.set_cons_zero, List.set_cons_succ]
    refine wpAnyH_yield 3 (.slice (some ⟨R, 0, none⟩) n n) rfl (by kernel_rfl) (by kernel_rfl) (by kernel_rfl) (fun d _ _ _ h => by cases d <;> exact h) (by rfl) (by assumption) (fun _ hSw => by (try dsimp only at hSw); go_simp) ?_
    simp only [Act.put, List.setIfInBounds_toArray, List.set_cons_zero, List.set_cons_succ]
    refine wpAnyH_yield 4 (.int .i64 (g : Int)) rfl (by kernel_rfl) (by kernel_rfl) (by kernel_rfl) (fun d _ _ _ h => by cases d <;> exact h) (by rfl) (by assumption) (fun _ _ => by go_simp) ?_
    simp only [Act.put, List.setIfInBounds_toArray, List.set_cons_zero, List.set_cons_succ]
    refine wpAnyH_yield 5 (.slice (some ⟨R, o, none⟩) (n - g) (n - g)) rfl (by kernel_rfl) (by kernel_rfl) (by kernel_rfl) (fun d _ _ _ h => by cases d <;> exact h) (by rfl) (by assumption) (fun _ _ => by go_simp) ?_
    simp only [Act.put, List.setIfInBounds_toArray, List.set_cons_zero, List.set_cons_succ]
    refine wpAnyH_yield 6 (.pointer (some ⟨P, 0, none⟩)) rfl (by kernel_rfl) (by kernel_rfl) (by kernel_rfl) (fun d _ _ _ h => by cases d <;> exact h) (by rfl) (by assumption) (fun _ _ => by go_simp) ?_
    simp only [Act.put, List.setIfInBounds_toArray, List.set_cons_zero, List.set_cons_succ]
    refine wpAnyH_yield 7 (.pointer (some ⟨P, 0, none⟩)) rfl (by kernel_rfl) (by kernel_rfl) (by kernel_rfl) (fun d _ _ _ h => by cases d <;> exact h) (by rfl) (by assumption) (fun _ _ => by go_simp) ?_
    simp only [Act.put, List.setIfInBounds_toArray, List.set_cons_zero, List.set_cons_succ]
    refine wpAnyH_yield 8 (.pointer (some ⟨P, 2, none⟩)) rfl (by kernel_rfl) (by kernel_rfl) (by kernel_rfl) (fun d _ _ _ h => by cases d <;> exact h) (by rfl) (by assumption) (fun _ _ => by go_simp) ?_
    simp only [Act.put, List.setIfInBounds_toArray, List.set_cons_zero, List.set_cons_succ]
    refine wpAnyH_yield 9 (.slice (some ⟨R, 0, none⟩) n n) rfl (by kernel_rfl) (by kernel_rfl) (by kernel_rfl) (fun d _ _ _ h => by cases d <;> exact h) (by rfl) (by assumption) (fun _ hSw => by (try dsimp only at hSw); go_simp) ?_
    simp only [Act.put, List.setIfInBounds_toArray, List.set_cons_zero, List.set_cons_succ]
    obtain ⟨w5, hcp, hr5, hrow5⟩ := H3.out.copied hg2 ho1 ho2
    obtain ⟨w6, hcr, hr6, hrow6⟩ := win_cleared hrow5 hg2
    have hp5 := (hr5.block P (heap_lt H3.out.win) H3.out.apart).trans H3.out.win
    have c5 : w5.cell? ⟨P, 2, none⟩ = some (.slice (some ⟨R, 0, none⟩) n n) := cell_of_row _ _ _ _ _ _ hp5
    have hp6 := (hr6.block P (heap_lt hp5) H3.out.apart).trans hp5
    have c6 : w6.cell? ⟨P, 1, none⟩ = some (.int .i64 last) := cell_of_row _ _ _ _ _ _ hp6
    have f6 : w6.frozen? ⟨P, 1, none⟩ = false := frozen_of_row _ _ _ _ _ hp6
    have HE := Lib.hid (H3.out.moved hb0 hr5 hr6 hrow6)
    have HRE := Lib.hid HR3.out
    clear hr5 hr6 hrow5 hrow6 hp5 hp6 H3 HR3 hsl ho1 ho2
    refine wpAnyH_ready (rs := [10]) (by kernel_rfl) (by simp) (AllReadyH.cons rfl (fun K hK => ?_) AllReadyH.nil)
    go_simp
    refine hK.out _ _ (c5) (fun hHeld => ?_)
    clear hK K
    try simp only [Act.put, List.setIfInBounds_toArray, List.set_cons_zero, List.set_cons_succ]
    refine wpAnyH_done (by kernel_rfl) ?_ _
    clear hHeld hcp
    go_wp2_with fail
    go_end0
    rw [HG.out, HGG.out]
    exact ⟨rfl, HE.out.1, HRE.out.trans (o3 := fun k => k = P ∨ k = R) HE.out.2 (fun _ _ => id) (fun _ _ => id)⟩

end Go.Proofs.Ytieggfnkhpfccaa
