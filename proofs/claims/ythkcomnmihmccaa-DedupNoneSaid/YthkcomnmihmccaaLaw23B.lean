/- DedupNone. -/
import Derived.Test.YthkcomnmihmccaaLaw23A
namespace Go.Proofs.Ythkcomnmihmccaa
open Go.RowKit Go.Sort

namespace Dd
/-- The first ones, each met once. -/
def firsts (m : Nat) : List Cl := (List.range m).map fun (j : Nat) => first 0 (j : Int) 0
theorem firsts_length (m : Nat) : (firsts m).length = m := by simp [firsts]
theorem firsts_more (m : Nat) : firsts m ++ [first 0 (m : Int) 0] = firsts (m + 1) := by simp [firsts, List.range_succ]
theorem firsts_non {m i : Nat} (h : m ≤ i) : Non (firsts m) 0 (i : Int) := by
  intro j y hj
  have hl := (List.getElem?_eq_some_iff.1 hj).1
  rw [firsts_length] at hl
  have : y = first 0 (j : Int) 0 := by simpa [firsts, hl] using hj.symm
  rw [this]
  rintro ⟨-, e⟩
  have e : (j : Int) = (i : Int) := e
  omega
theorem room_nat (r : Int) : ∃ N : Nat, N ≤ 64 ∧ room r = (N : Int) := by
  refine ⟨(room r).toNat, ?_, ?_⟩ <;> unfold room <;> omega
end Dd

set_option maxHeartbeats 4000000 in
set_option maxRecDepth 100000 in
/-- DedupNone. -/
theorem dednone_any (k c s t g a r q v R : Int) (su st : Bool) (w : World) : Calls Try.prog 4 #[.agg #[.int .i64 k, .int .i64 c, .int .i64 s, .int .i64 t, .int .i64 g, .int .u32 a, .int .i64 r, .bool su, .bool st, .int .i64 q, .int .u32 v], .int .i64 R] w fun e w' => e = .returned (.bool true) ∧ Below w.heap.size w w' := by
  have H := Lib.hid ((Upon.start (fun _ => False) w).lay (.cells #[.int .i64 k, .int .i64 c, .int .i64 s, .int .i64 t, .int .i64 g, .int .u32 a, .int .i64 r, .bool su, .bool st, .int .i64 q, .int .u32 v] 28))
  obtain ⟨f0, f1, f2, f3, f4, f5, f6, f7, f8, f9, f10⟩ := frame_cells (H.out.get 0 rfl)
  go_enter Try.func4, Try.ntmps4
  go_upto_region 1 with fail
  generalize w.alloc _ = w1 at H f0 f1 f2 f3 f4 f5 f6 f7 f8 f9 f10 ⊢
  generalize w.heap.size = bF at H f0 f1 f2 f3 f4 f5 f6 f7 f8 f9 f10 ⊢
  go_wp2_with fail
  refine (ddone_nil k c s t g a r q v su st true 1 w1).mono ?_
  rintro e w2 ⟨rfl, hb⟩
  have H2 := Lib.hid (H.out.call hb)
  clear hb H f0 f1 f2 f3 f4 f5 f6 f7 f8 f9 f10
  obtain ⟨f0, f1, f2, f3, f4, f5, f6, f7, f8, f9, f10⟩ := frame_cells (H2.out.get 0 rfl)
  go_wp2_with fail
  refine (dvalue_nil k c s t g a r q v su st w2).mono ?_
  rintro e w3 ⟨rfl, hb⟩
  have H3 := Lib.hid (H2.out.call hb)
  clear hb H2 f0 f1 f2 f3 f4 f5 f6 f7 f8 f9 f10
  go_wp2_with fail
  refine (dw_new R w3).mono ?_
  rintro e w4 ⟨rfl, h4⟩
  have HB4 := Lib.hid ((h4.rest.block _ (lt_of_block (H3.out.get 0 rfl)) (fun x => x)).trans (H3.out.get 0 rfl))
  obtain ⟨N, hN, hroom⟩ := Dd.room_nat R
  rw [hroom] at h4
  generalize w3.heap.size = P at h4 ⊢
  have H4 := Lib.hid (h4.lay (.cells #[.int .i64 k, .int .i64 c, .int .i64 s, .int .i64 t, .int .i64 g, .int .u32 a, .int .i64 r, .bool su, .bool st, .int .i64 q, .int .u32 v] 28))
  clear h4
  obtain ⟨f0, f1, f2, f3, f4, f5, f6, f7, f8, f9, f10⟩ := frame_cells HB4.out
  go_upto_region 6 with fail
  clear f0 f1 f2 f3 f4 f5 f6 f7 f8 f9 f10
  generalize w4.alloc _ = w5 at H4 ⊢
  generalize w4.heap.size = bG at H4 ⊢
  have e6 := (frame_free (H4.out.get 0 rfl)).2.2.2.2.2.2.1
  obtain ⟨-, -, -, -, -, -, c6, -⟩ := frame_cells (H4.out.get 0 rfl)
  go_upto_region 7 with fail
  have H5 : Hid (Dw w3 (w5.setCell ⟨bG, 6, none⟩ (.int .i64 16)) P (N : Int) [] [(bG, Is (.cells #[.int .i64 k, .int .i64 c, .int .i64 s, .int .i64 t, .int .i64 g, .int .u32 a, .int .i64 16, .bool su, .bool st, .int .i64 q, .int .u32 v] 28 (0, 0)))]) := Lib.hid (H4.out.set (heap_setCell_same _ _ 6 _ _ (.int .i64 16) (H4.out.get 0 rfl)))
  clear H4 e6 c6 HB4
  generalize w5.setCell _ _ = w6 at H5 ⊢
  have hN' : (N : Int) ≤ 64 := by omega
  go_wp2_with fail
  go_loopg [11, 12] (71 : Nat) (fun gh s11 s12 wx => ∃ (i m : Nat), s12 = .int .i64 (i : Int) ∧ i ≤ 70 ∧ 71 - i ≤ gh ∧ s11 = .int .i64 (m : Int) ∧ Hid (m = min i N) ∧ Hid (Dw w3 wx P (N : Int) (Dd.firsts m) [(bG, Is (.cells #[.int .i64 k, .int .i64 c, .int .i64 s, .int .i64 t, .int .i64 g, .int .u32 a, .int .i64 16, .bool su, .bool st, .int .i64 q, .int .u32 v] 28 (0, 0)))]))
  case atStart => exact ⟨0, 0, rfl, by omega, by omega, rfl, Lib.hid (by omega), H5⟩
  case round =>
    obtain ⟨i, m, rfl, hi, hg, rfl, HM, HD⟩ := hrel
    clear H5
    have hw : IntKind.i64.wrap ((i : Int) + 1) = (i : Int) + 1 := by rw [IntKind.wrap_i64]; omega
    by_cases hi70 : i < 70
    · have hi70' : (i : Int) < 70 := by omega
      have hu : IntKind.u32.wrap (i : Int) = (i : Int) := by rw [IntKind.wrap_u32]; omega
      have hmw : IntKind.i64.wrap ((m : Int) + 1) = (m : Int) + 1 := by rw [IntKind.wrap_i64]; have := HM.out; omega
      by_cases hiN : i < N
      · obtain rfl : m = i := by have := HM.out; omega
        go_wp2_with fail
        refine (dw_fresh (T := 0) (by decide) (by rw [Dd.firsts_length]; omega) (Dd.firsts_non (Nat.le_refl _)) (by rw [Dd.firsts_length]; omega) _ HD.out).mono ?_
        rintro e w7 ⟨rfl, h7⟩
        rw [Dd.firsts_more] at h7
        have H7 := Lib.hid h7
        clear h7 HD
        go_wp2_with fail
        go_roundg (71 - (m + 1))
        case measure => omega
        case rel => exact ⟨m + 1, m + 1, by push_cast; rfl, by omega, by omega, by push_cast; rfl, Lib.hid (by omega), H7⟩
      · have hmN : m = N := by have := HM.out; omega
        have HMN := Lib.hid hmN
        clear hmN hmw
        go_wp2_with fail
        refine (dw_full (T := 0) (by decide) (by rw [Dd.firsts_length]; have := HMN.out; omega) (Dd.firsts_non (by have := HMN.out; omega)) (by rw [Dd.firsts_length]; have := HMN.out; omega) _ HD.out).mono ?_
        rintro e w7 ⟨rfl, h7⟩
        have H7 := Lib.hid h7
        clear h7 HD
        go_wp2_with fail
        go_roundg (71 - (i + 1))
        case measure => omega
        case rel => exact ⟨i + 1, m, by push_cast; rfl, by omega, by omega, rfl, Lib.hid (by have := HMN.out; omega), H7⟩
    · obtain rfl : i = 70 := by omega
      have hmN : m = N := by have := HM.out; omega
      subst hmN
      have HU := Lib.hid (H3.out.made (HD.out.rest.below (Nat.le_refl _) (fun _ => False.elim)) (HD.out.get 0 rfl) (HD.out.old 0 rfl))
      have hR : max 0 (min R 64) = (m : Int) := hroom
      have hR2 : min (max R 0) 64 = (m : Int) := by omega
      have h00 : IntKind.i64.wrap 0 = 0 := by decide
      have HR1 := Lib.hid (show (if R < 0 then 0 else R) = max R 0 by omega)
      clear HD HM hg hi hi70 hw hroom hR H3 hN'
      go_wp2_with fail
      refine wp_region_held_drew (S := fun w' => w'.heap[bF]? = some (.cells #[.int .i64 k, .int .i64 c, .int .i64 s, .int .i64 t, .int .i64 g, .int .u32 a, .int .i64 r, .bool su, .bool st, .int .i64 q, .int .u32 v] 28 (0, 0)) ∧ w'.heap[bG]? = some (.cells #[.int .i64 k, .int .i64 c, .int .i64 s, .int .i64 t, .int .i64 g, .int .u32 a, .int .i64 16, .bool su, .bool st, .int .i64 q, .int .u32 v] 28 (0, 0))) (by kernel_rfl) ⟨HU.out.get 1 rfl, HU.out.get 0 rfl⟩ (fun hHeld => ?_)
      replace HU := Lib.hid HU.out.drew
      generalize World.drew _ = wd at HU hHeld ⊢
      refine wpAnyH_ready (rs := [0]) (by kernel_rfl) (by simp) (AllReadyH.cons rfl (fun K hK => ?_) AllReadyH.nil)
      go_simp
      go_at_call 12
      refine (awake23_any _).mono ?_
      rintro e wk ⟨rfl, hb⟩
      replace HU := Lib.hid (HU.out.call hb)
      clear hb
      refine hK.out _ _ (⟨HU.out.get 1 rfl, HU.out.get 0 rfl⟩) (fun hHeld => ?_)
      clear hK K
      try simp only [Act.put, List.setIfInBounds_toArray, List.set_cons_zero, List.set_cons_succ]
      refine wpAnyH_yield 1 (.bool true) rfl (by kernel_rfl) (by kernel_rfl) (by kernel_rfl) (fun d _ _ _ h => by cases d <;> exact h) (by rfl) (by assumption) (fun _ _ => by go_simp) ?_
      simp only [Act.put, List.setIfInBounds_toArray, List.set_cons_zero, List.set_cons_succ]
      refine wpAnyH_yield 2 (.pointer none) rfl (by kernel_rfl) (by kernel_rfl) (by kernel_rfl) (fun d _ _ _ h => by cases d <;> exact h) (by rfl) (by assumption) (fun _ _ => by go_simp) ?_
      simp only [Act.put, List.setIfInBounds_toArray, List.set_cons_zero, List.set_cons_succ]
      refine wpAnyH_yield 3 (.agg #[.int .i64 k, .int .i64 c, .int .i64 s, .int .i64 t, .int .i64 g, .int .u32 a, .int .i64 r, .bool su, .bool st, .int .i64 q, .int .u32 v]) rfl (by kernel_rfl) (by kernel_rfl) (by kernel_rfl) (fun d _ _ _ h => by cases d <;> exact h) (by rfl) (by assumption) (fun _ hSw => by have hcs := frame_cells hSw.1; go_simp) ?_
      simp only [Act.put, List.setIfInBounds_toArray, List.set_cons_zero, List.set_cons_succ]
      refine wpAnyH_ready (rs := [4]) (by kernel_rfl) (by simp) (AllReadyH.cons rfl (fun K hK => ?_) AllReadyH.nil)
      go_simp
      go_at_call 6
      refine (dmeet_nil k c s t g a r q v su st _).mono ?_
      rintro e wk ⟨rfl, hb⟩
      replace HU := Lib.hid (HU.out.call hb)
      clear hb
      refine hK.out _ _ (⟨HU.out.get 1 rfl, HU.out.get 0 rfl⟩) (fun hHeld => ?_)
      clear hK K
      try simp only [Act.put, List.setIfInBounds_toArray, List.set_cons_zero, List.set_cons_succ]
      refine wpAnyH_yield 5 (.bool true) rfl (by kernel_rfl) (by kernel_rfl) (by kernel_rfl) (fun d _ _ _ h => by cases d <;> exact h) (by rfl) (by assumption) (fun _ _ => by go_simp) ?_
      simp only [Act.put, List.setIfInBounds_toArray, List.set_cons_zero, List.set_cons_succ]
      refine wpAnyH_yield 6 (.bool true) rfl (by kernel_rfl) (by kernel_rfl) (by kernel_rfl) (fun d _ _ _ h => by cases d <;> exact h) (by rfl) (by assumption) (fun _ _ => by go_simp) ?_
      simp only [Act.put, List.setIfInBounds_toArray, List.set_cons_zero, List.set_cons_succ]
      refine wpAnyH_yield 7 (.bool true) rfl (by kernel_rfl) (by kernel_rfl) (by kernel_rfl) (fun d _ _ _ h => by cases d <;> exact h) (by rfl) (by assumption) (fun _ _ => by go_simp) ?_
      simp only [Act.put, List.setIfInBounds_toArray, List.set_cons_zero, List.set_cons_succ]
      refine wpAnyH_yield 8 (.bool false) rfl (by kernel_rfl) (by kernel_rfl) (by kernel_rfl) (fun d _ _ _ h => by cases d <;> exact h) (by rfl) (by assumption) (fun _ _ => by go_simp) ?_
      simp only [Act.put, List.setIfInBounds_toArray, List.set_cons_zero, List.set_cons_succ]
      refine wpAnyH_yield 9 (.bool true) rfl (by kernel_rfl) (by kernel_rfl) (by kernel_rfl) (fun d _ _ _ h => by cases d <;> exact h) (by rfl) (by assumption) (fun _ _ => by go_simp) ?_
      simp only [Act.put, List.setIfInBounds_toArray, List.set_cons_zero, List.set_cons_succ]
      refine wpAnyH_yield 10 (.bool true) rfl (by kernel_rfl) (by kernel_rfl) (by kernel_rfl) (fun d _ _ _ h => by cases d <;> exact h) (by rfl) (by assumption) (fun _ _ => by go_simp) ?_
      simp only [Act.put, List.setIfInBounds_toArray, List.set_cons_zero, List.set_cons_succ]
      refine wpAnyH_yield 11 (.bool true) rfl (by kernel_rfl) (by kernel_rfl) (by kernel_rfl) (fun d _ _ _ h => by cases d <;> exact h) (by rfl) (by assumption) (fun _ _ => by go_simp) ?_
      simp only [Act.put, List.setIfInBounds_toArray, List.set_cons_zero, List.set_cons_succ]
      refine wpAnyH_yield 12 (.pointer none) rfl (by kernel_rfl) (by kernel_rfl) (by kernel_rfl) (fun d _ _ _ h => by cases d <;> exact h) (by rfl) (by assumption) (fun _ _ => by go_simp) ?_
      simp only [Act.put, List.setIfInBounds_toArray, List.set_cons_zero, List.set_cons_succ]
      refine wpAnyH_yield 13 (.agg #[.int .i64 k, .int .i64 c, .int .i64 s, .int .i64 t, .int .i64 g, .int .u32 a, .int .i64 r, .bool su, .bool st, .int .i64 q, .int .u32 v]) rfl (by kernel_rfl) (by kernel_rfl) (by kernel_rfl) (fun d _ _ _ h => by cases d <;> exact h) (by rfl) (by assumption) (fun _ hSw => by have hcs := frame_cells hSw.1; go_simp) ?_
      simp only [Act.put, List.setIfInBounds_toArray, List.set_cons_zero, List.set_cons_succ]
      refine wpAnyH_ready (rs := [14]) (by kernel_rfl) (by simp) (AllReadyH.cons rfl (fun K hK => ?_) AllReadyH.nil)
      go_simp
      go_at_call 8
      refine (dack_nil k c s t g a r q v su st _).mono ?_
      rintro e wk ⟨rfl, hb⟩
      replace HU := Lib.hid (HU.out.call hb)
      clear hb
      refine hK.out _ _ (⟨HU.out.get 1 rfl, HU.out.get 0 rfl⟩) (fun hHeld => ?_)
      clear hK K
      try simp only [Act.put, List.setIfInBounds_toArray, List.set_cons_zero, List.set_cons_succ]
      refine wpAnyH_yield 15 (.bool true) rfl (by kernel_rfl) (by kernel_rfl) (by kernel_rfl) (fun d _ _ _ h => by cases d <;> exact h) (by rfl) (by assumption) (fun _ _ => by go_simp) ?_
      simp only [Act.put, List.setIfInBounds_toArray, List.set_cons_zero, List.set_cons_succ]
      refine wpAnyH_yield 16 (.bool true) rfl (by kernel_rfl) (by kernel_rfl) (by kernel_rfl) (fun d _ _ _ h => by cases d <;> exact h) (by rfl) (by assumption) (fun _ _ => by go_simp) ?_
      simp only [Act.put, List.setIfInBounds_toArray, List.set_cons_zero, List.set_cons_succ]
      refine wpAnyH_yield 17 (.bool true) rfl (by kernel_rfl) (by kernel_rfl) (by kernel_rfl) (fun d _ _ _ h => by cases d <;> exact h) (by rfl) (by assumption) (fun _ _ => by go_simp) ?_
      simp only [Act.put, List.setIfInBounds_toArray, List.set_cons_zero, List.set_cons_succ]
      refine wpAnyH_yield 18 (.pointer none) rfl (by kernel_rfl) (by kernel_rfl) (by kernel_rfl) (fun d _ _ _ h => by cases d <;> exact h) (by rfl) (by assumption) (fun _ _ => by go_simp) ?_
      simp only [Act.put, List.setIfInBounds_toArray, List.set_cons_zero, List.set_cons_succ]
      refine wpAnyH_yield 19 (.agg #[.int .i64 k, .int .i64 c, .int .i64 s, .int .i64 t, .int .i64 g, .int .u32 a, .int .i64 r, .bool su, .bool st, .int .i64 q, .int .u32 v]) rfl (by kernel_rfl) (by kernel_rfl) (by kernel_rfl) (fun d _ _ _ h => by cases d <;> exact h) (by rfl) (by assumption) (fun _ hSw => by have hcs := frame_cells hSw.1; go_simp) ?_
      simp only [Act.put, List.setIfInBounds_toArray, List.set_cons_zero, List.set_cons_succ]
      refine wpAnyH_yield 21 (.pointer none) rfl (by kernel_rfl) (by kernel_rfl) (by kernel_rfl) (fun d _ _ _ h => by cases d <;> exact h) (by rfl) (by assumption) (fun _ _ => by go_simp) ?_
      simp only [Act.put, List.setIfInBounds_toArray, List.set_cons_zero, List.set_cons_succ]
      refine wpAnyH_ready (rs := [20]) (by kernel_rfl) (by simp) (AllReadyH.cons rfl (fun K hK => ?_) AllReadyH.nil)
      go_simp
      go_at_call 11
      refine (druns_nil k c s t g a r q v su st _).mono ?_
      rintro e wk ⟨rfl, hb⟩
      replace HU := Lib.hid (HU.out.call hb)
      clear hb
      refine hK.out _ _ (⟨HU.out.get 1 rfl, HU.out.get 0 rfl⟩) (fun hHeld => ?_)
      clear hK K
      try simp only [Act.put, List.setIfInBounds_toArray, List.set_cons_zero, List.set_cons_succ]
      refine wpAnyH_ready (rs := [22]) (by kernel_rfl) (by simp) (AllReadyH.cons rfl (fun K hK => ?_) AllReadyH.nil)
      go_simp
      go_at_call 10
      refine (dlen_nil _).mono ?_
      rintro e wk ⟨rfl, rfl⟩
      refine hK.out _ _ (⟨HU.out.get 1 rfl, HU.out.get 0 rfl⟩) (fun hHeld => ?_)
      clear hK K
      try simp only [Act.put, List.setIfInBounds_toArray, List.set_cons_zero, List.set_cons_succ]
      refine wpAnyH_yield 23 (.int .i64 0) rfl (by kernel_rfl) (by kernel_rfl) (by kernel_rfl) (fun d _ _ _ h => by cases d <;> exact h) (by rfl) (by assumption) (fun _ _ => by go_simp) ?_
      simp only [Act.put, List.setIfInBounds_toArray, List.set_cons_zero, List.set_cons_succ]
      refine wpAnyH_yield 24 (.bool true) rfl (by kernel_rfl) (by kernel_rfl) (by kernel_rfl) (fun d _ _ _ h => by cases d <;> exact h) (by rfl) (by assumption) (fun _ _ => by go_simp) ?_
      simp only [Act.put, List.setIfInBounds_toArray, List.set_cons_zero, List.set_cons_succ]
      refine wpAnyH_yield 25 (.bool true) rfl (by kernel_rfl) (by kernel_rfl) (by kernel_rfl) (fun d _ _ _ h => by cases d <;> exact h) (by rfl) (by assumption) (fun _ _ => by go_simp) ?_
      simp only [Act.put, List.setIfInBounds_toArray, List.set_cons_zero, List.set_cons_succ]
      refine wpAnyH_yield 26 (.bool true) rfl (by kernel_rfl) (by kernel_rfl) (by kernel_rfl) (fun d _ _ _ h => by cases d <;> exact h) (by rfl) (by assumption) (fun _ _ => by go_simp) ?_
      simp only [Act.put, List.setIfInBounds_toArray, List.set_cons_zero, List.set_cons_succ]
      refine wpAnyH_yield 28 (.agg #[.int .i64 k, .int .i64 c, .int .i64 s, .int .i64 t, .int .i64 g, .int .u32 a, .int .i64 16, .bool su, .bool st, .int .i64 q, .int .u32 v]) rfl (by kernel_rfl) (by kernel_rfl) (by kernel_rfl) (fun d _ _ _ h => by cases d <;> exact h) (by rfl) (by assumption) (fun _ hSw => by have hcs := frame_cells hSw.2; go_simp) ?_
      simp only [Act.put, List.setIfInBounds_toArray, List.set_cons_zero, List.set_cons_succ]
      refine wpAnyH_ready (rs := [27]) (by kernel_rfl) (by simp) (AllReadyH.cons rfl (fun K hK => ?_) AllReadyH.nil)
      go_simp
      go_at_call 5
      refine (dnew_any 9 _).mono ?_
      rintro e wk ⟨rfl, -, hb⟩
      replace HU := Lib.hid (HU.out.call hb)
      clear hb
      refine hK.out _ _ (⟨HU.out.get 1 rfl, HU.out.get 0 rfl⟩) (fun hHeld => ?_)
      clear hK K
      try simp only [Act.put, List.setIfInBounds_toArray, List.set_cons_zero, List.set_cons_succ]
      refine wpAnyH_ready (rs := [29]) (by kernel_rfl) (by simp) (AllReadyH.cons rfl (fun K hK => ?_) AllReadyH.nil)
      go_simp
      go_at_call 6
      refine (dmeet_try _ k c s t g a 16 q v su st (.inr (by decide)) _).mono ?_
      rintro e wk ⟨rfl, hb⟩
      replace HU := Lib.hid (HU.out.call hb)
      clear hb
      refine hK.out _ _ (⟨HU.out.get 1 rfl, HU.out.get 0 rfl⟩) (fun hHeld => ?_)
      clear hK K
      try simp only [Act.put, List.setIfInBounds_toArray, List.set_cons_zero, List.set_cons_succ]
      refine wpAnyH_yield 30 (.bool true) rfl (by kernel_rfl) (by kernel_rfl) (by kernel_rfl) (fun d _ _ _ h => by cases d <;> exact h) (by rfl) (by assumption) (fun _ _ => by go_simp) ?_
      simp only [Act.put, List.setIfInBounds_toArray, List.set_cons_zero, List.set_cons_succ]
      refine wpAnyH_yield 31 (.bool true) rfl (by kernel_rfl) (by kernel_rfl) (by kernel_rfl) (fun d _ _ _ h => by cases d <;> exact h) (by rfl) (by assumption) (fun _ _ => by go_simp) ?_
      simp only [Act.put, List.setIfInBounds_toArray, List.set_cons_zero, List.set_cons_succ]
      refine wpAnyH_yield 32 (.bool true) rfl (by kernel_rfl) (by kernel_rfl) (by kernel_rfl) (fun d _ _ _ h => by cases d <;> exact h) (by rfl) (by assumption) (fun _ _ => by go_simp) ?_
      simp only [Act.put, List.setIfInBounds_toArray, List.set_cons_zero, List.set_cons_succ]
      refine wpAnyH_yield 33 (.int .i64 (m : Int)) rfl (by kernel_rfl) (by kernel_rfl) (by kernel_rfl) (fun d _ _ _ h => by cases d <;> exact h) (by rfl) (by assumption) (fun _ _ => by go_simp) ?_
      simp only [Act.put, List.setIfInBounds_toArray, List.set_cons_zero, List.set_cons_succ]
      refine wpAnyH_yield 34 (.int .i64 R) rfl (by kernel_rfl) (by kernel_rfl) (by kernel_rfl) (fun d _ _ _ h => by cases d <;> exact h) (by rfl) (by assumption) (fun _ _ => by go_simp) ?_
      simp only [Act.put, List.setIfInBounds_toArray, List.set_cons_zero, List.set_cons_succ]
      refine wpAnyH_yield 35 (.int .i64 (max R 0)) rfl (by kernel_rfl) (by kernel_rfl) (by kernel_rfl) (fun d _ _ _ h => by cases d <;> exact h) (by rfl) (by assumption) (fun _ _ => by go_simp) ?_
      simp only [Act.put, List.setIfInBounds_toArray, List.set_cons_zero, List.set_cons_succ]
      refine wpAnyH_yield 36 (.int .i64 (m : Int)) rfl (by kernel_rfl) (by kernel_rfl) (by kernel_rfl) (fun d _ _ _ h => by cases d <;> exact h) (by rfl) (by assumption) (fun _ _ => by go_simp) ?_
      simp only [Act.put, List.setIfInBounds_toArray, List.set_cons_zero, List.set_cons_succ]
      refine wpAnyH_yield 37 (.bool true) rfl (by kernel_rfl) (by kernel_rfl) (by kernel_rfl) (fun d _ _ _ h => by cases d <;> exact h) (by rfl) (by assumption) (fun _ _ => by go_simp) ?_
      simp only [Act.put, List.setIfInBounds_toArray, List.set_cons_zero, List.set_cons_succ]
      refine wpAnyH_yield 38 (.bool true) rfl (by kernel_rfl) (by kernel_rfl) (by kernel_rfl) (fun d _ _ _ h => by cases d <;> exact h) (by rfl) (by assumption) (fun _ _ => by go_simp) ?_
      simp only [Act.put, List.setIfInBounds_toArray, List.set_cons_zero, List.set_cons_succ]
      refine wpAnyH_ready (rs := [39]) (by kernel_rfl) (by simp) (AllReadyH.cons rfl (fun K hK => ?_) AllReadyH.nil)
      go_simp
      refine hK.out _ _ (hHeld) (fun hHeld => ?_)
      clear hK K
      try simp only [Act.put, List.setIfInBounds_toArray, List.set_cons_zero, List.set_cons_succ]
      refine wpAnyH_done (by kernel_rfl) ?_ _
      clear hHeld
      go_wp2_with fail
      go_ret
      exact ⟨rfl, HU.out.below (fun _ => id)⟩
end Go.Proofs.Ythkcomnmihmccaa
