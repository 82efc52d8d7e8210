/- The contracts of Ack: a call goes; the last one takes its place. -/
import Derived.Test.YthkcomnmihmccaaDdE
namespace Go.Proofs.Ythkcomnmihmccaa
open Go.RowKit Go.Sort

theorem dack_nil (k c s t g a r q v : Int) (su st : Bool) (w : World) : Calls Try.prog 8 #[.pointer none, .agg #[.int .i64 k, .int .i64 c, .int .i64 s, .int .i64 t, .int .i64 g, .int .u32 a, .int .i64 r, .bool su, .bool st, .int .i64 q, .int .u32 v]] w fun e w' => e = .returned (.bool false) ∧ Below w.heap.size w w' := by
  have H := Lib.hid ((Upon.start (fun _ => False) w).lay (.cells #[.int .i64 k, .int .i64 c, .int .i64 s, .int .i64 t, .int .i64 g, .int .u32 a, .int .i64 r, .bool su, .bool st, .int .i64 q, .int .u32 v] 28))
  obtain ⟨f0, f1, f2, f3, f4, f5, f6, f7, f8, f9, f10⟩ := frame_cells (H.out.get 0 rfl)
  go_enter Try.func8, Try.ntmps8
  go_upto_region 1 with fail
  generalize w.alloc _ = w1 at H f0 f1 f2 f3 f4 f5 f6 f7 f8 f9 f10 ⊢
  generalize w.heap.size = bF at H f0 f1 f2 f3 f4 f5 f6 f7 f8 f9 f10 ⊢
  go_wp2_with fail
  refine (dat_nil k c s t g a r q v su st w1).mono ?_
  rintro e w2 ⟨rfl, hb⟩
  have H2 := Lib.hid (H.out.call hb)
  clear hb H f0 f1 f2 f3 f4 f5 f6 f7 f8 f9 f10
  go_wp2_with fail
  go_ret
  exact ⟨rfl, H2.out.below (fun _ => id)⟩
theorem dack_no {P : Nat} {n : Int} {Q : List Dd.Cl} {L : Option Nat} (k c s t g a r q v : Int) (su st : Bool) (hQ : Q.length ≤ 1000000) (hz : Dd.Non Q c a) (w : World) (h : Dc w P n Q L) : Calls Try.prog 8 #[.pointer (some ⟨P, 0, none⟩), .agg #[.int .i64 k, .int .i64 c, .int .i64 s, .int .i64 t, .int .i64 g, .int .u32 a, .int .i64 r, .bool su, .bool st, .int .i64 q, .int .u32 v]] w fun e w' => e = .returned (.bool false) ∧ Below w.heap.size w w' := by
  have H := Lib.hid ((Upon.start (fun _ => False) w).lay (.cells #[.int .i64 k, .int .i64 c, .int .i64 s, .int .i64 t, .int .i64 g, .int .u32 a, .int .i64 r, .bool su, .bool st, .int .i64 q, .int .u32 v] 28))
  obtain ⟨f0, f1, f2, f3, f4, f5, f6, f7, f8, f9, f10⟩ := frame_cells (H.out.get 0 rfl)
  have HC := Lib.hid (h.call (H.out.below (fun _ => id)))
  clear h
  go_enter Try.func8, Try.ntmps8
  go_upto_region 1 with fail
  generalize w.alloc _ = w1 at HC H f0 f1 f2 f3 f4 f5 f6 f7 f8 f9 f10 ⊢
  generalize w.heap.size = bF at H f0 f1 f2 f3 f4 f5 f6 f7 f8 f9 f10 ⊢
  go_wp2_with fail
  refine (dat_any k c s t g a r q v su st hQ (.inr ⟨hz, rfl⟩) w1 HC.out).mono ?_
  rintro e w2 ⟨rfl, hb⟩
  have H2 := Lib.hid (H.out.call hb)
  clear hb H f0 f1 f2 f3 f4 f5 f6 f7 f8 f9 f10
  go_wp2_with fail
  go_ret
  exact ⟨rfl, H2.out.below (fun _ => id)⟩

namespace Dd
/-- The i-th goes, the last one takes its place. -/
def cut (q : List Cl) (i : Nat) (y : Cl) : List Cl := (q.set i y).take (q.length - 1)
theorem cut_length {q : List Cl} {i : Nat} {y : Cl} : (cut q i y).length = q.length - 1 := by simp [cut]
end Dd

set_option maxHeartbeats 2000000 in
theorem dack_yes {P i : Nat} {n : Int} {Q : List Dd.Cl} {L : Option Nat} {x y : Dd.Cl} (k c s t g a r q v : Int) (su st : Bool) (hQ : Q.length ≤ 1000000) (hz : Dd.At Q c a i x) (hy : Q[Q.length - 1]? = some y) (w : World) (h : Dc w P n Q L) : Calls Try.prog 8 #[.pointer (some ⟨P, 0, none⟩), .agg #[.int .i64 k, .int .i64 c, .int .i64 s, .int .i64 t, .int .i64 g, .int .u32 a, .int .i64 r, .bool su, .bool st, .int .i64 q, .int .u32 v]] w fun e w' => e = .returned (.bool true) ∧ Dc w' P n (Dd.cut Q i y) L ∧ Rest (fun j => j = P ∨ L = some j) w w' := by
  obtain ⟨G, off, cap, rfl, hd⟩ := h.some_ hz.lt
  have hlt := hz.lt
  obtain ⟨m, hm⟩ : ∃ m, Q.length = m + 1 := ⟨Q.length - 1, by omega⟩
  have H := Lib.hid ((Upon.start (fun _ => False) w).lay (.cells #[.int .i64 k, .int .i64 c, .int .i64 s, .int .i64 t, .int .i64 g, .int .u32 a, .int .i64 r, .bool su, .bool st, .int .i64 q, .int .u32 v] 28))
  obtain ⟨f0, f1, f2, f3, f4, f5, f6, f7, f8, f9, f10⟩ := frame_cells (H.out.get 0 rfl)
  have HC := Lib.hid (hd.call (H.out.below (fun _ => id)))
  have HZ := Lib.hid hz
  have HY := Lib.hid hy
  have hi0 : ¬(i : Int) < 0 := by omega
  have hi1 : (0 : Int) ≤ (i : Int) := by omega
  have hi2 : (i : Int) < (Q.length : Int) := by omega
  have hw : IntKind.i64.wrap ((Q.length : Int) - 1) = (m : Int) := by rw [IntKind.wrap_i64]; omega
  have hm2 : (m : Int) < (Q.length : Int) := by omega
  have hmc : (m : Int) ≤ (cap : Int) := by have := hd.row.room; omega
  have HM := Lib.hid hm
  clear h hd hz hy hlt
  go_enter Try.func8, Try.ntmps8
  go_upto_region 1 with fail
  generalize w.alloc _ = w1 at HC H f0 f1 f2 f3 f4 f5 f6 f7 f8 f9 f10 ⊢
  generalize w.heap.size = bF at H f0 f1 f2 f3 f4 f5 f6 f7 f8 f9 f10 ⊢
  go_wp2_with fail
  refine (dat_any k c s t g a r q v su st hQ (.inl ⟨i, x, HZ.out, rfl⟩) w1 HC.out.dc).mono ?_
  rintro e w2 ⟨rfl, hb⟩
  have HR2 := Lib.hid (H.out.call hb).rest
  have HC2 := Lib.hid (HC.out.call hb)
  clear hb H HC f0 f1 f2 f3 f4 f5 f6 f7 f8 f9 f10
  have hblk := HC2.out.blk
  obtain ⟨p0, p1⟩ := two_cells hblk
  have HB := Lib.hid hblk
  clear hblk hm
  go_upto_region 5 with fail
  refine wp_region_Z_drew 13 (S := fun w' => w'.cell? ⟨P, 1, none⟩ = some (.slice (some ⟨G, off, none⟩) Q.length cap) ∧ w'.rangeAt G (off + m * 22) y.cells) (by kernel_rfl) ⟨p1, ?_⟩ (fun hHeld => ?_)
  · intro j u hu
    exact Dd.itm.cell HC2.out.row (by have := HY.out; rw [HM.out] at this; simpa using this) j (by have := (List.getElem?_eq_some_iff.1 hu).1; exact this) hu
  have hc3 := HC2.out.call (w' := w2.drew) (Below.refl _ _).drew
  have hr3 := HR2.out.trans (o3 := fun _ => False) (Rest.drew (fun _ => False) w2) (fun _ _ => id) (fun _ _ => id)
  generalize w2.drew = w3 at hc3 hr3 hHeld ⊢
  have HC3 := Lib.hid hc3
  have HR3 := Lib.hid hr3
  clear hc3 hr3 HC2 HR2 p0 p1 HB
  refine wpAnyZ_yield 0 (.pointer (some ⟨P, 0, none⟩)) rfl (by kernel_rfl) (by kernel_rfl) (by kernel_rfl) (fun d _ _ _ h => by cases d <;> exact h) (by rfl) (by assumption) (fun _ _ => by go_simp) ?_
  simp only [Act.put, List.setIfInBounds_toArray, List.set_cons_zero, List.set_cons_succ]
  refine wpAnyZ_yield 1 (.pointer (some ⟨P, 0, none⟩)) rfl (by kernel_rfl) (by kernel_rfl) (by kernel_rfl) (fun d _ _ _ h => by cases d <;> exact h) (by rfl) (by assumption) (fun _ _ => by go_simp) ?_
  simp only [Act.put, List.setIfInBounds_toArray, List.set_cons_zero, List.set_cons_succ]
  refine wpAnyZ_yield 2 (.pointer (some ⟨P, 1, none⟩)) rfl (by kernel_rfl) (by kernel_rfl) (by kernel_rfl) (fun d _ _ _ h => by cases d <;> exact h) (by rfl) (by assumption) (fun _ _ => by go_simp) ?_
  simp only [Act.put, List.setIfInBounds_toArray, List.set_cons_zero, List.set_cons_succ]
  refine wpAnyZ_yield 3 (.slice (some ⟨G, off, none⟩) Q.length cap) rfl (by kernel_rfl) (by kernel_rfl) (by kernel_rfl) (fun d _ _ _ h => by cases d <;> exact h) (by rfl) (by assumption) (fun _ hSw => by (try dsimp only at hSw); go_simp) ?_
  simp only [Act.put, List.setIfInBounds_toArray, List.set_cons_zero, List.set_cons_succ]
  refine wpAnyZ_yield 4 (.int .i64 (i : Int)) rfl (by kernel_rfl) (by kernel_rfl) (by kernel_rfl) (fun d _ _ _ h => by cases d <;> exact h) (by rfl) (by assumption) (fun _ _ => by go_simp) ?_
  simp only [Act.put, List.setIfInBounds_toArray, List.set_cons_zero, List.set_cons_succ]
  refine wpAnyZ_yield 5 (.pointer (some ⟨P, 0, none⟩)) rfl (by kernel_rfl) (by kernel_rfl) (by kernel_rfl) (fun d _ _ _ h => by cases d <;> exact h) (by rfl) (by assumption) (fun _ _ => by go_simp) ?_
  simp only [Act.put, List.setIfInBounds_toArray, List.set_cons_zero, List.set_cons_succ]
  refine wpAnyZ_yield 6 (.pointer (some ⟨P, 0, none⟩)) rfl (by kernel_rfl) (by kernel_rfl) (by kernel_rfl) (fun d _ _ _ h => by cases d <;> exact h) (by rfl) (by assumption) (fun _ _ => by go_simp) ?_
  simp only [Act.put, List.setIfInBounds_toArray, List.set_cons_zero, List.set_cons_succ]
  refine wpAnyZ_yield 7 (.pointer (some ⟨P, 1, none⟩)) rfl (by kernel_rfl) (by kernel_rfl) (by kernel_rfl) (fun d _ _ _ h => by cases d <;> exact h) (by rfl) (by assumption) (fun _ _ => by go_simp) ?_
  simp only [Act.put, List.setIfInBounds_toArray, List.set_cons_zero, List.set_cons_succ]
  refine wpAnyZ_yield 8 (.slice (some ⟨G, off, none⟩) Q.length cap) rfl (by kernel_rfl) (by kernel_rfl) (by kernel_rfl) (fun d _ _ _ h => by cases d <;> exact h) (by rfl) (by assumption) (fun _ hSw => by (try dsimp only at hSw); go_simp) ?_
  simp only [Act.put, List.setIfInBounds_toArray, List.set_cons_zero, List.set_cons_succ]
  refine wpAnyZ_yield 9 (.int .i64 (m : Int)) rfl (by kernel_rfl) (by kernel_rfl) (by kernel_rfl) (fun d _ _ _ h => by cases d <;> exact h) (by rfl) (by assumption) (fun _ _ => by go_simp) ?_
  simp only [Act.put, List.setIfInBounds_toArray, List.set_cons_zero, List.set_cons_succ]
  refine wpAnyZ_yield 10 (.pointer (some ⟨G, off + m * 22, none⟩)) rfl (by kernel_rfl) (by kernel_rfl) (by kernel_rfl) (fun d _ _ _ h => by cases d <;> exact h) (by rfl) (by assumption) (fun _ _ => by go_simp) ?_
  simp only [Act.put, List.setIfInBounds_toArray, List.set_cons_zero, List.set_cons_succ]
  refine wpAnyZ_yield 11 (.agg y.cells.toArray) rfl (by kernel_rfl) (by kernel_rfl) (by kernel_rfl) (fun d _ _ _ h => by cases d <;> exact h) (by rfl) (by assumption) (fun _ hSw => exec_load_mid Try.bigCall (.tmp 28) rfl rfl rfl hSw.2) ?_
  simp only [Act.put, List.setIfInBounds_toArray, List.set_cons_zero, List.set_cons_succ]
  refine wpAnyZ_yield 12 (.pointer (some ⟨G, off + i * 22, none⟩)) rfl (by kernel_rfl) (by kernel_rfl) (by kernel_rfl) (fun d _ _ _ h => by cases d <;> exact h) (by rfl) (by assumption) (fun _ _ => by go_simp) ?_
  simp only [Act.put, List.setIfInBounds_toArray, List.set_cons_zero, List.set_cons_succ]
  have hov := HC3.out.over HZ.out.lt y
  have hth : w3.there G (off + i * 22) 22 := HC3.out.there HZ.out.at_
  refine wpAnyZ_ready (rs := [13]) (by kernel_rfl) (by simp) (AllReadyZ.cons rfl (fun K hK => ?_) AllReadyZ.nil)
  refine step_store_mid Try.bigCall rfl (.tmp 30) (.tmp 29) rfl rfl rfl rfl (Dd.itm.one y) hth ?_
  refine hK.out _ _ (fun h => absurd rfl h) (fun _ => ?_)
  clear hK K
  try simp only [Act.put, List.setIfInBounds_toArray]
  refine wpAnyZ_done (by kernel_rfl) ?_ _
  have hr4 := HR3.out.trans (o3 := fun j => j = P ∨ some G = some j) (Rest.grown (own := fun j => some G = some j) (grown_setCells G y.cells (off + i * 22) w3) (fun _ e => e)) (fun _ _ => False.elim) (fun _ _ => .inr)
  clear hHeld hth HC3 HR3
  generalize w3.setCells _ _ _ = w4 at hov hr4 ⊢
  have hblk := hov.blk
  rw [List.length_set] at hblk
  obtain ⟨p0, p1⟩ := two_cells hblk
  have f1 := frozen_of_row _ _ 1 _ _ hblk
  have HE := Lib.hid (And.intro hov hr4)
  have HB := Lib.hid hblk
  clear hov hr4 hblk
  go_wp2_with fail
  go_ret
  obtain ⟨hov, hr4⟩ := HE.out
  refine ⟨rfl, ?_, hr4.trans (Rest.setCell (own := fun j => j = P ∨ some G = some j) _ _ _ (.inl rfl)) (fun _ _ => id) (fun _ _ => id)⟩
  have hl : (Dd.cut Q i y).length = m := by rw [Dd.cut_length]; have := HM.out; omega
  have hm1 : Q.length - 1 = m := by have := HM.out; omega
  refine .inr ⟨G, off, cap, rfl, hov.ne, ?_, ?_⟩
  · rw [hl]
    exact heap_setCell_same _ P 1 _ _ _ HB.out
  · rw [hl, Dd.cut, hm1]
    exact (Dd.itm.but hov.row (by rw [List.length_set]; omega) (by rw [List.length_set]; omega)).kept (heap_setCell_other _ _ _ _ hov.ne)
end Go.Proofs.Ythkcomnmihmccaa
