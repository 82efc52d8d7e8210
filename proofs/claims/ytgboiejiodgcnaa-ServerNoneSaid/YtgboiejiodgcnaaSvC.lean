/- The contracts of a service's put, answer, refuse and again. -/
import Derived.Test.YtgboiejiodgcnaaSvB
namespace Go.Proofs.Ytgboiejiodgcnaa
open Go.RowKit Go.Sort

namespace Sv
/-- A client's answers are these. -/
def Ob.outs (o : Ob) (k : Nat) (q : List Wk.Fr) : Ob := { o with out := fun c => if c = k then q else o.out c }
def Mem.outs (m : Mem) (k : Nat) (a : Option Addr) (c : Nat) : Mem := { m with oa := fun i => if i = k then a else m.oa i, oc := fun i => if i = k then c else m.oc i }
theorem Ob.put_yes {o : Ob} {f : Wk.Fr} {k : Nat} (hc : f.c = (k : Int)) (hk : k < 4) (hl : (o.out k).length < 32) : o.put f = o.outs k (o.out k ++ [f]) := by
  unfold Ob.put Ob.outs
  rw [hc, Int.toNat_natCast, if_pos ⟨by omega, by omega, hl⟩]
  congr 1
  funext c
  split
  · rename_i e; rw [e]
  · rfl
theorem cells_outs (o : Ob) (m : Mem) {k : Nat} (hk : k < 4) (a : Option Addr) (c : Nat) (q : List Wk.Fr) : cells (o.outs k q) (m.outs k a c) = (cells o m).set (5 + k) (.slice a q.length c) := by
  rcases (show k = 0 ∨ k = 1 ∨ k = 2 ∨ k = 3 by omega) with rfl | rfl | rfl | rfl <;> rfl
section
variable {G : Nat → Prop} {w0 w w' : World} {r l : List Part} {S : Nat} {ps : List Nat} {o : Ob} {m : Mem}
theorem outs {k : Nat} (hk : k < 4) (h : Own G w0 w (r ++ parts S ps o m)) : ∃ L, FRow w (m.oa k) (m.oc k) (o.out k) L ∧ ∀ {w' : World} {a' : Option Addr} {c' : Nat} {q' : List Wk.Fr} {L' : Option Nat}, FRow w' a' c' q' L' → (L' = L ∨ ∀ j, L' = some j → w.heap.size ≤ j) → Rest (fun k => L = some k) w w' →
    ∃ t : List Part, Own G w0 w' (r ++ .box S (.cells (cells o m).toArray 52 (0, 0)) :: t) ∧ Own G w0 (w'.setCell ⟨S, 5 + k, none⟩ (.slice a' q'.length c')) (r ++ parts S ps (o.outs k q') (m.outs k a' c')) := by
  obtain ⟨L, h1, h2⟩ := h.fr (r.length + (4 + k)) (by rw [List.getElem?_append_right (Nat.le_add_right _ _), Nat.add_sub_cancel_left]; exact fr_at hk)
  refine ⟨L, h1, fun {w' a' c' q' L'} j1 j2 j3 => ?_⟩
  have hh := h2 j1 j2 j3
  rw [List.set_append_right _ _ (Nat.le_add_right _ _), Nat.add_sub_cancel_left] at hh
  have hk2 := hh
  rw [show 4 + k = (3 + k) + 1 by omega, parts, List.set_cons_succ] at hh
  refine ⟨_, hh, ?_⟩
  have hb := hh.box r.length (by rw [List.getElem?_append_right (Nat.le_refl _), Nat.sub_self]; rfl)
  have hn := heap_setCell_same w' S (5 + k) _ _ (.slice a' q'.length c') hb
  have hs := hh.set r.length (by rw [List.getElem?_append_right (Nat.le_refl _), Nat.sub_self]; rfl) hn
  rw [List.set_append_right _ _ (Nat.le_refl _), Nat.sub_self, List.set_cons_zero, List.setIfInBounds_toArray, ← cells_outs o m hk a' c' q'] at hs
  have : parts S ps (o.outs k q') (m.outs k a' c') = .box S (.cells (cells (o.outs k q') (m.outs k a' c')).toArray 52 (0, 0)) :: (List.set (.row 53 1 m.g m.off o.ws.length m.cap (ptrs ps) :: .dc m.C o.n o.q :: .fr m.ba m.bc o.runs :: .fr (m.oa 0) (m.oc 0) (o.out 0) :: .fr (m.oa 1) (m.oc 1) (o.out 1) :: .fr (m.oa 2) (m.oc 2) (o.out 2) :: .fr (m.oa 3) (m.oc 3) (o.out 3) :: List.zipWith Part.wk ps o.ws) (3 + k) (.fr a' c' q')) := by
    rcases (show k = 0 ∨ k = 1 ∨ k = 2 ∨ k = 3 by omega) with rfl | rfl | rfl | rfl <;> rfl
  rw [this]
  exact hs
/-- What was begun: one more is written there. -/
theorem begs (h : Own G w0 w (r ++ parts S ps o m)) : ∃ L, FRow w m.ba m.bc o.runs L ∧ ∀ {w' : World} {a' : Option Addr} {c' : Nat} {q' : List Wk.Fr} {L' : Option Nat}, FRow w' a' c' q' L' → (L' = L ∨ ∀ j, L' = some j → w.heap.size ≤ j) → Rest (fun k => L = some k) w w' →
    ∃ t : List Part, Own G w0 w' (r ++ .box S (.cells (cells o m).toArray 52 (0, 0)) :: t) ∧ Own G w0 (w'.setCell ⟨S, 4, none⟩ (.slice a' q'.length c')) (r ++ parts S ps { o with runs := q' } { m with ba := a', bc := c' }) := by
  obtain ⟨L, h1, h2⟩ := h.fr (r.length + 3) (by rw [List.getElem?_append_right (Nat.le_add_right _ _), Nat.add_sub_cancel_left]; rfl)
  refine ⟨L, h1, fun {w' a' c' q' L'} j1 j2 j3 => ?_⟩
  have hh := h2 j1 j2 j3
  rw [List.set_append_right _ _ (Nat.le_add_right _ _), Nat.add_sub_cancel_left, parts, List.set_cons_succ] at hh
  refine ⟨_, hh, ?_⟩
  have hb := hh.box r.length (by rw [List.getElem?_append_right (Nat.le_refl _), Nat.sub_self]; rfl)
  have hn := heap_setCell_same w' S 4 _ _ (.slice a' q'.length c') hb
  have hs := hh.set r.length (by rw [List.getElem?_append_right (Nat.le_refl _), Nat.sub_self]; rfl) hn
  rw [List.set_append_right _ _ (Nat.le_refl _), Nat.sub_self, List.set_cons_zero, List.setIfInBounds_toArray] at hs
  exact hs
/-- Its state is written. -/
theorem state (v : Int) (h : Own G w0 w l) (i : Nat) (e : l[i]? = some (part S ps o)) : w.frozen? ⟨S, 3, none⟩ = false ∧ Own G w0 (w.setCell ⟨S, 3, none⟩ (.int .u32 v)) (l.set i (part S ps { o with st := v })) := by
  obtain ⟨F, hF, back⟩ := h.lift i e
  obtain ⟨m, hl, k⟩ := opens hF
  have hb := k.box 0 rfl
  have hs := k.set 0 rfl (heap_setCell_same w S 3 _ _ (.int .u32 v) hb)
  exact ⟨frozen_of_row _ _ _ _ _ hb, back (closes (o := { o with st := v }) (m := m) hl hs)⟩
end
end Sv

section
variable {G : Nat → Prop} {w0 : World} {l : List Part} {S i : Nat} {ps : List Nat} {o : Sv.Ob} {f : Wk.Fr}
/-- put. -/
theorem svput_no (hc : f.c < 0 ∨ 4 ≤ f.c) (S : Nat) (w : World) : Calls Try.prog 35 #[.pointer (some ⟨S, 0, none⟩), .agg #[.int .i64 f.k, .int .i64 f.c, .int .i64 f.s, .int .i64 f.t, .int .i64 f.g, .int .u32 f.a, .int .i64 f.r, .bool f.su, .bool f.st, .int .i64 f.q, .int .u32 f.v]] w fun e w' => e = .returned (.tuple #[]) ∧ Below w.heap.size w w' := by
  have H := Lib.hid ((Upon.start (fun _ => False) w).lay (.cells #[.int .i64 f.k, .int .i64 f.c, .int .i64 f.s, .int .i64 f.t, .int .i64 f.g, .int .u32 f.a, .int .i64 f.r, .bool f.su, .bool f.st, .int .i64 f.q, .int .u32 f.v] 29))
  go_enter Try.func35, Try.ntmps35
  go_upto_region 1 with fail
  generalize w.alloc _ = w1 at H ⊢
  generalize w.heap.size = bF at H ⊢
  obtain ⟨g0, g1, g2, g3, g4, g5, g6, g7, g8, g9, g10⟩ := frame_cells (H.out.get 0 rfl)
  go_wp2_with fail
  refine (svclient_no hc w1).mono ?_
  rintro e w2 ⟨rfl, rfl⟩
  go_wp2_with fail
  go_end0
  exact ⟨rfl, H.out.below (fun _ => id)⟩
theorem svput_full {k : Nat} (hc : f.c = (k : Int)) (hk : k < 4) (hl : 32 ≤ (o.out k).length) (w : World) (h : Own G w0 w l) (e : l[i]? = some (Sv.part S ps o)) : Calls Try.prog 35 #[.pointer (some ⟨S, 0, none⟩), .agg #[.int .i64 f.k, .int .i64 f.c, .int .i64 f.s, .int .i64 f.t, .int .i64 f.g, .int .u32 f.a, .int .i64 f.r, .bool f.su, .bool f.st, .int .i64 f.q, .int .u32 f.v]] w fun e w' => e = .returned (.tuple #[]) ∧ Below w.heap.size w w' := by
  have H := Lib.hid ((Upon.start (fun _ => False) w).lay (.cells #[.int .i64 f.k, .int .i64 f.c, .int .i64 f.s, .int .i64 f.t, .int .i64 f.g, .int .u32 f.a, .int .i64 f.r, .bool f.su, .bool f.st, .int .i64 f.q, .int .u32 f.v] 29))
  have HO := Lib.hid (And.intro (h.past (H.out.below (fun _ => id))) e)
  have hwt : o.waits f.c = (o.out k).length := by unfold Sv.Ob.waits; rw [hc, if_pos ⟨by omega, by omega⟩, Int.toNat_natCast]
  have HWT := Lib.hid hwt
  have HC := Lib.hid hc
  have HL := Lib.hid hl
  clear h e hwt hc hl
  go_enter Try.func35, Try.ntmps35
  go_upto_region 1 with fail
  generalize w.alloc _ = w1 at H HO ⊢
  generalize w.heap.size = bF at H ⊢
  obtain ⟨g0, g1, g2, g3, g4, g5, g6, g7, g8, g9, g10⟩ := frame_cells (H.out.get 0 rfl)
  go_wp2_with fail
  refine (svclient_yes (c := f.c) (by rw [HC.out]; omega) (by rw [HC.out]; omega) w1).mono ?_
  rintro e w2 ⟨rfl, rfl⟩
  go_wp2_with fail
  refine (svwaits_any f.c w1 HO.out.1 HO.out.2).mono ?_
  rintro e w2 ⟨rfl, rfl⟩
  rw [HWT.out]
  have hl := HL.out
  generalize (o.out k).length = n at hl ⊢
  have hn : ¬(n : Int) < 32 := by omega
  have hn2 : ¬n < 32 := by omega
  go_wp2_with fail
  go_end0
  exact ⟨rfl, H.out.below (fun _ => id)⟩
set_option maxRecDepth 10000 in
set_option maxHeartbeats 2000000 in
theorem svput_yes {k : Nat} (hc : f.c = (k : Int)) (hk : k < 4) (hl : (o.out k).length < 32) (w : World) (h : Own G w0 w l) (e : l[i]? = some (Sv.part S ps o)) : Calls Try.prog 35 #[.pointer (some ⟨S, 0, none⟩), .agg #[.int .i64 f.k, .int .i64 f.c, .int .i64 f.s, .int .i64 f.t, .int .i64 f.g, .int .u32 f.a, .int .i64 f.r, .bool f.su, .bool f.st, .int .i64 f.q, .int .u32 f.v]] w fun e w' => e = .returned (.tuple #[]) ∧ Own G w0 w' (l.set i (Sv.part S ps (o.outs k (o.out k ++ [f])))) := by
  have hO := h.past (below_box w (.cells #[.int .i64 f.k, .int .i64 f.c, .int .i64 f.s, .int .i64 f.t, .int .i64 f.g, .int .u32 f.a, .int .i64 f.r, .bool f.su, .bool f.st, .int .i64 f.q, .int .u32 f.v] 29))
  obtain ⟨F, hF, back⟩ := h.lift i e
  obtain ⟨m, hlen, k1⟩ := Sv.opens hF
  have hwt : o.waits f.c = (o.out k).length := by unfold Sv.Ob.waits; rw [hc, if_pos ⟨by omega, by omega⟩, Int.toNat_natCast]
  have HWT := Lib.hid hwt
  have HO := Lib.hid (And.intro hO e)
  have HC := Lib.hid hc
  have HL := Lib.hid hl
  have HB := Lib.hid (show ∀ w', Own F w w' [Sv.part S ps (o.outs k (o.out k ++ [f]))] → Own G w0 w' (l.set i (Sv.part S ps (o.outs k (o.out k ++ [f])))) from fun w' h => back h)
  have H := Lib.hid (k1.lay (.cells #[.int .i64 f.k, .int .i64 f.c, .int .i64 f.s, .int .i64 f.t, .int .i64 f.g, .int .u32 f.a, .int .i64 f.r, .bool f.su, .bool f.st, .int .i64 f.q, .int .u32 f.v] 29))
  have hki : (k : Int) < 4 := by omega
  clear h e hwt hl hO back hF k1 hc
  go_enter Try.func35, Try.ntmps35
  go_upto_region 1 with fail
  generalize w.alloc _ = w1 at H HO ⊢
  generalize w.heap.size = bF at H ⊢
  obtain ⟨g0, g1, g2, g3, g4, g5, g6, g7, g8, g9, g10⟩ := frame_cells (H.out.box 0 rfl)
  go_wp2_with fail
  refine (svclient_yes (c := f.c) (by rw [HC.out]; omega) (by rw [HC.out]; omega) w1).mono ?_
  rintro e w2 ⟨rfl, rfl⟩
  go_wp2_with fail
  refine (svwaits_any f.c w1 HO.out.1 HO.out.2).mono ?_
  rintro e w2 ⟨rfl, rfl⟩
  rw [HWT.out]
  have hl := HL.out
  obtain ⟨n, hne⟩ : ∃ n, n = (o.out k).length := ⟨_, rfl⟩
  rw [← hne] at hl ⊢
  have HNE := Lib.hid hne
  have hn : (n : Int) < 32 := by omega
  clear hne
  go_upto_region 2 with fail
  clear g0 g1 g2 g3 g4 g5 g6 g7 g8 g9 g10
  refine wp_region_Z_drew 16 (S := fun w' => w'.heap[S]? = some (.cells (Sv.cells o m).toArray 52 (0, 0)) ∧ w'.heap[bF]? = some (.cells f.cells.toArray 29 (0, 0))) (by kernel_rfl) ⟨H.out.box 1 rfl, H.out.box 0 rfl⟩ (fun hHeld => ?_)
  have H5 := Lib.hid H.out.drew
  clear H HO
  generalize w1.drew = w5 at H5 hHeld ⊢
  refine wpAnyZ_yield 0 (.pointer (some ⟨S, 0, none⟩)) rfl (by kernel_rfl) (by kernel_rfl) (by kernel_rfl) (fun d _ _ _ h => by cases d <;> exact h) (by rfl) (by assumption) (fun _ _ => by go_simp) ?_
  simp only [Act.put, List.setIfInBounds_toArray, List.set_cons_zero, List.set_cons_succ]
  refine wpAnyZ_yield 1 (.pointer (some ⟨bF, 1, none⟩)) rfl (by kernel_rfl) (by kernel_rfl) (by kernel_rfl) (fun d _ _ _ h => by cases d <;> exact h) (by rfl) (by assumption) (fun _ _ => by go_simp) ?_
  simp only [Act.put, List.setIfInBounds_toArray, List.set_cons_zero, List.set_cons_succ]
  refine wpAnyZ_yield 2 (.int .i64 (k : Int)) rfl (by kernel_rfl) (by kernel_rfl) (by kernel_rfl) (fun d _ _ _ h => by cases d <;> exact h) (by rfl) (by assumption) (fun _ hSw => by have hcs := (frame_cells hSw.2).2.1; rw [HC.out] at hcs; go_simp) ?_
  simp only [Act.put, List.setIfInBounds_toArray, List.set_cons_zero, List.set_cons_succ]
  refine wpAnyZ_yield 3 (.pointer (some ⟨S, 0, none⟩)) rfl (by kernel_rfl) (by kernel_rfl) (by kernel_rfl) (fun d _ _ _ h => by cases d <;> exact h) (by rfl) (by assumption) (fun _ _ => by go_simp) ?_
  simp only [Act.put, List.setIfInBounds_toArray, List.set_cons_zero, List.set_cons_succ]
  refine wpAnyZ_yield 4 (.pointer (some ⟨bF, 1, none⟩)) rfl (by kernel_rfl) (by kernel_rfl) (by kernel_rfl) (fun d _ _ _ h => by cases d <;> exact h) (by rfl) (by assumption) (fun _ _ => by go_simp) ?_
  simp only [Act.put, List.setIfInBounds_toArray, List.set_cons_zero, List.set_cons_succ]
  refine wpAnyZ_yield 5 (.int .i64 (k : Int)) rfl (by kernel_rfl) (by kernel_rfl) (by kernel_rfl) (fun d _ _ _ h => by cases d <;> exact h) (by rfl) (by assumption) (fun _ hSw => by have hcs := (frame_cells hSw.2).2.1; rw [HC.out] at hcs; go_simp) ?_
  simp only [Act.put, List.setIfInBounds_toArray, List.set_cons_zero, List.set_cons_succ]
  refine wpAnyZ_yield 6 (.pointer (some ⟨S, 0, none⟩)) rfl (by kernel_rfl) (by kernel_rfl) (by kernel_rfl) (fun d _ _ _ h => by cases d <;> exact h) (by rfl) (by assumption) (fun _ _ => by go_simp) ?_
  simp only [Act.put, List.setIfInBounds_toArray, List.set_cons_zero, List.set_cons_succ]
  refine wpAnyZ_yield 7 (.pointer (some ⟨S, 5, none⟩)) rfl (by kernel_rfl) (by kernel_rfl) (by kernel_rfl) (fun d _ _ _ h => by cases d <;> exact h) (by rfl) (by assumption) (fun _ _ => by go_simp) ?_
  simp only [Act.put, List.setIfInBounds_toArray, List.set_cons_zero, List.set_cons_succ]
  refine wpAnyZ_yield 8 (.pointer (some ⟨S, 5 + k, none⟩)) rfl (by kernel_rfl) (by kernel_rfl) (by kernel_rfl) (fun d _ _ _ h => by cases d <;> exact h) (by rfl) (by assumption) (fun _ _ => by go_simp) ?_
  simp only [Act.put, List.setIfInBounds_toArray, List.set_cons_zero, List.set_cons_succ]
  refine wpAnyZ_yield 9 (.slice (m.oa k) n (m.oc k)) rfl (by kernel_rfl) (by kernel_rfl) (by kernel_rfl) (fun d _ _ _ h => by cases d <;> exact h) (by rfl) (by assumption) (fun _ hSw => by have hcs := (Sv.cells_at hSw.1).2.2.2.2.2 k hk; rw [← HNE.out] at hcs; go_simp) ?_
  simp only [Act.put, List.setIfInBounds_toArray, List.set_cons_zero, List.set_cons_succ]
  refine wpAnyZ_yield 10 (.agg f.cells.toArray) rfl (by kernel_rfl) (by kernel_rfl) (by kernel_rfl) (fun d _ _ _ h => by cases d <;> exact h) (by rfl) (by assumption) (fun _ hSw => exec_load_mid Try.bigFrame (.tmp 3) rfl rfl rfl (range_of_box hSw.2)) ?_
  simp only [Act.put, List.setIfInBounds_toArray, List.set_cons_zero, List.set_cons_succ]
  refine wpAnyZ_yieldc [15,14] 13 (.pointer (some ⟨S, 0, none⟩)) rfl (by kernel_rfl) (by kernel_rfl) (by kernel_rfl) (fun d _ _ _ h => by cases d <;> exact h) (by rfl) (by assumption) (fun _ _ => by go_simp) ?_
  simp only [Act.put, List.setIfInBounds_toArray, List.set_cons_zero, List.set_cons_succ]
  refine wpAnyZ_yieldc [15] 14 (.pointer (some ⟨S, 5, none⟩)) rfl (by kernel_rfl) (by kernel_rfl) (by kernel_rfl) (fun d _ _ _ h => by cases d <;> exact h) (by rfl) (by assumption) (fun _ _ => by go_simp) ?_
  simp only [Act.put, List.setIfInBounds_toArray, List.set_cons_zero, List.set_cons_succ]
  refine wpAnyZ_ready (rs := [11]) (by kernel_rfl) (by simp) (AllReadyZ.cons rfl (fun K hK => ?_) AllReadyZ.nil)
  refine step_slice_one Try.bigFrame (by decide) (by decide) Try.underlying37 rfl (.tmp 24) rfl rfl rfl ?_
  have H6 := Lib.hid (H5.out.lay (.cells f.cells.toArray 29))
  clear H5 hHeld
  generalize w5.alloc _ = w6 at H6 ⊢
  generalize w5.heap.size = bN at H6 ⊢
  refine hK.out _ _ (fun _ => ⟨H6.out.box 2 rfl, H6.out.box 1 rfl⟩) (fun hZ => ?_)
  have hHeld := hZ (by decide)
  clear hK K hZ
  try simp only [Act.put, List.setIfInBounds_toArray, List.set_cons_zero, List.set_cons_succ]
  obtain ⟨L, hf1, hf2⟩ := Sv.outs (r := [.box bN (.cells f.cells.toArray 29 (0, 0)), .box bF (.cells #[.int .i64 f.k, .int .i64 f.c, .int .i64 f.s, .int .i64 f.t, .int .i64 f.g, .int .u32 f.a, .int .i64 f.r, .bool f.su, .bool f.st, .int .i64 f.q, .int .u32 f.v] 29)]) hk H6.out
  obtain ⟨a', c', w7, L', hrun, hfr, hfl, hrr⟩ := hf1.add (by rw [← HNE.out]; omega) f (H6.out.box 0 rfl) 37
  obtain ⟨t, H7, H8⟩ := hf2 hfr hfl hrr
  rw [List.length_append, List.length_singleton, ← HNE.out] at H8
  rw [← HNE.out] at hrun
  have hS7 : _ ∧ _ := ⟨H7.box 2 rfl, H7.box 1 rfl⟩
  have c7 := (Sv.cells_at hS7.1).2.2.2.2.2 k hk
  have z7 := frozen_of_row _ _ (5 + k) _ _ hS7.1
  have HE := Lib.hid H8
  clear H6 H7 H8 hf1 hf2 hfr hfl hrr
  refine wpAnyZ_ready (rs := [12]) (by kernel_rfl) (by simp) (AllReadyZ.cons rfl (fun K hK => ?_) AllReadyZ.nil)
  refine step_append_run rfl _ _ 37 rfl rfl rfl hrun ?_
  refine hK.out _ _ (fun _ => hS7) (fun hZ => ?_)
  have hHeld := hZ (by decide)
  clear hK K hZ hrun
  try simp only [Act.put, List.setIfInBounds_toArray, List.set_cons_zero, List.set_cons_succ]
  refine wpAnyZ_yield 15 (.pointer (some ⟨S, 5 + k, none⟩)) rfl (by kernel_rfl) (by kernel_rfl) (by kernel_rfl) (fun d _ _ _ h => by cases d <;> exact h) (by rfl) (by assumption) (fun _ _ => by go_simp) ?_
  simp only [Act.put, List.setIfInBounds_toArray, List.set_cons_zero, List.set_cons_succ]
  refine wpAnyZ_ready (rs := [16]) (by kernel_rfl) (by simp) (AllReadyZ.cons rfl (fun K hK => ?_) AllReadyZ.nil)
  go_simp
  refine hK.out _ _ (fun h => absurd rfl h) (fun _ => ?_)
  clear hK K
  try simp only [Act.put, List.setIfInBounds_toArray, List.set_cons_zero, List.set_cons_succ]
  refine wpAnyZ_done (by kernel_rfl) ?_ _
  clear hHeld hS7 c7 z7
  go_wp2_with fail
  go_end0
  exact ⟨rfl, HB.out _ (Sv.closes (o := o.outs k (o.out k ++ [f])) hlen HE.out.tail.tail)⟩
/-- .. whatever it is. -/
theorem svput_any (w : World) (h : Own G w0 w l) (e : l[i]? = some (Sv.part S ps o)) : Calls Try.prog 35 #[.pointer (some ⟨S, 0, none⟩), .agg #[.int .i64 f.k, .int .i64 f.c, .int .i64 f.s, .int .i64 f.t, .int .i64 f.g, .int .u32 f.a, .int .i64 f.r, .bool f.su, .bool f.st, .int .i64 f.q, .int .u32 f.v]] w fun e w' => e = .returned (.tuple #[]) ∧ Own G w0 w' (l.set i (Sv.part S ps (o.put f))) := by
  have hset := set_same e
  by_cases hc : 0 ≤ f.c ∧ f.c < 4
  · obtain ⟨k, hk⟩ : ∃ k : Nat, f.c = k := ⟨f.c.toNat, by omega⟩
    by_cases hl : (o.out k).length < 32
    · rw [Sv.Ob.put_yes hk (by omega) hl]
      exact svput_yes hk (by omega) hl w h e
    · rw [show o.put f = o by unfold Sv.Ob.put; rw [hk, Int.toNat_natCast, if_neg (fun x => hl x.2.2)], hset]
      refine (svput_full hk (by omega) (by omega) w h e).mono ?_
      rintro e w' ⟨rfl, hb⟩
      exact ⟨rfl, h.past hb⟩
  · rw [show o.put f = o by unfold Sv.Ob.put; rw [if_neg (fun x => hc ⟨x.1, x.2.1⟩)], hset]
    refine (svput_no (by omega) S w).mono ?_
    rintro e w' ⟨rfl, hb⟩
    exact ⟨rfl, h.past hb⟩
end
end Go.Proofs.Ytgboiejiodgcnaa
