/- WkK, WkL, WkM, WkN, WkO: several texts in one. -/
import Derived.Test.YtgboiejiodgcnaaWkQ
import Derived.Deep.LoopGhost
/- The contract of a worker's Credit. -/
namespace Go.Proofs.Ytgboiejiodgcnaa
open Go.RowKit Go.Sort

set_option maxRecDepth 10000 in
theorem wkcredit_nil (f : Wk.Fr) (w : World) : Calls Try.prog 26 #[.pointer none, .agg #[.int .i64 f.k, .int .i64 f.c, .int .i64 f.s, .int .i64 f.t, .int .i64 f.g, .int .u32 f.a, .int .i64 f.r, .bool f.su, .bool f.st, .int .i64 f.q, .int .u32 f.v]] w fun e w' => e = .returned (.bool false) ∧ Below w.heap.size w w' := by
  have H := Lib.hid ((Upon.start (fun _ => False) w).lay (.cells #[.int .i64 f.k, .int .i64 f.c, .int .i64 f.s, .int .i64 f.t, .int .i64 f.g, .int .u32 f.a, .int .i64 f.r, .bool f.su, .bool f.st, .int .i64 f.q, .int .u32 f.v] 29))
  go_enter Try.func26, Try.ntmps26
  go_upto_region 1 with fail
  generalize w.alloc _ = w1 at H ⊢
  generalize w.heap.size = bF at H ⊢
  obtain ⟨f0, f1, f2, f3, f4, f5, f6, f7, f8, f9, f10⟩ := frame_cells (H.out.get 0 rfl)
  go_wp2_with fail
  refine (wkof_any f w1).mono ?_
  rintro e w2 ⟨rfl, hb⟩
  dsimp only
  have H2 := Lib.hid (H.out.call hb)
  clear hb H f0 f1 f2 f3 f4 f5 f6 f7 f8 f9 f10
  go_wp2_with fail
  refine (wkdoes_nil f.c f.t f.g f.a w2).mono ?_
  rintro e w3 ⟨rfl, hb⟩
  dsimp only
  have H3 := Lib.hid (H2.out.call hb)
  clear hb H2
  go_wp2_with fail
  go_ret
  exact ⟨rfl, H3.out.below (fun _ => id)⟩
set_option maxRecDepth 10000 in
set_option maxHeartbeats 1000000 in
theorem wkcredit_no {P : Nat} {o : Wk.Wo} {L : Option Nat} (f : Wk.Fr) (hd : o.does f.c f.t f.g f.a = false ∨ o.j.st = false) (w : World) (h : Wd w P o L) : Calls Try.prog 26 #[.pointer (some ⟨P, 0, none⟩), .agg #[.int .i64 f.k, .int .i64 f.c, .int .i64 f.s, .int .i64 f.t, .int .i64 f.g, .int .u32 f.a, .int .i64 f.r, .bool f.su, .bool f.st, .int .i64 f.q, .int .u32 f.v]] w fun e w' => e = .returned (.bool false) ∧ Below w.heap.size w w' := by
  have H := Lib.hid ((Upon.start (fun _ => False) w).lay (.cells #[.int .i64 f.k, .int .i64 f.c, .int .i64 f.s, .int .i64 f.t, .int .i64 f.g, .int .u32 f.a, .int .i64 f.r, .bool f.su, .bool f.st, .int .i64 f.q, .int .u32 f.v] 29))
  have HW := Lib.hid (h.call (H.out.below (fun _ => id)))
  clear h
  go_enter Try.func26, Try.ntmps26
  go_upto_region 1 with fail
  generalize w.alloc _ = w1 at HW H ⊢
  generalize w.heap.size = bF at H ⊢
  obtain ⟨f0, f1, f2, f3, f4, f5, f6, f7, f8, f9, f10⟩ := frame_cells (H.out.get 0 rfl)
  go_wp2_with fail
  refine (wkof_any f w1).mono ?_
  rintro e w2 ⟨rfl, hb⟩
  dsimp only
  have H2 := Lib.hid (H.out.call hb)
  have HW2 := Lib.hid (HW.out.call hb)
  clear hb H HW f0 f1 f2 f3 f4 f5 f6 f7 f8 f9 f10
  go_wp2_with fail
  refine (wkdoes_any f.c f.t f.g f.a w2 HW2.out).mono ?_
  rintro e w3 ⟨rfl, hb⟩
  dsimp only
  have H3 := Lib.hid (H2.out.call hb)
  have HW3 := Lib.hid (HW2.out.call hb)
  clear hb H2 HW2
  obtain ⟨a, c, hP⟩ := HW3.out.shape
  have p11 := (wk_job hP).2.2.2.2.2.2.2.2.1
  clear hP
  cases hdo : o.does f.c f.t f.g f.a with
  | false =>
    clear p11
    go_wp2_with fail
    go_ret
    exact ⟨rfl, H3.out.below (fun _ => id)⟩
  | true =>
    have hst : o.j.st = false := by
      rcases hd with e | e
      · rw [hdo] at e; cases e
      · exact e
    rw [hst] at p11
    clear hst hdo hd
    go_wp2_with fail
    go_ret
    exact ⟨rfl, H3.out.below (fun _ => id)⟩
set_option maxRecDepth 10000 in
set_option maxHeartbeats 2000000 in
theorem wkcredit_yes {P : Nat} {o : Wk.Wo} {L : Option Nat} {l' : Int} (f : Wk.Fr) (hdo : o.does f.c f.t f.g f.a = true) (hst : o.j.st = true) (hv : 0 ≤ f.v) (hl : IntKind.i64.wrap (o.l + Cr.cut 0 (min f.v 16)) = l') (w : World) (h : Wd w P o L) : Calls Try.prog 26 #[.pointer (some ⟨P, 0, none⟩), .agg #[.int .i64 f.k, .int .i64 f.c, .int .i64 f.s, .int .i64 f.t, .int .i64 f.g, .int .u32 f.a, .int .i64 f.r, .bool f.su, .bool f.st, .int .i64 f.q, .int .u32 f.v]] w fun e w' => e = .returned (.bool true) ∧ Wd w' P { o with l := l' } L ∧ Rest (fun k => k = P) w w' := by
  have H := Lib.hid ((Upon.start (fun _ => False) w).lay (.cells #[.int .i64 f.k, .int .i64 f.c, .int .i64 f.s, .int .i64 f.t, .int .i64 f.g, .int .u32 f.a, .int .i64 f.r, .bool f.su, .bool f.st, .int .i64 f.q, .int .u32 f.v] 29))
  have HW := Lib.hid (h.call (H.out.below (fun _ => id)))
  have HWW := Lib.hid h
  have HL := Lib.hid hl
  have q1 : (if f.v < 16 then f.v else 16) = min f.v 16 := by omega
  have q2 : (if 16 < f.v then 16 else f.v) = min f.v 16 := by omega
  have q3 : IntKind.i64.wrap (min f.v 16) = min f.v 16 := by rw [IntKind.wrap_i64]; omega
  clear h hl
  go_enter Try.func26, Try.ntmps26
  go_upto_region 1 with fail
  generalize w.alloc _ = w1 at HW H ⊢
  have HPB := Lib.hid HWW.out.lt
  generalize hbf : w.heap.size = bF at H HPB ⊢
  obtain ⟨f0, f1, f2, f3, f4, f5, f6, f7, f8, f9, f10⟩ := frame_cells (H.out.get 0 rfl)
  go_wp2_with fail
  refine (wkof_any f w1).mono ?_
  rintro e w2 ⟨rfl, hb⟩
  dsimp only
  have H2 := Lib.hid (H.out.call hb)
  have HW2 := Lib.hid (HW.out.call hb)
  clear hb H HW f0 f1 f2 f3 f4 f5 f6 f7 f8 f9 f10
  go_wp2_with fail
  refine (wkdoes_any f.c f.t f.g f.a w2 HW2.out).mono ?_
  rintro e w3 ⟨rfl, hb⟩
  dsimp only
  have H3 := Lib.hid (H2.out.call hb)
  have HW3 := Lib.hid (HW2.out.call hb)
  clear hb H2 HW2
  rw [hdo]
  obtain ⟨a, c, hP⟩ := HW3.out.shape
  have p11 := (wk_job hP).2.2.2.2.2.2.2.2.1
  rw [hst] at p11
  have HP3 := Lib.hid hP
  clear hP hdo hst
  go_upto_region 3 with fail
  refine wp_region_Z_drew 12 (S := fun w' => w'.heap[P]? = some (.cells (o.cells a c).toArray 68 (0, 0)) ∧ w'.heap[bF]? = some (.cells #[.int .i64 f.k, .int .i64 f.c, .int .i64 f.s, .int .i64 f.t, .int .i64 f.g, .int .u32 f.a, .int .i64 f.r, .bool f.su, .bool f.st, .int .i64 f.q, .int .u32 f.v] 29)) (by kernel_rfl) ⟨HP3.out, H3.out.get 0 rfl⟩ (fun hHeld => ?_)
  have HR4 := Lib.hid H3.out.drew.rest
  have HW4 := Lib.hid HW3.out.drew
  clear H3 HW3 HP3 p11
  generalize w3.drew = w4 at HR4 HW4 hHeld ⊢
  refine wpAnyZ_yield 0 (.pointer (some ⟨P, 0, none⟩)) rfl (by kernel_rfl) (by kernel_rfl) (by kernel_rfl) (fun d _ _ _ h => by cases d <;> exact h) (by rfl) (by assumption) (fun _ _ => by go_simp) ?_
  simp only [Act.put, List.setIfInBounds_toArray, List.set_cons_zero, List.set_cons_succ]
  refine wpAnyZ_yield 1 (.pointer (some ⟨P, 0, none⟩)) rfl (by kernel_rfl) (by kernel_rfl) (by kernel_rfl) (fun d _ _ _ h => by cases d <;> exact h) (by rfl) (by assumption) (fun _ _ => by go_simp) ?_
  simp only [Act.put, List.setIfInBounds_toArray, List.set_cons_zero, List.set_cons_succ]
  refine wpAnyZ_yield 2 (.pointer (some ⟨P, 0, none⟩)) rfl (by kernel_rfl) (by kernel_rfl) (by kernel_rfl) (fun d _ _ _ h => by cases d <;> exact h) (by rfl) (by assumption) (fun _ _ => by go_simp) ?_
  simp only [Act.put, List.setIfInBounds_toArray, List.set_cons_zero, List.set_cons_succ]
  refine wpAnyZ_yield 3 (.pointer (some ⟨P, 14, none⟩)) rfl (by kernel_rfl) (by kernel_rfl) (by kernel_rfl) (fun d _ _ _ h => by cases d <;> exact h) (by rfl) (by assumption) (fun _ _ => by go_simp) ?_
  simp only [Act.put, List.setIfInBounds_toArray, List.set_cons_zero, List.set_cons_succ]
  refine wpAnyZ_yield 4 (.agg #[.int .i64 o.l, .int .i64 o.n]) rfl (by kernel_rfl) (by kernel_rfl) (by kernel_rfl) (fun d _ _ _ h => by cases d <;> exact h) (by rfl) (by assumption) (fun _ hSw => by have p14 := (wk_cells hSw.1).2.2.2.1; have p15 := (wk_cells hSw.1).2.2.2.2; go_simp) ?_
  simp only [Act.put, List.setIfInBounds_toArray, List.set_cons_zero, List.set_cons_succ]
  refine wpAnyZ_yield 5 (.pointer (some ⟨bF, 10, none⟩)) rfl (by kernel_rfl) (by kernel_rfl) (by kernel_rfl) (fun d _ _ _ h => by cases d <;> exact h) (by rfl) (by assumption) (fun _ _ => by go_simp) ?_
  simp only [Act.put, List.setIfInBounds_toArray, List.set_cons_zero, List.set_cons_succ]
  refine wpAnyZ_yield 6 (.int .u32 f.v) rfl (by kernel_rfl) (by kernel_rfl) (by kernel_rfl) (fun d _ _ _ h => by cases d <;> exact h) (by rfl) (by assumption) (fun _ hSw => by have f10 := cell_of_row _ _ 10 _ _ _ hSw.2; go_simp) ?_
  simp only [Act.put, List.setIfInBounds_toArray, List.set_cons_zero, List.set_cons_succ]
  generalize q0 : min f.v 16 = m at q1 q2 q3 HL ⊢
  refine wpAnyZ_yield 7 (.int .u32 m) rfl (by kernel_rfl) (by kernel_rfl) (by kernel_rfl) (fun d _ _ _ h => by cases d <;> exact h) (by rfl) (by assumption) (fun _ _ => by go_simp) ?_
  simp only [Act.put, List.setIfInBounds_toArray, List.set_cons_zero, List.set_cons_succ]
  refine wpAnyZ_yield 8 (.int .i64 m) rfl (by kernel_rfl) (by kernel_rfl) (by kernel_rfl) (fun d _ _ _ h => by cases d <;> exact h) (by rfl) (by assumption) (fun _ _ => by go_simp) ?_
  simp only [Act.put, List.setIfInBounds_toArray, List.set_cons_zero, List.set_cons_succ]
  refine wpAnyZ_ready (rs := [9]) (by kernel_rfl) (by simp) (AllReadyZ.cons rfl (fun K hK => ?_) AllReadyZ.nil)
  go_simp
  go_at_call 48
  refine (crmore_any (L := o.l) (S := o.n) HL.out w4).mono ?_
  rintro e w6 ⟨rfl, hb⟩
  have h6 : _ ∧ _ := ⟨keep hHeld.1 hb, keep hHeld.2 hb⟩
  have HR6 := Lib.hid (HR4.out.trans (o3 := fun _ => False) (Rest.of_below (own := fun _ => False) hb) (fun _ _ => id) (fun _ _ => id))
  have HW6 := Lib.hid (HW4.out.call hb)
  clear hb hHeld HR4 HW4
  refine hK.out _ _ (fun _ => h6) (fun hZ => ?_)
  have hHeld := hZ (by decide)
  clear hK K hZ
  try simp only [Act.put, List.setIfInBounds_toArray, List.set_cons_zero, List.set_cons_succ]
  clear h6
  refine wpAnyZ_ready (rs := [10]) (by kernel_rfl) (by simp) (AllReadyZ.cons rfl (fun K hK => ?_) AllReadyZ.nil)
  go_simp
  refine hK.out _ _ (fun _ => hHeld) (fun hZ => ?_)
  have hHeld := hZ (by decide)
  clear hK K hZ
  try simp only [Act.put, List.setIfInBounds_toArray, List.set_cons_zero, List.set_cons_succ]
  refine wpAnyZ_yield 11 (.pointer (some ⟨P, 14, none⟩)) rfl (by kernel_rfl) (by kernel_rfl) (by kernel_rfl) (fun d _ _ _ h => by cases d <;> exact h) (by rfl) (by assumption) (fun _ _ => by go_simp) ?_
  simp only [Act.put, List.setIfInBounds_toArray, List.set_cons_zero, List.set_cons_succ]
  have HE6 := Lib.hid hHeld.1
  obtain ⟨p0, p1, p2, p14, p15⟩ := wk_cells hHeld.1
  have fz := fun i => frozen_of_row _ _ i _ _ hHeld.1
  refine wpAnyZ_ready (rs := [12]) (by kernel_rfl) (by simp) (AllReadyZ.cons rfl (fun K hK => ?_) AllReadyZ.nil)
  go_simp
  refine hK.out _ _ (fun h => absurd rfl h) (fun _ => ?_)
  clear hK K
  try simp only [Act.put, List.setIfInBounds_toArray, List.set_cons_zero, List.set_cons_succ]
  clear p0 p1 p2 p14 p15 fz hHeld
  refine wpAnyZ_done (by kernel_rfl) ?_ _
  have e5 : ((w6.setCell ⟨P, 14, none⟩ (.int .i64 l')).setCell ⟨P, 15, none⟩ (.int .i64 o.n)).heap[P]? = some (.cells (({ o with l := l' } : Wk.Wo).cells a c).toArray 68 (0, 0)) := heap_setCell_same _ P 15 _ _ _ (heap_setCell_same _ P 14 _ _ _ HE6.out)
  have r5 : Rest (fun k => k = P) w6 ((w6.setCell ⟨P, 14, none⟩ (.int .i64 l')).setCell ⟨P, 15, none⟩ (.int .i64 o.n)) := (Rest.setCell (own := fun k => k = P) _ _ _ rfl).trans (Rest.setCell (own := fun k => k = P) _ _ _ rfl) (fun _ _ => id) (fun _ _ => id)
  have HW7 := Lib.hid (HW6.out.anew HE6.out r5 (o' := { o with l := l' }) rfl e5)
  have HR7 := Lib.hid (HR6.out.trans (o3 := fun k => k = P) r5 (fun _ _ => False.elim) (fun _ _ => id))
  clear e5 r5
  go_wp2_with fail
  go_ret
  exact ⟨rfl, HW7.out, HR7.out⟩
end Go.Proofs.Ytgboiejiodgcnaa

/- The contract of slices.DeleteFunc over frames: those of one call's turn go. -/
namespace Go.Proofs.Ytgboiejiodgcnaa
open Go.RowKit Go.Sort

set_option maxRecDepth 10000 in
set_option maxHeartbeats 1000000 in
/-- Is it of this call's turn? -/
theorem wkof1_any {W : World} {bT : Nat} {c t g a : Int} (f : Wk.Fr) (hb : W.heap[bT]? = some (.cells #[.int .i64 c, .int .i64 t, .int .i64 g, .int .u32 a] 75 (0, 0))) :
    Calls Try.prog 47 #[.agg #[.int .i64 f.k, .int .i64 f.c, .int .i64 f.s, .int .i64 f.t, .int .i64 f.g, .int .u32 f.a, .int .i64 f.r, .bool f.su, .bool f.st, .int .i64 f.q, .int .u32 f.v], .pointer (some ⟨bT, 0, none⟩)] W fun e w' => e = .returned (.bool (f.of c t g a)) ∧ Below W.heap.size W w' := by
  have H := Lib.hid ((Upon.start (fun _ => False) W).lay (.cells #[.int .i64 f.k, .int .i64 f.c, .int .i64 f.s, .int .i64 f.t, .int .i64 f.g, .int .u32 f.a, .int .i64 f.r, .bool f.su, .bool f.st, .int .i64 f.q, .int .u32 f.v] 29))
  have tb := keep1 hb (.cells #[.int .i64 f.k, .int .i64 f.c, .int .i64 f.s, .int .i64 f.t, .int .i64 f.g, .int .u32 f.a, .int .i64 f.r, .bool f.su, .bool f.st, .int .i64 f.q, .int .u32 f.v] 29)
  have heq := fun w => turn_eq f.c f.t f.g f.a c t g a w
  rw [show decide (f.c = c ∧ f.t = t ∧ f.g = g ∧ f.a = a) = f.of c t g a from rfl] at heq
  generalize f.of c t g a = d at heq ⊢
  clear hb
  go_enter Try.func47, Try.ntmps47
  go_upto_region 1 with fail
  generalize W.alloc _ = w1 at H tb ⊢
  generalize W.heap.size = bF at H ⊢
  have fb := H.out.get 0 rfl
  have t0 := cell_regrown (cell_of_row _ _ 0 _ _ _ tb)
  have t1 := cell_regrown (cell_of_row _ _ 1 _ _ _ tb)
  have t2 := cell_regrown (cell_of_row _ _ 2 _ _ _ tb)
  have t3 := cell_regrown (cell_of_row _ _ 3 _ _ _ tb)
  have f0 := cell_regrown (cell_of_row _ _ 0 _ _ _ fb)
  have f1 := cell_regrown (cell_of_row _ _ 1 _ _ _ fb)
  have f2 := cell_regrown (cell_of_row _ _ 2 _ _ _ fb)
  have f3 := cell_regrown (cell_of_row _ _ 3 _ _ _ fb)
  have f4 := cell_regrown (cell_of_row _ _ 4 _ _ _ fb)
  have f5 := cell_regrown (cell_of_row _ _ 5 _ _ _ fb)
  have f6 := cell_regrown (cell_of_row _ _ 6 _ _ _ fb)
  have f7 := cell_regrown (cell_of_row _ _ 7 _ _ _ fb)
  have f8 := cell_regrown (cell_of_row _ _ 8 _ _ _ fb)
  have f9 := cell_regrown (cell_of_row _ _ 9 _ _ _ fb)
  have f10 := cell_regrown (cell_of_row _ _ 10 _ _ _ fb)
  have cO : ∀ d os, Calls Try.prog 43 #[.agg #[.int .i64 f.k, .int .i64 f.c, .int .i64 f.s, .int .i64 f.t, .int .i64 f.g, .int .u32 f.a, .int .i64 f.r, .bool f.su, .bool f.st, .int .i64 f.q, .int .u32 f.v]] (grow (redrawn w1 d) os) fun e w'' => e = .returned (.agg #[.int .i64 f.c, .int .i64 f.t, .int .i64 f.g, .int .u32 f.a]) ∧ ∃ p : Regrown, w'' = grow (redrawn w1 p.d) p.os := fun d os => Calls.regrown_of (wkof_any f _)
  clear tb fb
  refine wp_region_quiet_below (by kernel_rfl) (by kernel_rfl) ?_
  repeat (quiet_step (first | exact cO _ _))
  refine wpQuiet_nil ?_
  intro _ hw'
  obtain ⟨⟨dq, osq⟩, hw''⟩ := hw'
  subst hw''
  have H2 := Lib.hid (H.out.call (below_regrown w1 dq osq))
  clear t0 t1 t2 t3 f0 f1 f2 f3 f4 f5 f6 f7 f8 f9 f10 cO heq H
  generalize grow (redrawn w1 dq) osq = w2 at H2 ⊢
  go_wp2_with fail
  go_ret
  exact ⟨rfl, H2.out.below (fun _ => id)⟩

/-- What waits, wherever it lies. -/
def FRow (w : World) (a : Option Addr) (c : Nat) (q : List Wk.Fr) (L : Option Nat) : Prop := (L = none ∧ a = none ∧ c = 0 ∧ q = []) ∨ ∃ g off, L = some g ∧ a = some ⟨g, off, none⟩ ∧ RowK w 0 29 11 g off q.length c (Wk.fitm.flat q)
set_option maxRecDepth 10000 in
theorem fr_cells {w : World} {B g off n c : Nat} {q : List Wk.Fr} (h : RowK w B 29 11 g off n c (Wk.fitm.flat q)) {i : Nat} {x : Wk.Fr} (hx : q[i]? = some x) :
    w.cell? ⟨g, off + i * 11, none⟩ = some (.int .i64 x.k) ∧ w.cell? ⟨g, off + i * 11 + 1, none⟩ = some (.int .i64 x.c) ∧ w.cell? ⟨g, off + i * 11 + 2, none⟩ = some (.int .i64 x.s) ∧ w.cell? ⟨g, off + i * 11 + 3, none⟩ = some (.int .i64 x.t) ∧ w.cell? ⟨g, off + i * 11 + 4, none⟩ = some (.int .i64 x.g) ∧ w.cell? ⟨g, off + i * 11 + 5, none⟩ = some (.int .u32 x.a) ∧ w.cell? ⟨g, off + i * 11 + 6, none⟩ = some (.int .i64 x.r) ∧ w.cell? ⟨g, off + i * 11 + 7, none⟩ = some (.bool x.su) ∧ w.cell? ⟨g, off + i * 11 + 8, none⟩ = some (.bool x.st) ∧ w.cell? ⟨g, off + i * 11 + 9, none⟩ = some (.int .i64 x.q) ∧ w.cell? ⟨g, off + i * 11 + 10, none⟩ = some (.int .u32 x.v) :=
  ⟨Wk.fitm.cell h hx 0 (by decide) rfl, Wk.fitm.cell h hx 1 (by decide) rfl, Wk.fitm.cell h hx 2 (by decide) rfl, Wk.fitm.cell h hx 3 (by decide) rfl, Wk.fitm.cell h hx 4 (by decide) rfl, Wk.fitm.cell h hx 5 (by decide) rfl, Wk.fitm.cell h hx 6 (by decide) rfl, Wk.fitm.cell h hx 7 (by decide) rfl, Wk.fitm.cell h hx 8 (by decide) rfl, Wk.fitm.cell h hx 9 (by decide) rfl, Wk.fitm.cell h hx 10 (by decide) rfl⟩

set_option maxRecDepth 10000 in
/-- slices.IndexFunc over frames: the first of this call's turn. -/
theorem frindex_any {W : World} {bT c : Nat} {C T G A : Int} {a : Option Addr} {q : List Wk.Fr} {L : Option Nat} (h : FRow W a c q L) (hl : q.length ≤ 1000) (hb : W.heap[bT]? = some (.cells #[.int .i64 C, .int .i64 T, .int .i64 G, .int .u32 A] 75 (0, 0))) :
    Calls Try.prog 60 #[.slice a q.length c, .func (.func 47) #[] #[.pointer (some ⟨bT, 0, none⟩)]] W fun e w' =>
      ((∃ (i : Nat) (x : Wk.Fr), q[i]? = some x ∧ e = .returned (.int .i64 (i : Nat)) ∧ x.of C T G A = true ∧ ∀ (j : Nat) (y : Wk.Fr), j < i → q[j]? = some y → y.of C T G A = false) ∨ (e = .returned (.int .i64 (-1)) ∧ ∀ (j : Nat) (y : Wk.Fr), q[j]? = some y → y.of C T G A = false)) ∧ Below W.heap.size W w' := by
  have HB := Lib.hid hb
  have HL : Hid (∀ j, j < q.length → ∃ g off, a = some ⟨g, off, none⟩ ∧ RowK W 0 29 11 g off q.length c (Wk.fitm.flat q)) := by
    intro j hj
    rcases h with ⟨-, -, -, e⟩ | ⟨g, off, -, e, hr⟩
    · rw [e] at hj; exact absurd hj (Nat.not_lt_zero _)
    · exact ⟨g, off, e, hr⟩
  clear h hb
  generalize hn : q.length = n at *
  have HN := Lib.hid hn
  clear hn
  go_enter Try.func60, Try.ntmps60
  go_wp2
  go_loopg [8] (1000 : Nat) (fun g1 s8 wr => ∃ k : Nat, k ≤ n ∧ 1000 - k ≤ g1 ∧ s8 = .int .i64 k ∧ Hid (Below W.heap.size W wr ∧ ∀ (j : Nat) (y : Wk.Fr), j < k → q[j]? = some y → y.of C T G A = false))
  case atStart => exact ⟨0, Nat.zero_le _, by omega, rfl, ⟨Below.refl _ _, fun j _ hj => absurd hj (Nat.not_lt_zero _)⟩⟩
  case round =>
    obtain ⟨k, hk, hg, rfl, HI⟩ := hrel
    by_cases hlt : k < n
    · have hlt' : (k : Int) < (n : Int) := by omega
      have hwk : IntKind.i64.wrap ((k : Int) + 1) = (k : Int) + 1 := by rw [IntKind.wrap_i64]; omega
      obtain ⟨g, off, rfl, hrow⟩ := HL.out k hlt
      have hrow' := hrow.kept (HI.out.1.block _ hrow.lt)
      obtain ⟨x, hx⟩ : ∃ x, q[k]? = some x := ⟨q[k]'(by rw [HN.out]; exact hlt), List.getElem?_eq_getElem _⟩
      obtain ⟨a0, a1, a2, a3, a4, a5, a6, a7, a8, a9, a10⟩ := fr_cells hrow' hx
      have hcl := wkof1_any (c := C) (t := T) (g := G) (a := A) x (keep HB.out HI.out.1)
      have HX := Lib.hid hx
      clear hrow hrow' HL hx
      cases hs : x.of C T G A with
      | true =>
        rw [hs] at hcl
        have HS := Lib.hid hs
        clear hs
        go_wp2_with (go_at_call 47; refine hcl.mono ?_; rintro e w' ⟨rfl, hr⟩; clear a0 a1 a2 a3 a4 a5 a6 a7 a8 a9 a10)
        go_ret
        exact ⟨.inl ⟨k, x, HX.out, rfl, HS.out, HI.out.2⟩, on HI.out.1 hr⟩
      | false =>
        rw [hs] at hcl
        have HS := Lib.hid hs
        clear hs
        go_wp2_with (go_at_call 47; refine hcl.mono ?_; rintro e w' ⟨rfl, hr⟩; clear a0 a1 a2 a3 a4 a5 a6 a7 a8 a9 a10)
        go_roundg (1000 - (k + 1))
        case measure => omega
        case rel =>
          refine ⟨k + 1, by omega, by omega, by go_num, ⟨on HI.out.1 hr, fun j y hj hy => ?_⟩⟩
          by_cases e : j = k
          · subst e
            rw [HX.out] at hy
            cases hy
            exact HS.out
          · exact HI.out.2 j y (by omega) hy
    · obtain rfl : k = n := by omega
      go_wp2
      go_ret
      exact ⟨.inr ⟨rfl, fun j y hy => HI.out.2 j y (by have := (List.getElem?_eq_some_iff.1 hy).1; have := HN.out; omega) hy⟩, HI.out.1⟩
end Go.Proofs.Ytgboiejiodgcnaa

/- The contract of slices.DeleteFunc over frames: those of one call's turn go. -/
namespace Go.Proofs.Ytgboiejiodgcnaa
open Go.RowKit Go.Sort

set_option maxRecDepth 10000 in
/-- All behind the first ones. -/
theorem fr_from (g off i n c : Nat) (h1 : i < n) (h2 : n ≤ c) (w : World) : Sem.run Try.prog (Instr.sliceAt 37 (.slice (some ⟨g, off, none⟩) n c) (some (.int .i64 (i : Int))) none none) w = .ok (.slice (some ⟨g, off + i * 11, none⟩) (n - i) (c - i)) w := by
  rw [run_sliceAt_slice w _ _ _ _ _ Try.underlying37, run_slice_l w _ _ _ _ Try.underlying37 .i64 (i : Int) (by omega) (by omega), Try.elemFr, fr_size]
  simp only [Result.andThen, sliced, Int.toNat_natCast]
  rw [if_neg (by omega)]
  simp only [Option.map_some, Addr.add_lit]
set_option maxRecDepth 10000 in
theorem zero_cells_many (zc : Array Value) (h1 : ∀ v ∈ zc, v.oneCell' = true) (hs : zc.size = 11) (n : Nat) : (Builtin.zeroCells zc n).toList.length = n * 11 ∧ ∀ v ∈ (Builtin.zeroCells zc n).toList, v.oneCell' = true := by
  refine ⟨by simp [Builtin.zeroCells, hs], fun v hv => ?_⟩
  simp only [Builtin.zeroCells, Array.toList_map, List.mem_map] at hv
  obtain ⟨i, -, rfl⟩ := hv
  have hlt : i % zc.size < zc.size := Nat.mod_lt _ (by omega)
  rw [getElem!_pos zc _ hlt]
  exact h1 _ (Array.getElem_mem hlt)
set_option maxRecDepth 10000 in
theorem fr_clears {w : World} {B g off c n : Nat} {X Y : List Wk.Fr} (h : RowK w B 29 11 g off n c (Wk.fitm.flat (X ++ Y))) (hy : 0 < Y.length) : ∃ w', (∀ ty, (Builtin.clear_ #[37] ty #[.slice (some ⟨g, off + X.length * 11, none⟩) (n - X.length) (c - X.length)]).run Try.prog w = .ok (.tuple #[]) w') ∧ RowK w' B 29 11 g off X.length c (Wk.fitm.flat X) ∧ Rest (fun k => k = g) w w' := by
  obtain ⟨cur, hg, hs, hcur⟩ := h.block
  obtain ⟨i, z, hi, hz, hzs, hsz, -⟩ := Try.bigFrame.info
  have hlen := h.len
  have hroom := h.room
  rw [Wk.fitm.flat_length, List.length_append] at hlen
  have hn : X.length + Y.length = n := Nat.eq_of_mul_eq_mul_right (by decide) hlen
  have hm := Nat.mul_le_mul_right 11 hroom
  have hone : ∀ v ∈ z.cells, v.oneCell' = true := by
    have hzz : (Try.prog.info? 29).map (fun i => i.zero.map (fun z => z.cells.toList.all (·.oneCell'))) = some (some true) := by kernel_rfl
    rw [hi] at hzz
    simp only [Option.map_some, hz, Option.some.injEq] at hzz
    intro v hv
    exact List.all_eq_true.1 hzz v (by simpa using hv)
  obtain ⟨k1, k2⟩ := zero_cells_many z.cells hone hzs (n - X.length)
  have hmul : n * 11 = X.length * 11 + (n - X.length) * 11 := by rw [← Nat.add_mul]; congr 1; omega
  have hfit : off + X.length * 11 + ((Builtin.zeroCells z.cells (n - X.length)).toList).length ≤ cur.size := by rw [k1]; omega
  refine ⟨_, fun ty => run_clear_rowK (P := Try.prog) w 37 ty 29 i z g (off + X.length * 11) (n - X.length) (c - X.length) cur 29 _ Try.underlying37 hi hz rfl (fun e => by omega) hg hfit k2, ?_, Rest.setRow _ _ _ rfl⟩
  refine ⟨by rw [Wk.fitm.flat_length], h.from_, by omega, h.most, _, setRow_heap w g cur _ _ _ hg, ?_, fun j u hj => ?_⟩
  · simp only [List.size_toArray, List.length_append, List.length_take, List.length_drop, Array.length_toList, k1]
    omega
  · have hjl := (List.getElem?_eq_some_iff.1 hj).1
    rw [Wk.fitm.flat_length] at hjl
    have hcl : cur.toList.length = cur.size := Array.length_toList
    rw [List.getElem?_toArray, List.append_assoc, List.getElem?_append_left (by rw [List.length_take]; omega), List.getElem?_take_of_lt (by omega), Array.getElem?_toList]
    refine hcur j u ?_
    rw [Wk.fitm.flat_append, List.getElem?_append_left (by rw [Wk.fitm.flat_length]; exact hjl)]
    exact hj

namespace Wk
/-- Those that are not of this call's turn. -/
def but (q : List Fr) (c t g a : Int) : List Fr := q.filter fun f => !f.of c t g a
set_option maxRecDepth 10000 in
theorem but_self {q : List Fr} {c t g a : Int} (h : ∀ (j : Nat) (y : Fr), q[j]? = some y → y.of c t g a = false) : but q c t g a = q := by
  unfold but
  rw [List.filter_eq_self]
  intro f hf
  obtain ⟨j, hj⟩ := List.mem_iff_getElem?.1 hf
  rw [h j f hj]
  rfl
set_option maxRecDepth 10000 in
theorem but_take {q : List Fr} {c t g a : Int} {j : Nat} {y : Fr} (h : q[j]? = some y) : but (q.take (j + 1)) c t g a = but (q.take j) c t g a ++ (if y.of c t g a then [] else [y]) := by
  unfold but
  rw [List.take_add_one, h, List.filter_append]
  congr 1
  simp only [Option.toList_some]
  cases hy : y.of c t g a <;> simp [List.filter, hy]
end Wk
/-- How far the program is: X is kept of the first j, Y is left over. -/
structure FI (W wr : World) (g off c : Nat) (q X Y : List Wk.Fr) (j : Nat) (C T G A : Int) : Prop where
  row : RowK wr 0 29 11 g off q.length c (Wk.fitm.flat (X ++ Y ++ q.drop j))
  x : X = Wk.but (q.take j) C T G A
  len : X.length + Y.length = j
  pos : 0 < Y.length
  rest : Rest (fun k => k = g) W wr
namespace FI
variable {W wr wy : World} {g off c j : Nat} {q X Y : List Wk.Fr} {C T G A : Int} {y : Wk.Fr}
set_option maxRecDepth 10000 in
theorem call (h : FI W wr g off c q X Y j C T G A) (hb : Below wr.heap.size wr wy) : FI W wy g off c q X Y j C T G A :=
  ⟨h.row.kept (hb.block _ h.row.lt), h.x, h.len, h.pos, h.rest.trans (o3 := fun k => k = g) (Rest.of_below (own := fun _ => False) hb) (fun _ _ => id) (fun _ _ => False.elim)⟩
set_option maxRecDepth 10000 in
theorem item (h : FI W wr g off c q X Y j C T G A) (hy : q[j]? = some y) : (X ++ Y ++ q.drop j)[j]? = some y := by
  have := h.len
  rw [List.getElem?_append_right (by rw [List.length_append]; omega), List.length_append, h.len, Nat.sub_self, List.getElem?_drop, Nat.add_zero]
  exact hy
set_option maxRecDepth 10000 in
theorem place (h : FI W wr g off c q X Y j C T G A) : ∃ z, (X ++ Y ++ q.drop j)[X.length]? = some z := by
  have := h.pos
  exact ⟨(X ++ Y ++ q.drop j)[X.length]'(by rw [List.length_append, List.length_append]; omega), List.getElem?_eq_getElem _⟩
set_option maxRecDepth 10000 in
theorem drop (hy : q[j]? = some y) : q.drop j = y :: q.drop (j + 1) := by
  obtain ⟨hlt, rfl⟩ := List.getElem?_eq_some_iff.1 hy
  exact List.drop_eq_getElem_cons hlt
set_option maxRecDepth 10000 in
/-- It goes. -/
theorem goes (h : FI W wr g off c q X Y j C T G A) (hy : q[j]? = some y) (ho : y.of C T G A = true) : FI W wr g off c q X (Y ++ [y]) (j + 1) C T G A := by
  have hd := drop hy
  refine ⟨?_, ?_, ?_, ?_, h.rest⟩
  · have := h.row
    rw [hd] at this
    rw [show X ++ (Y ++ [y]) ++ q.drop (j + 1) = X ++ Y ++ (y :: q.drop (j + 1)) by simp]
    exact this
  · rw [Wk.but_take hy, ← h.x, ho]; simp
  · rw [List.length_append, List.length_singleton]; have := h.len; omega
  · rw [List.length_append]; have := h.pos; omega
set_option maxRecDepth 10000 in
/-- It is kept. -/
theorem stays (h : FI W wr g off c q X Y j C T G A) (hy : q[j]? = some y) (ho : y.of C T G A = false) : ∃ Y', FI W (wr.setCells g (off + X.length * 11) y.cells) g off c q (X ++ [y]) Y' (j + 1) C T G A := by
  have hd := drop hy
  obtain ⟨z, Z, hZ⟩ : ∃ z Z, Y = z :: Z := by
    have := h.pos
    cases hY : Y with
    | nil => rw [hY] at this; exact absurd this (Nat.not_lt_zero _)
    | cons z Z => exact ⟨z, Z, rfl⟩
  have hov := Wk.fitm.over h.row (i := X.length) (by have := h.pos; rw [List.length_append, List.length_append]; omega) y
  rw [hd, hZ, show (X ++ z :: Z ++ y :: q.drop (j + 1)).set X.length y = X ++ [y] ++ (Z ++ [y]) ++ q.drop (j + 1) by simp] at hov
  refine ⟨Z ++ [y], hov, ?_, ?_, by simp, h.rest.trans (Rest.cells (own := fun k => k = g) _ _ _ _ rfl) (fun _ _ => id) (fun _ _ => id)⟩
  · rw [Wk.but_take hy, ← h.x, ho]; simp
  · have := h.len
    rw [hZ, List.length_cons] at this
    simp only [List.length_append, List.length_singleton]
    omega
end FI
end Go.Proofs.Ytgboiejiodgcnaa

/- The contract of slices.DeleteFunc over frames, walked. -/
namespace Go.Proofs.Ytgboiejiodgcnaa
open Go.RowKit Go.Sort

set_option maxRecDepth 10000 in
set_option maxHeartbeats 2000000 in
theorem frdelf_any {W : World} {bT c : Nat} {C T G A : Int} {a : Option Addr} {q : List Wk.Fr} {L : Option Nat} (h : FRow W a c q L) (hl : q.length ≤ 1000) (hb : W.heap[bT]? = some (.cells #[.int .i64 C, .int .i64 T, .int .i64 G, .int .u32 A] 75 (0, 0))) (hL : L ≠ some bT) :
    Calls Try.prog 46 #[.slice a q.length c, .func (.func 47) #[] #[.pointer (some ⟨bT, 0, none⟩)]] W fun e w' =>
      e = .returned (.slice a (Wk.but q C T G A).length c) ∧ FRow w' a c (Wk.but q C T G A) L ∧ Rest (fun k => L = some k) W w' := by
  have HH := Lib.hid h
  have HI := Lib.hid (frindex_any h hl hb)
  have HB := Lib.hid hb
  have HLB := Lib.hid hL
  have HQL := Lib.hid hl
  clear h hb hL hl
  generalize hn : q.length = n at HI ⊢
  have HN := Lib.hid hn
  clear hn
  go_enter Try.func46, Try.ntmps46
  go_wp2_with fail
  refine HI.out.mono ?_
  rintro e w1 ⟨he, hb1⟩
  rcases he with ⟨i, x, hx, rfl, hof, hfirst⟩ | ⟨rfl, hall⟩
  · obtain ⟨g, off, hLg, ha, hr⟩ : ∃ g off, L = some g ∧ a = some ⟨g, off, none⟩ ∧ RowK W 0 29 11 g off q.length c (Wk.fitm.flat q) := by
      rcases HH.out with ⟨-, -, -, e⟩ | h
      · rw [e] at hx; simp at hx
      · exact h
    subst ha
    have hilt := (List.getElem?_eq_some_iff.1 hx).1
    have hin : i < n := by have := HN.out; omega
    have hroom := hr.room
    have hnc : n ≤ c := by have := HN.out; omega
    have hn1 : n ≤ 1000 := by have := HN.out; have := HQL.out; omega
    have hgT : bT ≠ g := fun e => HLB.out (by rw [hLg, e])
    have HF : Hid (FI W w1 g off c q (q.take i) [x] (i + 1) C T G A) := Lib.hid (by
      have hd : q.drop i = x :: q.drop (i + 1) := FI.drop hx
      refine ⟨?_, ?_, ?_, by simp, Rest.of_below hb1⟩
      · rw [show q.take i ++ [x] ++ q.drop (i + 1) = q.take i ++ (x :: q.drop (i + 1)) by simp, ← hd, List.take_append_drop]
        exact hr.kept (hb1.block _ hr.lt)
      · rw [Wk.but_take hx, hof]
        simp only [if_true, List.append_nil]
        symm
        exact Wk.but_self fun j y hy => by
          rw [List.getElem?_take] at hy
          split at hy
          · rename_i hji
            exact hfirst j y hji hy
          · cases hy
      · rw [List.length_take, List.length_singleton]; omega)
    have htl : (q.take i).length = i := by rw [List.length_take]; omega
    have HLG := Lib.hid hLg
    have HGT := Lib.hid hgT
    have HNC := Lib.hid hnc
    have hi1 : ¬(i : Int) = -1 := by omega
    have hwi : IntKind.i64.wrap ((i : Int) + 1) = (i : Int) + 1 := by rw [IntKind.wrap_i64]; omega
    have HTL := Lib.hid htl
    have hin1 : i + 1 ≤ n := hin
    clear hr hx hof hfirst hb1 HH HI hilt hroom hnc hLg hgT htl hin
    go_wp2_with fail
    go_loopg [5, 6] (1001 : Nat) (fun gh s5 s6 wr => ∃ (X Y : List Wk.Fr) (k j : Nat), s5 = .int .i64 (k : Int) ∧ s6 = .int .i64 (j : Int) ∧ j ≤ n ∧ 1001 - j ≤ gh ∧ k < j ∧ Hid (X.length = k ∧ FI W wr g off c q X Y j C T G A))
    case atStart => exact ⟨q.take i, [x], i, i + 1, rfl, by go_num, hin1, by omega, by omega, HTL.out, HF.out⟩
    case round =>
      obtain ⟨X, Y, k, j, rfl, rfl, hj, hg, hkj, HX⟩ := hrel
      clear hi1 hwi hin1 HF HTL
      by_cases hlt : j < n
      · have hlt' : (j : Int) < (n : Int) := by omega
        have hkn' : (k : Int) < (n : Int) := by omega
        have hwj : IntKind.i64.wrap ((j : Int) + 1) = (j : Int) + 1 := by rw [IntKind.wrap_i64]; omega
        have hwk : IntKind.i64.wrap ((k : Int) + 1) = (k : Int) + 1 := by rw [IntKind.wrap_i64]; omega
        obtain ⟨y, hy⟩ : ∃ y, q[j]? = some y := ⟨q[j]'(by rw [HN.out]; exact hlt), List.getElem?_eq_getElem _⟩
        obtain ⟨a0, a1, a2, a3, a4, a5, a6, a7, a8, a9, a10⟩ := fr_cells HX.out.2.row (HX.out.2.item hy)
        have HY := Lib.hid hy
        clear hy
        go_upto_region 8 with fail
        have hfb := heap_alloc_new wr (.cells #[.int .i64 y.k, .int .i64 y.c, .int .i64 y.s, .int .i64 y.t, .int .i64 y.g, .int .u32 y.a, .int .i64 y.r, .bool y.su, .bool y.st, .int .i64 y.q, .int .u32 y.v] 29)
        have HX2 := Lib.hid (And.intro HX.out.1 (HX.out.2.call (below_box wr (.cells #[.int .i64 y.k, .int .i64 y.c, .int .i64 y.s, .int .i64 y.t, .int .i64 y.g, .int .u32 y.a, .int .i64 y.r, .bool y.su, .bool y.st, .int .i64 y.q, .int .u32 y.v] 29))))
        have hbF := heap_lt hfb
        have hFg : wr.heap.size ≠ g := by have := HX.out.2.row.lt; omega
        clear a0 a1 a2 a3 a4 a5 a6 a7 a8 a9 a10 HX
        generalize wr.alloc _ = w2 at hfb HX2 hbF ⊢
        generalize wr.heap.size = bF at hfb hFg hbF ⊢
        have hcl := wkof1_any (c := C) (t := T) (g := G) (a := A) y ((HX2.out.2.rest.block bT (heap_lt HB.out) HGT.out).trans HB.out)
        obtain ⟨f0, f1, f2, f3, f4, f5, f6, f7, f8, f9, f10⟩ := frame_cells hfb
        have HFB := Lib.hid hfb
        clear hfb hbF
        cases hs : y.of C T G A with
        | true =>
          rw [hs] at hcl
          have HS := Lib.hid hs
          clear hs
          go_wp2_with (go_at_call 47; refine hcl.mono ?_; rintro e w3 ⟨rfl, hr⟩; clear f0 f1 f2 f3 f4 f5 f6 f7 f8 f9 f10)
          go_roundg (1001 - (j + 1))
          case measure => omega
          case rel => exact ⟨X, Y ++ [y], k, j + 1, rfl, by go_num, by omega, by omega, by omega, HX2.out.1, (HX2.out.2.call hr).goes HY.out HS.out⟩
        | false =>
          rw [hs] at hcl
          have HS := Lib.hid hs
          clear hs
          go_wp2_with fail
          go_at_call 47
          refine hcl.mono ?_
          rintro e w3 ⟨rfl, hr⟩
          dsimp only
          clear f0 f1 f2 f3 f4 f5 f6 f7 f8 f9 f10 hcl
          have HX3 := Lib.hid (And.intro HX2.out.1 (HX2.out.2.call hr))
          obtain ⟨f0, f1, f2, f3, f4, f5, f6, f7, f8, f9, f10⟩ := frame_cells (keep HFB.out hr)
          clear hr HX2 HFB
          obtain ⟨z, hz⟩ := HX3.out.2.place
          obtain ⟨a0, a1, a2, a3, a4, a5, a6, a7, a8, a9, a10⟩ := fr_cells HX3.out.2.row hz
          have fz := fun i => Wk.fitm.free HX3.out.2.row i
          obtain ⟨Y', hF'⟩ := HX3.out.2.stays HY.out HS.out
          have HF' := Lib.hid hF'
          clear hF' hz
          have hxk := HX3.out.1
          subst hxk
          go_wp2_with fail
          go_roundg (1001 - (j + 1))
          case measure => omega
          case rel => exact ⟨X ++ [y], Y', X.length + 1, j + 1, by go_num, by go_num, by omega, by omega, by omega, by simp, HF'.out⟩
      · obtain rfl : j = n := by omega
        have hfrom := fr_from g off k j c hkj HNC.out
        have hrow := HX.out.2.row
        rw [List.drop_of_length_le (by rw [HN.out]; exact Nat.le_refl _), List.append_nil] at hrow
        obtain ⟨w4, hcl, h4, hr4⟩ := fr_clears hrow HX.out.2.pos
        rw [HX.out.1, HN.out] at hcl
        have hbut : Wk.but q C T G A = X := by
          have := HX.out.2.x
          rw [List.take_of_length_le (by rw [HN.out]; exact Nat.le_refl _)] at this
          exact this.symm
        have hkc : (k : Int) ≤ (c : Int) := by have := HNC.out; omega
        have HR := Lib.hid (HX.out.2.rest.trans hr4 (o3 := fun k => k = g) (fun _ _ => id) (fun _ _ => id))
        have H4 := Lib.hid h4
        have HXK := Lib.hid HX.out.1
        have HBT := Lib.hid hbut
        clear hrow h4 hr4 hbut HX
        go_wp2_with fail
        go_ret
        rw [HBT.out]
        exact ⟨by rw [HXK.out]; rfl, .inr ⟨g, off, HLG.out, rfl, H4.out⟩, HR.out.mono (fun i _ e => by rw [HLG.out, e])⟩
  · have hbs := Wk.but_self hall
    go_wp2_with fail
    go_ret
    rw [hbs]
    refine ⟨by rw [HN.out]; rfl, ?_, Rest.of_below hb1⟩
    rcases HH.out with h | ⟨g, off, e1, e2, hr⟩
    · exact .inl h
    · exact .inr ⟨g, off, e1, e2, hr.kept (hb1.block _ hr.lt)⟩
end Go.Proofs.Ytgboiejiodgcnaa

/- The contract of a worker's Cancel. -/
namespace Go.Proofs.Ytgboiejiodgcnaa
open Go.RowKit Go.Sort

namespace Wk
/-- Without what is of a call's turn. -/
def Wo.stop (o : Wo) (c t g a : Int) : Wo := if o.does c t g a then o.rest else o
def Wo.gone (o : Wo) (c t g a : Int) : Wo := { o.stop c t g a with q := but o.q c t g a }
set_option maxRecDepth 10000 in
theorem Wo.stop_q (o : Wo) (c t g a : Int) : (o.stop c t g a).q = o.q := by unfold Wo.stop; split <;> rfl
set_option maxRecDepth 10000 in
theorem but_len (q : List Fr) (c t g a : Int) : (but q c t g a).length ≤ q.length := List.length_filter_le _ _
set_option maxRecDepth 10000 in
theorem Wo.gone_load (o : Wo) (c t g a : Int) : 0 ≤ (o.gone c t g a).load ∧ (o.gone c t g a).load ≤ (o.q.length : Int) + 1 := by
  have h := but_len o.q c t g a
  unfold Wo.gone Wo.load
  dsimp only
  split <;> omega
end Wk
set_option maxRecDepth 10000 in
theorem Wd.frow {w : World} {P : Nat} {o : Wk.Wo} {L : Option Nat} {a : Option Addr} {c : Nat} (h : Wd w P o L) (hP : w.heap[P]? = some (.cells (o.cells a c).toArray 68 (0, 0))) : FRow w a c o.q L := by
  obtain ⟨a', c', hP2, hrow⟩ := h
  rw [hP] at hP2
  obtain ⟨rfl, rfl⟩ : a = a' ∧ c = c' := by simpa [Wk.Wo.cells] using hP2
  rcases hrow with h | ⟨g, off, e1, e2, -, hr⟩
  · exact .inl h
  · exact .inr ⟨g, off, e1, e2, hr⟩

set_option maxRecDepth 10000 in
/-- Cancel. -/
theorem wkcancel_nil (f : Wk.Fr) (w : World) : Calls Try.prog 25 #[.pointer none, .agg #[.int .i64 f.k, .int .i64 f.c, .int .i64 f.s, .int .i64 f.t, .int .i64 f.g, .int .u32 f.a, .int .i64 f.r, .bool f.su, .bool f.st, .int .i64 f.q, .int .u32 f.v]] w fun e w' => e = .returned (.int .i64 0) ∧ Below w.heap.size w w' := by
  have H := Lib.hid ((Upon.start (fun _ => False) w).lay (.cells #[.int .i64 f.k, .int .i64 f.c, .int .i64 f.s, .int .i64 f.t, .int .i64 f.g, .int .u32 f.a, .int .i64 f.r, .bool f.su, .bool f.st, .int .i64 f.q, .int .u32 f.v] 29))
  go_enter Try.func25, Try.ntmps25
  go_upto_region 1 with fail
  generalize w.alloc _ = w1 at H ⊢
  generalize w.heap.size = bF at H ⊢
  go_wp2_with fail
  refine (wkload_nil w1).mono ?_
  rintro e w2 ⟨rfl, rfl⟩
  go_wp2_with fail
  go_ret
  exact ⟨rfl, H.out.below (fun _ => id)⟩
set_option maxRecDepth 10000 in
theorem wkcancel_none {P : Nat} {o : Wk.Wo} {L : Option Nat} (f : Wk.Fr) (h0 : o.load = 0) (w : World) (h : Wd w P o L) : Calls Try.prog 25 #[.pointer (some ⟨P, 0, none⟩), .agg #[.int .i64 f.k, .int .i64 f.c, .int .i64 f.s, .int .i64 f.t, .int .i64 f.g, .int .u32 f.a, .int .i64 f.r, .bool f.su, .bool f.st, .int .i64 f.q, .int .u32 f.v]] w fun e w' => e = .returned (.int .i64 0) ∧ Below w.heap.size w w' := by
  have H := Lib.hid ((Upon.start (fun _ => False) w).lay (.cells #[.int .i64 f.k, .int .i64 f.c, .int .i64 f.s, .int .i64 f.t, .int .i64 f.g, .int .u32 f.a, .int .i64 f.r, .bool f.su, .bool f.st, .int .i64 f.q, .int .u32 f.v] 29))
  have HW := Lib.hid (h.call (H.out.below (fun _ => id)))
  have hq : o.q.length ≤ 1000000 := by unfold Wk.Wo.load at h0; split at h0 <;> omega
  clear h
  go_enter Try.func25, Try.ntmps25
  go_upto_region 1 with fail
  generalize w.alloc _ = w1 at HW H ⊢
  generalize w.heap.size = bF at H ⊢
  go_wp2_with fail
  refine (wkload_any hq w1 HW.out).mono ?_
  rintro e w2 ⟨rfl, rfl⟩
  rw [h0]
  clear hq
  go_wp2_with fail
  go_ret
  exact ⟨rfl, H.out.below (fun _ => id)⟩
set_option maxRecDepth 10000 in
set_option maxHeartbeats 2000000 in
theorem wkcancel_any {P : Nat} {o : Wk.Wo} {L : Option Nat} (f : Wk.Fr) (h0 : o.load ≠ 0) (hq : o.q.length ≤ 1000) (w : World) (h : Wd w P o L) : Calls Try.prog 25 #[.pointer (some ⟨P, 0, none⟩), .agg #[.int .i64 f.k, .int .i64 f.c, .int .i64 f.s, .int .i64 f.t, .int .i64 f.g, .int .u32 f.a, .int .i64 f.r, .bool f.su, .bool f.st, .int .i64 f.q, .int .u32 f.v]] w fun e w' => e = .returned (.int .i64 (o.load - (o.gone f.c f.t f.g f.a).load)) ∧ Wd w' P (o.gone f.c f.t f.g f.a) L ∧ Rest (fun k => k = P ∨ L = some k) w w' := by
  have H := Lib.hid ((Upon.start (fun k => k = P ∨ L = some k) w).lay (.cells #[.int .i64 f.k, .int .i64 f.c, .int .i64 f.s, .int .i64 f.t, .int .i64 f.g, .int .u32 f.a, .int .i64 f.r, .bool f.su, .bool f.st, .int .i64 f.q, .int .u32 f.v] 29))
  have HW := Lib.hid (h.call (below_box w (.cells #[.int .i64 f.k, .int .i64 f.c, .int .i64 f.s, .int .i64 f.t, .int .i64 f.g, .int .u32 f.a, .int .i64 f.r, .bool f.su, .bool f.st, .int .i64 f.q, .int .u32 f.v] 29)))
  have hPL := Lib.hid h.lt
  have hRL := Lib.hid (show ∀ g, L = some g → g < w.heap.size from fun g e => (h.row e).1)
  have hle : 0 ≤ o.load ∧ o.load ≤ (o.q.length : Int) + 1 := by unfold Wk.Wo.load; split <;> omega
  have hgl := o.gone_load f.c f.t f.g f.a
  have hw : IntKind.i64.wrap (o.load - (o.gone f.c f.t f.g f.a).load) = o.load - (o.gone f.c f.t f.g f.a).load := by rw [IntKind.wrap_i64]; omega
  have HQ := Lib.hid hq
  have hd0 : decide (o.load = 0) = false := decide_eq_false h0
  clear h hle hgl hq
  go_enter Try.func25, Try.ntmps25
  go_upto_region 1 with fail
  generalize w.alloc _ = w1 at HW H ⊢
  generalize hbf : w.heap.size = bF at H hPL hRL ⊢
  go_wp2_with fail
  refine (wkload_any (by have := HQ.out; omega) w1 HW.out).mono ?_
  rintro e w2 ⟨rfl, rfl⟩
  dsimp only
  obtain ⟨f0, f1, f2, f3, f4, f5, f6, f7, f8, f9, f10⟩ := frame_cells (H.out.get 0 rfl)
  go_wp2_with fail
  refine (wkof_any f w1).mono ?_
  rintro e w2 ⟨rfl, hb⟩
  dsimp only
  have H2 := Lib.hid (H.out.call hb)
  have HW2 := Lib.hid (HW.out.call hb)
  clear hb H HW f0 f1 f2 f3 f4 f5 f6 f7 f8 f9 f10
  go_upto_region 5 with fail
  have H3 := Lib.hid (H2.out.lay (.cells #[.int .i64 f.c, .int .i64 f.t, .int .i64 f.g, .int .u32 f.a] 75))
  have HW3 := Lib.hid (HW2.out.call (below_box w2 (.cells #[.int .i64 f.c, .int .i64 f.t, .int .i64 f.g, .int .u32 f.a] 75)))
  have hPT := Lib.hid (Nat.ne_of_lt HW2.out.lt)
  have hLT := Lib.hid (show ∀ g, L = some g → g ≠ w2.heap.size from fun g e => Nat.ne_of_lt (HW2.out.row e).1)
  clear H2 HW2
  generalize w2.alloc _ = w3 at H3 HW3 ⊢
  generalize w2.heap.size = bT at H3 hPT hLT ⊢
  have tb := H3.out.get 0 rfl
  have t0 := cell_of_row _ _ 0 _ _ _ tb
  have t1 := cell_of_row _ _ 1 _ _ _ tb
  have t2 := cell_of_row _ _ 2 _ _ _ tb
  have t3 := cell_of_row _ _ 3 _ _ _ tb
  clear tb
  go_wp2_with fail
  refine (wkdoes_any f.c f.t f.g f.a w3 HW3.out).mono ?_
  rintro e w4 ⟨rfl, hb⟩
  dsimp only
  have H4 := Lib.hid (H3.out.call hb)
  have HW4 := Lib.hid (HW3.out.call hb)
  clear hb H3 HW3 t0 t1 t2 t3
  cases hdo : o.does f.c f.t f.g f.a with
  | true =>
    have HST : Hid (o.stop f.c f.t f.g f.a = o.rest) := Lib.hid (by unfold Wk.Wo.stop; rw [if_pos hdo])
    clear hdo
    go_wp2_with fail
    refine (wkrest_any w4 HW4.out).mono ?_
    rintro e w5 ⟨rfl, hw5, hr5⟩
    dsimp only
    have HT5 := Lib.hid ((hr5.block bT (heap_lt (H4.out.get 0 rfl)) (Ne.symm hPT.out)).trans (H4.out.get 0 rfl))
    have HR5 := Lib.hid (H4.out.rest.trans (o3 := fun k => k = P ∨ L = some k) hr5 (fun _ _ => id) (fun _ _ => .inl))
    have HW5 := Lib.hid hw5
    clear hw5 hr5 H4 HW4
    obtain ⟨sa, sc, hP⟩ := HW5.out.shape
    have p1 := (wk_cells hP).2.1
    have hfrow := HW5.out.frow hP
    have HP5 := Lib.hid hP
    clear hP
    try dsimp only [Wk.Wo.rest] at p1 hfrow
    go_wp2_with fail
    refine (frdelf_any hfrow HQ.out HT5.out (fun e => hLT.out _ e rfl)).mono ?_
    rintro e w6 ⟨rfl, hfr, hr6⟩
    dsimp only
    have hP6 := (hr6.block P (lt_of_block HP5.out) (fun e => (HW5.out.row e).2 rfl)).trans HP5.out
    have HLP := Lib.hid (show ∀ g, L = some g → g ≠ P from fun g e => (HW5.out.row e).2)
    have HF6 := Lib.hid hfr
    have HR6 := Lib.hid (HR5.out.trans (o3 := fun k => k = P ∨ L = some k) hr6 (fun _ _ => id) (fun _ _ => .inr))
    obtain ⟨-, p1, -⟩ := wk_cells hP6
    have fz := frozen_of_row _ _ 1 _ _ hP6
    have HP6 := Lib.hid hP6
    clear hfrow hfr hr6 hP6 HR5 HW5 HT5 HP5
    go_upto_region 8 with fail
    have e7 : (w6.setCell ⟨P, 1, none⟩ (.slice sa (Wk.but o.q f.c f.t f.g f.a).length sc)).heap[P]? = some (.cells ((o.gone f.c f.t f.g f.a).cells sa sc).toArray 68 (0, 0)) := by
      unfold Wk.Wo.gone
      rw [HST.out]
      exact heap_setCell_same _ P 1 _ _ _ HP6.out
    have HW7 : Hid (Wd (w6.setCell ⟨P, 1, none⟩ (.slice sa (Wk.but o.q f.c f.t f.g f.a).length sc)) P (o.gone f.c f.t f.g f.a) L) := Lib.hid (by
      refine ⟨sa, sc, e7, ?_⟩
      rcases HF6.out with ⟨a1, a2, a3, a4⟩ | ⟨g, off, a1, a2, a3⟩
      · exact .inl ⟨a1, a2, a3, a4⟩
      · exact .inr ⟨g, off, a1, a2, HLP.out g a1, a3.kept (heap_setCell_other _ _ _ _ (HLP.out g a1))⟩)
    have HR7 := Lib.hid (HR6.out.trans (o3 := fun k => k = P ∨ L = some k) (Rest.setCell (own := fun k => k = P) w6 ⟨P, 1, none⟩ (.slice sa (Wk.but o.q f.c f.t f.g f.a).length sc) rfl) (fun _ _ => id) (fun _ _ => .inl))
    generalize w6.setCell _ _ = w7 at e7 HW7 HR7 ⊢
    clear e7 p1 fz HR6 HF6 HP6
    go_wp2_with fail
    refine (wkload_any (by have := Wk.but_len o.q f.c f.t f.g f.a; have := HQ.out; show (Wk.but o.q f.c f.t f.g f.a).length ≤ 1000000; omega) w7 HW7.out).mono ?_
    rintro e w8 ⟨rfl, rfl⟩
    dsimp only
    go_wp2_with fail
    go_ret
    exact ⟨rfl, HW7.out, HR7.out⟩
  | false =>
    have HST : Hid (o.stop f.c f.t f.g f.a = o) := Lib.hid (by unfold Wk.Wo.stop; rw [hdo]; rfl)
    clear hdo
    have HT5 := Lib.hid (H4.out.get 0 rfl)
    have HR5 := Lib.hid H4.out.rest
    have HW5 := HW4
    clear H4
    clear HW4
    obtain ⟨sa, sc, hP⟩ := HW5.out.shape
    have p1 := (wk_cells hP).2.1
    have hfrow := HW5.out.frow hP
    have HP5 := Lib.hid hP
    clear hP
    try dsimp only [Wk.Wo.rest] at p1 hfrow
    go_wp2_with fail
    refine (frdelf_any hfrow HQ.out HT5.out (fun e => hLT.out _ e rfl)).mono ?_
    rintro e w6 ⟨rfl, hfr, hr6⟩
    dsimp only
    have hP6 := (hr6.block P (lt_of_block HP5.out) (fun e => (HW5.out.row e).2 rfl)).trans HP5.out
    have HLP := Lib.hid (show ∀ g, L = some g → g ≠ P from fun g e => (HW5.out.row e).2)
    have HF6 := Lib.hid hfr
    have HR6 := Lib.hid (HR5.out.trans (o3 := fun k => k = P ∨ L = some k) hr6 (fun _ _ => id) (fun _ _ => .inr))
    obtain ⟨-, p1, -⟩ := wk_cells hP6
    have fz := frozen_of_row _ _ 1 _ _ hP6
    have HP6 := Lib.hid hP6
    clear hfrow hfr hr6 hP6 HR5 HW5 HT5 HP5
    go_upto_region 8 with fail
    have e7 : (w6.setCell ⟨P, 1, none⟩ (.slice sa (Wk.but o.q f.c f.t f.g f.a).length sc)).heap[P]? = some (.cells ((o.gone f.c f.t f.g f.a).cells sa sc).toArray 68 (0, 0)) := by
      unfold Wk.Wo.gone
      rw [HST.out]
      exact heap_setCell_same _ P 1 _ _ _ HP6.out
    have HW7 : Hid (Wd (w6.setCell ⟨P, 1, none⟩ (.slice sa (Wk.but o.q f.c f.t f.g f.a).length sc)) P (o.gone f.c f.t f.g f.a) L) := Lib.hid (by
      refine ⟨sa, sc, e7, ?_⟩
      rcases HF6.out with ⟨a1, a2, a3, a4⟩ | ⟨g, off, a1, a2, a3⟩
      · exact .inl ⟨a1, a2, a3, a4⟩
      · exact .inr ⟨g, off, a1, a2, HLP.out g a1, a3.kept (heap_setCell_other _ _ _ _ (HLP.out g a1))⟩)
    have HR7 := Lib.hid (HR6.out.trans (o3 := fun k => k = P ∨ L = some k) (Rest.setCell (own := fun k => k = P) w6 ⟨P, 1, none⟩ (.slice sa (Wk.but o.q f.c f.t f.g f.a).length sc) rfl) (fun _ _ => id) (fun _ _ => .inl))
    generalize w6.setCell _ _ = w7 at e7 HW7 HR7 ⊢
    clear e7 p1 fz HR6 HF6 HP6
    go_wp2_with fail
    refine (wkload_any (by have := Wk.but_len o.q f.c f.t f.g f.a; have := HQ.out; show (Wk.but o.q f.c f.t f.g f.a).length ≤ 1000000; omega) w7 HW7.out).mono ?_
    rintro e w8 ⟨rfl, rfl⟩
    dsimp only
    go_wp2_with fail
    go_ret
    exact ⟨rfl, HW7.out, HR7.out⟩
end Go.Proofs.Ytgboiejiodgcnaa
