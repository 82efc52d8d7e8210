/- The contract of a service's request. -/
import Derived.Test.YtgboiejiodgcnaaSvD
import Derived.Test.YtgboiejiodgcnaaRtB
namespace Go.Proofs.Ytgboiejiodgcnaa
open Go.RowKit Go.Sort

theorem Dd.meet_code {n c k t : Int} {su : Bool} {q : List Dd.Cl} : (Dd.meet n c k t su q).1 = 0 ∨ (Dd.meet n c k t su q).1 = 1 ∨ (Dd.meet n c k t su q).1 = 2 ∨ (Dd.meet n c k t su q).1 = 3 ∨ (Dd.meet n c k t su q).1 = 4 := by
  unfold Dd.meet
  split
  · simp
  · split
    · split <;> simp
    · rename_i x _
      split
      · simp
      · unfold Dd.told
        cases su <;> cases x.d <;> simp
section
variable {G : Nat → Prop} {w0 : World} {l : List Part} {S i : Nat} {ps : List Nat} {o : Sv.Ob} {f : Wk.Fr}
set_option maxRecDepth 10000 in
set_option maxHeartbeats 2000000 in
/-- request. -/
theorem svrequest_any (hk : Sv.Ok o) (w : World) (h : Own G w0 w l) (e : l[i]? = some (Sv.part S ps o)) : Calls Try.prog 24 #[.pointer (some ⟨S, 0, none⟩), .agg #[.int .i64 f.k, .int .i64 f.c, .int .i64 f.s, .int .i64 f.t, .int .i64 f.g, .int .u32 f.a, .int .i64 f.r, .bool f.su, .bool f.st, .int .i64 f.q, .int .u32 f.v]] w fun e w' => e = .returned (.tuple #[]) ∧ Own G w0 w' (l.set i (Sv.part S ps (o.request f))) := by
  have H := Lib.hid (h.lay (.cells #[.int .i64 f.k, .int .i64 f.c, .int .i64 f.s, .int .i64 f.t, .int .i64 f.g, .int .u32 f.a, .int .i64 f.r, .bool f.su, .bool f.st, .int .i64 f.q, .int .u32 f.v] 29))
  have HE := Lib.hid e
  have HK := Lib.hid hk
  clear h e hk
  go_enter Try.func24, Try.ntmps24
  go_upto_region 1 with fail
  generalize w.alloc _ = w1 at H ⊢
  generalize w.heap.size = bF at H ⊢
  go_wp2_with fail
  refine (svloads_any (i := i + 1) HK.out.few (fun x hx => by have := HK.out.q x hx; omega) w1 H.out HE.out).mono ?_
  rintro e w2 ⟨a, c, rfl, hn, hb⟩
  have H2 := Lib.hid (H.out.past hb)
  have HN := Lib.hid hn
  clear hb hn H
  go_wp2_with fail
  refine (svroom_any (i := i + 1) w2 H2.out HE.out).mono ?_
  rintro e w3 ⟨rfl, rfl⟩
  go_wp2_with fail
  refine (rtleast_any o.room w2 HN.out (by have := HK.out.few; omega)).mono ?_
  rintro e w3 ⟨rfl, hb⟩
  have H3 := Lib.hid (H2.out.past hb)
  clear hb H2 HN
  have HB : Hid (o.least = Rt.best o.load o.room o.ws.length) := Lib.hid rfl
  generalize Rt.best o.load o.room o.ws.length = b at HB ⊢
  obtain ⟨A, hA⟩ : ∃ A, Sv.busy o f = A := ⟨_, rfl⟩
  have HA := Lib.hid hA
  clear hA
  go_upto_region 2 with fail
  go_cut [25] (fun s25 wx => s25 = .bool A ∧ Hid (Own G w0 wx (.box bF (.cells #[.int .i64 f.k, .int .i64 f.c, .int .i64 f.s, .int .i64 f.t, .int .i64 f.g, .int .u32 f.a, .int .i64 f.r, .bool f.su, .bool f.st, .int .i64 f.q, .int .u32 f.v] 29 (0, 0)) :: l)))
  case first =>
    cases b with
    | some k =>
      have hA : A = false := by rw [← HA.out]; unfold Sv.busy; rw [HB.out]; rfl
      subst hA
      simp only [Rt.ans]
      have hk0 : ¬(k : Int) < 0 := by omega
      have hk1 : decide ((k : Int) < 0) = false := decide_eq_false hk0
      go_quiet (fail)
      have H4 := Lib.hid (H3.out.drewN nq)
      go_wp2_with fail
      go_meet
      case rel => exact ⟨rfl, H4⟩
    | none =>
      simp only [Rt.ans]
      have q7 := (frame_cells (H3.out.box 0 rfl)).2.2.2.2.2.2.2.1
      rcases Bool.eq_false_or_eq_true f.su with hs | hs
      rotate_left
      · have hA : A = true := by rw [← HA.out]; unfold Sv.busy; rw [HB.out, hs]; rfl
        subst hA
        rw [hs] at q7
        clear hs
        go_quiet (fail)
        have H4 := Lib.hid (H3.out.drewN nq)
        go_wp2_with fail
        go_meet
        case rel => exact ⟨rfl, H4⟩
      · have hA : A = decide (Dd.runs f.c f.a o.q = 0) := by rw [← HA.out]; unfold Sv.busy; rw [HB.out, hs]; rfl
        obtain ⟨m, L, hS, hd, -⟩ := Sv.dc H3.out (i + 1) HE.out
        have p2 := cell_regrown (Sv.cells_at hS).2.2.1
        obtain ⟨q0, q1, q2, q3, q4, q5, q6, -, q8, q9, q10⟩ := frame_cells (H3.out.box 0 rfl)
        have g0 := cell_regrown q0
        have g1 := cell_regrown q1
        have g2 := cell_regrown q2
        have g3 := cell_regrown q3
        have g4 := cell_regrown q4
        have g5 := cell_regrown q5
        have g6 := cell_regrown q6
        have g7 := cell_regrown q7
        have g8 := cell_regrown q8
        have g9 := cell_regrown q9
        have g10 := cell_regrown q10
        rw [hs] at g7
        have cV : ∀ d os, Calls Try.prog 38 #[.pointer (some ⟨m.C, 0, none⟩), .agg #[.int .i64 f.k, .int .i64 f.c, .int .i64 f.s, .int .i64 f.t, .int .i64 f.g, .int .u32 f.a, .int .i64 f.r, .bool true, .bool f.st, .int .i64 f.q, .int .u32 f.v]] (grow (redrawn w3 d) os) fun e w'' => e = .returned (.int .i64 (Dd.runs f.c f.a o.q)) ∧ ∃ p : Regrown, w'' = grow (redrawn w3 p.d) p.os := fun d os => Calls.regrown_of (by have := dcount_any f (by have := HK.out.k; omega) _ (hd.call (below_regrown w3 d os)); rw [hs] at this; exact this)
        generalize Dd.runs f.c f.a o.q = rn at hA cV
        have HD := Lib.hid hA
        clear hA
        clear hS hd q0 q1 q2 q3 q4 q5 q6 q7 q8 q9 q10 hs
        refine wp_region_quiet_below (by kernel_rfl) (by kernel_rfl) ?_
        repeat (quiet_step (first | exact cV _ _))
        refine wpQuiet_nil ?_
        intro _ hw'
        obtain ⟨⟨dq, osq⟩, hw''⟩ := hw'
        subst hw''
        have H4 := Lib.hid (H3.out.past (below_regrown w3 dq osq))
        go_wp2_with fail
        go_meet
        case rel => exact ⟨congrArg Value.bool (by rw [HD.out]; by_cases e : rn = 0 <;> simp [e]), H4⟩
  case rest =>
  obtain ⟨rfl, H⟩ := hcut
  clear H3
  cases A with
  | true =>
    obtain ⟨g0, g1, g2, g3, g4, g5, g6, g7, g8, g9, g10⟩ := frame_cells (H.out.box 0 rfl)
    go_wp2_with fail
    refine (svrefuse_any (f := f) (i := i + 1) 3 _ H.out HE.out).mono ?_
    rintro e w5 ⟨rfl, h4⟩
    have H4 := Lib.hid h4.tail
    clear h4 H g0 g1 g2 g3 g4 g5 g6 g7 g8 g9 g10
    go_wp2_with fail
    refine bodyPost_ret (results_none rfl _ _ _) rfl ?_
    exact ⟨rfl, by rw [Sv.request_busy HA.out]; exact H4.out⟩
  | false =>
    go_upto_region 4 with fail
    obtain ⟨m, L, hS, hd, hback⟩ := Sv.dc H.out (i + 1) HE.out
    refine wp_region_Z_drew 5 (S := fun w' => w'.heap[S]? = some (.cells (Sv.cells o m).toArray 52 (0, 0)) ∧ w'.heap[bF]? = some (.cells f.cells.toArray 29 (0, 0))) (by kernel_rfl) ⟨hS, H.out.box 0 rfl⟩ (fun hHeld => ?_)
    clear hd hback hS
    have H5 := Lib.hid H.out.drew
    clear H
    generalize World.drew _ = w5 at H5 hHeld ⊢
    refine wpAnyZ_yieldc [3,2,1] 0 (.pointer (some ⟨S, 0, none⟩)) rfl (by kernel_rfl) (by kernel_rfl) (by kernel_rfl) (fun d _ _ _ h => by cases d <;> exact h) (by rfl) (by assumption) (fun _ _ => by go_simp) ?_
    simp only [Act.put, List.setIfInBounds_toArray, List.set_cons_zero, List.set_cons_succ]
    refine wpAnyZ_yieldc [3,2] 1 (.pointer (some ⟨S, 0, none⟩)) rfl (by kernel_rfl) (by kernel_rfl) (by kernel_rfl) (fun d _ _ _ h => by cases d <;> exact h) (by rfl) (by assumption) (fun _ _ => by go_simp) ?_
    simp only [Act.put, List.setIfInBounds_toArray, List.set_cons_zero, List.set_cons_succ]
    refine wpAnyZ_yieldc [3] 2 (.pointer (some ⟨S, 2, none⟩)) rfl (by kernel_rfl) (by kernel_rfl) (by kernel_rfl) (fun d _ _ _ h => by cases d <;> exact h) (by rfl) (by assumption) (fun _ _ => by go_simp) ?_
    simp only [Act.put, List.setIfInBounds_toArray, List.set_cons_zero, List.set_cons_succ]
    refine wpAnyZ_yield 3 (.pointer (some ⟨m.C, 0, none⟩)) rfl (by kernel_rfl) (by kernel_rfl) (by kernel_rfl) (fun d _ _ _ h => by cases d <;> exact h) (by rfl) (by assumption) (fun _ hSw => by have hcs := (Sv.cells_at hSw.1).2.2.1; go_simp) ?_
    simp only [Act.put, List.setIfInBounds_toArray, List.set_cons_zero, List.set_cons_succ]
    refine wpAnyZ_yield 4 (.agg #[.int .i64 f.k, .int .i64 f.c, .int .i64 f.s, .int .i64 f.t, .int .i64 f.g, .int .u32 f.a, .int .i64 f.r, .bool f.su, .bool f.st, .int .i64 f.q, .int .u32 f.v]) rfl (by kernel_rfl) (by kernel_rfl) (by kernel_rfl) (fun d _ _ _ h => by cases d <;> exact h) (by rfl) (by assumption) (fun _ hSw => exec_load_mid (cs := f.cells) Try.bigFrame (.tmp 3) rfl rfl rfl (range_of_box hSw.2)) ?_
    simp only [Act.put, List.setIfInBounds_toArray, List.set_cons_zero, List.set_cons_succ]
    obtain ⟨m2, L2, hS2, hd2, hback2⟩ := Sv.dc H5.out (i + 1) HE.out
    obtain ⟨hmm, -⟩ : m2.C = m.C ∧ True := by
      have e1 := (Sv.cells_at hHeld.1).2.2.1
      have e2 := (Sv.cells_at hS2).2.2.1
      rw [e1] at e2
      exact ⟨by simpa using e2.symm, trivial⟩
    rw [hmm] at hd2 hback2
    refine wpAnyZ_ready (rs := [5]) (by kernel_rfl) (by simp) (AllReadyZ.cons rfl (fun K hK => ?_) AllReadyZ.nil)
    go_simp
    go_at_call 40
    refine (dmet_any f (by have := HK.out.k; omega) w5 hd2).mono ?_
    rintro e w6 ⟨rfl, L6, hd6, hl6, hr6⟩
    have H6 := Lib.hid (hback2 hd6 hl6 hr6)
    clear hd2 hback2 hS2 hd6 hl6 hr6 H5 hmm
    refine hK.out _ _ (fun h => absurd rfl h) (fun _ => ?_)
    clear hK K
    try simp only [Act.put, List.setIfInBounds_toArray, List.set_cons_zero, List.set_cons_succ]
    refine wpAnyZ_done (by kernel_rfl) ?_ _
    clear hHeld
    have hcode := @Dd.meet_code o.n f.c f.a f.r f.su o.q
    have HR := fun c q (hm : Dd.meet o.n f.c f.a f.r f.su o.q = (c, q)) => Sv.request_met HA.out hm
    have HQL := Lib.hid (Nat.le_trans (@Dd.meet_length o.n f.c f.a f.r f.su o.q) (Nat.succ_le_succ HK.out.k))
    have HS := Lib.hid (fun hs (hr : Dd.runs f.c f.a o.q ≠ 0) => hs ▸ @Dd.meet_sure o.n f.c f.a f.r o.q hr : f.su = true → Dd.runs f.c f.a o.q ≠ 0 → (Dd.meet o.n f.c f.a f.r f.su o.q).1 ≠ 0)
    generalize Dd.meet o.n f.c f.a f.r f.su o.q = M at H6 hcode HR HS HQL ⊢
    obtain ⟨cd, Q⟩ := M
    have HQ := Lib.hid (HR cd Q rfl)
    clear HR
    dsimp only at H6 hcode HS HQL HQ ⊢
    have hi := (List.getElem?_eq_some_iff.1 HE.out).1
    have HE6 := Lib.hid (show (l.set i (Sv.part S ps { o with q := Q }))[i]? = some (Sv.part S ps { o with q := Q }) from List.getElem?_set_self hi)
    obtain ⟨g0, g1, g2, g3, g4, g5, g6, g7, g8, g9, g10⟩ := frame_cells (H6.out.box 0 rfl)
    rcases hcode with rfl | rfl | rfl | rfl | rfl
    · obtain ⟨k, hk⟩ : ∃ k, o.least = some k := by
        cases hl : o.least with
        | some k => exact ⟨k, rfl⟩
        | none =>
          have hb := HA.out
          unfold Sv.busy at hb
          rw [hl] at hb
          have h1 : f.su = true := by cases hs : f.su <;> simp [hs] at hb ⊢
          have h2 : Dd.runs f.c f.a o.q ≠ 0 := by rw [h1] at hb; simpa using hb
          exact absurd rfl (HS.out h1 h2)
      have hbk : b = some k := by rw [← HB.out]; exact hk
      subst hbk
      obtain ⟨hkn, hkr, -⟩ := Rt.best_some (show Rt.best o.load o.room o.ws.length = some k from hk)
      simp only [Rt.ans]
      obtain ⟨x, hx⟩ : ∃ x, o.ws[k]? = some x := ⟨o.ws[k], List.getElem?_eq_getElem hkn⟩
      obtain ⟨m6, hl6, -⟩ := Sv.seen H6.out (i + 1) HE6.out
      obtain ⟨P, hp⟩ : ∃ P, ps[k]? = some P := ⟨ps[k]'(by rw [hl6]; exact hkn), List.getElem?_eq_getElem _⟩
      have HX := Lib.hid (And.intro hx hp)
      have hld : x.load < o.room := by unfold Sv.Ob.load at hkr; rw [hx] at hkr; exact hkr
      have HXM := Lib.hid (And.intro (HK.out.rm x (List.mem_of_getElem? hx)) (And.intro hld (HK.out.q x (List.mem_of_getElem? hx))))
      have HKK := Lib.hid hk
      have hkn' : (k : Int) < (o.ws.length : Int) := by omega
      clear hx hp hl6 m6 hld hk hkr g0 g1 g2 g3 g4 g5 g6 g7 g8 g9 g10 hi
      go_upto_region 6 with fail
      obtain ⟨m6, -, hS6, hR6⟩ := Sv.seen H6.out (i + 1) HE6.out
      refine wp_region_Z_drew 8 (S := fun w' => w'.heap[S]? = some (.cells (Sv.cells { o with q := Q } m6).toArray 52 (0, 0)) ∧ w'.heap[bF]? = some (.cells f.cells.toArray 29 (0, 0)) ∧ RowK w' 0 53 1 m6.g m6.off o.ws.length m6.cap (Sv.ptrs ps)) (by kernel_rfl) ⟨hS6, H6.out.box 0 rfl, hR6.kept rfl⟩ (fun hHeld => ?_)
      have H7 := Lib.hid H6.out.drew
      clear H6 hS6 hR6
      generalize World.drew _ = w7 at H7 hHeld ⊢
      refine wpAnyZ_yieldc [6,5,3,2,1] 0 (.pointer (some ⟨S, 0, none⟩)) rfl (by kernel_rfl) (by kernel_rfl) (by kernel_rfl) (fun d _ _ _ h => by cases d <;> exact h) (by rfl) (by assumption) (fun _ _ => by go_simp) ?_
      simp only [Act.put, List.setIfInBounds_toArray, List.set_cons_zero, List.set_cons_succ]
      refine wpAnyZ_yieldc [6,5,3,2] 1 (.pointer (some ⟨S, 0, none⟩)) rfl (by kernel_rfl) (by kernel_rfl) (by kernel_rfl) (fun d _ _ _ h => by cases d <;> exact h) (by rfl) (by assumption) (fun _ _ => by go_simp) ?_
      simp only [Act.put, List.setIfInBounds_toArray, List.set_cons_zero, List.set_cons_succ]
      refine wpAnyZ_yieldc [6,5,3] 2 (.pointer (some ⟨S, 0, none⟩)) rfl (by kernel_rfl) (by kernel_rfl) (by kernel_rfl) (fun d _ _ _ h => by cases d <;> exact h) (by rfl) (by assumption) (fun _ _ => by go_simp) ?_
      simp only [Act.put, List.setIfInBounds_toArray, List.set_cons_zero, List.set_cons_succ]
      refine wpAnyZ_yieldc [6, 5] 3 (.slice (some ⟨m6.g, m6.off, none⟩) o.ws.length m6.cap) rfl (by kernel_rfl) (by kernel_rfl) (by kernel_rfl) (fun d _ _ _ h => by cases d <;> exact h) (by rfl) (by assumption) (fun _ hSw => by have hcs := (Sv.cells_at hSw.1).1; go_simp) ?_
      simp only [Act.put, List.setIfInBounds_toArray, List.set_cons_zero, List.set_cons_succ]
      refine wpAnyZ_yieldc [6,5] 4 (.int .i64 (k : Int)) rfl (by kernel_rfl) (by kernel_rfl) (by kernel_rfl) (fun d _ _ _ h => by cases d <;> exact h) (by rfl) (by assumption) (fun _ _ => by go_simp) ?_
      simp only [Act.put, List.setIfInBounds_toArray, List.set_cons_zero, List.set_cons_succ]
      refine wpAnyZ_yieldc [6] 5 (.pointer (some ⟨m6.g, m6.off + k, none⟩)) rfl (by kernel_rfl) (by kernel_rfl) (by kernel_rfl) (fun d _ _ _ h => by cases d <;> exact h) (by rfl) (by assumption) (fun _ _ => by go_simp) ?_
      simp only [Act.put, List.setIfInBounds_toArray, List.set_cons_zero, List.set_cons_succ]
      refine wpAnyZ_yield 6 (.pointer (some ⟨P, 0, none⟩)) rfl (by kernel_rfl) (by kernel_rfl) (by kernel_rfl) (fun d _ _ _ h => by cases d <;> exact h) (by rfl) (by assumption) (fun _ hSw => by have hcs := Sv.ptr_at hSw.2.2 HX.out.2; go_simp) ?_
      simp only [Act.put, List.setIfInBounds_toArray, List.set_cons_zero, List.set_cons_succ]
      refine wpAnyZ_yield 7 (.agg #[.int .i64 f.k, .int .i64 f.c, .int .i64 f.s, .int .i64 f.t, .int .i64 f.g, .int .u32 f.a, .int .i64 f.r, .bool f.su, .bool f.st, .int .i64 f.q, .int .u32 f.v]) rfl (by kernel_rfl) (by kernel_rfl) (by kernel_rfl) (fun d _ _ _ h => by cases d <;> exact h) (by rfl) (by assumption) (fun _ hSw => exec_load_mid (cs := f.cells) Try.bigFrame (.tmp 3) rfl rfl rfl (range_of_box hSw.2.1)) ?_
      simp only [Act.put, List.setIfInBounds_toArray, List.set_cons_zero, List.set_cons_succ]
      obtain ⟨L7, hw7, hback7⟩ := Sv.wk H7.out (i + 1) HE6.out HX.out.2 HX.out.1
      refine wpAnyZ_ready (rs := [8]) (by kernel_rfl) (by simp) (AllReadyZ.cons rfl (fun K hK => ?_) AllReadyZ.nil)
      go_simp
      go_at_call 41
      refine (wkput_yes f HXM.out.1 HXM.out.2.1 (by have := HXM.out.2.2; omega) w7 hw7).mono ?_
      rintro e w8 ⟨rfl, L8, hw8, hl8, hr8⟩
      have H8 := Lib.hid (hback7 hw8 hl8 hr8)
      clear hw7 hback7 hw8 hl8 hr8 H7
      refine hK.out _ _ (fun h => absurd rfl h) (fun _ => ?_)
      clear hK K
      try simp only [Act.put, List.setIfInBounds_toArray, List.set_cons_zero, List.set_cons_succ]
      refine wpAnyZ_done (by kernel_rfl) ?_ _
      clear hHeld
      go_wp2_with fail
      go_end0
      refine ⟨rfl, ?_⟩
      have := H8.out.tail
      rw [List.set_set] at this
      rw [HQ.out, if_pos trivial, HKK.out]
      dsimp only
      unfold Sv.Ob.give
      dsimp only
      rw [HX.out.1]
      exact this
    · go_wp2_with fail
      go_end0
      exact ⟨rfl, by rw [HQ.out]; exact H6.out.tail⟩
    · go_wp2_with fail
      go_end0
      exact ⟨rfl, by rw [HQ.out]; exact H6.out.tail⟩
    · go_wp2_with fail
      refine (svagain_any (f := f) (i := i + 1) HQL.out _ H6.out HE6.out).mono ?_
      rintro e w7 ⟨rfl, h4⟩
      have H7 := Lib.hid h4.tail
      clear h4 H6 g0 g1 g2 g3 g4 g5 g6 g7 g8 g9 g10
      go_wp2_with fail
      go_end0
      exact ⟨rfl, by have := H7.out; rw [List.set_set] at this; rw [HQ.out]; exact this⟩
    · go_wp2_with fail
      refine (svrefuse_any (f := f) (i := i + 1) 3 _ H6.out HE6.out).mono ?_
      rintro e w7 ⟨rfl, h4⟩
      have H7 := Lib.hid h4.tail
      clear h4 H6 g0 g1 g2 g3 g4 g5 g6 g7 g8 g9 g10
      go_wp2_with fail
      go_end0
      exact ⟨rfl, by have := H7.out; rw [List.set_set] at this; rw [HQ.out]; exact this⟩
end
end Go.Proofs.Ytgboiejiodgcnaa
