/- The contracts of a service's Work, Sent, Drop, and of Handle with a request. -/
import Derived.Test.YtgboiejiodgcnaaSvF
namespace Go.Proofs.Ytgboiejiodgcnaa
open Go.RowKit Go.Sort

section
variable {G : Nat → Prop} {w0 : World} {l : List Part} {S i : Nat} {ps : List Nat} {o : Sv.Ob}
/-- Work. -/
theorem svwork_nil (n out : Int) (w : World) : Calls Try.prog 6 #[.pointer none, .int .i64 n, .int .i64 out] w fun e w' => e = .returned (.bool false) ∧ w = w' := by
  go_enter Try.func6, Try.ntmps6
  go_wp2_with fail
  refine (svworker_nil n w).mono ?_
  rintro e w1 ⟨rfl, rfl⟩
  go_wp2_with fail
  go_ret
  exact ⟨rfl, rfl⟩
theorem svwork_no {n : Int} (hn : n < 0 ∨ (o.ws.length : Int) ≤ n) (out : Int) (w : World) (h : Own G w0 w l) (e : l[i]? = some (Sv.part S ps o)) : Calls Try.prog 6 #[.pointer (some ⟨S, 0, none⟩), .int .i64 n, .int .i64 out] w fun e w' => e = .returned (.bool false) ∧ w = w' := by
  have HW := Lib.hid (svworker_no hn w h e)
  clear h e hn
  go_enter Try.func6, Try.ntmps6
  go_wp2_with fail
  refine HW.out.mono ?_
  rintro e w1 ⟨rfl, rfl⟩
  go_wp2_with fail
  go_ret
  exact ⟨rfl, rfl⟩
set_option maxHeartbeats 1000000 in
theorem svwork_yes {k : Nat} {x : Wk.Wo} (hx : o.ws[k]? = some x) (hk : Sv.Ok o) (hr : o.runs.length ≤ 1000000) (out : Int) (w : World) (h : Own G w0 w l) (e : l[i]? = some (Sv.part S ps o)) : Calls Try.prog 6 #[.pointer (some ⟨S, 0, none⟩), .int .i64 (k : Nat), .int .i64 out] w fun e w' => e = .returned (.bool (o.work k out).2) ∧ Own G w0 w' (l.set i (Sv.part S ps (o.work k out).1)) := by
  obtain ⟨m, hlen, -⟩ := Sv.seen h i e
  have hkl := (List.getElem?_eq_some_iff.1 hx).1
  obtain ⟨P, hp⟩ : ∃ P, ps[k]? = some P := ⟨ps[k]'(by rw [hlen]; exact hkl), List.getElem?_eq_getElem _⟩
  obtain ⟨L, hw, -⟩ := Sv.wk h i e hp hx
  have hwk : o.work (k : Int) out = if x.b then (if o.waits x.j.c < 32 then o.step k x out else (o, false)) else o.begin_ k x := by
    unfold Sv.Ob.work
    rw [if_neg (by omega), Int.toNat_natCast, hx]
  have HW1 := Lib.hid (svworker_yes hp w h e)
  have HJ := Lib.hid (wkjob_any w hw)
  have H := Lib.hid h
  have HE := Lib.hid e
  have HX := Lib.hid (And.intro hp hx)
  have HK := Lib.hid (And.intro hk hr)
  rw [hwk]
  clear h e hw hp hx hk hr hwk hkl hlen
  cases hxb : x.b with
  | false =>
    have HB := Lib.hid hxb
    rw [hxb] at HJ
    clear hxb
    rw [if_neg (by decide)]
    go_enter Try.func6, Try.ntmps6
    go_wp2_with fail
    refine HW1.out.mono ?_
    rintro e w1 ⟨rfl, rfl⟩
    go_wp2_with fail
    refine HJ.out.mono ?_
    rintro e w2 ⟨rfl, hb⟩
    dsimp only
    have H2 := Lib.hid ((H.out.past hb).lay (.cells #[.int .i64 x.j.k, .int .i64 x.j.c, .int .i64 x.j.s, .int .i64 x.j.t, .int .i64 x.j.g, .int .u32 x.j.a, .int .i64 x.j.r, .bool x.j.su, .bool x.j.st, .int .i64 x.j.q, .int .u32 x.j.v] 29))
    clear hb H HJ HW1
    go_upto_region 5 with fail
    generalize w2.alloc _ = w3 at H2 ⊢
    generalize w2.heap.size = bF at H2 ⊢
    go_wp2_with fail
    refine (svbegin_any (i := i + 1) HX.out.1 HX.out.2 HB.out (by have := HK.out.1.q x (List.mem_of_getElem? HX.out.2); omega) HK.out.2 w3 H2.out HE.out).mono ?_
    rintro e w4 ⟨rfl, h4⟩
    have H4 := Lib.hid h4.tail
    clear h4 H2
    go_wp2_with fail
    go_ret
    exact ⟨rfl, H4.out⟩
  | true =>
    have HB := Lib.hid hxb
    rw [hxb] at HJ
    clear hxb
    rw [if_pos rfl]
    obtain ⟨n, hn⟩ : ∃ n, n = o.waits x.j.c := ⟨_, rfl⟩
    by_cases hl : n < 32
    · have hl1 : (n : Int) < 32 := by omega
      have hd1 : decide (n < 32) = true := decide_eq_true hl
      have hd2 : decide ((n : Int) < 32) = true := decide_eq_true hl1
      have HN := Lib.hid hn
      rw [if_pos (show o.waits x.j.c < 32 from hn ▸ hl)]
      clear hn
      go_enter Try.func6, Try.ntmps6
      go_wp2_with fail
      refine HW1.out.mono ?_
      rintro e w1 ⟨rfl, rfl⟩
      go_wp2_with fail
      refine HJ.out.mono ?_
      rintro e w2 ⟨rfl, hb⟩
      dsimp only
      have H2 := Lib.hid ((H.out.past hb).lay (.cells #[.int .i64 x.j.k, .int .i64 x.j.c, .int .i64 x.j.s, .int .i64 x.j.t, .int .i64 x.j.g, .int .u32 x.j.a, .int .i64 x.j.r, .bool x.j.su, .bool x.j.st, .int .i64 x.j.q, .int .u32 x.j.v] 29))
      clear hb H HJ HW1
      go_upto_region 5 with fail
      generalize w2.alloc _ = w3 at H2 ⊢
      generalize w2.heap.size = bF at H2 ⊢
      obtain ⟨g0, g1, g2, g3, g4, g5, g6, g7, g8, g9, g10⟩ := frame_cells (H2.out.box 0 rfl)
      go_wp2_with fail
      refine (svwaits_any (i := i + 1) x.j.c w3 H2.out HE.out).mono ?_
      rintro e w4 ⟨rfl, rfl⟩
      rw [← HN.out]
      go_wp2_with fail
      refine (svstep_any (i := i + 1) HX.out.1 HX.out.2 HB.out (by have := HK.out.1.k; omega) out w3 H2.out HE.out).mono ?_
      rintro e w5 ⟨rfl, h4⟩
      have H4 := Lib.hid h4.tail
      clear h4 H2 g0 g1 g2 g3 g4 g5 g6 g7 g8 g9 g10
      go_wp2_with fail
      go_ret
      exact ⟨by first | rfl | simp, H4.out⟩
    · have hl1 : ¬(n : Int) < 32 := by omega
      have hd1 : decide (n < 32) = false := decide_eq_false hl
      have hd2 : decide ((n : Int) < 32) = false := decide_eq_false hl1
      have HN := Lib.hid hn
      rw [if_neg (show ¬o.waits x.j.c < 32 from hn ▸ hl)]
      clear hn
      go_enter Try.func6, Try.ntmps6
      go_wp2_with fail
      refine HW1.out.mono ?_
      rintro e w1 ⟨rfl, rfl⟩
      go_wp2_with fail
      refine HJ.out.mono ?_
      rintro e w2 ⟨rfl, hb⟩
      dsimp only
      have H2 := Lib.hid ((H.out.past hb).lay (.cells #[.int .i64 x.j.k, .int .i64 x.j.c, .int .i64 x.j.s, .int .i64 x.j.t, .int .i64 x.j.g, .int .u32 x.j.a, .int .i64 x.j.r, .bool x.j.su, .bool x.j.st, .int .i64 x.j.q, .int .u32 x.j.v] 29))
      clear hb H HJ HW1
      go_upto_region 5 with fail
      generalize w2.alloc _ = w3 at H2 ⊢
      generalize w2.heap.size = bF at H2 ⊢
      obtain ⟨g0, g1, g2, g3, g4, g5, g6, g7, g8, g9, g10⟩ := frame_cells (H2.out.box 0 rfl)
      go_wp2_with fail
      refine (svwaits_any (i := i + 1) x.j.c w3 H2.out HE.out).mono ?_
      rintro e w4 ⟨rfl, rfl⟩
      rw [← HN.out]
      go_wp2_with fail
      go_ret
      have := H2.out.tail
      exact ⟨rfl, by rw [set_same HE.out]; exact this⟩
/-- Sent. -/
theorem svsent_nil (c : Int) (w : World) : Calls Try.prog 8 #[.pointer none, .int .i64 c] w fun e w' => e = .returned (.bool false) ∧ w = w' := by
  go_enter Try.func8, Try.ntmps8
  go_wp2_with fail
  refine (svwaits_nil c w).mono ?_
  rintro e w1 ⟨rfl, rfl⟩
  go_wp2_with fail
  go_ret
  exact ⟨rfl, rfl⟩
theorem svsent_no {c : Int} (h0 : o.waits c = 0) (w : World) (h : Own G w0 w l) (e : l[i]? = some (Sv.part S ps o)) : Calls Try.prog 8 #[.pointer (some ⟨S, 0, none⟩), .int .i64 c] w fun e w' => e = .returned (.bool false) ∧ w = w' := by
  have HW := Lib.hid (svwaits_any c w h e)
  rw [h0] at HW
  clear h e h0
  go_enter Try.func8, Try.ntmps8
  go_wp2_with fail
  refine HW.out.mono ?_
  rintro e w1 ⟨rfl, rfl⟩
  go_wp2_with fail
  go_ret
  exact ⟨rfl, rfl⟩
set_option maxHeartbeats 1000000 in
theorem svsent_yes {c : Nat} (hc : c < 4) {x : Wk.Fr} {q : List Wk.Fr} (hq : o.out c = x :: q) (hql : q.length ≤ 1000) (w : World) (h : Own G w0 w l) (e : l[i]? = some (Sv.part S ps o)) : Calls Try.prog 8 #[.pointer (some ⟨S, 0, none⟩), .int .i64 (c : Nat)] w fun e w' => e = .returned (.bool true) ∧ Own G w0 w' (l.set i (Sv.part S ps (o.outs c q))) := by
  have hwt : o.waits (c : Int) = q.length + 1 := by
    unfold Sv.Ob.waits
    rw [if_pos ⟨by omega, by omega⟩, Int.toNat_natCast, hq]; rfl
  have HWT := Lib.hid (svwaits_any (c : Int) w h e)
  rw [hwt] at HWT
  obtain ⟨F, hF, back⟩ := h.lift i e
  obtain ⟨m, hlen, k1⟩ := Sv.opens hF
  have HB := Lib.hid (show ∀ w', Own F w w' [Sv.part S ps (o.outs c q)] → Own G w0 w' (l.set i (Sv.part S ps (o.outs c q))) from fun w' h => back h)
  have H := Lib.hid k1
  have HQ := Lib.hid hq
  have HQL := Lib.hid hql
  obtain ⟨n, hn⟩ : ∃ n, n = q.length + 1 := ⟨_, rfl⟩
  rw [← hn] at HWT
  have hn0 : ¬(n : Int) = 0 := by omega
  have hn1 : decide ((n : Int) = 0) = false := decide_eq_false hn0
  have hci : (c : Int) < 4 := by omega
  have HN := Lib.hid hn
  clear h e hwt hF back k1 hq hql hn
  go_enter Try.func8, Try.ntmps8
  go_wp2_with fail
  refine HWT.out.mono ?_
  rintro e w1 ⟨rfl, rfl⟩
  go_upto_region 3 with fail
  refine wp_region_Z_drew 12 (S := fun w' => w'.heap[S]? = some (.cells (Sv.cells o m).toArray 52 (0, 0))) (by kernel_rfl) (H.out.box 0 rfl) (fun hHeld => ?_)
  have H5 := Lib.hid H.out.drew
  clear H
  generalize w.drew = w5 at H5 hHeld ⊢
  refine wpAnyZ_yield 0 (.pointer (some ⟨S, 0, none⟩)) rfl (by kernel_rfl) (by kernel_rfl) (by kernel_rfl) (fun d _ _ _ h => by cases d <;> exact h) (by rfl) (by assumption) (fun _ _ => by go_simp) ?_
  simp only [Act.put, List.setIfInBounds_toArray, List.set_cons_zero, List.set_cons_succ]
  refine wpAnyZ_yield 1 (.int .i64 (c : Int)) rfl (by kernel_rfl) (by kernel_rfl) (by kernel_rfl) (fun d _ _ _ h => by cases d <;> exact h) (by rfl) (by assumption) (fun _ _ => by go_simp) ?_
  simp only [Act.put, List.setIfInBounds_toArray, List.set_cons_zero, List.set_cons_succ]
  refine wpAnyZ_yield 2 (.pointer (some ⟨S, 0, none⟩)) rfl (by kernel_rfl) (by kernel_rfl) (by kernel_rfl) (fun d _ _ _ h => by cases d <;> exact h) (by rfl) (by assumption) (fun _ _ => by go_simp) ?_
  simp only [Act.put, List.setIfInBounds_toArray, List.set_cons_zero, List.set_cons_succ]
  refine wpAnyZ_yield 3 (.int .i64 (c : Int)) rfl (by kernel_rfl) (by kernel_rfl) (by kernel_rfl) (fun d _ _ _ h => by cases d <;> exact h) (by rfl) (by assumption) (fun _ _ => by go_simp) ?_
  simp only [Act.put, List.setIfInBounds_toArray, List.set_cons_zero, List.set_cons_succ]
  refine wpAnyZ_yield 4 (.pointer (some ⟨S, 0, none⟩)) rfl (by kernel_rfl) (by kernel_rfl) (by kernel_rfl) (fun d _ _ _ h => by cases d <;> exact h) (by rfl) (by assumption) (fun _ _ => by go_simp) ?_
  simp only [Act.put, List.setIfInBounds_toArray, List.set_cons_zero, List.set_cons_succ]
  refine wpAnyZ_yield 5 (.pointer (some ⟨S, 5, none⟩)) rfl (by kernel_rfl) (by kernel_rfl) (by kernel_rfl) (fun d _ _ _ h => by cases d <;> exact h) (by rfl) (by assumption) (fun _ _ => by go_simp) ?_
  simp only [Act.put, List.setIfInBounds_toArray, List.set_cons_zero, List.set_cons_succ]
  refine wpAnyZ_yield 6 (.pointer (some ⟨S, 5 + c, none⟩)) rfl (by kernel_rfl) (by kernel_rfl) (by kernel_rfl) (fun d _ _ _ h => by cases d <;> exact h) (by rfl) (by assumption) (fun _ _ => by go_simp) ?_
  simp only [Act.put, List.setIfInBounds_toArray, List.set_cons_zero, List.set_cons_succ]
  refine wpAnyZ_yield 7 (.slice (m.oa c) n (m.oc c)) rfl (by kernel_rfl) (by kernel_rfl) (by kernel_rfl) (fun d _ _ _ h => by cases d <;> exact h) (by rfl) (by assumption) (fun _ hSw => by have hcs := (Sv.cells_at hSw).2.2.2.2.2 c hc; rw [HQ.out, List.length_cons, ← HN.out] at hcs; go_simp) ?_
  simp only [Act.put, List.setIfInBounds_toArray, List.set_cons_zero, List.set_cons_succ]
  refine wpAnyZ_yieldc [11,10] 9 (.pointer (some ⟨S, 0, none⟩)) rfl (by kernel_rfl) (by kernel_rfl) (by kernel_rfl) (fun d _ _ _ h => by cases d <;> exact h) (by rfl) (by assumption) (fun _ _ => by go_simp) ?_
  simp only [Act.put, List.setIfInBounds_toArray, List.set_cons_zero, List.set_cons_succ]
  refine wpAnyZ_yieldc [11] 10 (.pointer (some ⟨S, 5, none⟩)) rfl (by kernel_rfl) (by kernel_rfl) (by kernel_rfl) (fun d _ _ _ h => by cases d <;> exact h) (by rfl) (by assumption) (fun _ _ => by go_simp) ?_
  simp only [Act.put, List.setIfInBounds_toArray, List.set_cons_zero, List.set_cons_succ]
  obtain ⟨L, hf1, hf2⟩ := Sv.outs (r := []) hc H5.out
  rw [HQ.out] at hf1
  obtain ⟨g, off, hLg, hoa, hR⟩ : ∃ g off, L = some g ∧ m.oa c = some ⟨g, off, none⟩ ∧ RowK w5 0 29 11 g off (x :: q).length (m.oc c) (Wk.fitm.flat (x :: q)) := by
    rcases hf1 with ⟨-, -, -, e⟩ | h
    · cases e
    · exact h
  rw [List.length_cons, ← HN.out] at hR
  rw [hoa]
  refine wpAnyZ_ready (rs := [8]) (by kernel_rfl) (by simp) (AllReadyZ.cons rfl (fun K hK => ?_) AllReadyZ.nil)
  go_simp
  go_at_call 23
  refine (frdel_first HN.out (by have := HQL.out; have := HN.out; omega) w5 hR).mono ?_
  rintro e w6 ⟨rfl, h6, hr6⟩
  obtain ⟨t, H7, H8⟩ := hf2 (a' := some ⟨g, off, none⟩) (c' := m.oc c) (L' := L) (.inr ⟨g, off, hLg, rfl, h6⟩) (.inl rfl) (hr6.mono fun k _ hk => by rw [hLg, hk])
  have hS7 := H7.box 0 rfl
  have c7 := (Sv.cells_at hS7).2.2.2.2.2 c hc
  have z7 := frozen_of_row _ _ (5 + c) _ _ hS7
  have HE := Lib.hid H8
  clear hf1 hf2 H7 H8 h6 hr6 hR H5
  refine hK.out _ _ (fun _ => hS7) (fun hZ => ?_)
  have hHeld := hZ (by decide)
  clear hK K hZ
  try simp only [Act.put, List.setIfInBounds_toArray, List.set_cons_zero, List.set_cons_succ]
  refine wpAnyZ_yield 11 (.pointer (some ⟨S, 5 + c, none⟩)) rfl (by kernel_rfl) (by kernel_rfl) (by kernel_rfl) (fun d _ _ _ h => by cases d <;> exact h) (by rfl) (by assumption) (fun _ _ => by go_simp) ?_
  simp only [Act.put, List.setIfInBounds_toArray, List.set_cons_zero, List.set_cons_succ]
  refine wpAnyZ_ready (rs := [12]) (by kernel_rfl) (by simp) (AllReadyZ.cons rfl (fun K hK => ?_) AllReadyZ.nil)
  go_simp
  refine hK.out _ _ (fun h => absurd rfl h) (fun _ => ?_)
  clear hK K
  try simp only [Act.put, List.setIfInBounds_toArray, List.set_cons_zero, List.set_cons_succ]
  refine wpAnyZ_done (by kernel_rfl) ?_ _
  clear hHeld hS7 c7 z7
  go_wp2_with fail
  go_ret
  exact ⟨rfl, HB.out _ (Sv.closes (o := o.outs c q) hlen HE.out)⟩
/-- Drop, of none. -/
theorem svdrop_nil (c : Int) (w : World) : Calls Try.prog 13 #[.pointer none, .int .i64 c] w fun e w' => e = .returned (.bool false) ∧ Below w.heap.size w w' := by
  go_enter Try.func13, Try.ntmps13
  go_wp2_with fail
  refine (svnext_nil c w).mono ?_
  rintro e w1 ⟨rfl, hb⟩
  dsimp only
  have H := Lib.hid (((Own.start (fun _ => False) w).past hb).lay (.cells #[.int .i64 0, .int .i64 0, .int .i64 0, .int .i64 0, .int .i64 0, .int .u32 0, .int .i64 0, .bool false, .bool false, .int .i64 0, .int .u32 0] 29))
  clear hb
  go_upto_region 2 with fail
  generalize w1.alloc _ = w2 at H ⊢
  generalize w1.heap.size = bF at H ⊢
  obtain ⟨g0, g1, g2, g3, g4, g5, g6, g7, g8, g9, g10⟩ := frame_cells (H.out.box 0 rfl)
  go_wp2_with fail
  go_ret
  exact ⟨rfl, H.out.below (fun _ => id)⟩
/-- Handle: of none, and a request. -/
theorem svhandle_nil (f : Wk.Fr) (w : World) : Calls Try.prog 9 #[.pointer none, .agg #[.int .i64 f.k, .int .i64 f.c, .int .i64 f.s, .int .i64 f.t, .int .i64 f.g, .int .u32 f.a, .int .i64 f.r, .bool f.su, .bool f.st, .int .i64 f.q, .int .u32 f.v]] w fun e w' => e = .returned (.tuple #[]) ∧ Below w.heap.size w w' := by
  have H := Lib.hid (below_box w (.cells #[.int .i64 f.k, .int .i64 f.c, .int .i64 f.s, .int .i64 f.t, .int .i64 f.g, .int .u32 f.a, .int .i64 f.r, .bool f.su, .bool f.st, .int .i64 f.q, .int .u32 f.v] 29))
  go_enter Try.func9, Try.ntmps9
  go_upto_region 1 with fail
  generalize w.alloc _ = w1 at H ⊢
  go_wp2_with fail
  refine bodyPost_ret (results_none rfl _ _ _) rfl ?_
  exact ⟨rfl, H.out⟩
theorem svhandle_request {f : Wk.Fr} (hf : f.k = 1) (hk : Sv.Ok o) (w : World) (h : Own G w0 w l) (e : l[i]? = some (Sv.part S ps o)) : Calls Try.prog 9 #[.pointer (some ⟨S, 0, none⟩), .agg #[.int .i64 f.k, .int .i64 f.c, .int .i64 f.s, .int .i64 f.t, .int .i64 f.g, .int .u32 f.a, .int .i64 f.r, .bool f.su, .bool f.st, .int .i64 f.q, .int .u32 f.v]] w fun e w' => e = .returned (.tuple #[]) ∧ Own G w0 w' (l.set i (Sv.part S ps (o.request f))) := by
  have H := Lib.hid (h.lay (.cells #[.int .i64 f.k, .int .i64 f.c, .int .i64 f.s, .int .i64 f.t, .int .i64 f.g, .int .u32 f.a, .int .i64 f.r, .bool f.su, .bool f.st, .int .i64 f.q, .int .u32 f.v] 29))
  have HE := Lib.hid e
  have HK := Lib.hid hk
  have HF := Lib.hid hf
  clear h e hk hf
  go_enter Try.func9, Try.ntmps9
  go_upto_region 1 with fail
  generalize w.alloc _ = w1 at H ⊢
  generalize w.heap.size = bF at H ⊢
  obtain ⟨g0, g1, g2, g3, g4, g5, g6, g7, g8, g9, g10⟩ := frame_cells (H.out.box 0 rfl)
  go_upto_region 3 with fail
  rw [HF.out]
  go_upto_region 4 with fail
  go_wp2_with fail
  refine (svrequest_any (f := f) (i := i + 1) HK.out w1 H.out HE.out).mono ?_
  rintro e w5 ⟨rfl, h4⟩
  have H4 := Lib.hid h4.tail
  clear h4 H g0 g1 g2 g3 g4 g5 g6 g7 g8 g9 g10
  go_wp2_with fail
  go_end0
  exact ⟨rfl, H4.out⟩
end
end Go.Proofs.Ytgboiejiodgcnaa
