/- The contracts of Begin, retry, beside and Due, nil and not. -/
import Derived.Test.YtihgohadihjalaaAtC
namespace Go.Proofs.Ytihgohadihjalaa
open Go.RowKit

/-- Begin. -/
theorem tbegin_nil (now : Int) (w : World) : Calls Try.prog 8 #[.pointer none, .int .i64 now] w fun e w' => e = .returned (.slice none 0 0) ∧ w = w' := by
  go_enter Try.func8, Try.ntmps8
  go_wp2
  all_goals (go_ret; exact ⟨rfl, rfl⟩)
theorem tbegin_any {P : Nat} {u : At.Rq} {s : At.St} (now : Int) (w : World) (h : w.heap[P]? = some (att u s)) : Calls Try.prog 8 #[.pointer (some ⟨P, 0, none⟩), .int .i64 now] w fun e w' =>
    Ml w w' u e (At.begin_ u s now).2 ∧ w'.heap[P]? = some (att u (At.begin_ u s now).1) ∧ Rest (fun i => i = P) w w' := by
  obtain ⟨n0, -⟩ := att_nums h
  have H := Lib.hid h
  by_cases h0 : 0 < s.n
  · have h0' : (0 : Int) < (s.n : Int) := by omega
    have HB := Lib.hid (show At.begin_ u s now = (s, []) by unfold At.begin_; rw [if_pos h0])
    generalize At.begin_ u s now = b at HB ⊢
    have hd : decide ((0 : Int) < (s.n : Int)) = true := by simpa using h0'
    clear h h0
    go_enter Try.func8, Try.ntmps8
    go_wp2_with fail
    go_ret
    rw [HB.out]
    exact ⟨Ml.nil _ _ _, H.out, Rest.refl _ _⟩
  · have hs := fun w h => tsw_any (P := P) (u := u) (s := s) (by omega) now w h
    have HB := Lib.hid (show At.begin_ u s now = (s.sent, At.moves u s now) by unfold At.begin_; rw [if_neg h0])
    generalize At.begin_ u s now = b at HB ⊢
    have hz : (s.n : Int) = 0 := by omega
    rw [hz] at n0
    clear h h0 hz
    go_enter Try.func8, Try.ntmps8
    go_wp2_with fail
    refine (hs _ H.out).mono ?_
    rintro e w1 ⟨⟨a, c, rfl, hm⟩, hp, hr⟩
    go_wp2_with fail
    go_ret
    rw [HB.out]
    exact ⟨⟨a, c, rfl, hm⟩, hp, hr⟩

set_option maxHeartbeats 1000000 in
/-- retry. -/
theorem tretry_any {P : Nat} {u : At.Rq} {s : At.St} (hp : s.p ≤ 100) (w : World) (h : w.heap[P]? = some (att u s)) : Calls Try.prog 24 #[.pointer (some ⟨P, 0, none⟩)] w fun e w' =>
    Ml w w' u e (At.retry s).2 ∧ w'.heap[P]? = some (att u (At.retry s).1) ∧ Rest (fun i => i = P) w w' := by
  obtain ⟨-, -, -, b0⟩ := att_nums h
  obtain ⟨-, -, -, f0⟩ := att_free h
  have H := Lib.hid (Upon.one (own := fun i => i = P) h rfl)
  cases hb : s.b
  · have HB := Lib.hid (show At.retry s = (s, []) by unfold At.retry; rw [if_pos hb])
    generalize At.retry s = b at HB ⊢
    rw [hb] at b0
    clear hb h
    go_enter Try.func24, Try.ntmps24
    go_wp2_with fail
    go_ret
    rw [HB.out]
    exact ⟨Ml.nil _ _ _, H.out.get 0 rfl, H.out.rest⟩
  · rw [hb] at b0
    have H1 := Lib.hid (H.out.set (att_b (H.out.get 0 rfl) false))
    have hm := fun w h => tmore_any (P := P) (u := u) (s := ⟨s.n, s.p, s.h, false, s.o⟩) w h
    dsimp only at hm
    by_cases hn : s.n < 16
    · have HB := Lib.hid (show At.retry s = (((s.wait false).again).sent, [.send s.n]) by unfold At.retry; rw [if_neg (by rw [hb]; decide), if_neg (by omega)])
      generalize At.retry s = b at HB ⊢
      rw [show decide (s.n < 16) = true by simpa using hn] at hm
      have hw : IntKind.i64.wrap ((s.p : Int) + 1) = (s.p : Int) + 1 := by rw [IntKind.wrap_i64]; omega
      clear hb h H
      go_enter Try.func24, Try.ntmps24
      go_wp2_with fail
      generalize w.setCell _ _ = w1 at H1 ⊢
      refine (hm _ (H1.out.get 0 rfl)).mono ?_
      rintro e w2 ⟨rfl, rfl⟩
      obtain ⟨-, p0, -⟩ := att_nums (H1.out.get 0 rfl)
      obtain ⟨-, fp, -⟩ := att_free (H1.out.get 0 rfl)
      have H2 := Lib.hid (H1.out.set (att_p (H1.out.get 0 rfl) (s.p + 1) (x := (s.p : Int) + 1) rfl))
      clear b0 f0 hm
      go_wp2_with fail
      generalize w1.setCell _ _ = w3 at H2 ⊢
      refine (tsend_any (P := P) (u := u) (s := (s.wait false).again) hn _ (H2.out.get 0 rfl)).mono ?_
      rintro e w4 ⟨rfl, hq, hr⟩
      have H4 := Lib.hid ((H2.out.put hr hq).lay (.cells #[.int .i64 1, .int .i64 1, .int .i64 u.c, .int .i64 u.s, .int .i64 u.t, .int .i64 u.g, .int .u32 u.a, .int .i64 ((s.n : Int)), .bool u.su, .bool u.st, .int .i64 u.q, .int .u32 u.v, .int .i64 0, .int .i64 0, .int .i64 0, .int .i64 0, .int .i64 0] 55))
      have HS := Lib.hid (Nat.le_trans H2.out.rest.size hr.size)
      clear hq hr H2 H1 p0 fp
      go_wp2_with fail
      go_ret
      rw [HB.out]
      exact ⟨Ml.one (m := .send s.n) HS.out (H4.out.get 0 rfl), H4.out.get 1 rfl, H4.out.rest⟩
    · have HB := Lib.hid (show At.retry s = (s.wait false, []) by unfold At.retry; rw [if_neg (by rw [hb]; decide), if_pos (by omega)])
      generalize At.retry s = b at HB ⊢
      rw [show decide (s.n < 16) = false by simpa using hn] at hm
      clear hb h H
      go_enter Try.func24, Try.ntmps24
      go_wp2_with fail
      generalize w.setCell _ _ = w1 at H1 ⊢
      refine (hm _ (H1.out.get 0 rfl)).mono ?_
      rintro e w2 ⟨rfl, rfl⟩
      go_wp2_with fail
      go_ret
      rw [HB.out]
      exact ⟨Ml.nil _ _ _, H1.out.get 0 rfl, H1.out.rest⟩
set_option maxHeartbeats 1000000 in
/-- The test whether there may be one more hedge. -/
theorem tbeside_any {P : Nat} {u : At.Rq} {s : At.St} (hh : s.h ≤ 100) (now : Int) (w : World) (h : w.heap[P]? = some (att u s)) : Calls Try.prog 25 #[.pointer (some ⟨P, 0, none⟩), .int .i64 now] w fun e w' =>
    Ml w w' u e (At.beside u s now).2 ∧ w'.heap[P]? = some (att u (At.beside u s now).1) ∧ Rest (fun i => i = P) w w' := by
  have H := Lib.hid (Upon.one (own := fun i => i = P) h rfl)
  have hS := att_rq h
  obtain ⟨-, -, h16, -⟩ := att_nums h
  have hmost := fun w => hmost_any u.M u.A u.k u.c u.s u.t u.g u.a u.r u.q u.v u.su u.st w
  rw [show Hd.most u.M u.A u.su u.st = u.hm from rfl] at hmost
  have hm := fun w h => tmore_any (P := P) (u := u) (s := s) w h
  have HD := Lib.hid (show At.beside u s now = if u.hm ≤ s.h ∨ 16 ≤ s.n then (s, []) else (s.hedge.sent, At.moves u s.hedge now) from rfl)
  have hw : IntKind.i64.wrap ((s.h : Int) + 1) = (s.h : Int) + 1 := by rw [IntKind.wrap_i64]; omega
  generalize At.beside u s now = b at HD ⊢
  generalize hhm : u.hm = m at hmost HD
  clear h hhm
  go_enter Try.func25, Try.ntmps25
  go_upto_region 1 with fail
  go_cut [23] (fun s23 wx => s23 = .bool (decide (m ≤ s.h ∨ 16 ≤ s.n)) ∧ Hid (Upon (fun i => i = P) w wx [(P, att u s)]))
  case first =>
    refine wp_region_held_drew (S := fun w' => Rqc u w' P ∧ w'.cell? ⟨P, 16, none⟩ = some (.int .i64 (s.h : Int))) (by kernel_rfl) ⟨hS, h16⟩ (fun hHeld => ?_)
    have H2 := Lib.hid H.out.drew
    clear H hS h16
    generalize w.drew = wd at H2 hHeld ⊢
    refine wpAnyH_yield 0 ((.pointer (some ⟨P, 0, none⟩))) rfl (by kernel_rfl) (by kernel_rfl) (by kernel_rfl) (fun d _ _ _ h => by cases d <;> exact h) (by rfl) (by assumption) (fun _ _ => by go_simp) ?_
    simp only [Act.put, List.setIfInBounds_toArray, List.set_cons_zero, List.set_cons_succ]
    refine wpAnyH_yield 1 ((.pointer (some ⟨P, 0, none⟩))) rfl (by kernel_rfl) (by kernel_rfl) (by kernel_rfl) (fun d _ _ _ h => by cases d <;> exact h) (by rfl) (by assumption) (fun _ _ => by go_simp) ?_
    simp only [Act.put, List.setIfInBounds_toArray, List.set_cons_zero, List.set_cons_succ]
    refine wpAnyH_yield 2 ((.pointer (some ⟨P, 16, none⟩))) rfl (by kernel_rfl) (by kernel_rfl) (by kernel_rfl) (fun d _ _ _ h => by cases d <;> exact h) (by rfl) (by assumption) (fun _ _ => by go_simp) ?_
    simp only [Act.put, List.setIfInBounds_toArray, List.set_cons_zero, List.set_cons_succ]
    refine wpAnyH_yield 3 ((.int .i64 (s.h : Int))) rfl (by kernel_rfl) (by kernel_rfl) (by kernel_rfl) (fun d _ _ _ h => by cases d <;> exact h) (by rfl) (by assumption) (fun _ hSw => by (try dsimp only [Rqc] at hSw); go_simp) ?_
    simp only [Act.put, List.setIfInBounds_toArray, List.set_cons_zero, List.set_cons_succ]
    refine wpAnyH_yield 4 ((.pointer (some ⟨P, 0, none⟩))) rfl (by kernel_rfl) (by kernel_rfl) (by kernel_rfl) (fun d _ _ _ h => by cases d <;> exact h) (by rfl) (by assumption) (fun _ _ => by go_simp) ?_
    simp only [Act.put, List.setIfInBounds_toArray, List.set_cons_zero, List.set_cons_succ]
    refine wpAnyH_yield 5 ((.pointer (some ⟨P, 0, none⟩))) rfl (by kernel_rfl) (by kernel_rfl) (by kernel_rfl) (fun d _ _ _ h => by cases d <;> exact h) (by rfl) (by assumption) (fun _ _ => by go_simp) ?_
    simp only [Act.put, List.setIfInBounds_toArray, List.set_cons_zero, List.set_cons_succ]
    refine wpAnyH_yield 6 ((.pointer (some ⟨P, 12, none⟩))) rfl (by kernel_rfl) (by kernel_rfl) (by kernel_rfl) (fun d _ _ _ h => by cases d <;> exact h) (by rfl) (by assumption) (fun _ _ => by go_simp) ?_
    simp only [Act.put, List.setIfInBounds_toArray, List.set_cons_zero, List.set_cons_succ]
    refine wpAnyH_yield 7 ((.agg #[.int .i64 u.M, .int .i64 u.A])) rfl (by kernel_rfl) (by kernel_rfl) (by kernel_rfl) (fun d _ _ _ h => by cases d <;> exact h) (by rfl) (by assumption) (fun _ hSw => by (try dsimp only [Rqc] at hSw); go_simp) ?_
    simp only [Act.put, List.setIfInBounds_toArray, List.set_cons_zero, List.set_cons_succ]
    refine wpAnyH_yield 8 ((.pointer (some ⟨P, 0, none⟩))) rfl (by kernel_rfl) (by kernel_rfl) (by kernel_rfl) (fun d _ _ _ h => by cases d <;> exact h) (by rfl) (by assumption) (fun _ _ => by go_simp) ?_
    simp only [Act.put, List.setIfInBounds_toArray, List.set_cons_zero, List.set_cons_succ]
    refine wpAnyH_yield 9 ((.pointer (some ⟨P, 0, none⟩))) rfl (by kernel_rfl) (by kernel_rfl) (by kernel_rfl) (fun d _ _ _ h => by cases d <;> exact h) (by rfl) (by assumption) (fun _ _ => by go_simp) ?_
    simp only [Act.put, List.setIfInBounds_toArray, List.set_cons_zero, List.set_cons_succ]
    refine wpAnyH_yield 10 ((.pointer (some ⟨P, 0, none⟩))) rfl (by kernel_rfl) (by kernel_rfl) (by kernel_rfl) (fun d _ _ _ h => by cases d <;> exact h) (by rfl) (by assumption) (fun _ _ => by go_simp) ?_
    simp only [Act.put, List.setIfInBounds_toArray, List.set_cons_zero, List.set_cons_succ]
    refine wpAnyH_yield 11 ((.agg #[.int .i64 u.k, .int .i64 u.c, .int .i64 u.s, .int .i64 u.t, .int .i64 u.g, .int .u32 u.a, .int .i64 u.r, .bool u.su, .bool u.st, .int .i64 u.q, .int .u32 u.v])) rfl (by kernel_rfl) (by kernel_rfl) (by kernel_rfl) (fun d _ _ _ h => by cases d <;> exact h) (by rfl) (by assumption) (fun _ hSw => by (try dsimp only [Rqc] at hSw); go_simp) ?_
    simp only [Act.put, List.setIfInBounds_toArray, List.set_cons_zero, List.set_cons_succ]
    refine wpAnyH_ready (rs := [12]) (by kernel_rfl) (by simp) (AllReadyH.cons rfl (fun K hK => ?_) AllReadyH.nil)
    go_simp
    go_at_call 35
    refine (hmost _).mono ?_
    rintro e w3 ⟨rfl, hb⟩
    have H3 := Lib.hid (H2.out.call hb)
    clear hb H2 hmost
    have hS := att_rq (H3.out.get 0 rfl)
    obtain ⟨-, -, h16, -⟩ := att_nums (H3.out.get 0 rfl)
    refine hK.out _ _ (⟨hS, h16⟩) (fun hHeld => ?_)
    clear hK K
    try simp only [Act.put, List.setIfInBounds_toArray, List.set_cons_zero, List.set_cons_succ]
    by_cases hc : m ≤ s.h
    · have hc' : (m : Int) ≤ (s.h : Int) := by omega
      have hd : decide ((m : Int) ≤ (s.h : Int)) = true := by simpa using hc
      have HZ := Lib.hid (show decide (m ≤ s.h ∨ 16 ≤ s.n) = true by simp [hc])
      clear hc
      refine wpAnyH_yield 13 ((.bool true)) rfl (by kernel_rfl) (by kernel_rfl) (by kernel_rfl) (fun d _ _ _ h => by cases d <;> exact h) (by rfl) (by assumption) (fun _ _ => by go_simp) ?_
      simp only [Act.put, List.setIfInBounds_toArray, List.set_cons_zero, List.set_cons_succ]
      refine wpAnyH_yield 14 ((.bool true)) rfl (by kernel_rfl) (by kernel_rfl) (by kernel_rfl) (fun d _ _ _ h => by cases d <;> exact h) (by rfl) (by assumption) (fun _ _ => by go_simp) ?_
      simp only [Act.put, List.setIfInBounds_toArray, List.set_cons_zero, List.set_cons_succ]
      refine wpAnyH_skip 15 rfl (by kernel_rfl) (by kernel_rfl) (by kernel_rfl) (fun d _ _ _ h => by cases d <;> exact h) (by rfl) (by assumption) ?_
      simp only [Act.put, List.setIfInBounds_toArray, List.set_cons_zero, List.set_cons_succ]
      refine wpAnyH_skip 16 rfl (by kernel_rfl) (by kernel_rfl) (by kernel_rfl) (fun d _ _ _ h => by cases d <;> exact h) (by rfl) (by assumption) ?_
      simp only [Act.put, List.setIfInBounds_toArray, List.set_cons_zero, List.set_cons_succ]
      refine wpAnyH_skip 17 rfl (by kernel_rfl) (by kernel_rfl) (by kernel_rfl) (fun d _ _ _ h => by cases d <;> exact h) (by rfl) (by assumption) ?_
      simp only [Act.put, List.setIfInBounds_toArray, List.set_cons_zero, List.set_cons_succ]
      refine wpAnyH_yield 18 ((.bool true)) rfl (by kernel_rfl) (by kernel_rfl) (by kernel_rfl) (fun d _ _ _ h => by cases d <;> exact h) (by rfl) (by assumption) (fun _ _ => by go_simp) ?_
      simp only [Act.put, List.setIfInBounds_toArray, List.set_cons_zero, List.set_cons_succ]
      refine wpAnyH_done (by kernel_rfl) ?_ _
      go_wp2
      go_meet
      case rel => exact ⟨congrArg Value.bool HZ.out.symm, H3⟩
    · have hc' : ¬(m : Int) ≤ (s.h : Int) := by omega
      have hd : decide ((m : Int) ≤ (s.h : Int)) = false := by simpa using hc
      have HZ := Lib.hid (show decide (m ≤ s.h ∨ 16 ≤ s.n) = !decide (s.n < 16) by by_cases hx : s.n < 16 <;> simp [hc, hx] <;> omega)
      generalize decide (s.n < 16) = q at HZ hm
      clear hc hS h16
      refine wpAnyH_yield 13 ((.bool false)) rfl (by kernel_rfl) (by kernel_rfl) (by kernel_rfl) (fun d _ _ _ h => by cases d <;> exact h) (by rfl) (by assumption) (fun _ _ => by go_simp) ?_
      simp only [Act.put, List.setIfInBounds_toArray, List.set_cons_zero, List.set_cons_succ]
      refine wpAnyH_yield 14 ((.bool false)) rfl (by kernel_rfl) (by kernel_rfl) (by kernel_rfl) (fun d _ _ _ h => by cases d <;> exact h) (by rfl) (by assumption) (fun _ _ => by go_simp) ?_
      simp only [Act.put, List.setIfInBounds_toArray, List.set_cons_zero, List.set_cons_succ]
      refine wpAnyH_yield 15 ((.pointer (some ⟨P, 0, none⟩))) rfl (by kernel_rfl) (by kernel_rfl) (by kernel_rfl) (fun d _ _ _ h => by cases d <;> exact h) (by rfl) (by assumption) (fun _ _ => by go_simp) ?_
      simp only [Act.put, List.setIfInBounds_toArray, List.set_cons_zero, List.set_cons_succ]
      refine wpAnyH_ready (rs := [16]) (by kernel_rfl) (by simp) (AllReadyH.cons rfl (fun K hK => ?_) AllReadyH.nil)
      go_simp
      go_at_call 29
      refine (hm _ (H3.out.get 0 rfl)).mono ?_
      rintro e w4 ⟨rfl, rfl⟩
      have hS := att_rq (H3.out.get 0 rfl)
      obtain ⟨-, -, h16, -⟩ := att_nums (H3.out.get 0 rfl)
      refine hK.out _ _ (⟨hS, h16⟩) (fun hHeld => ?_)
      clear hK K
      try simp only [Act.put, List.setIfInBounds_toArray, List.set_cons_zero, List.set_cons_succ]
      refine wpAnyH_yield 17 ((.bool !q)) rfl (by kernel_rfl) (by kernel_rfl) (by kernel_rfl) (fun d _ _ _ h => by cases d <;> exact h) (by rfl) (by assumption) (fun _ _ => by go_simp) ?_
      simp only [Act.put, List.setIfInBounds_toArray, List.set_cons_zero, List.set_cons_succ]
      refine wpAnyH_yield 18 ((.bool !q)) rfl (by kernel_rfl) (by kernel_rfl) (by kernel_rfl) (fun d _ _ _ h => by cases d <;> exact h) (by rfl) (by assumption) (fun _ _ => by go_simp) ?_
      simp only [Act.put, List.setIfInBounds_toArray, List.set_cons_zero, List.set_cons_succ]
      refine wpAnyH_done (by kernel_rfl) ?_ _
      go_wp2
      go_meet
      case rel => exact ⟨congrArg Value.bool HZ.out.symm, H3⟩
  case rest =>
    obtain ⟨rfl, HC⟩ := hcut
    clear hS h16 H hmost hm
    by_cases hc : m ≤ s.h ∨ 16 ≤ s.n
    · have HE := Lib.hid (HD.out.trans (if_pos hc))
      have hd : decide (m ≤ s.h ∨ 16 ≤ s.n) = true := by simpa using hc
      rw [hd]
      clear hd hc HD
      go_wp2_with fail
      go_ret
      rw [HE.out]
      exact ⟨Ml.nil _ _ _, HC.out.get 0 rfl, HC.out.rest⟩
    · have HE := Lib.hid (HD.out.trans (if_neg hc))
      have hd : decide (m ≤ s.h ∨ 16 ≤ s.n) = false := by simpa using hc
      have hn : s.hedge.n < 16 := by show s.n < 16; omega
      rw [hd]
      obtain ⟨-, -, h16, -⟩ := att_nums (HC.out.get 0 rfl)
      obtain ⟨-, -, f16, -⟩ := att_free (HC.out.get 0 rfl)
      have H2 := Lib.hid (HC.out.set (att_h (HC.out.get 0 rfl) (s.h + 1) (x := (s.h : Int) + 1) rfl))
      clear hd hc HD HC
      go_wp2_with fail
      generalize wc.setCell _ _ = w3 at H2 ⊢
      refine (tsw_any (P := P) (u := u) (s := s.hedge) hn now _ (H2.out.get 0 rfl)).mono ?_
      rintro e w4 ⟨⟨a, c, rfl, hml⟩, hq, hr⟩
      have H4 := Lib.hid (H2.out.put hr hq)
      go_wp2_with fail
      go_ret
      rw [HE.out]
      refine ⟨⟨a, c, rfl, ?_⟩, H4.out.get 0 rfl, H4.out.rest⟩
      rcases hml with hml | ⟨g, o, ha, hrow⟩
      · exact .inl hml
      · exact .inr ⟨g, o, ha, hrow.lower H2.out.rest.size⟩
/-- Due. -/
theorem tdue_nil (x now : Int) (w : World) : Calls Try.prog 10 #[.pointer none, .int .i64 x, .int .i64 now] w fun e w' => e = .returned (.slice none 0 0) ∧ w = w' := by
  go_enter Try.func10, Try.ntmps10
  go_wp2_with fail
  refine (tsent_nil _).mono ?_
  rintro e w1 ⟨rfl, rfl⟩
  go_wp2_with fail
  go_ret
  exact ⟨rfl, rfl⟩
theorem tdue_any {P : Nat} {u : At.Rq} {s : At.St} (hs : s.Ok) (x now : Int) (w : World) (h : w.heap[P]? = some (att u s)) : Calls Try.prog 10 #[.pointer (some ⟨P, 0, none⟩), .int .i64 x, .int .i64 now] w fun e w' =>
    Ml w w' u e (At.due u s x now).2 ∧ w'.heap[P]? = some (att u (At.due u s x now).1) ∧ Rest (fun i => i = P) w w' := by
  have HD := Lib.hid (show At.due u s x now = if s.n = 0 then (s, []) else if x = 2 then At.retry s else if x = 3 then At.beside u s now else (s, []) from rfl)
  have hsent := fun w h => tsent_any (P := P) (u := u) (s := s) w h
  have hr := fun w h => tretry_any (P := P) (u := u) (s := s) (by have := hs.1; have := hs.2.1; omega) w h
  have hb := fun w h => tbeside_any (P := P) (u := u) (s := s) (by have := hs.1; have := hs.2.2; omega) now w h
  have H := Lib.hid h
  generalize At.due u s x now = b at HD ⊢
  clear h
  by_cases h0 : s.n = 0
  · have HE := Lib.hid (HD.out.trans (if_pos h0))
    rw [h0] at hsent
    clear h0 HD
    go_enter Try.func10, Try.ntmps10
    go_wp2_with fail
    refine (hsent _ H.out).mono ?_
    rintro e w1 ⟨rfl, rfl⟩
    go_wp2_with fail
    go_ret
    rw [HE.out]
    exact ⟨Ml.nil _ _ _, H.out, Rest.refl _ _⟩
  · have hz : ((s.n : Int) == 0) = false := by simpa using h0
    have HE := Lib.hid (HD.out.trans (if_neg h0))
    clear h0 HD
    by_cases h2 : x = 2
    · subst h2
      have HF := Lib.hid (HE.out.trans (if_pos rfl))
      clear HE
      go_enter Try.func10, Try.ntmps10
      go_wp2_with fail
      refine (hsent _ H.out).mono ?_
      rintro e w1 ⟨rfl, rfl⟩
      go_wp2_with fail
      refine (hr _ H.out).mono ?_
      rintro e w2 ⟨⟨a, c, rfl, hml⟩, hq, hrr⟩
      go_wp2_with fail
      go_ret
      rw [HF.out]
      exact ⟨⟨a, c, rfl, hml⟩, hq, hrr⟩
    · have hz2 : (x == 2) = false := by simpa using h2
      have HF := Lib.hid (HE.out.trans (if_neg h2))
      clear HE h2
      by_cases h3 : x = 3
      · subst h3
        have HG := Lib.hid (HF.out.trans (if_pos rfl))
        clear HF
        go_enter Try.func10, Try.ntmps10
        go_wp2_with fail
        refine (hsent _ H.out).mono ?_
        rintro e w1 ⟨rfl, rfl⟩
        go_wp2_with fail
        refine (hb _ H.out).mono ?_
        rintro e w2 ⟨⟨a, c, rfl, hml⟩, hq, hrr⟩
        go_wp2_with fail
        go_ret
        rw [HG.out]
        exact ⟨⟨a, c, rfl, hml⟩, hq, hrr⟩
      · have hz3 : (x == 3) = false := by simpa using h3
        have HG := Lib.hid (HF.out.trans (if_neg h3))
        clear HF h3
        go_enter Try.func10, Try.ntmps10
        go_wp2_with fail
        refine (hsent _ H.out).mono ?_
        rintro e w1 ⟨rfl, rfl⟩
        go_wp2_with fail
        go_ret
        rw [HG.out]
        exact ⟨Ml.nil _ _ _, H.out, Rest.refl _ _⟩
end Go.Proofs.Ytihgohadihjalaa
