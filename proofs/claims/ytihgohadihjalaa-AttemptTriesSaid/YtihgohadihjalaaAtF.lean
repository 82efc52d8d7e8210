/- The contract of Failed: a try is out no more; the call is tried again later, or failed. -/
import Derived.Test.YtihgohadihjalaaAtE
import Derived.Test.YtihgohadihjalaaTkW
namespace Go.Proofs.Ytihgohadihjalaa
open Go.RowKit

theorem alarm_rest {w : World} {B : Nat} {c0 c1 c2 c3 c4 : Value} {own : Nat → Prop} (h : own B) : Rest own w (((((w.setCell ⟨B, 0, none⟩ c0).setCell ⟨B, 1, none⟩ c1).setCell ⟨B, 2, none⟩ c2).setCell ⟨B, 3, none⟩ c3).setCell ⟨B, 4, none⟩ c4) := by
  have s : ∀ (w : World) (i : Nat) (v : Value), Rest own w (w.setCell ⟨B, i, none⟩ v) := fun w i v => Rest.setCell _ _ _ h
  have t : ∀ {a b c : World}, Rest own a b → Rest own b c → Rest own a c := fun h k => h.trans k (fun _ _ x => x) (fun _ _ x => x)
  exact t (t (t (t (s _ _ _) (s _ _ _)) (s _ _ _)) (s _ _ _)) (s _ _ _)

/-- Of none. -/
theorem tfailed_nil (k now : Int) (b : Option Addr) (w : World) : Calls Try.prog 9 #[.pointer none, .int .i64 k, .int .i64 now, .pointer b] w fun e w' => e = .returned (.slice none 0 0) ∧ w = w' := by
  go_enter Try.func9, Try.ntmps9
  go_wp2_with fail
  refine (tis_nil _ _).mono ?_
  rintro e w1 ⟨rfl, rfl⟩
  go_wp2_with fail
  go_ret
  exact ⟨rfl, rfl⟩
/-- It is not out. -/
theorem tfailed_not {P : Nat} {u : At.Rq} {s : At.St} (hs : s.n ≤ 16) (k now : Int) (b : Option Addr) (ho : ¬At.IsOut s k) (w : World) (h : w.heap[P]? = some (att u s)) : Calls Try.prog 9 #[.pointer (some ⟨P, 0, none⟩), .int .i64 k, .int .i64 now, .pointer b] w fun e w' => e = .returned (.slice none 0 0) ∧ w = w' := by
  have hi := tis_any hs k w h
  rw [show decide (At.IsOut s k) = false by simpa using ho] at hi
  clear h ho
  go_enter Try.func9, Try.ntmps9
  go_wp2_with fail
  refine hi.mono ?_
  rintro e w1 ⟨rfl, rfl⟩
  go_wp2_with fail
  go_ret
  exact ⟨rfl, rfl⟩
set_option maxHeartbeats 1000000 in
/-- Another one is, or a retry is waited for. -/
theorem tfailed_more {P : Nat} {u : At.Rq} {s : At.St} (hs : s.n ≤ 16) (k : Nat) (now : Int) (b : Option Addr) (ho : At.IsOut s (k : Int)) (hm : 0 < (s.gone k).many ∨ s.b = true) (w : World) (h : w.heap[P]? = some (att u s)) : Calls Try.prog 9 #[.pointer (some ⟨P, 0, none⟩), .int .i64 (k : Int), .int .i64 now, .pointer b] w fun e w' => e = .returned (.slice none 0 0) ∧ w'.heap[P]? = some (att u (s.gone k)) ∧ Rest (fun i => i = P) w w' := by
  have hi := tis_any hs (k : Int) w h
  rw [show decide (At.IsOut s (k : Int)) = true by simpa using ho] at hi
  have hk : k < 16 := by have := ho.2.1; omega
  have hk' : (k : Int) < 16 := by omega
  have H := Lib.hid (Upon.one (own := fun i => i = P) h rfl)
  obtain ⟨o0, fo⟩ := att_out h hk
  have H1 := Lib.hid (H.out.set (att_put (H.out.get 0 rfl) hk false))
  have hout := fun w h => tout_any (P := P) (u := u) (s := s.gone k) hs w h
  clear h ho
  go_enter Try.func9, Try.ntmps9
  go_wp2_with fail
  refine hi.mono ?_
  rintro e w1 ⟨rfl, rfl⟩
  clear hi
  go_wp2_with fail
  generalize w.setCell _ _ = w1 at H1 ⊢
  refine (hout _ (H1.out.get 0 rfl)).mono ?_
  rintro e w2 ⟨rfl, rfl⟩
  obtain ⟨-, -, -, b0⟩ := att_nums (H1.out.get 0 rfl)
  have HE := Lib.hid (And.intro (H1.out.get 0 rfl) H1.out.rest)
  clear hout H H1 o0 fo
  dsimp only at b0
  by_cases hz : 0 < (s.gone k).many
  · have hz' : (0 : Int) < ((s.gone k).many : Int) := by omega
    generalize (s.gone k).many = m at hz'
    have hd : decide ((0 : Int) < (m : Int)) = true := by simpa using hz'
    clear hm hz
    go_wp2_with fail
    go_ret
    exact ⟨rfl, HE.out.1, HE.out.2⟩
  · rw [hm.resolve_left hz] at b0
    have hz' : ((s.gone k).many : Int) = 0 := by omega
    rw [hz']
    clear hm hz hz'
    go_wp2_with fail
    go_ret
    exact ⟨rfl, HE.out.1, HE.out.2⟩

set_option maxHeartbeats 1000000 in
/-- It may not be tried again. -/
theorem tfailed_end {P Q : Nat} {u : At.Rq} {s : At.St} {x : At.Bg} (hn : P ≠ Q) (hs : s.n ≤ 16) (k : Nat) (now : Int) (ho : At.IsOut s (k : Int)) (hm : ¬(0 < (s.gone k).many ∨ s.b = true)) (hx : ¬At.May u x s) (w : World) (h : w.heap[P]? = some (att u s)) (h2 : w.heap[Q]? = some (bud x)) :
    Calls Try.prog 9 #[.pointer (some ⟨P, 0, none⟩), .int .i64 (k : Int), .int .i64 now, .pointer (some ⟨Q, 0, none⟩)] w fun e w' => Ml w w' u e [.fail] ∧ w'.heap[P]? = some (att u (s.gone k)) ∧ w'.heap[Q]? = some (bud x) ∧ Rest (fun i => i = P ∨ i = Q) w w' := by
  have hi := tis_any hs (k : Int) w h
  rw [show decide (At.IsOut s (k : Int)) = true by simpa using ho] at hi
  have hk : k < 16 := by have := ho.2.1; omega
  have hk' : (k : Int) < 16 := by omega
  have H := Lib.hid (Upon.see h h2 hn)
  obtain ⟨o0, fo⟩ := att_out h hk
  have H1 := Lib.hid (H.out.set (att_put (H.out.get 0 rfl) hk false))
  have hout := fun w h => tout_any (P := P) (u := u) (s := s.gone k) hs w h
  rw [show (s.gone k).many = 0 by omega] at hout
  have hbf : s.b = false := by cases hq : s.b; rfl; exact absurd (.inr hq) hm
  clear h h2 ho hm
  go_enter Try.func9, Try.ntmps9
  go_wp2_with fail
  refine hi.mono ?_
  rintro e w1 ⟨rfl, rfl⟩
  clear hi
  go_wp2_with fail
  generalize w.setCell _ _ = w1 at H1 ⊢
  refine (hout _ (H1.out.get 0 rfl)).mono ?_
  rintro e w2 ⟨rfl, rfl⟩
  obtain ⟨-, -, -, b0⟩ := att_nums (H1.out.get 0 rfl)
  clear hout H o0 fo
  dsimp only at b0
  rw [hbf] at b0
  go_wp2_with fail
  refine (tagain_no w1 (H1.out.get 0 rfl) (H1.out.get 1 rfl) hn hx).mono ?_
  rintro e w2 ⟨rfl, hb⟩
  have H2 := Lib.hid (H1.out.call hb)
  clear hb H1 b0
  go_wp2_with fail
  refine (tfail_any u _).mono ?_
  rintro e w3 ⟨⟨a, c, rfl, hml⟩, hb⟩
  have H3 := Lib.hid (H2.out.call hb)
  go_wp2_with fail
  go_ret
  refine ⟨⟨a, c, rfl, ?_⟩, H3.out.get 0 rfl, H3.out.get 1 rfl, H3.out.rest⟩
  rcases hml with hml | ⟨g, o, ha, hrow⟩
  · exact .inl hml
  · exact .inr ⟨g, o, ha, hrow.lower H2.out.rest.size⟩

set_option maxHeartbeats 4000000 in
/-- It may be: later, or too late. -/
theorem tfailed_again {P Q : Nat} {u : At.Rq} {s : At.St} {x : At.Bg} (hn : P ≠ Q) (hs : s.n ≤ 16) (k : Nat) (now : Int) (ho : At.IsOut s (k : Int)) (hm : ¬(0 < (s.gone k).many ∨ s.b = true)) (hp : s.p ≤ 100) (hx : At.May u x s) (hc : 0 ≤ x.c) (hl : x.l ≤ 1048576) (w : World) (h : w.heap[P]? = some (att u s)) (h2 : w.heap[Q]? = some (bud x)) :
    Calls Try.prog 9 #[.pointer (some ⟨P, 0, none⟩), .int .i64 (k : Int), .int .i64 now, .pointer (some ⟨Q, 0, none⟩)] w fun e w' => Ml w w' u e (if At.when_ u x s now < Tk.clamp u.E then [.wait (At.when_ u x s now) 2] else [.fail]) ∧ w'.heap[P]? = some (att u (if At.when_ u x s now < Tk.clamp u.E then (s.gone k).wait true else s.gone k)) ∧ w'.heap[Q]? = some (bud x.take) ∧ Rest (fun i => i = P ∨ i = Q) w w' := by
  have hwait := fun w h => bwait_any (P := Q) (m := x.m) (g := x.g) (c := x.c) (r := x.r) (t := x.t) (b := x.b) (l := x.l - x.c) ((s.p : Int) + 1) (by omega) w h
  have hws := Lib.hid (fun w => soon_any now (max 1 (Tk.twice x.t s.p x.b)) u.E u.k u.c u.s u.t u.g u.a u.r u.q u.v 2 u.su u.st w)
  rw [show (max 1 ((s.p : Int) + 1) - 1).toNat = s.p by omega] at hwait
  rw [show min (Tk.after now (max 1 (Tk.twice x.t s.p x.b))) (Tk.clamp u.E) = At.when_ u x s now from rfl] at hws
  have hz0 : Tk.clamp (At.when_ u x s now) = At.when_ u x s now := Tk.clamp_in (by have := Tk.after_lo now (max 1 (Tk.twice x.t s.p x.b)); have := Tk.clamp_lo u.E; unfold At.when_; omega) (by have := Tk.clamp_hi u.E; unfold At.when_; omega)
  have hin := fun w => within_any (At.when_ u x s now) 0 u.E w
  rw [hz0, show Tk.clamp 0 = 0 from Tk.clamp_in (by decide) (by decide), show decide ((0 : Int) ≤ At.when_ u x s now) = true by (have := Tk.clamp_lo (At.when_ u x s now); simp; omega), Bool.true_and] at hin
  have hw1 : IntKind.i64.wrap ((s.p : Int) + 1) = (s.p : Int) + 1 := by rw [IntKind.wrap_i64]; omega
  clear hz0
  generalize max 1 (Tk.twice x.t s.p x.b) = y at hwait hws
  generalize At.when_ u x s now = z at hws hin ⊢
  generalize hms : (if z < Tk.clamp u.E then [At.Mv.wait z 2] else [At.Mv.fail]) = ms
  generalize hsx : (if z < Tk.clamp u.E then (s.gone k).wait true else s.gone k) = sx
  have HMS := Lib.hid hms
  have HSX := Lib.hid hsx
  clear hms hsx
  have hi := tis_any hs (k : Int) w h
  rw [show decide (At.IsOut s (k : Int)) = true by simpa using ho] at hi
  have hk : k < 16 := by have := ho.2.1; omega
  have hk' : (k : Int) < 16 := by omega
  have H := Lib.hid (Upon.see h h2 hn)
  obtain ⟨o0, fo⟩ := att_out h hk
  have H1 := Lib.hid (H.out.set (att_put (H.out.get 0 rfl) hk false))
  have hout := fun w h => tout_any (P := P) (u := u) (s := s.gone k) hs w h
  rw [show (s.gone k).many = 0 by omega] at hout
  have hbf : s.b = false := by cases hq : s.b; rfl; exact absurd (.inr hq) hm
  clear h h2 ho hm
  go_enter Try.func9, Try.ntmps9
  go_wp2_with fail
  refine hi.mono ?_
  rintro e w1 ⟨rfl, rfl⟩
  clear hi
  go_wp2_with fail
  generalize w.setCell _ _ = w1 at H1 ⊢
  refine (hout _ (H1.out.get 0 rfl)).mono ?_
  rintro e w2 ⟨rfl, rfl⟩
  obtain ⟨-, -, -, b0⟩ := att_nums (H1.out.get 0 rfl)
  clear hout H o0 fo
  dsimp only at b0
  rw [hbf] at b0
  go_wp2_with fail
  refine (tagain_yes w1 (H1.out.get 0 rfl) (H1.out.get 1 rfl) hn hx hc hl).mono ?_
  rintro e w2 ⟨rfl, hq, hr⟩
  have H2 := Lib.hid (H1.out.put1 hr hq)
  clear hq hr H1 b0 hx hn hs hbf
  go_upto_region 8 with fail
  have hS := att_rq (H2.out.get 0 rfl)
  obtain ⟨-, h15, -, -⟩ := att_nums (H2.out.get 0 rfl)
  dsimp only at h15
  generalize hgo : At.St.mk s.n s.p s.h s.b (At.put s.o k false) = sg at H2
  have HGO := Lib.hid (show s.gone k = sg from hgo)
  clear hgo
  go_cut [9] (fun s9 wx => ∃ n, s9 = .pointer (some ⟨n, 0, none⟩) ∧ Hid (Upon (fun i => i = P ∨ i = Q) w wx [(n, .cells #[.int .i64 z, .int .i64 u.c, .int .i64 u.t, .int .i64 u.g, .int .i64 2] 53 (0, 0)), (P, att u sg), (Q, bud x.take)]))
  case first =>
    refine wp_region_held_drew (S := fun w' => Rqc u w' P ∧ w'.cell? ⟨P, 15, none⟩ = some (.int .i64 (s.p : Int))) (by kernel_rfl) ⟨hS, h15⟩ (fun hHeld => ?_)
    have H3 := Lib.hid H2.out.drew
    clear H2 hS h15 hin
    generalize w2.drew = wd at H3 hHeld ⊢
    refine wpAnyH_yield 0 ((.int .i64 now)) rfl (by kernel_rfl) (by kernel_rfl) (by kernel_rfl) (fun d _ _ _ h => by cases d <;> exact h) (by rfl) (by assumption) (fun _ _ => by go_simp) ?_
    simp only [Act.put, List.setIfInBounds_toArray, List.set_cons_zero, List.set_cons_succ]
    refine wpAnyH_yield 1 ((.pointer (some ⟨Q, 0, none⟩))) rfl (by kernel_rfl) (by kernel_rfl) (by kernel_rfl) (fun d _ _ _ h => by cases d <;> exact h) (by rfl) (by assumption) (fun _ _ => by go_simp) ?_
    simp only [Act.put, List.setIfInBounds_toArray, List.set_cons_zero, List.set_cons_succ]
    refine wpAnyH_yield 2 ((.pointer (some ⟨P, 0, none⟩))) rfl (by kernel_rfl) (by kernel_rfl) (by kernel_rfl) (fun d _ _ _ h => by cases d <;> exact h) (by rfl) (by assumption) (fun _ _ => by go_simp) ?_
    simp only [Act.put, List.setIfInBounds_toArray, List.set_cons_zero, List.set_cons_succ]
    refine wpAnyH_yield 3 ((.pointer (some ⟨P, 0, none⟩))) rfl (by kernel_rfl) (by kernel_rfl) (by kernel_rfl) (fun d _ _ _ h => by cases d <;> exact h) (by rfl) (by assumption) (fun _ _ => by go_simp) ?_
    simp only [Act.put, List.setIfInBounds_toArray, List.set_cons_zero, List.set_cons_succ]
    refine wpAnyH_yield 4 ((.pointer (some ⟨P, 15, none⟩))) rfl (by kernel_rfl) (by kernel_rfl) (by kernel_rfl) (fun d _ _ _ h => by cases d <;> exact h) (by rfl) (by assumption) (fun _ _ => by go_simp) ?_
    simp only [Act.put, List.setIfInBounds_toArray, List.set_cons_zero, List.set_cons_succ]
    refine wpAnyH_yield 5 ((.int .i64 (s.p : Int))) rfl (by kernel_rfl) (by kernel_rfl) (by kernel_rfl) (fun d _ _ _ h => by cases d <;> exact h) (by rfl) (by assumption) (fun _ hSw => by (try dsimp only [Rqc] at hSw); go_simp) ?_
    simp only [Act.put, List.setIfInBounds_toArray, List.set_cons_zero, List.set_cons_succ]
    refine wpAnyH_yield 6 ((.int .i64 ((s.p : Int) + 1))) rfl (by kernel_rfl) (by kernel_rfl) (by kernel_rfl) (fun d _ _ _ h => by cases d <;> exact h) (by rfl) (by assumption) (fun _ _ => by go_simp) ?_
    simp only [Act.put, List.setIfInBounds_toArray, List.set_cons_zero, List.set_cons_succ]
    refine wpAnyH_yield 8 ((.pointer (some ⟨P, 0, none⟩))) rfl (by kernel_rfl) (by kernel_rfl) (by kernel_rfl) (fun d _ _ _ h => by cases d <;> exact h) (by rfl) (by assumption) (fun _ _ => by go_simp) ?_
    simp only [Act.put, List.setIfInBounds_toArray, List.set_cons_zero, List.set_cons_succ]
    refine wpAnyH_yield 9 ((.pointer (some ⟨P, 0, none⟩))) rfl (by kernel_rfl) (by kernel_rfl) (by kernel_rfl) (fun d _ _ _ h => by cases d <;> exact h) (by rfl) (by assumption) (fun _ _ => by go_simp) ?_
    simp only [Act.put, List.setIfInBounds_toArray, List.set_cons_zero, List.set_cons_succ]
    refine wpAnyH_yield 10 ((.pointer (some ⟨P, 11, none⟩))) rfl (by kernel_rfl) (by kernel_rfl) (by kernel_rfl) (fun d _ _ _ h => by cases d <;> exact h) (by rfl) (by assumption) (fun _ _ => by go_simp) ?_
    simp only [Act.put, List.setIfInBounds_toArray, List.set_cons_zero, List.set_cons_succ]
    refine wpAnyH_yield 11 ((.int .i64 u.E)) rfl (by kernel_rfl) (by kernel_rfl) (by kernel_rfl) (fun d _ _ _ h => by cases d <;> exact h) (by rfl) (by assumption) (fun _ hSw => by (try dsimp only [Rqc] at hSw); go_simp) ?_
    simp only [Act.put, List.setIfInBounds_toArray, List.set_cons_zero, List.set_cons_succ]
    refine wpAnyH_yield 12 ((.pointer (some ⟨P, 0, none⟩))) rfl (by kernel_rfl) (by kernel_rfl) (by kernel_rfl) (fun d _ _ _ h => by cases d <;> exact h) (by rfl) (by assumption) (fun _ _ => by go_simp) ?_
    simp only [Act.put, List.setIfInBounds_toArray, List.set_cons_zero, List.set_cons_succ]
    refine wpAnyH_yield 13 ((.pointer (some ⟨P, 0, none⟩))) rfl (by kernel_rfl) (by kernel_rfl) (by kernel_rfl) (fun d _ _ _ h => by cases d <;> exact h) (by rfl) (by assumption) (fun _ _ => by go_simp) ?_
    simp only [Act.put, List.setIfInBounds_toArray, List.set_cons_zero, List.set_cons_succ]
    refine wpAnyH_yield 14 ((.pointer (some ⟨P, 0, none⟩))) rfl (by kernel_rfl) (by kernel_rfl) (by kernel_rfl) (fun d _ _ _ h => by cases d <;> exact h) (by rfl) (by assumption) (fun _ _ => by go_simp) ?_
    simp only [Act.put, List.setIfInBounds_toArray, List.set_cons_zero, List.set_cons_succ]
    refine wpAnyH_yield 15 ((.agg #[.int .i64 u.k, .int .i64 u.c, .int .i64 u.s, .int .i64 u.t, .int .i64 u.g, .int .u32 u.a, .int .i64 u.r, .bool u.su, .bool u.st, .int .i64 u.q, .int .u32 u.v])) rfl (by kernel_rfl) (by kernel_rfl) (by kernel_rfl) (fun d _ _ _ h => by cases d <;> exact h) (by rfl) (by assumption) (fun _ hSw => by (try dsimp only [Rqc] at hSw); go_simp) ?_
    simp only [Act.put, List.setIfInBounds_toArray, List.set_cons_zero, List.set_cons_succ]
    refine wpAnyH_ready (rs := [7, 17]) (by kernel_rfl) (by simp) (AllReadyH.cons rfl (fun K hK => ?_) (AllReadyH.cons rfl (fun K hK => ?_) AllReadyH.nil))
    · go_simp
      go_at_call 21
      refine (hwait _ (H3.out.get 1 rfl)).mono ?_
      rintro e w13 ⟨rfl, hb⟩
      have H4 := Lib.hid (H3.out.call hb)
      clear hb H3
      have hS := att_rq (H4.out.get 0 rfl)
      obtain ⟨-, h15, -, -⟩ := att_nums (H4.out.get 0 rfl)
      rw [← HGO.out] at h15
      refine hK.out _ _ (⟨hS, h15⟩) (fun hHeld => ?_)
      clear hK K
      try simp only [Act.put, List.setIfInBounds_toArray, List.set_cons_zero, List.set_cons_succ]
      clear hS h15
      refine wpAnyH_ready (rs := [16, 17]) (by kernel_rfl) (by simp) (AllReadyH.cons rfl (fun K hK => ?_) (AllReadyH.cons rfl (fun K hK => ?_) AllReadyH.nil))
      · go_simp
        go_at_call 20
        refine (hws.out _).mono ?_
        rintro e w14 ⟨rfl, hb⟩
        have H5 := Lib.hid (H4.out.call hb)
        clear hb H4
        have hS := att_rq (H5.out.get 0 rfl)
        obtain ⟨-, h15, -, -⟩ := att_nums (H5.out.get 0 rfl)
        rw [← HGO.out] at h15
        refine hK.out _ _ (⟨hS, h15⟩) (fun hHeld => ?_)
        clear hK K
        try simp only [Act.put, List.setIfInBounds_toArray, List.set_cons_zero, List.set_cons_succ]
        clear hS h15
        refine wpAnyH_ready (rs := [17]) (by kernel_rfl) (by simp) (AllReadyH.cons rfl (fun K hK => ?_) AllReadyH.nil)
        go_simp
        have H6 := Lib.hid (H5.out.lay (.cells #[.int .i64 0, .int .i64 0, .int .i64 0, .int .i64 0, .int .i64 0] 53))
        clear H5
        generalize w14.heap.size = ga at H6 ⊢
        generalize w14.alloc _ = w15 at H6 ⊢
        have hS := att_rq (H6.out.get 1 rfl)
        obtain ⟨-, h15, -, -⟩ := att_nums (H6.out.get 1 rfl)
        rw [← HGO.out] at h15
        refine hK.out _ _ (⟨hS, h15⟩) (fun hHeld => ?_)
        clear hK K
        try simp only [Act.put, List.setIfInBounds_toArray, List.set_cons_zero, List.set_cons_succ]
        clear hS h15
        obtain ⟨c0, c1, c2, c3, c4⟩ := alarm_cells (H6.out.get 0 rfl)
        obtain ⟨f0, f1, f2, f3, f4⟩ := alarm_free (H6.out.get 0 rfl)
        have HZ := Lib.hid (H6.out.put (alarm_rest rfl) (alarm_laid (c0 := .int .i64 z) (c1 := .int .i64 u.c) (c2 := .int .i64 u.t) (c3 := .int .i64 u.g) (c4 := .int .i64 2) (H6.out.get 0 rfl)))
        have hS := att_rq (HZ.out.get 1 rfl)
        obtain ⟨-, h15, -, -⟩ := att_nums (HZ.out.get 1 rfl)
        rw [← HGO.out] at h15
        refine wpAnyH_ready (rs := [18]) (by kernel_rfl) (by simp) (AllReadyH.cons rfl (fun K hK => ?_) AllReadyH.nil)
        go_simp
        refine hK.out _ _ (⟨hS, h15⟩) (fun hHeld => ?_)
        clear hK K
        try simp only [Act.put, List.setIfInBounds_toArray, List.set_cons_zero, List.set_cons_succ]
        clear c0 c1 c2 c3 c4 f0 f1 f2 f3 f4 hS h15
        refine wpAnyH_done (by kernel_rfl) ?_ _
        go_wp2
        go_meet
        case rel => exact ⟨_, rfl, HZ⟩
      · go_simp
        have H5 := Lib.hid (H4.out.lay (.cells #[.int .i64 0, .int .i64 0, .int .i64 0, .int .i64 0, .int .i64 0] 53))
        clear H4
        generalize w13.heap.size = ga at H5 ⊢
        generalize w13.alloc _ = w14 at H5 ⊢
        have hS := att_rq (H5.out.get 1 rfl)
        obtain ⟨-, h15, -, -⟩ := att_nums (H5.out.get 1 rfl)
        rw [← HGO.out] at h15
        refine hK.out _ _ (⟨hS, h15⟩) (fun hHeld => ?_)
        clear hK K
        try simp only [Act.put, List.setIfInBounds_toArray, List.set_cons_zero, List.set_cons_succ]
        clear hS h15
        refine wpAnyH_ready (rs := [16]) (by kernel_rfl) (by simp) (AllReadyH.cons rfl (fun K hK => ?_) AllReadyH.nil)
        go_simp
        go_at_call 20
        refine (hws.out _).mono ?_
        rintro e w15 ⟨rfl, hb⟩
        have H6 := Lib.hid (H5.out.call hb)
        clear hb H5
        have hS := att_rq (H6.out.get 1 rfl)
        obtain ⟨-, h15, -, -⟩ := att_nums (H6.out.get 1 rfl)
        rw [← HGO.out] at h15
        refine hK.out _ _ (⟨hS, h15⟩) (fun hHeld => ?_)
        clear hK K
        try simp only [Act.put, List.setIfInBounds_toArray, List.set_cons_zero, List.set_cons_succ]
        clear hS h15
        obtain ⟨c0, c1, c2, c3, c4⟩ := alarm_cells (H6.out.get 0 rfl)
        obtain ⟨f0, f1, f2, f3, f4⟩ := alarm_free (H6.out.get 0 rfl)
        have HZ := Lib.hid (H6.out.put (alarm_rest rfl) (alarm_laid (c0 := .int .i64 z) (c1 := .int .i64 u.c) (c2 := .int .i64 u.t) (c3 := .int .i64 u.g) (c4 := .int .i64 2) (H6.out.get 0 rfl)))
        have hS := att_rq (HZ.out.get 1 rfl)
        obtain ⟨-, h15, -, -⟩ := att_nums (HZ.out.get 1 rfl)
        rw [← HGO.out] at h15
        refine wpAnyH_ready (rs := [18]) (by kernel_rfl) (by simp) (AllReadyH.cons rfl (fun K hK => ?_) AllReadyH.nil)
        go_simp
        refine hK.out _ _ (⟨hS, h15⟩) (fun hHeld => ?_)
        clear hK K
        try simp only [Act.put, List.setIfInBounds_toArray, List.set_cons_zero, List.set_cons_succ]
        clear c0 c1 c2 c3 c4 f0 f1 f2 f3 f4 hS h15
        refine wpAnyH_done (by kernel_rfl) ?_ _
        go_wp2
        go_meet
        case rel => exact ⟨_, rfl, HZ⟩
    · go_simp
      have H4 := Lib.hid (H3.out.lay (.cells #[.int .i64 0, .int .i64 0, .int .i64 0, .int .i64 0, .int .i64 0] 53))
      clear H3
      generalize wd.heap.size = ga at H4 ⊢
      generalize wd.alloc _ = w13 at H4 ⊢
      have hS := att_rq (H4.out.get 1 rfl)
      obtain ⟨-, h15, -, -⟩ := att_nums (H4.out.get 1 rfl)
      rw [← HGO.out] at h15
      refine hK.out _ _ (⟨hS, h15⟩) (fun hHeld => ?_)
      clear hK K
      try simp only [Act.put, List.setIfInBounds_toArray, List.set_cons_zero, List.set_cons_succ]
      clear hS h15
      refine wpAnyH_ready (rs := [7]) (by kernel_rfl) (by simp) (AllReadyH.cons rfl (fun K hK => ?_) AllReadyH.nil)
      go_simp
      go_at_call 21
      refine (hwait _ (H4.out.get 2 rfl)).mono ?_
      rintro e w14 ⟨rfl, hb⟩
      have H5 := Lib.hid (H4.out.call hb)
      clear hb H4
      have hS := att_rq (H5.out.get 1 rfl)
      obtain ⟨-, h15, -, -⟩ := att_nums (H5.out.get 1 rfl)
      rw [← HGO.out] at h15
      refine hK.out _ _ (⟨hS, h15⟩) (fun hHeld => ?_)
      clear hK K
      try simp only [Act.put, List.setIfInBounds_toArray, List.set_cons_zero, List.set_cons_succ]
      clear hS h15
      refine wpAnyH_ready (rs := [16]) (by kernel_rfl) (by simp) (AllReadyH.cons rfl (fun K hK => ?_) AllReadyH.nil)
      go_simp
      go_at_call 20
      refine (hws.out _).mono ?_
      rintro e w15 ⟨rfl, hb⟩
      have H6 := Lib.hid (H5.out.call hb)
      clear hb H5
      have hS := att_rq (H6.out.get 1 rfl)
      obtain ⟨-, h15, -, -⟩ := att_nums (H6.out.get 1 rfl)
      rw [← HGO.out] at h15
      refine hK.out _ _ (⟨hS, h15⟩) (fun hHeld => ?_)
      clear hK K
      try simp only [Act.put, List.setIfInBounds_toArray, List.set_cons_zero, List.set_cons_succ]
      clear hS h15
      obtain ⟨c0, c1, c2, c3, c4⟩ := alarm_cells (H6.out.get 0 rfl)
      obtain ⟨f0, f1, f2, f3, f4⟩ := alarm_free (H6.out.get 0 rfl)
      have HZ := Lib.hid (H6.out.put (alarm_rest rfl) (alarm_laid (c0 := .int .i64 z) (c1 := .int .i64 u.c) (c2 := .int .i64 u.t) (c3 := .int .i64 u.g) (c4 := .int .i64 2) (H6.out.get 0 rfl)))
      have hS := att_rq (HZ.out.get 1 rfl)
      obtain ⟨-, h15, -, -⟩ := att_nums (HZ.out.get 1 rfl)
      rw [← HGO.out] at h15
      refine wpAnyH_ready (rs := [18]) (by kernel_rfl) (by simp) (AllReadyH.cons rfl (fun K hK => ?_) AllReadyH.nil)
      go_simp
      refine hK.out _ _ (⟨hS, h15⟩) (fun hHeld => ?_)
      clear hK K
      try simp only [Act.put, List.setIfInBounds_toArray, List.set_cons_zero, List.set_cons_succ]
      clear c0 c1 c2 c3 c4 f0 f1 f2 f3 f4 hS h15
      refine wpAnyH_done (by kernel_rfl) ?_ _
      go_wp2
      go_meet
      case rel => exact ⟨_, rfl, HZ⟩
  case rest =>
    obtain ⟨n, rfl, HC⟩ := hcut
    clear hS h15 H2 hwait hws
    obtain ⟨a0, -⟩ := alarm_cells (HC.out.get 0 rfl)
    obtain ⟨-, -, -, -, -, -, -, -, -, -, -, h11, -⟩ := att_rq (HC.out.get 1 rfl)
    go_upto_region 9 with fail
    refine wp_region_held_drew (S := fun w' => w'.cell? ⟨n, 0, none⟩ = some (.int .i64 z) ∧ w'.cell? ⟨P, 11, none⟩ = some (.int .i64 u.E)) (by kernel_rfl) ⟨a0, h11⟩ (fun hHeld => ?_)
    have HD := Lib.hid HC.out.drew
    clear HC a0 h11
    generalize wc.drew = wd at HD hHeld ⊢
    refine wpAnyH_yield 0 ((.pointer (some ⟨n, 0, none⟩))) rfl (by kernel_rfl) (by kernel_rfl) (by kernel_rfl) (fun d _ _ _ h => by cases d <;> exact h) (by rfl) (by assumption) (fun _ _ => by go_simp) ?_
    simp only [Act.put, List.setIfInBounds_toArray, List.set_cons_zero, List.set_cons_succ]
    refine wpAnyH_yield 1 ((.int .i64 z)) rfl (by kernel_rfl) (by kernel_rfl) (by kernel_rfl) (fun d _ _ _ h => by cases d <;> exact h) (by rfl) (by assumption) (fun _ hSw => by (try dsimp only [Rqc] at hSw); go_simp) ?_
    simp only [Act.put, List.setIfInBounds_toArray, List.set_cons_zero, List.set_cons_succ]
    refine wpAnyH_yield 2 ((.pointer (some ⟨P, 0, none⟩))) rfl (by kernel_rfl) (by kernel_rfl) (by kernel_rfl) (fun d _ _ _ h => by cases d <;> exact h) (by rfl) (by assumption) (fun _ _ => by go_simp) ?_
    simp only [Act.put, List.setIfInBounds_toArray, List.set_cons_zero, List.set_cons_succ]
    refine wpAnyH_yield 3 ((.pointer (some ⟨P, 0, none⟩))) rfl (by kernel_rfl) (by kernel_rfl) (by kernel_rfl) (fun d _ _ _ h => by cases d <;> exact h) (by rfl) (by assumption) (fun _ _ => by go_simp) ?_
    simp only [Act.put, List.setIfInBounds_toArray, List.set_cons_zero, List.set_cons_succ]
    refine wpAnyH_yield 4 ((.pointer (some ⟨P, 11, none⟩))) rfl (by kernel_rfl) (by kernel_rfl) (by kernel_rfl) (fun d _ _ _ h => by cases d <;> exact h) (by rfl) (by assumption) (fun _ _ => by go_simp) ?_
    simp only [Act.put, List.setIfInBounds_toArray, List.set_cons_zero, List.set_cons_succ]
    refine wpAnyH_yield 5 ((.int .i64 u.E)) rfl (by kernel_rfl) (by kernel_rfl) (by kernel_rfl) (fun d _ _ _ h => by cases d <;> exact h) (by rfl) (by assumption) (fun _ hSw => by (try dsimp only [Rqc] at hSw); go_simp) ?_
    simp only [Act.put, List.setIfInBounds_toArray, List.set_cons_zero, List.set_cons_succ]
    refine wpAnyH_ready (rs := [6]) (by kernel_rfl) (by simp) (AllReadyH.cons rfl (fun K hK => ?_) AllReadyH.nil)
    go_simp
    go_at_call 22
    refine (hin _).mono ?_
    rintro e w4 ⟨rfl, rfl⟩
    refine hK.out _ _ (hHeld) (fun hHeld => ?_)
    clear hK K
    try simp only [Act.put, List.setIfInBounds_toArray, List.set_cons_zero, List.set_cons_succ]
    have HY := Lib.hid (show (decide (z < Tk.clamp u.E) = true ∧ z < Tk.clamp u.E) ∨ (decide (z < Tk.clamp u.E) = false ∧ ¬z < Tk.clamp u.E) by by_cases hq : z < Tk.clamp u.E <;> simp [hq])
    generalize hdd : decide (z < Tk.clamp u.E) = d
    rw [hdd] at HY
    clear hdd hin
    refine wpAnyH_yield 7 ((.bool !d)) rfl (by kernel_rfl) (by kernel_rfl) (by kernel_rfl) (fun d _ _ _ h => by cases d <;> exact h) (by rfl) (by assumption) (fun _ _ => by go_simp) ?_
    simp only [Act.put, List.setIfInBounds_toArray, List.set_cons_zero, List.set_cons_succ]
    refine wpAnyH_done (by kernel_rfl) ?_ _
    clear hHeld
    rcases HY.out with ⟨rfl, hz⟩ | ⟨rfl, hz⟩
    · have HM2 := Lib.hid (HMS.out.symm.trans (if_pos hz))
      have HS2 := Lib.hid (HSX.out.symm.trans (if_pos hz))
      obtain ⟨-, -, -, f17⟩ := att_free (HD.out.get 1 rfl)
      obtain ⟨-, -, -, b17⟩ := att_nums (HD.out.get 1 rfl)
      have H5 := Lib.hid (HD.out.swap.set (att_b (HD.out.swap.get 0 rfl) true)).swap
      obtain ⟨a0, a1, a2, a3, a4⟩ := alarm_cells (H5.out.get 0 rfl)
      clear hz HMS HSX HY HD
      go_wp2_with fail
      generalize wd.setCell _ _ = w5 at H5 ⊢
      refine (twait_any z u.c u.t u.g 2 _).mono ?_
      rintro e w6 ⟨rfl, hb⟩
      have H6 := Lib.hid ((H5.out.call hb).lay (.cells #[.int .i64 2, .int .i64 0, .int .i64 0, .int .i64 0, .int .i64 0, .int .i64 0, .int .u32 0, .int .i64 0, .bool false, .bool false, .int .i64 0, .int .u32 0, .int .i64 (z), .int .i64 (u.c), .int .i64 (u.t), .int .i64 (u.g), .int .i64 (2)] 55))
      have HL := Lib.hid (H5.out.call hb).rest.size
      clear hb H5 a0 a1 a2 a3 a4 f17 b17
      go_wp2_with fail
      go_ret
      rw [HM2.out, HS2.out, HGO.out]
      exact ⟨Ml.one (m := .wait z 2) HL.out (H6.out.get 0 rfl), H6.out.get 2 rfl, H6.out.get 3 rfl, H6.out.rest⟩
    · have HM2 := Lib.hid (HMS.out.symm.trans (if_neg hz))
      have HS2 := Lib.hid (HSX.out.symm.trans (if_neg hz))
      clear hz HMS HSX HY
      go_wp2_with fail
      refine (tfail_any u _).mono ?_
      rintro e w5 ⟨⟨a, c, rfl, hml⟩, hb⟩
      have H6 := Lib.hid (HD.out.call hb)
      clear hb
      go_wp2_with fail
      go_ret
      rw [HM2.out, HS2.out, HGO.out]
      refine ⟨⟨a, c, rfl, ?_⟩, H6.out.get 1 rfl, H6.out.get 2 rfl, H6.out.rest⟩
      rcases hml with hml | ⟨g, o, ha, hrow⟩
      · exact .inl hml
      · exact .inr ⟨g, o, ha, hrow.lower HD.out.rest.size⟩

/-- Failed. -/
theorem tfailed_any {P Q : Nat} {u : At.Rq} {s : At.St} {x : At.Bg} (hn : P ≠ Q) (hs : s.Ok) (hc : 0 ≤ x.c) (hl : x.l ≤ 1048576) (k now : Int) (w : World) (h : w.heap[P]? = some (att u s)) (h2 : w.heap[Q]? = some (bud x)) :
    Calls Try.prog 9 #[.pointer (some ⟨P, 0, none⟩), .int .i64 k, .int .i64 now, .pointer (some ⟨Q, 0, none⟩)] w fun e w' => Ml w w' u e (At.failed u x s k now).2.2 ∧ w'.heap[P]? = some (att u (At.failed u x s k now).1) ∧ w'.heap[Q]? = some (bud (At.failed u x s k now).2.1) ∧ Rest (fun i => i = P ∨ i = Q) w w' := by
  have H := Upon.see h h2 hn
  unfold At.failed
  by_cases ho : At.IsOut s k
  · obtain ⟨j, rfl⟩ : ∃ j : Nat, k = (j : Int) := ⟨k.toNat, by have := ho.1; omega⟩
    rw [if_pos ho, show ((j : Int)).toNat = j by omega]
    by_cases hm : 0 < (s.gone j).many ∨ s.b = true
    · rw [if_pos hm]
      refine (tfailed_more hs.1 j now _ ho hm w h).mono ?_
      rintro e w1 ⟨rfl, hp, hr⟩
      have H1 := H.put hr hp
      exact ⟨Ml.nil _ _ _, H1.get 0 rfl, H1.get 1 rfl, H1.rest⟩
    · rw [if_neg hm]
      by_cases hx : At.May u x s
      · rw [if_pos hx]
        refine (tfailed_again hn hs.1 j now ho hm (by have := hs.1; have := hs.2.1; omega) hx hc hl w h h2).mono ?_
        rintro e w1 h1
        split at h1
        · rename_i hz; rw [if_pos hz]; exact h1
        · rename_i hz; rw [if_neg hz]; exact h1
      · rw [if_neg hx]
        exact tfailed_end hn hs.1 j now ho hm hx w h h2
  · rw [if_neg ho]
    refine (tfailed_not hs.1 k now _ ho w h).mono ?_
    rintro e w1 ⟨rfl, rfl⟩
    exact ⟨Ml.nil _ _ _, H.get 0 rfl, H.get 1 rfl, H.rest⟩
end Go.Proofs.Ytihgohadihjalaa
