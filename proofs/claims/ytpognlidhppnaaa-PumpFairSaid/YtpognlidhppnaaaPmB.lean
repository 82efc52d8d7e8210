/- The contracts of a pump's grants, grant and Put. -/
import Derived.Test.YtpognlidhppnaaaPmA
import Derived.Test.YtpognlidhppnaaaSkipZ
import Derived.Lib.QuietBelow
namespace Go.Proofs.Ytpognlidhppnaaa
open Go.RowKit Go.Sort

set_option maxHeartbeats 1000000 in
/-- grants. -/
theorem pmgrants_any (f g : Wk.Fr) (w : World) : Calls Try.prog 16 #[.agg #[.int .i64 f.k, .int .i64 f.c, .int .i64 f.s, .int .i64 f.t, .int .i64 f.g, .int .u32 f.a, .int .i64 f.r, .bool f.su, .bool f.st, .int .i64 f.q, .int .u32 f.v], .agg #[.int .i64 g.k, .int .i64 g.c, .int .i64 g.s, .int .i64 g.t, .int .i64 g.g, .int .u32 g.a, .int .i64 g.r, .bool g.su, .bool g.st, .int .i64 g.q, .int .u32 g.v]] w fun e w' => e = .returned (.bool (Pm.same f g)) ∧ Below w.heap.size w w' := by
  have H := Lib.hid ((Own.start (fun _ => False) w).lay2 (.cells #[.int .i64 f.k, .int .i64 f.c, .int .i64 f.s, .int .i64 f.t, .int .i64 f.g, .int .u32 f.a, .int .i64 f.r, .bool f.su, .bool f.st, .int .i64 f.q, .int .u32 f.v] 27) (.cells #[.int .i64 g.k, .int .i64 g.c, .int .i64 g.s, .int .i64 g.t, .int .i64 g.g, .int .u32 g.a, .int .i64 g.r, .bool g.su, .bool g.st, .int .i64 g.q, .int .u32 g.v] 27))
  have HV : Hid (Pm.same f g = (decide (f.k = 6) && (decide (g.k = 6) && (decide (f.c = g.c) && decide (f.a = g.a))))) := Lib.hid rfl
  go_enter Try.func16, Try.ntmps16
  go_upto_region 1 with fail
  generalize (w.alloc _).alloc _ = w2 at H ⊢
  generalize w.heap.size = b at H ⊢
  obtain ⟨g0, g1, g2, g3, g4, g5, g6, g7, g8, g9, g10⟩ := frame_cells (H.out.box 0 rfl)
  obtain ⟨f0, f1, f2, f3, f4, f5, f6, f7, f8, f9, f10⟩ := frame_cells (H.out.box 1 rfl)
  have HB := Lib.hid (H.out.below (fun _ => id))
  clear H
  by_cases h1 : f.k = 6
  · by_cases h2 : g.k = 6
    · by_cases h3 : f.c = g.c
      · go_wp2
        go_ret
        exact ⟨by rw [HV.out]; simp only [h1, h2, h3, decide_true, Bool.true_and]; rfl, HB.out⟩
      · go_wp2
        go_ret
        exact ⟨by rw [HV.out]; simp [h3], HB.out⟩
    · go_wp2
      go_ret
      exact ⟨by rw [HV.out]; simp [h2], HB.out⟩
  · go_wp2
    go_ret
    exact ⟨by rw [HV.out]; simp [h1], HB.out⟩
section
variable {G : Nat → Prop} {w0 w w' : World} {l : List Part} {P c i : Nat} {o : Pm.Ob} {a : Option Addr} {L : Option Nat}
set_option maxHeartbeats 2000000 in
/-- grant. -/
theorem pmgrant_in (f : Wk.Fr) (hq : o.q.length ≤ 1000000) (w : World) (h : Pm.In w P o a c L) : Calls Try.prog 13 #[.pointer (some ⟨P, 0, none⟩), .agg #[.int .i64 f.k, .int .i64 f.c, .int .i64 f.s, .int .i64 f.t, .int .i64 f.g, .int .u32 f.a, .int .i64 f.r, .bool f.su, .bool f.st, .int .i64 f.q, .int .u32 f.v]] w fun e w' => e = .returned (.int .i64 (Pm.place f o.q)) ∧ Below w.heap.size w w' := by
  have H := Lib.hid ((Own.start (fun _ => False) w).lay (.cells #[.int .i64 f.k, .int .i64 f.c, .int .i64 f.s, .int .i64 f.t, .int .i64 f.g, .int .u32 f.a, .int .i64 f.r, .bool f.su, .bool f.st, .int .i64 f.q, .int .u32 f.v] 27))
  have HI := Lib.hid (h.call (H.out.below (fun _ => id)))
  obtain ⟨n, hn⟩ : ∃ n, n = o.q.length := ⟨_, rfl⟩
  have HN := Lib.hid hn
  rw [← hn] at hq
  clear h hn
  go_enter Try.func13, Try.ntmps13
  go_upto_region 1 with fail
  generalize w.alloc _ = w1 at H HI ⊢
  generalize w.heap.size = bF at H ⊢
  go_wp2_with fail
  have HL : Hid (∀ wr, Own (fun _ => False) w wr [.box bF (.cells #[.int .i64 f.k, .int .i64 f.c, .int .i64 f.s, .int .i64 f.t, .int .i64 f.g, .int .u32 f.a, .int .i64 f.r, .bool f.su, .bool f.st, .int .i64 f.q, .int .u32 f.v] 27 (0, 0))] → True) := Lib.hid fun _ _ => trivial
  clear HL
  go_loopg [5] (n + 1 : Nat) (fun gh s5 wr => ∃ k : Nat, 1 ≤ k ∧ k ≤ n + 1 ∧ n + 1 - k ≤ gh ∧ s5 = .int .i64 k ∧ Hid (Below w1.heap.size w1 wr ∧ ∀ j, 1 ≤ j → j < k → ∀ y, o.q[j]? = some y → Pm.same f y = false))
  case atStart => exact ⟨1, Nat.le_refl _, by omega, by omega, rfl, ⟨Below.refl _ _, fun j h1 h2 => by omega⟩⟩
  case round =>
    obtain ⟨k, hk1, hk, hg, rfl, HR⟩ := hrel
    have hin := HI.out.call HR.out.1
    obtain ⟨p0, p1, p2⟩ := hin.cells
    rw [← HN.out] at p2
    by_cases hlt : k < n
    · have hlt' : (k : Int) < (n : Int) := by omega
      have hwk : IntKind.i64.wrap ((k : Int) + 1) = (k : Int) + 1 := by rw [IntKind.wrap_i64]; omega
      obtain ⟨g, off, ha, hrow⟩ := hin.at_ (k := k) (by rw [← HN.out]; exact hlt)
      rw [ha] at p2
      obtain ⟨x, hx⟩ : ∃ x, o.q[k]? = some x := ⟨o.q[k]'(by rw [← HN.out]; exact hlt), List.getElem?_eq_getElem _⟩
      obtain ⟨a0, a1, a2, a3, a4, a5, a6, a7, a8, a9, a10⟩ := fr_cells hrow hx
      obtain ⟨f0, f1, f2, f3, f4, f5, f6, f7, f8, f9, f10⟩ := frame_cells ((H.out.past HR.out.1).box 0 rfl)
      have HX := Lib.hid hx
      clear hrow hin hx ha p0 p1
      go_upto_region 4 with fail
      have q2 := cell_regrown p2
      have b0 := cell_regrown a0
      have b1 := cell_regrown a1
      have b2 := cell_regrown a2
      have b3 := cell_regrown a3
      have b4 := cell_regrown a4
      have b5 := cell_regrown a5
      have b6 := cell_regrown a6
      have b7 := cell_regrown a7
      have b8 := cell_regrown a8
      have b9 := cell_regrown a9
      have b10 := cell_regrown a10
      have c0 := cell_regrown f0
      have c1 := cell_regrown f1
      have c2 := cell_regrown f2
      have c3 := cell_regrown f3
      have c4 := cell_regrown f4
      have c5 := cell_regrown f5
      have c6 := cell_regrown f6
      have c7 := cell_regrown f7
      have c8 := cell_regrown f8
      have c9 := cell_regrown f9
      have c10 := cell_regrown f10
      have cG : ∀ d os, Calls Try.prog 16 #[.agg #[.int .i64 f.k, .int .i64 f.c, .int .i64 f.s, .int .i64 f.t, .int .i64 f.g, .int .u32 f.a, .int .i64 f.r, .bool f.su, .bool f.st, .int .i64 f.q, .int .u32 f.v], .agg #[.int .i64 x.k, .int .i64 x.c, .int .i64 x.s, .int .i64 x.t, .int .i64 x.g, .int .u32 x.a, .int .i64 x.r, .bool x.su, .bool x.st, .int .i64 x.q, .int .u32 x.v]] (grow (redrawn wr d) os) fun e w'' => e = .returned (.bool (Pm.same f x)) ∧ ∃ p : Regrown, w'' = grow (redrawn wr p.d) p.os := fun d os => Calls.regrown_of (pmgrants_any f x _)
      clear p2 a0 a1 a2 a3 a4 a5 a6 a7 a8 a9 a10 f0 f1 f2 f3 f4 f5 f6 f7 f8 f9 f10
      obtain ⟨s0, hs0⟩ : ∃ s, s = Pm.same f x := ⟨_, rfl⟩
      have HS : Hid (Pm.same f x = s0) := Lib.hid hs0.symm
      rw [← hs0] at cG
      clear hs0
      refine wp_region_quiet_below (by kernel_rfl) (by kernel_rfl) ?_
      repeat (quiet_step (first | exact cG _ _))
      refine wpQuiet_nil ?_
      intro _ hw'
      obtain ⟨⟨dq, osq⟩, hw''⟩ := hw'
      subst hw''
      have HB := Lib.hid (on HR.out.1 (below_regrown wr dq osq))
      clear q2 b0 b1 b2 b3 b4 b5 b6 b7 b8 b9 b10 c0 c1 c2 c3 c4 c5 c6 c7 c8 c9 c10 cG
      generalize grow (redrawn wr dq) osq = wr2 at HB ⊢
      cases s0 with
      | true =>
        go_wp2_with fail
        go_ret
        refine ⟨?_, on (H.out.below (fun _ => id)) HB.out⟩
        unfold Pm.place
        rw [Pm.at_yes hk1 HX.out HS.out HR.out.2]
        rfl
      | false =>
        go_wp2_with fail
        go_roundg (n + 1 - (k + 1))
        case measure => omega
        case rel =>
          refine ⟨k + 1, by omega, by omega, by omega, by go_num, ⟨HB.out, fun j h1 h2 y hy => ?_⟩⟩
          by_cases e : j = k
          · subst e
            rw [HX.out] at hy
            cases hy
            exact HS.out
          · exact HR.out.2 j h1 (by omega) y hy
    · have hlt' : ¬(k : Int) < (n : Int) := by omega
      clear hin
      go_wp2_with fail
      go_ret
      refine ⟨?_, on (H.out.below (fun _ => id)) HR.out.1⟩
      unfold Pm.place
      rw [Pm.at_no (fun j h1 y hy => HR.out.2 j h1 (by have := (List.getElem?_eq_some_iff.1 hy).1; have := HN.out; omega) y hy)]
      rfl
/-- Put. -/
theorem pmput_nil (f : Wk.Fr) (w : World) : Calls Try.prog 5 #[.pointer none, .agg #[.int .i64 f.k, .int .i64 f.c, .int .i64 f.s, .int .i64 f.t, .int .i64 f.g, .int .u32 f.a, .int .i64 f.r, .bool f.su, .bool f.st, .int .i64 f.q, .int .u32 f.v]] w fun e w' => e = .returned (.tuple #[]) ∧ Below w.heap.size w w' := by
  have H := Lib.hid ((Own.start (fun _ => False) w).lay (.cells #[.int .i64 f.k, .int .i64 f.c, .int .i64 f.s, .int .i64 f.t, .int .i64 f.g, .int .u32 f.a, .int .i64 f.r, .bool f.su, .bool f.st, .int .i64 f.q, .int .u32 f.v] 27))
  go_enter Try.func5, Try.ntmps5
  go_upto_region 1 with fail
  generalize w.alloc _ = w1 at H ⊢
  generalize w.heap.size = bF at H ⊢
  go_wp2_with fail
  refine bodyPost_ret (results_none rfl _ _ _) rfl ?_
  exact ⟨rfl, H.out.below (fun _ => id)⟩
set_option maxRecDepth 10000 in
set_option maxHeartbeats 2000000 in
theorem pmput_more {f : Wk.Fr} {k : Nat} (hk : Pm.at_ f o.q = some k) (hq : o.q.length ≤ 1000000) (w : World) (h : Own G w0 w l) (e : l[i]? = some (Pm.part P o)) : Calls Try.prog 5 #[.pointer (some ⟨P, 0, none⟩), .agg #[.int .i64 f.k, .int .i64 f.c, .int .i64 f.s, .int .i64 f.t, .int .i64 f.g, .int .u32 f.a, .int .i64 f.r, .bool f.su, .bool f.st, .int .i64 f.q, .int .u32 f.v]] w fun e w' => e = .returned (.tuple #[]) ∧ Own G w0 w' (l.set i (Pm.part P (o.put f))) := by
  obtain ⟨F, hF, back⟩ := h.lift i e
  obtain ⟨hk1, x, hx⟩ := Pm.at_lt hk
  have hkl := (List.getElem?_eq_some_iff.1 hx).1
  have hput : o.put f = { o with q := o.q.set k (Pm.more x f.v) } := by
    unfold Pm.Ob.put
    rw [hk]
    simp [List.getD_eq_getElem?_getD, hx]
  have HB : Hid (∀ w', Own F w w' [Pm.part P { o with q := o.q.set k (Pm.more x f.v) }] → Own G w0 w' (l.set i (Pm.part P (o.put f)))) := Lib.hid fun w' k => by rw [hput]; exact back k
  have HP := Lib.hid (show Pm.place f o.q = (k : Int) by unfold Pm.place; rw [hk])
  have HQ := Lib.hid hq
  have HX := Lib.hid hx
  have HK := Lib.hid hkl
  have H := Lib.hid (Own.swap (hF.lay (.cells #[.int .i64 f.k, .int .i64 f.c, .int .i64 f.s, .int .i64 f.t, .int .i64 f.g, .int .u32 f.a, .int .i64 f.r, .bool f.su, .bool f.st, .int .i64 f.q, .int .u32 f.v] 27)))
  have hk0 : (0 : Int) ≤ (k : Int) := by omega
  have hok : o.Ok := by obtain ⟨a, c, hok, -⟩ := Pm.opens hF; exact hok
  have HOK := Lib.hid hok
  clear h e hF back hx hkl hk hq hput hok hk1
  go_enter Try.func5, Try.ntmps5
  go_upto_region 1 with fail
  generalize w.alloc _ = w1 at H ⊢
  generalize w.heap.size = bF at H ⊢
  obtain ⟨a, c, L, hin⟩ := Pm.seen H.out 0 rfl
  have HG := Lib.hid (pmgrant_in f HQ.out w1 hin)
  clear hin
  obtain ⟨g0, g1, g2, g3, g4, g5, g6, g7, g8, g9, g10⟩ := frame_cells (H.out.box 1 rfl)
  go_wp2_with fail
  refine HG.out.mono ?_
  rintro e w2 ⟨rfl, hb⟩
  rw [HP.out]
  have H2 := Lib.hid (H.out.past hb)
  clear hb H HG g0 g1 g2 g3 g4 g5 g6 g7 g8 g9 g10
  go_upto_region 4 with fail
  obtain ⟨a, c, -, h3⟩ := Pm.opens H2.out.drew
  obtain ⟨L, hfr, hback⟩ := h3.fr 1 rfl
  obtain ⟨g, off, rfl, rfl, hrow⟩ : ∃ g off, L = some g ∧ a = some ⟨g, off, none⟩ ∧ RowK w2.drew 0 27 11 g off o.q.length c (Wk.fitm.flat o.q) := by
    rcases hfr with ⟨-, -, -, e⟩ | h
    · have := HK.out; rw [e] at this; exact absurd this (Nat.not_lt_zero _)
    · exact h
  have hwr : IntKind.u32.wrap (x.v + f.v) = (Pm.more x f.v).v := rfl
  have hrow2 := Wk.fitm.put hrow HX.out (a' := Pm.more x f.v) 10 (by decide) (v := .int .u32 (Pm.more x f.v).v) rfl
  have HE := Lib.hid (Pm.closes (P := P) (o := { o with q := o.q.set k (Pm.more x f.v) }) (a := some ⟨g, off, none⟩) (c := c) ⟨HOK.out.n0, HOK.out.n4, HOK.out.t0, HOK.out.tn⟩ (by
    have := hback (q' := o.q.set k (Pm.more x f.v)) (a' := some ⟨g, off, none⟩) (c' := c) (L' := some g) (.inr ⟨g, off, rfl, rfl, by rw [List.length_set]; exact hrow2⟩) (.inl rfl) (Rest.setCell _ _ _ rfl)
    unfold Pm.Ob.obj
    rw [List.length_set]
    exact this))
  have hS : w2.drew.cell? ⟨P, 2, none⟩ = some (.slice (some ⟨g, off, none⟩) o.q.length c) ∧ w2.drew.cell? ⟨g, off + k * 11 + 10, none⟩ = some (.int .u32 x.v) ∧ w2.drew.cell? ⟨bF, 10, none⟩ = some (.int .u32 f.v) ∧ w2.drew.frozen? ⟨g, off + k * 11 + 10, none⟩ = false :=
    ⟨cell_of_row _ _ _ _ _ _ (h3.box 0 rfl), Wk.fitm.cell hrow HX.out 10 (by decide) rfl, (frame_cells (h3.box 2 rfl)).2.2.2.2.2.2.2.2.2.2, Wk.fitm.free hrow _⟩
  have hlt := HK.out
  generalize o.q.length = n at hS hlt
  have hlt' : (k : Int) < (n : Int) := by omega
  clear h3 hback hfr hrow hrow2 H2
  refine wp_region_Z_drew 13 (S := fun w' => w' = w2.drew) (by kernel_rfl) rfl (fun hHeld => ?_)
  generalize w2.drew = w5 at hS HE hHeld ⊢
  clear hHeld
  obtain ⟨s0, s1, s2, s3⟩ := hS
  have hHeld : w5 = w5 := rfl
  refine wpAnyZ_yield 0 (.pointer (some ⟨P, 0, none⟩)) rfl (by kernel_rfl) (by kernel_rfl) (by kernel_rfl) (fun d _ _ _ h => by cases d <;> exact h) (by rfl) (by assumption) (fun _ _ => by go_simp) ?_
  simp only [Act.put, List.setIfInBounds_toArray, List.set_cons_zero, List.set_cons_succ]
  refine wpAnyZ_yield 1 (.pointer (some ⟨P, 0, none⟩)) rfl (by kernel_rfl) (by kernel_rfl) (by kernel_rfl) (fun d _ _ _ h => by cases d <;> exact h) (by rfl) (by assumption) (fun _ _ => by go_simp) ?_
  simp only [Act.put, List.setIfInBounds_toArray, List.set_cons_zero, List.set_cons_succ]
  refine wpAnyZ_yield 2 (.pointer (some ⟨P, 2, none⟩)) rfl (by kernel_rfl) (by kernel_rfl) (by kernel_rfl) (fun d _ _ _ h => by cases d <;> exact h) (by rfl) (by assumption) (fun _ _ => by go_simp) ?_
  simp only [Act.put, List.setIfInBounds_toArray, List.set_cons_zero, List.set_cons_succ]
  refine wpAnyZ_yield 3 (.slice (some ⟨g, off, none⟩) n c) rfl (by kernel_rfl) (by kernel_rfl) (by kernel_rfl) (fun d _ _ _ h => by cases d <;> exact h) (by rfl) (by assumption) (fun _ hSw => by (try dsimp only at hSw); go_simp) ?_
  simp only [Act.put, List.setIfInBounds_toArray, List.set_cons_zero, List.set_cons_succ]
  refine wpAnyZ_yield 4 (.int .i64 (k : Int)) rfl (by kernel_rfl) (by kernel_rfl) (by kernel_rfl) (fun d _ _ _ h => by cases d <;> exact h) (by rfl) (by assumption) (fun _ _ => by go_simp) ?_
  simp only [Act.put, List.setIfInBounds_toArray, List.set_cons_zero, List.set_cons_succ]
  refine wpAnyZ_yield 5 (.pointer (some ⟨g, off + k * 11, none⟩)) rfl (by kernel_rfl) (by kernel_rfl) (by kernel_rfl) (fun d _ _ _ h => by cases d <;> exact h) (by rfl) (by assumption) (fun _ _ => by go_simp) ?_
  simp only [Act.put, List.setIfInBounds_toArray, List.set_cons_zero, List.set_cons_succ]
  refine wpAnyZ_yield 6 (.pointer (some ⟨g, off + k * 11 + 10, none⟩)) rfl (by kernel_rfl) (by kernel_rfl) (by kernel_rfl) (fun d _ _ _ h => by cases d <;> exact h) (by rfl) (by assumption) (fun _ _ => by go_simp) ?_
  simp only [Act.put, List.setIfInBounds_toArray, List.set_cons_zero, List.set_cons_succ]
  refine wpAnyZ_yield 7 (.int .u32 x.v) rfl (by kernel_rfl) (by kernel_rfl) (by kernel_rfl) (fun d _ _ _ h => by cases d <;> exact h) (by rfl) (by assumption) (fun _ hSw => by (try dsimp only at hSw); go_simp) ?_
  simp only [Act.put, List.setIfInBounds_toArray, List.set_cons_zero, List.set_cons_succ]
  refine wpAnyZ_yield 8 (.pointer (some ⟨bF, 10, none⟩)) rfl (by kernel_rfl) (by kernel_rfl) (by kernel_rfl) (fun d _ _ _ h => by cases d <;> exact h) (by rfl) (by assumption) (fun _ _ => by go_simp) ?_
  simp only [Act.put, List.setIfInBounds_toArray, List.set_cons_zero, List.set_cons_succ]
  refine wpAnyZ_yield 9 (.int .u32 f.v) rfl (by kernel_rfl) (by kernel_rfl) (by kernel_rfl) (fun d _ _ _ h => by cases d <;> exact h) (by rfl) (by assumption) (fun _ hSw => by (try dsimp only at hSw); go_simp) ?_
  simp only [Act.put, List.setIfInBounds_toArray, List.set_cons_zero, List.set_cons_succ]
  refine wpAnyZ_yield 10 (.int .u32 (Pm.more x f.v).v) rfl (by kernel_rfl) (by kernel_rfl) (by kernel_rfl) (fun d _ _ _ h => by cases d <;> exact h) (by rfl) (by assumption) (fun _ _ => by go_simp) ?_
  simp only [Act.put, List.setIfInBounds_toArray, List.set_cons_zero, List.set_cons_succ]
  refine wpAnyZ_yieldc [12] 11 (.pointer (some ⟨g, off + k * 11, none⟩)) rfl (by kernel_rfl) (by kernel_rfl) (by kernel_rfl) (fun d _ _ _ h => by cases d <;> exact h) (by rfl) (by assumption) (fun _ _ => by go_simp) ?_
  simp only [Act.put, List.setIfInBounds_toArray, List.set_cons_zero, List.set_cons_succ]
  refine wpAnyZ_yield 12 (.pointer (some ⟨g, off + k * 11 + 10, none⟩)) rfl (by kernel_rfl) (by kernel_rfl) (by kernel_rfl) (fun d _ _ _ h => by cases d <;> exact h) (by rfl) (by assumption) (fun _ _ => by go_simp) ?_
  simp only [Act.put, List.setIfInBounds_toArray, List.set_cons_zero, List.set_cons_succ]
  refine wpAnyZ_ready (rs := [13]) (by kernel_rfl) (by simp) (AllReadyZ.cons rfl (fun K hK => ?_) AllReadyZ.nil)
  go_simp
  refine hK.out _ _ (fun h => absurd rfl h) (fun _ => ?_)
  clear hK K
  try simp only [Act.put, List.setIfInBounds_toArray, List.set_cons_zero, List.set_cons_succ]
  refine wpAnyZ_done (by kernel_rfl) ?_ _
  clear s0 s1 s2 s3 hHeld
  go_wp2_with fail
  refine bodyPost_ret (results_none rfl _ _ _) rfl ?_
  exact ⟨rfl, HB.out _ (Own.drops (r := [_]) HE.out)⟩
end
end Go.Proofs.Ytpognlidhppnaaa
