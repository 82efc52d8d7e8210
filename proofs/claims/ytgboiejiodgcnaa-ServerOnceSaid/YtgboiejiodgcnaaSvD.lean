/- The contracts of a service's answer, refuse and again. -/
import Derived.Test.YtgboiejiodgcnaaSvC
import Derived.Test.YtgboiejiodgcnaaDdG
namespace Go.Proofs.Ytgboiejiodgcnaa
open Go.RowKit Go.Sort

section
variable {G : Nat → Prop} {w0 : World} {l : List Part} {S i : Nat} {ps : List Nat} {o : Sv.Ob} {f : Wk.Fr}
set_option maxHeartbeats 1000000 in
/-- answer. -/
theorem svanswer_any (k v : Int) (w : World) (h : Own G w0 w l) (e : l[i]? = some (Sv.part S ps o)) : Calls Try.prog 57 #[.pointer (some ⟨S, 0, none⟩), .agg #[.int .i64 f.k, .int .i64 f.c, .int .i64 f.s, .int .i64 f.t, .int .i64 f.g, .int .u32 f.a, .int .i64 f.r, .bool f.su, .bool f.st, .int .i64 f.q, .int .u32 f.v], .int .i64 k, .int .u32 v] w fun e w' => e = .returned (.tuple #[]) ∧ Own G w0 w' (l.set i (Sv.part S ps (o.put (f.ans k 0 v)))) := by
  have H := Lib.hid (h.lay (.cells #[.int .i64 f.k, .int .i64 f.c, .int .i64 f.s, .int .i64 f.t, .int .i64 f.g, .int .u32 f.a, .int .i64 f.r, .bool f.su, .bool f.st, .int .i64 f.q, .int .u32 f.v] 29))
  have HE := Lib.hid e
  clear h e
  go_enter Try.func57, Try.ntmps57
  go_upto_region 1 with fail
  generalize w.alloc _ = w1 at H ⊢
  generalize w.heap.size = bF at H ⊢
  obtain ⟨g0, g1, g2, g3, g4, g5, g6, g7, g8, g9, g10⟩ := frame_cells (H.out.box 0 rfl)
  have fz := fun i => frozen_of_row _ _ i _ _ (H.out.box 0 rfl)
  go_upto_region 2 with fail
  have H3 := Lib.hid (H.out.put 0 rfl (ans_rest w1 bF (.int .i64 k) (.int .i64 0) (.int .u32 v)) (ans_laid (H.out.box 0 rfl) k 0 v))
  clear g0 g1 g2 g3 g4 g5 g6 g7 g8 g9 g10 fz H
  generalize ((w1.setCell _ _).setCell _ _).setCell _ _ = w3 at H3 ⊢
  obtain ⟨g0, g1, g2, g3, g4, g5, g6, g7, g8, g9, g10⟩ := frame_cells (H3.out.box 0 rfl)
  go_wp2_with fail
  refine (svput_any (f := f.ans k 0 v) (i := i + 1) w3 H3.out HE.out).mono ?_
  rintro e w4 ⟨rfl, h4⟩
  have H4 := Lib.hid h4.tail
  clear h4 H3 g0 g1 g2 g3 g4 g5 g6 g7 g8 g9 g10
  go_wp2_with fail
  go_end0
  exact ⟨rfl, H4.out⟩
/-- refuse. -/
theorem svrefuse_any (v : Int) (w : World) (h : Own G w0 w l) (e : l[i]? = some (Sv.part S ps o)) : Calls Try.prog 39 #[.pointer (some ⟨S, 0, none⟩), .agg #[.int .i64 f.k, .int .i64 f.c, .int .i64 f.s, .int .i64 f.t, .int .i64 f.g, .int .u32 f.a, .int .i64 f.r, .bool f.su, .bool f.st, .int .i64 f.q, .int .u32 f.v], .int .u32 v] w fun e w' => e = .returned (.tuple #[]) ∧ Own G w0 w' (l.set i (Sv.part S ps (o.put (f.ans 7 0 v)))) := by
  have H := Lib.hid (h.lay (.cells #[.int .i64 f.k, .int .i64 f.c, .int .i64 f.s, .int .i64 f.t, .int .i64 f.g, .int .u32 f.a, .int .i64 f.r, .bool f.su, .bool f.st, .int .i64 f.q, .int .u32 f.v] 29))
  have HE := Lib.hid e
  clear h e
  go_enter Try.func39, Try.ntmps39
  go_upto_region 1 with fail
  generalize w.alloc _ = w1 at H ⊢
  generalize w.heap.size = bF at H ⊢
  obtain ⟨g0, g1, g2, g3, g4, g5, g6, g7, g8, g9, g10⟩ := frame_cells (H.out.box 0 rfl)
  go_wp2_with fail
  refine (svanswer_any (f := f) (i := i + 1) 7 v w1 H.out HE.out).mono ?_
  rintro e w4 ⟨rfl, h4⟩
  have H4 := Lib.hid h4.tail
  clear h4 H g0 g1 g2 g3 g4 g5 g6 g7 g8 g9 g10
  go_wp2_with fail
  go_end0
  exact ⟨rfl, H4.out⟩
set_option maxHeartbeats 1000000 in
/-- again. -/
theorem svagain_any (hQ : o.q.length ≤ 1000) (w : World) (h : Own G w0 w l) (e : l[i]? = some (Sv.part S ps o)) : Calls Try.prog 42 #[.pointer (some ⟨S, 0, none⟩), .agg #[.int .i64 f.k, .int .i64 f.c, .int .i64 f.s, .int .i64 f.t, .int .i64 f.g, .int .u32 f.a, .int .i64 f.r, .bool f.su, .bool f.st, .int .i64 f.q, .int .u32 f.v]] w fun e w' => e = .returned (.tuple #[]) ∧ Own G w0 w' (l.set i (Sv.part S ps (o.again f))) := by
  have H := Lib.hid (h.lay (.cells #[.int .i64 f.k, .int .i64 f.c, .int .i64 f.s, .int .i64 f.t, .int .i64 f.g, .int .u32 f.a, .int .i64 f.r, .bool f.su, .bool f.st, .int .i64 f.q, .int .u32 f.v] 29))
  have HE := Lib.hid e
  have HQ := Lib.hid hQ
  clear h e hQ
  have HA := Lib.hid (show o.again f = if (Dd.val f.c f.a o.q).2.1 then o.put (f.ans 2 0 (Dd.val f.c f.a o.q).1) else o.put (f.ans 7 0 1) from rfl)
  go_enter Try.func42, Try.ntmps42
  go_upto_region 1 with fail
  generalize w.alloc _ = w1 at H ⊢
  generalize w.heap.size = bF at H ⊢
  obtain ⟨m, L, hS, hd, -⟩ := Sv.dc H.out (i + 1) HE.out
  have p2 := cell_regrown (Sv.cells_at hS).2.2.1
  obtain ⟨q0, q1, q2, q3, q4, q5, q6, q7, q8, q9, q10⟩ := frame_cells (H.out.box 0 rfl)
  have g0 := cell_regrown q0
  have g1 := cell_regrown q1
  have g2 := cell_regrown q2
  have g3 := cell_regrown q3
  have g4 := cell_regrown q4
  have g5 := cell_regrown q5
  have g6 := cell_regrown q6
  have g7 := cell_regrown q7
  have g8 := cell_regrown q8
  have g9 := cell_regrown q9
  have g10 := cell_regrown q10
  have cV : ∀ d os, Calls Try.prog 59 #[.pointer (some ⟨m.C, 0, none⟩), .agg #[.int .i64 f.k, .int .i64 f.c, .int .i64 f.s, .int .i64 f.t, .int .i64 f.g, .int .u32 f.a, .int .i64 f.r, .bool f.su, .bool f.st, .int .i64 f.q, .int .u32 f.v]] (grow (redrawn w1 d) os) fun e w'' => e = .returned (.tuple #[.int .u32 (Dd.val f.c f.a o.q).1, .bool (Dd.val f.c f.a o.q).2.1, .bool (Dd.val f.c f.a o.q).2.2]) ∧ ∃ p : Regrown, w'' = grow (redrawn w1 p.d) p.os := fun d os => Calls.regrown_of (dval_any f HQ.out _ (hd.call (below_regrown w1 d os)))
  generalize Dd.val f.c f.a o.q = V at HA cV
  obtain ⟨v, ok, dn⟩ := V
  dsimp only at HA cV
  clear hS hd q0 q1 q2 q3 q4 q5 q6 q7 q8 q9 q10
  refine wp_region_quiet_below (by kernel_rfl) (by kernel_rfl) ?_
  repeat (quiet_step (first | exact cV _ _))
  refine wpQuiet_nil ?_
  intro _ hw'
  obtain ⟨⟨dq, osq⟩, hw''⟩ := hw'
  subst hw''
  have H2 := Lib.hid (H.out.past (below_regrown w1 dq osq))
  clear g0 g1 g2 g3 g4 g5 g6 g7 g8 g9 g10 p2 cV H
  generalize grow (redrawn w1 dq) osq = w2 at H2 ⊢
  obtain ⟨g0, g1, g2, g3, g4, g5, g6, g7, g8, g9, g10⟩ := frame_cells (H2.out.box 0 rfl)
  cases ok with
  | false =>
    go_wp2_with fail
    refine (svrefuse_any (f := f) (i := i + 1) 1 w2 H2.out HE.out).mono ?_
    rintro e w4 ⟨rfl, h4⟩
    have H4 := Lib.hid h4.tail
    clear h4 H2 g0 g1 g2 g3 g4 g5 g6 g7 g8 g9 g10
    go_wp2_with fail
    refine bodyPost_ret (results_none rfl _ _ _) rfl ?_
    exact ⟨rfl, by rw [HA.out]; exact H4.out⟩
  | true =>
    go_wp2_with fail
    refine (svanswer_any (f := f) (i := i + 1) 2 v w2 H2.out HE.out).mono ?_
    rintro e w4 ⟨rfl, h4⟩
    have H4 := Lib.hid h4.tail
    clear h4 H2 g0 g1 g2 g3 g4 g5 g6 g7 g8 g9 g10
    go_wp2_with fail
    go_end0
    exact ⟨rfl, by rw [HA.out]; exact H4.out⟩
end
end Go.Proofs.Ytgboiejiodgcnaa
