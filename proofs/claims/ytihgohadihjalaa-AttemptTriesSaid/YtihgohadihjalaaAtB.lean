/- The contracts of New, send, wait and fail: a call's tries are begun; the next try, an alarm, the end as moves. -/
import Derived.Test.YtihgohadihjalaaAtA
import Derived.Test.YtihgohadihjalaaMve
import Derived.Test.YtihgohadihjalaaSkip
namespace Go.Proofs.Ytihgohadihjalaa
open Go.RowKit

theorem Try.sizeMove : (Try.prog.info? 55).map (·.size) = some 17 := by kernel_rfl
theorem Try.infoMove : (Try.prog.info? 55).map (fun i => (i.zero.map (·.cells.size), i.size, i.bytes)) = some (some 17, 17, 128) := by kernel_rfl

/-- New. -/
theorem tnew_any (u : At.Rq) (w : World) : Calls Try.prog 5 #[.agg #[.int .i64 u.k, .int .i64 u.c, .int .i64 u.s, .int .i64 u.t, .int .i64 u.g, .int .u32 u.a, .int .i64 u.r, .bool u.su, .bool u.st, .int .i64 u.q, .int .u32 u.v], .int .i64 u.E, .agg #[.int .i64 u.M, .int .i64 u.A]] w fun e w' =>
    e = .returned (.pointer (some ⟨w.heap.size + 1 + 1, 0, none⟩)) ∧ w'.heap[w.heap.size + 1 + 1]? = some (att u .new) ∧ Below w.heap.size w w' := by
  have H := (Upon.start (fun _ => False) w).lay3 (.cells #[.int .i64 u.k, .int .i64 u.c, .int .i64 u.s, .int .i64 u.t, .int .i64 u.g, .int .u32 u.a, .int .i64 u.r, .bool u.su, .bool u.st, .int .i64 u.q, .int .u32 u.v] 24) (.cells #[.int .i64 u.M, .int .i64 u.A] 29) (att u .new)
  go_enter Try.func5, Try.ntmps5
  go_wp2
  go_ret
  exact ⟨rfl, H.get 0 rfl, H.below (fun _ => id)⟩

set_option maxHeartbeats 2000000 in
/-- send. -/
theorem tsend_any {P : Nat} {u : At.Rq} {s : At.St} (hn : s.n < 16) (w : World) (h : w.heap[P]? = some (att u s)) : Calls Try.prog 26 #[.pointer (some ⟨P, 0, none⟩)] w fun e w' =>
    e = .returned (.agg #[.int .i64 1, .int .i64 1, .int .i64 u.c, .int .i64 u.s, .int .i64 u.t, .int .i64 u.g, .int .u32 u.a, .int .i64 ((s.n : Int)), .bool u.su, .bool u.st, .int .i64 u.q, .int .u32 u.v, .int .i64 0, .int .i64 0, .int .i64 0, .int .i64 0, .int .i64 0]) ∧ w'.heap[P]? = some (att u s.sent) ∧ Rest (fun i => i = P) w w' := by
  have H2 := Lib.hid ((Upon.one (own := fun i => i = P) h rfl).lay2 (.cells #[.int .i64 0, .int .i64 0, .int .i64 0, .int .i64 0, .int .i64 0, .int .i64 0, .int .u32 0, .int .i64 0, .bool false, .bool false, .int .i64 0, .int .u32 0, .int .i64 0, .int .i64 0, .int .i64 0, .int .i64 0, .int .i64 0] 55) (.cells #[.int .i64 u.k, .int .i64 u.c, .int .i64 u.s, .int .i64 u.t, .int .i64 u.g, .int .u32 u.a, .int .i64 u.r, .bool u.su, .bool u.st, .int .i64 u.q, .int .u32 u.v] 24))
  have hQ := att_rq ((Upon.one (own := fun i => i = P) h rfl).lay (.cells #[.int .i64 0, .int .i64 0, .int .i64 0, .int .i64 0, .int .i64 0, .int .i64 0, .int .u32 0, .int .i64 0, .bool false, .bool false, .int .i64 0, .int .u32 0, .int .i64 0, .int .i64 0, .int .i64 0, .int .i64 0, .int .i64 0] 55) |>.get 1 rfl)
  obtain ⟨q0, q1, q2, q3, q4, q5, q6, q7, q8, q9, q10, -⟩ := hQ
  go_enter Try.func26, Try.ntmps26
  go_upto_region 2 with fail
  clear q0 q1 q2 q3 q4 q5 q6 q7 q8 q9 q10 h
  generalize (w.alloc _).alloc _ = w2 at H2 ⊢
  have hnw : IntKind.i64.wrap ((s.n : Int) + 1) = (s.n : Int) + 1 := by rw [IntKind.wrap_i64]; omega
  have hn16 : (s.n : Int) < 16 := by omega
  go_cut [] (fun wx => Hid (Upon (fun i => i = P) w wx [(w.heap.size + 1, .cells #[.int .i64 1, .int .i64 u.c, .int .i64 u.s, .int .i64 u.t, .int .i64 u.g, .int .u32 u.a, .int .i64 (s.n : Int), .bool u.su, .bool u.st, .int .i64 u.q, .int .u32 u.v] 24 (0, 0)), (w.heap.size, .cells #[.int .i64 0, .int .i64 0, .int .i64 0, .int .i64 0, .int .i64 0, .int .i64 0, .int .u32 0, .int .i64 0, .bool false, .bool false, .int .i64 0, .int .u32 0, .int .i64 0, .int .i64 0, .int .i64 0, .int .i64 0, .int .i64 0] 55 (0, 0)), (P, att u s)]))
  case first =>
    obtain ⟨n0, -⟩ := att_nums (H2.out.get 2 rfl)
    obtain ⟨c0, -, -, -, -, -, c6, -⟩ := frame_cells (H2.out.get 0 rfl)
    obtain ⟨f0, -, -, -, -, -, f6, -⟩ := frame_free (H2.out.get 0 rfl)
    go_region
    all_goals
      go_wp2
      go_meet
      case rel =>
        have e0 := H2.out.drew.set (heap_setCell_same _ _ 0 _ _ (.int .i64 1) (H2.out.drew.get 0 rfl))
        exact Lib.hid (e0.set (heap_setCell_same _ _ 6 _ _ (.int .i64 (s.n : Int)) (e0.get 0 rfl)))
  case rest =>
    clear H2
    go_upto_region 3 with fail
    go_cut [] (fun wx => Hid (Upon (fun i => i = P) w wx [(P, att u ⟨s.n, s.p, s.h, s.b, At.put s.o s.n true⟩), (w.heap.size + 1, .cells #[.int .i64 1, .int .i64 u.c, .int .i64 u.s, .int .i64 u.t, .int .i64 u.g, .int .u32 u.a, .int .i64 (s.n : Int), .bool u.su, .bool u.st, .int .i64 u.q, .int .u32 u.v] 24 (0, 0)), (w.heap.size, .cells #[.int .i64 0, .int .i64 0, .int .i64 0, .int .i64 0, .int .i64 0, .int .i64 0, .int .u32 0, .int .i64 0, .bool false, .bool false, .int .i64 0, .int .u32 0, .int .i64 0, .int .i64 0, .int .i64 0, .int .i64 0, .int .i64 0] 55 (0, 0))]))
    case first =>
      have HX := Lib.hid hcut.out.turn
      clear hcut
      obtain ⟨n0, -⟩ := att_nums (HX.out.get 0 rfl)
      obtain ⟨o0, fo⟩ := att_out (HX.out.get 0 rfl) hn
      go_region
      all_goals
        go_wp2
        go_meet
        case rel => exact Lib.hid (HX.out.drew.set (att_put (HX.out.drew.get 0 rfl) hn true))
    case rest =>
      have HX := hcut
      clear hcut
      obtain ⟨n0, -⟩ := att_nums (HX.out.get 0 rfl)
      obtain ⟨f0, -⟩ := att_free (HX.out.get 0 rfl)
      have HY := Lib.hid (HX.out.set (att_n (HX.out.get 0 rfl) (s.n + 1) (x := (s.n : Int) + 1) rfl)).turn
      obtain ⟨r0, r1, r2, r3, r4, r5, r6, r7, r8, r9, r10, r11, r12, r13, r14, r15, r16⟩ := mv_free (HY.out.get 0 rfl)
      obtain ⟨x0, x1, x2, x3, x4, x5, x6, x7, x8, x9, x10, x11, x12, x13, x14, x15, x16⟩ := mv_cells (HY.out.get 0 rfl)
      obtain ⟨c0, c1, c2, c3, c4, c5, c6, c7, c8, c9, c10⟩ := frame_cells (HY.out.get 2 rfl)
      go_wp2
      have hl := mv_laid (HY.out.get 0 rfl) (c0 := .int .i64 1) (c1 := .int .i64 1) (c2 := .int .i64 u.c) (c3 := .int .i64 u.s) (c4 := .int .i64 u.t) (c5 := .int .i64 u.g) (c6 := .int .u32 u.a) (c7 := .int .i64 (s.n : Int)) (c8 := .bool u.su) (c9 := .bool u.st) (c10 := .int .i64 u.q) (c11 := .int .u32 u.v) (c12 := .int .i64 0) (c13 := .int .i64 0) (c14 := .int .i64 0) (c15 := .int .i64 0) (c16 := .int .i64 0)
      have hz := HY.out.put (mv_rest rfl) hl
      exact bodyPost_ret (results_cell_row Try.results26 _ _ w.heap.size 55 _ (0, 0) _ rfl hl Try.underlying55 rfl Try.sizeMove) rfl ⟨rfl, hz.get 1 rfl, hz.rest⟩
end Go.Proofs.Ytihgohadihjalaa
