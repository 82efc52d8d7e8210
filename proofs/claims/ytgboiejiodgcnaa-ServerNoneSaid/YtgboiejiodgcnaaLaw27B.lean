/- The law on no service, and on one that was just made. -/
import Derived.Test.YtgboiejiodgcnaaLaw27A
namespace Go.Proofs.Ytgboiejiodgcnaa
open Go.RowKit Go.Sort

namespace Aw
def p0 : Sv.Ob := ⟨[⟨0, [], false, Wk.zero, 0, 0⟩], 0, 0, [], 0, [], fun _ => []⟩
theorem ep : Sv.new 0 0 0 0 = p0 := rfl
end Aw
set_option maxRecDepth 100000 in
set_option maxHeartbeats 4000000 in
/-- ServerNone. -/
theorem servernone_any (n out : Int) (f : Wk.Fr) (w : World) : Calls Try.prog 4 #[.int .i64 n, .int .i64 out, .agg #[.int .i64 f.k, .int .i64 f.c, .int .i64 f.s, .int .i64 f.t, .int .i64 f.g, .int .u32 f.a, .int .i64 f.r, .bool f.su, .bool f.st, .int .i64 f.q, .int .u32 f.v]] w fun e w' => e = .returned (.bool true) ∧ Below w.heap.size w w' := by
  have H := Lib.hid ((Own.start (fun _ => False) w).lay (.cells #[.int .i64 f.k, .int .i64 f.c, .int .i64 f.s, .int .i64 f.t, .int .i64 f.g, .int .u32 f.a, .int .i64 f.r, .bool f.su, .bool f.st, .int .i64 f.q, .int .u32 f.v] 29))
  go_enter Try.func4, Try.ntmps4
  go_upto_region 1 with fail
  generalize w.alloc _ = w1 at H ⊢
  generalize w.heap.size = bF at H ⊢
  obtain ⟨g0, g1, g2, g3, g4, g5, g6, g7, g8, g9, g10⟩ := frame_cells (H.out.box 0 rfl)
  go_wp2_with fail
  refine (svhandle_nil f w1).mono ?_
  rintro e w2 ⟨rfl, hb⟩
  have H2 := Lib.hid (H.out.past hb)
  clear hb H g0 g1 g2 g3 g4 g5 g6 g7 g8 g9 g10
  go_wp2_with fail
  refine (svnext_nil n w2).mono ?_
  rintro e w3 ⟨rfl, hb⟩
  have H3 := Lib.hid ((H2.out.past hb).lay (.cells #[.int .i64 0, .int .i64 0, .int .i64 0, .int .i64 0, .int .i64 0, .int .u32 0, .int .i64 0, .bool false, .bool false, .int .i64 0, .int .u32 0] 29))
  clear hb H2
  dsimp only
  go_upto_region 4 with fail
  generalize w3.alloc _ = w4 at H3 ⊢
  generalize w3.heap.size = bY at H3 ⊢
  go_wp2_with fail
  refine (svnew_any 0 0 0 0 w4).mono ?_
  rintro e w5 ⟨S, ps, rfl, h5⟩
  rw [Aw.ep] at h5
  have H5 := Lib.hid (H3.out.join h5)
  clear h5 H3
  go_wp2_with fail
  refine (svnext_no (i := 0) (c := -1) rfl w5 H5.out rfl).mono ?_
  rintro e w6 ⟨rfl, hb⟩
  have H6 := Lib.hid ((H5.out.past hb).lay (.cells #[.int .i64 0, .int .i64 0, .int .i64 0, .int .i64 0, .int .i64 0, .int .u32 0, .int .i64 0, .bool false, .bool false, .int .i64 0, .int .u32 0] 29))
  clear hb H5
  dsimp only
  go_wp2_with fail
  generalize w6.alloc _ = w7 at H6 ⊢
  generalize w6.heap.size = bZ at H6 ⊢
  refine (awake27_any w7).mono ?_
  rintro e w8 ⟨rfl, hb⟩
  have H8 := Lib.hid (H6.out.past hb)
  clear hb H6
  go_wp2_with fail
  refine (svwork_nil n out w8).mono ?_
  rintro e w9 ⟨rfl, rfl⟩
  go_wp2_with fail
  refine (svsent_nil n w8).mono ?_
  rintro e w9 ⟨rfl, rfl⟩
  go_wp2_with fail
  refine (svdrop_nil n w8).mono ?_
  rintro e w9 ⟨rfl, hb⟩
  have H9 := Lib.hid (H8.out.past hb)
  clear hb H8
  go_wp2_with fail
  refine (svstate_nil w9).mono ?_
  rintro e w10 ⟨rfl, rfl⟩
  go_wp2_with fail
  refine (svruns_nil w9).mono ?_
  rintro e w10 ⟨rfl, rfl⟩
  go_wp2_with fail
  refine (svloads_nil w9).mono ?_
  rintro e w10 ⟨rfl, rfl⟩
  go_wp2_with fail
  refine (svknown_nil w9).mono ?_
  rintro e w10 ⟨rfl, rfl⟩
  go_wp2_with fail
  refine (svwaits_nil n w9).mono ?_
  rintro e w10 ⟨rfl, rfl⟩
  go_wp2_with fail
  refine (svwork_no (i := 1) (n := 1) (.inr (by decide)) out w9 H9.out rfl).mono ?_
  rintro e w10 ⟨rfl, rfl⟩
  go_wp2_with fail
  refine (svwork_no (i := 1) (n := -1) (.inl (by decide)) out w9 H9.out rfl).mono ?_
  rintro e w10 ⟨rfl, rfl⟩
  go_wp2_with fail
  refine (svwaits_any (i := 1) 4 w9 H9.out rfl).mono ?_
  rw [show Aw.p0.waits 4 = 0 from rfl]
  rintro e w10 ⟨rfl, rfl⟩
  go_wp2_with fail
  refine (svloads_any (i := 1) (by decide) (by simp [Aw.p0]) w9 H9.out rfl).mono ?_
  rw [show Aw.p0.ws.length = 1 from rfl]
  rintro e w10 ⟨a, c, rfl, -, hb⟩
  have H10 := Lib.hid (H9.out.past hb)
  clear hb H9
  go_wp2_with fail
  go_ret
  exact ⟨rfl, H10.out.below (fun _ => id)⟩
end Go.Proofs.Ytgboiejiodgcnaa
