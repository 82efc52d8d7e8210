/- awake; the law on no service, and on one that was just made. -/
import Derived.Test.YtgboiejiodgcnaaSvH
namespace Go.Proofs.Ytgboiejiodgcnaa
open Go.RowKit Go.Sort

namespace Aw
/-- The request, the service behind it, behind its begin, behind its end. -/
def f : Wk.Fr := ⟨1, 0, 0, 0, 0, 0, 0, false, false, 0, 4⟩
def o0 : Sv.Ob := ⟨[⟨1, [], false, Wk.zero, 0, 0⟩], 1, 2, [], 0, [], fun _ => []⟩
def o1 : Sv.Ob := ⟨[⟨1, [f], false, Wk.zero, 0, 0⟩], 1, 2, [Dd.first 0 0 0], 0, [], fun _ => []⟩
def o2 : Sv.Ob := ⟨[⟨1, [], true, f, 0, 0⟩], 1, 2, [Dd.first 0 0 0], 0, [f], fun _ => []⟩
def o3 : Sv.Ob := (o2.work 0 1).1
theorem e0 : Sv.new 1 1 2 1 = o0 := rfl
theorem e1 : o0.request f = o1 := rfl
theorem e2 : o1.work 0 0 = (o2, true) := rfl
theorem e3 : (o2.work 0 1).2 = true := rfl
theorem e4 : o3.out 0 = [⟨2, 0, 0, 0, 0, 0, 0, false, false, 0, 4⟩] := rfl
theorem k0 : Sv.Ok o0 := ⟨by decide, by simp [o0], fun x hx => by simp only [o0, List.mem_singleton] at hx; subst hx; rfl, by decide⟩
theorem k1 : Sv.Ok o1 := ⟨by decide, by simp [o1], fun x hx => by simp only [o1, List.mem_singleton] at hx; subst hx; rfl, by decide⟩
theorem k2 : Sv.Ok o2 := ⟨by decide, by simp [o2], fun x hx => by simp only [o2, List.mem_singleton] at hx; subst hx; rfl, by decide⟩
end Aw

set_option maxHeartbeats 1000000 in
/-- awake. -/
theorem awake27_any (w : World) : Calls Try.prog 12 #[] w fun e w' => e = .returned (.bool true) ∧ Below w.heap.size w w' := by
  go_enter Try.func12, Try.ntmps12
  go_wp2_with fail
  refine (svnew_any 1 1 2 1 w).mono ?_
  rintro e w1 ⟨S, ps, rfl, h1⟩
  rw [Aw.e0] at h1
  have H1 := Lib.hid h1
  clear h1
  go_wp2_with fail
  refine (svhandle_request (f := Aw.f) (i := 0) rfl Aw.k0 w1 H1.out rfl).mono ?_
  rintro e w2 ⟨rfl, h2⟩
  rw [Aw.e1] at h2
  have H2 := Lib.hid h2
  clear h2 H1
  go_wp2_with fail
  refine (svwork_yes (i := 0) (k := 0) rfl Aw.k1 (by decide) 0 w2 H2.out rfl).mono ?_
  rw [show Aw.o1.work ((0 : Nat) : Int) 0 = (Aw.o2, true) from rfl]
  rintro e w3 ⟨rfl, h3⟩
  have H3 := Lib.hid h3
  clear h3 H2
  go_wp2_with fail
  refine (svwork_yes (i := 0) (k := 0) rfl Aw.k2 (by decide) 1 w3 H3.out rfl).mono ?_
  rw [show (Aw.o2.work ((0 : Nat) : Int) 1).2 = true from rfl, show (Aw.o2.work ((0 : Nat) : Int) 1).1 = Aw.o3 from rfl]
  rintro e w4 ⟨rfl, h4⟩
  have H4 := Lib.hid h4
  clear h4 H3
  go_wp2_with fail
  refine (svnext_yes (i := 0) (c := 0) (by decide) Aw.e4 w4 H4.out rfl).mono ?_
  rintro e w5 ⟨rfl, hb⟩
  have H5 := Lib.hid ((H4.out.past hb).lay (.cells #[.int .i64 2, .int .i64 0, .int .i64 0, .int .i64 0, .int .i64 0, .int .u32 0, .int .i64 0, .bool false, .bool false, .int .i64 0, .int .u32 4] 29))
  clear hb H4
  dsimp only
  go_upto_region 5 with fail
  generalize w5.alloc _ = w6 at H5 ⊢
  generalize w5.heap.size = bF at H5 ⊢
  obtain ⟨g0, g1, g2, g3, g4, g5, g6, g7, g8, g9, g10⟩ := frame_cells (H5.out.box 0 rfl)
  go_wp2_with fail
  refine (svwaits_any (i := 1) 0 w6 H5.out rfl).mono ?_
  rw [show Aw.o3.waits 0 = 1 from rfl]
  rintro e w7 ⟨rfl, rfl⟩
  go_wp2_with fail
  go_ret
  exact ⟨rfl, H5.out.below (fun _ => id)⟩
end Go.Proofs.Ytgboiejiodgcnaa
