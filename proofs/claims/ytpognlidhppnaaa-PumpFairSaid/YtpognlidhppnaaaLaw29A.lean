/- awake; the law on a pump that turns, and on none. -/
import Derived.Test.YtpognlidhppnaaaPmC
namespace Go.Proofs.Ytpognlidhppnaaa
open Go.RowKit Go.Sort

namespace Aw
/-- The frame that waits; the pump behind each call. -/
def f : Wk.Fr := ⟨8, 0, 0, 0, 0, 0, 0, false, false, 0, 0⟩
def o0 : Pm.Ob := ⟨2, 0, []⟩
def o1 : Pm.Ob := ⟨2, 0, [f]⟩
def o2 : Pm.Ob := ⟨2, 1, [f]⟩
def o3 : Pm.Ob := ⟨2, 2, [f]⟩
theorem e0 : Pm.new 2 = o0 := rfl
theorem e1 : o0.put f = o1 := rfl
theorem e2 : o1.turn = o2 := rfl
theorem e3 : o2.turn = o3 := rfl
theorem t1 : o1.told = 0 := rfl
theorem t2 : o2.told = 1 := rfl
end Aw

set_option maxHeartbeats 1000000 in
/-- awake. -/
theorem awake29_any (w : World) : Calls Try.prog 8 #[] w fun e w' => e = .returned (.bool true) ∧ Below w.heap.size w w' := by
  have H1 := Lib.hid (pm_made (Own.start (fun _ => False) w) 2)
  rw [Aw.e0] at H1
  go_enter Try.func8, Try.ntmps8
  go_wp2_with fail
  refine (pmnew_any 2 w).mono ?_
  rintro e w1 ⟨rfl, rfl⟩
  rw [Aw.e0]
  generalize w.alloc _ = w1 at H1 ⊢
  generalize w.heap.size = P at H1 ⊢
  go_wp2_with fail
  refine (pmput_any (i := 0) Aw.f (by decide) w1 H1.out rfl).mono ?_
  rintro e w2 ⟨rfl, h2⟩
  rw [Aw.e1] at h2
  have H2 := Lib.hid h2
  clear h2 H1
  go_wp2_with fail
  refine (pmturn_any (i := 0) w2 H2.out rfl).mono ?_
  rw [Aw.t1, Aw.e2]
  rintro e w3 ⟨rfl, h3⟩
  have H3 := Lib.hid h3
  clear h3 H2
  go_wp2_with fail
  refine (pmturn_any (i := 0) w3 H3.out rfl).mono ?_
  rw [Aw.t2, Aw.e3]
  rintro e w4 ⟨rfl, h4⟩
  have H4 := Lib.hid h4
  clear h4 H3
  go_wp2_with fail
  refine (pmfirst_yes (i := 0) (x := Aw.f) (q := []) rfl w4 H4.out rfl).mono ?_
  rintro e w5 ⟨rfl, hb⟩
  have H5 := Lib.hid ((H4.out.past hb).lay (.cells #[.int .i64 Aw.f.k, .int .i64 Aw.f.c, .int .i64 Aw.f.s, .int .i64 Aw.f.t, .int .i64 Aw.f.g, .int .u32 Aw.f.a, .int .i64 Aw.f.r, .bool Aw.f.su, .bool Aw.f.st, .int .i64 Aw.f.q, .int .u32 Aw.f.v] 27))
  clear hb H4
  dsimp only
  go_upto_region 5 with fail
  generalize w5.alloc _ = w6 at H5 ⊢
  generalize w5.heap.size = bF at H5 ⊢
  obtain ⟨g0, g1, g2, g3, g4, g5, g6, g7, g8, g9, g10⟩ := frame_cells (H5.out.box 0 rfl)
  rw [show Aw.f.k = 8 from rfl] at g0
  go_wp2_with fail
  refine (pmgone_yes (i := 1) (x := Aw.f) (q := []) rfl (by decide) w6 H5.out rfl).mono ?_
  rintro e w7 ⟨rfl, h7⟩
  have H7 := Lib.hid h7
  clear h7 H5 g0 g1 g2 g3 g4 g5 g6 g7 g8 g9 g10
  go_wp2_with fail
  refine (pmlen_any (i := 1) w7 H7.out rfl).mono ?_
  rw [show Aw.o3.gone.q.length = 0 from rfl]
  rintro e w8 ⟨rfl, rfl⟩
  go_wp2_with fail
  go_ret
  exact ⟨rfl, H7.out.below (fun _ => id)⟩

namespace Pm
/-- Ahead of its turn to x: what waits leaves nothing to be sent (first), or does. -/
def at' (n : Int) (q : List Wk.Fr) (x : Int) : Ob := ⟨n, if x = 2 + n then 0 else if q = [] ∧ x = 1 then 0 else x, q⟩
theorem at_told {n x : Int} {q : List Wk.Fr} (h1 : 1 ≤ n) (h2 : x < 2 + n) (hq : q = [] → 1 ≤ x) : (at' n q x).told = x := by
  unfold Ob.told at'
  by_cases e : q = []
  · have := hq e
    by_cases e1 : x = 1
    · rw [e1, if_neg (show ¬(1 : Int) = 2 + n by omega)]; simp [e]
    · simp only [if_neg (show ¬x = 2 + n by omega), e1, and_false, if_false]
      rw [if_neg (fun h => by omega)]
  · simp [e, show ¬x = 2 + n by omega]
theorem at_turn {n x : Int} {q : List Wk.Fr} (h1 : 1 ≤ n) (h2 : x < 2 + n) (h0 : 0 ≤ x) (hq : q = [] → 1 ≤ x) : (at' n q x).turn = at' n q (x + 1) := by
  have h : (x + 1) % (2 + n) = if x + 1 = 2 + n then 0 else if q = [] ∧ x + 1 = 1 then 0 else x + 1 := by
    by_cases e : x + 1 = 2 + n
    · rw [if_pos e, e, Int.emod_self]
    · rw [if_neg e, if_neg (fun h => by have := hq h.1; omega)]
      exact Int.emod_eq_of_lt (by omega) (by omega)
  unfold Ob.turn
  rw [at_told h1 h2 hq]
  show (⟨n, (x + 1) % (2 + n), q⟩ : Ob) = _
  rw [h]
  rfl
theorem at_end (n : Int) (q : List Wk.Fr) : at' n q (2 + n) = ⟨n, 0, q⟩ := by unfold at'; rw [if_pos rfl]
theorem at_first (n : Int) (q : List Wk.Fr) : at' n q (if q = [] then 1 else 0) = ⟨n, 0, q⟩ := by
  unfold at'
  congr 1
  by_cases e : q = []
  · simp [e]
  · simp [e]
end Pm
end Go.Proofs.Ytpognlidhppnaaa
