/- The law on turns that do not go on. -/
import Derived.Test.YteijikcggflaoaaDoorLaw11A
import Derived.Deep.Light
namespace Go.Proofs.YteijikcggflaoaaDoor
open Go.RowKit
attribute [local go_sem ↓] Go.wp_at_zero Go.wp_at_succ

namespace Stl
/-- Three steps over a word that is not of the turn, or does not go on. -/
theorem run_stale (g m : Int) (a : Ar) (h : ¬ (((Slt.gen (a.cs.getD 0 0) : Nat) : Int) = g ∧ Slt.Live (a.cs.getD 0 0))) : ∀ n, run (⟨0, g, m, 0, 0⟩, a) (n + 1) = (⟨0, g, m, 3, 0⟩, a.touch 0)
  | 0 => step_stale (d := ⟨0, g, m, 0, 0⟩) rfl h
  | n + 1 => run_succ (run_stale g m a h n) (step_idle (d := ⟨0, g, m, 3, 0⟩) (Nat.le_succ 2))
/-- .. over one that does. -/
theorem run_live (g m : Int) (a : Ar) (h : ((Slt.gen (a.cs.getD 0 0) : Nat) : Int) = g ∧ Slt.Live (a.cs.getD 0 0)) : ∃ y, ∀ n, run (⟨0, g, m, 0, 0⟩, a) (n + 2) = (⟨0, g, m, 2, y⟩, ((a.touch 0).touch 0).put 0 y) := by
  refine ⟨end_ ⟨0, g, m, 1, a.cs.getD 0 0⟩, fun n => ?_⟩
  induction n with
  | zero => exact run_succ (n := 1) (run_succ (n := 0) rfl (step_live (d := ⟨0, g, m, 0, 0⟩) rfl h)) (step_won (d := ⟨0, g, m, 1, a.cs.getD 0 0⟩) rfl (by show (a.touch 0).cs.getD 0 0 = _; rw [Ar.touch_cs]))
  | succ n ih => exact run_succ ih (step_idle (d := ⟨0, g, m, 2, _⟩) (Nat.le_refl 2))
end Stl

set_option maxRecDepth 100000 in
set_option maxHeartbeats 2000000 in
theorem lstale_any (v : Nat) (hv : v < 18446744073709551616) (g : Int) (w : World) (hL : SLay w) : Calls Tryd.prog 3 #[.int .u64 (v : Int), .int .i64 g] w fun e w' => e = .returned (.bool true) ∧ Below w.heap.size w w' := by
  have HL := Lib.hid hL
  clear hL
  go_enter Tryd.func3, Tryd.ntmps3
  go_wp2_with fail
  refine (new_yes 1 _ (by decide) (by decide)).mono ?_
  rintro e w1 hF
  obtain ⟨P, rfl, h1⟩ := St.fresh hF
  have H1 := Lib.hid h1
  clear hF h1
  go_wp2_with fail
  refine (H1.out.write 0 v (by decide) hv).mono ?_
  rintro e w2 ⟨rfl, h2⟩
  have e0 : (((Ar.new 1).touch 0).put 0 v).cs = [v] := rfl
  generalize ((Ar.new 1).touch 0).put 0 v = a0 at h2 e0
  have H2 := Lib.hid h2
  clear h2 H1
  go_wp2_with fail
  refine (lnew_any 0 g 16777215 _).mono ?_
  rintro e w3 ⟨rfl, hb⟩
  have H3 := Lib.hid (H2.out.below hb)
  clear hb H2
  generalize hb : w3.heap.size = b at *
  have H4 := Lib.hid (hb ▸ H3.out.add (.cells (Stl.cells ⟨0, g, 16777215, 0, 0⟩) 27 (0, 0)))
  clear H3
  go_wp2_with fail
  go_loopg [7] 3 (fun m s7 wr => ∃ (i : Nat) (d : Stl) (a : Ar), i ≤ 3 ∧ m = 3 - i ∧ s7 = .int .i64 i ∧ Stl.run (⟨0, g, 16777215, 0, 0⟩, a0) i = (d, a) ∧ d.Good a ∧ Hid (St w wr P a [(b, .cells d.cells 27 (0, 0))]))
  case atStart => exact ⟨0, ⟨0, g, 16777215, 0, 0⟩, a0, Nat.zero_le _, rfl, rfl, rfl, ⟨by rw [e0]; exact Nat.zero_lt_one, Nat.zero_lt_of_lt hv, fun e => by simp at e⟩, H4⟩
  case round =>
    obtain ⟨i, d, a, hi, rfl, rfl, hr, hg, HA⟩ := hrel
    clear H4 hb
    by_cases hlt : i < 3
    · have hl1 : (i : Int) < 3 := by omega
      obtain ⟨c0, c1, c2, c3, c4⟩ := HA.out.task_cells
      obtain ⟨f0, f1, f2, f3, f4⟩ := HA.out.task_free
      rcases hs : d.step a with ⟨d', a'⟩
      have hg' := hg.step (HA.out.word d.i)
      rw [hs] at hg'
      go_wp2_with fail
      refine (HA.out.step5 HL.out d.i d.g d.m d.k d.x d'.i d'.g d'.m d'.k d'.x a' hg hs).mono ?_
      rintro e w5 ⟨rfl, h5⟩
      have H5 := Lib.hid h5
      clear h5 c0 c1 c2 c3 c4 f0 f1 f2 f3 f4 HA
      obtain ⟨c0, c1, c2, c3, c4⟩ := H5.out.task_cells
      obtain ⟨f0, f1, f2, f3, f4⟩ := H5.out.task_free
      go_wp2_with fail
      go_roundg (3 - (i + 1))
      case measure => go_light; omega
      case rel => exact ⟨i + 1, d', a', by omega, rfl, by go_num, Stl.run_succ hr hs, hg', Lib.hid (H5.out.task (fun p hp => by cases hp) rfl)⟩
    · obtain rfl : i = 3 := by omega
      have hl1 : ¬ ((3 : Nat) : Int) < 3 := by omega
      have ev : a0.cs.getD 0 0 = v := by rw [e0]; rfl
      by_cases hlv : ((Slt.gen v : Nat) : Int) = g ∧ Slt.Live v
      · obtain ⟨y, hy⟩ := Stl.run_live g 16777215 a0 (by rw [ev]; exact hlv)
        obtain ⟨rfl, rfl⟩ := Prod.mk.inj ((hy 1).symm.trans hr)
        have HV := Lib.hid (decide_eq_true hlv)
        clear hlv hr hy
        obtain ⟨c0, c1, c2, c3, c4⟩ := HA.out.task_cells
        go_wp2_with fail
        refine (ldone_won 0 g 16777215 _ _).mono ?_
        rintro e w4 ⟨rfl, hbl⟩
        have H4 := Lib.hid (HA.out.below hbl)
        clear hbl HA c0 c1 c2 c3 c4
        go_wp2_with fail
        refine (slive_any v g hv _ (H4.out.lay HL.out)).mono ?_
        rintro e w5 ⟨rfl, hbl⟩
        rw [HV.out]
        have H5 := Lib.hid (H4.out.below hbl)
        clear hbl H4
        go_wp2_with fail
        refine (lnew_any 0 g 5 _).mono ?_
        rintro e w6 ⟨rfl, hbl⟩
        have H6 := Lib.hid (H5.out.below hbl)
        clear hbl H5
        go_wp2_with fail
        refine (ldone_begun 0 g 5 0 _).mono ?_
        rintro e w7 ⟨rfl, hbl⟩
        have H7 := Lib.hid (H6.out.below hbl)
        clear hbl H6
        go_wp2_with fail
        refine (awake11_any _ (H7.out.lay HL.out)).mono ?_
        rintro e w8 ⟨rfl, hbl⟩
        have H9 := Lib.hid (H7.out.below hbl)
        clear hbl H7
        go_wp2_with fail
        go_ret
        exact ⟨rfl, H9.out.low⟩
      · have hy := Stl.run_stale g 16777215 a0 (by rw [ev]; exact hlv) 2
        obtain ⟨rfl, rfl⟩ := Prod.mk.inj (hy.symm.trans hr)
        have HV := Lib.hid (decide_eq_false hlv)
        clear hlv hr hy
        obtain ⟨c0, c1, c2, c3, c4⟩ := HA.out.task_cells
        go_wp2_with fail
        refine (ldone_stale 0 g 16777215 _ _).mono ?_
        rintro e w4 ⟨rfl, hbl⟩
        have H4 := Lib.hid (HA.out.below hbl)
        clear hbl HA c0 c1 c2 c3 c4
        go_wp2_with fail
        refine (slive_any v g hv _ (H4.out.lay HL.out)).mono ?_
        rintro e w5 ⟨rfl, hbl⟩
        rw [HV.out]
        have H5 := Lib.hid (H4.out.below hbl)
        clear hbl H4
        go_wp2_with fail
        refine (lnew_any 0 g 5 _).mono ?_
        rintro e w6 ⟨rfl, hbl⟩
        have H6 := Lib.hid (H5.out.below hbl)
        clear hbl H5
        go_wp2_with fail
        refine (ldone_begun 0 g 5 0 _).mono ?_
        rintro e w7 ⟨rfl, hbl⟩
        have H7 := Lib.hid (H6.out.below hbl)
        clear hbl H6
        go_wp2_with fail
        refine (awake11_any _ (H7.out.lay HL.out)).mono ?_
        rintro e w8 ⟨rfl, hbl⟩
        have H9 := Lib.hid (H7.out.below hbl)
        clear hbl H7
        go_wp2_with fail
        refine (H9.out.look 0 (by rw [Ar.touch_cs, e0]; exact Nat.zero_lt_one)).mono ?_
        rintro e w9 ⟨rfl, rfl⟩
        rw [show (a0.touch 0).cs.getD 0 0 = v by rw [Ar.touch_cs, e0]; rfl]
        go_wp2_with fail
        go_ret
        exact ⟨rfl, H9.out.low⟩

end Go.Proofs.YteijikcggflaoaaDoor
