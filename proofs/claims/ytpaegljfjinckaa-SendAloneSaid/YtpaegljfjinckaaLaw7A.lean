/- The laws' own first look: a sending into an empty ring of two places. -/
import Derived.Test.YtpaegljfjinckaaLaw7R
import Derived.Test.YtpaegljfjinckaaSndE
import Derived.Test.YtpaegljfjinckaaArnD
namespace Go.Proofs.Ytpaegljfjinckaa
open Go.RowKit
attribute [local go_sem ↓] Go.wp_at_zero Go.wp_at_succ

theorem run_awake {B : Nat} {s : Spot} {a : Ar} (hcs : a.cs = [0, 0, 0, 0, 0, 1, 0, 0, 0]) (w : World) (hA : Arena w B s a) :
    Calls Try.prog 10 #[.pointer (some ⟨s.P, 0, none⟩), .agg #[.int .i64 0, .int .i64 2, .int .u64 1, .int .u64 2, .int .u64 3, .bool false, .int .u64 0, .int .i64 0, .int .i64 0]] w fun e w' => e = .returned (.tuple #[.agg #[.int .i64 0, .int .i64 2, .int .u64 1, .int .u64 2, .int .u64 3, .bool false, .int .u64 0, .int .i64 5, .int .i64 3], .int .i64 7]) ∧ ∃ a', a'.cs = [1, 1, 1, 2, 3, 1, 0, 0, 0] ∧ Now w w' B s a' := by
  have hg : Snd.Good ⟨0, 2, 1, 2, 3, false, 0, 0, 0⟩ a := ⟨by unfold Rg.Ok; decide, by rw [hcs]; decide, by decide, by decide, by decide, by decide, fun _ => by decide⟩
  obtain ⟨a', hr, hc', hk⟩ := Snd.run_new 0 2 1 2 3 0 a (by rw [hcs]; rfl) (by rw [hcs]; rfl)
  refine (run_any ⟨0, 2, 1, 2, 3, false, 0, 0, 0⟩ hg 7 (by decide) hk (.inl (by rw [hr])) w hA).mono ?_
  rintro e w' ⟨rfl, hN⟩
  rw [hr] at hN ⊢
  refine ⟨rfl, a', ?_, hN⟩
  rw [hc', hcs]
  rfl

theorem cells_two (w : World) : Calls Try.prog 6 #[.int .i64 2] w fun e w' => e = .returned (.int .i64 9) ∧ w' = w := rcells_in 2 (by omega) w

/-- What a box that was laid ahead of all that is done to an arena holds. -/
theorem box_held {w1 wk : World} {B : Nat} {s : Spot} {a0 ak : Ar} {x y : Value} {t : TypeId} (h0 : Arena w1 B s a0) (h : Now (w1.alloc (.cells #[x, y] t)) wk B s ak) :
    wk.cell? ⟨w1.heap.size, 0, none⟩ = some x ∧ wk.cell? ⟨w1.heap.size, 1, none⟩ = some y := by
  have hn : ¬ s.has w1.heap.size := fun hk => Nat.lt_irrefl _ (h0.old _ hk)
  exact ⟨(h.cell (p := ⟨w1.heap.size, 0, none⟩) (by simp) hn).trans (cell_two_new w1 x y t 0 x rfl), (h.cell (p := ⟨w1.heap.size, 1, none⟩) (by simp) hn).trans (cell_two_new w1 x y t 1 y rfl)⟩

set_option maxHeartbeats 2000000 in
theorem awake7_any (w : World) : Calls Try.prog 17 #[] w fun e w' => e = .returned (.bool true) ∧ Below w.heap.size w w' := by
  have hok : Rg.Ok 0 2 := by unfold Rg.Ok; omega
  have HO := Lib.hid hok
  clear hok
  go_enter Try.func17, Try.ntmps17
  go_wp2_with fail
  refine (new_yes 9 _ (by omega) (by omega)).mono ?_
  rintro e w1 ⟨s, rfl, h1, hR1⟩
  have HB := Lib.hid (hR1.below (Nat.le_refl _) (fun k hk => hk.elim))
  have HA := Lib.hid h1
  clear hR1 h1
  go_wp2_with fail
  refine (init_yes 0 2 HO.out _ (HA.out.alloc _) (by simp [Ar.new])).mono ?_
  rintro e w2 ⟨rfl, a, hcs, hN⟩
  have hcs2 : a.cs = [0, 0, 0, 0, 0, 1, 0, 0, 0] := hcs
  have HN := Lib.hid hN
  have HC := Lib.hid hcs2
  clear hN hcs hcs2
  obtain ⟨c0, c1⟩ := box_held HA.out HN.out
  go_wp2_with fail
  refine (snew_any 0 2 1 2 3 _).mono ?_
  rintro e w3 ⟨rfl, hb3⟩
  have HN3 := Lib.hid (HN.out.behind hb3)
  clear hb3 c0 c1 HN
  obtain ⟨T, hA3, hN3⟩ := HN3.out.arena
  obtain ⟨c0, c1⟩ := box_held HA.out HN3.out
  go_wp2_with fail
  refine (run_awake HC.out _ hA3).mono ?_
  rintro e w4 ⟨rfl, a4, hcs4, hN4⟩
  have HN4 := Lib.hid (hN3 _ _ hN4)
  have HC4 := Lib.hid hcs4
  clear hA3 hN3 hN4 hcs4 c0 c1 HN3
  obtain ⟨c0, c1⟩ := box_held HA.out HN4.out
  go_wp2_with fail
  refine (sdone_yes 0 2 1 2 3 0 5 3 false (.inl rfl) _).mono ?_
  rintro e w5 ⟨rfl, hb5⟩
  have HN5 := Lib.hid ((HN4.out.behind (below_box _ _)).behind hb5)
  clear hb5 c0 c1 HN4
  obtain ⟨c0, c1⟩ := box_held HA.out HN5.out
  obtain ⟨T, hA5, -⟩ := HN5.out.arena
  have H5 := Lib.hid hA5
  clear hA5
  go_wp2_with fail
  refine (ready_in 0 2 0 HO.out (by decide) _ H5.out (by rw [HC4.out]; decide)).mono ?_
  rintro e w6 ⟨rfl, hb6⟩
  rw [show (a4.cs.getD (Rg.stand 0 2 0) 0 == 0 + 1) = true by rw [HC4.out]; rfl]
  have HN6 := Lib.hid (HN5.out.behind hb6)
  have H6 := Lib.hid (H5.out.kept (Rest.of_below hb6) (fun _ _ => id))
  clear hb6 c0 c1 HN5 H5
  go_wp2_with fail
  refine (look_any 2 _ H6.out (by rw [HC4.out]; decide)).mono ?_
  rintro e w7 ⟨rfl, rfl⟩
  rw [show a4.cs.getD 2 0 = 1 by rw [HC4.out]; rfl]
  go_wp2_with fail
  refine (look_any 4 _ H6.out (by rw [HC4.out]; decide)).mono ?_
  rintro e w8 ⟨rfl, rfl⟩
  rw [show a4.cs.getD 4 0 = 3 by rw [HC4.out]; rfl]
  go_wp2
  go_ret
  exact ⟨rfl, (HB.out.alloc HB.out.size _).trans (Now.below (HA.out.alloc _) HN6.out)⟩

end Go.Proofs.Ytpaegljfjinckaa
