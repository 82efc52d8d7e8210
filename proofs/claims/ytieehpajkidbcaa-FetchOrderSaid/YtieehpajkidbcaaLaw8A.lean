/- The laws' own first look: a frame is sent and fetched, in a ring of two places. -/
import Derived.Test.YtieehpajkidbcaaLaw8R
import Derived.Test.YtieehpajkidbcaaLaw7A
import Derived.Test.YtieehpajkidbcaaOdd
namespace Go.Proofs.Ytieehpajkidbcaa
open Go.RowKit
attribute [local go_sem ↓] Go.wp_at_zero Go.wp_at_succ

theorem frun_awake {B : Nat} {s : Spot} {a : Ar} (hcs : a.cs = [1, 1, 1, 2, 3, 1, 0, 0, 0]) (w : World) (hA : Arena w B s a) :
    Calls Try.prog 12 #[.pointer (some ⟨s.P, 0, none⟩), .agg #[.int .i64 0, .int .i64 2, .int .u64 0, .int .i64 0, .int .i64 0, .int .u64 0, .int .u64 0, .int .u64 0]] w fun e w' => e = .returned (.tuple #[.agg #[.int .i64 0, .int .i64 2, .int .u64 0, .int .i64 3, .int .i64 3, .int .u64 1, .int .u64 2, .int .u64 3], .int .i64 5]) ∧ ∃ a', a'.cs = [1, 2, 1, 2, 3, 1, 0, 0, 0] ∧ Now w w' B s a' := by
  have hg : Ftc.Good ⟨0, 2, 0, 0, 0, 0, 0, 0⟩ a := ⟨by unfold Rg.Ok; decide, by rw [hcs]; decide, by decide, fun _ => by decide⟩
  obtain ⟨a', hr, hc', hk⟩ := Ftc.run_there 0 2 0 a (by rw [hcs]; rfl)
  refine (frun_any ⟨0, 2, 0, 0, 0, 0, 0, 0⟩ hg 5 (by decide) hk (.inl (by rw [hr])) w hA).mono ?_
  rintro e w' ⟨rfl, hN⟩
  rw [hr] at hN ⊢
  refine ⟨by rw [hcs]; rfl, a', ?_, hN⟩
  rw [hc', hcs]
  rfl

set_option maxRecDepth 100000 in
set_option maxHeartbeats 2000000 in
theorem awake8_any (w : World) : Calls Try.prog 18 #[] w fun e w' => e = .returned (.bool true) ∧ Below w.heap.size w w' := by
  have hok : Rg.Ok 0 2 := by unfold Rg.Ok; omega
  have HO := Lib.hid hok
  have heq := fun w' : World => words_top_same w' 1 2 3
  clear hok
  go_enter Try.func18, Try.ntmps18
  go_wp2_with fail
  refine (new_yes 9 _ (by omega) (by omega)).mono ?_
  rintro e w1 ⟨s, rfl, h1, hR1⟩
  have HB := Lib.hid (hR1.below (Nat.le_refl _) (fun k hk => hk.elim))
  have HA := Lib.hid h1
  clear hR1 h1
  go_wp2_with fail
  refine (init_yes 0 2 HO.out _ (HA.out.alloc _) (by simp [Ar.new])).mono ?_
  rintro e w2 ⟨rfl, a, hcs, hN⟩
  have hcs2 : a.cs = [0, 0, 0, 0, 0, 1, 0, 0, 0] := hcs
  have HN := Lib.hid hN
  have HC := Lib.hid hcs2
  clear hN hcs hcs2
  obtain ⟨c0, c1⟩ := box_held HA.out HN.out
  go_wp2_with fail
  refine (snew_any 0 2 1 2 3 _).mono ?_
  rintro e w3 ⟨rfl, hb3⟩
  have HN3 := Lib.hid (HN.out.behind hb3)
  clear hb3 c0 c1 HN
  obtain ⟨T, hA3, hN3⟩ := HN3.out.arena
  obtain ⟨c0, c1⟩ := box_held HA.out HN3.out
  go_wp2_with fail
  refine (run_awake HC.out _ hA3).mono ?_
  rintro e w4 ⟨rfl, a4, hcs4, hN4⟩
  have HN4 := Lib.hid (hN3 _ _ hN4)
  have HC4 := Lib.hid hcs4
  clear hA3 hN3 hN4 hcs4 c0 c1 HN3
  obtain ⟨c0, c1⟩ := box_held HA.out HN4.out
  go_wp2_with fail
  refine (ftnew_any 0 2 0 _).mono ?_
  rintro e w5 ⟨rfl, hb5⟩
  have HN5 := Lib.hid (HN4.out.behind hb5)
  clear hb5 c0 c1 HN4
  obtain ⟨T, hA5, hN5⟩ := HN5.out.arena
  obtain ⟨c0, c1⟩ := box_held HA.out HN5.out
  go_wp2_with fail
  refine (frun_awake HC4.out _ hA5).mono ?_
  rintro e w6 ⟨rfl, a6, hcs6, hN6⟩
  have HN6 := Lib.hid (hN5 _ _ hN6)
  have HC6 := Lib.hid hcs6
  clear hA5 hN5 hN6 hcs6 c0 c1 HN5
  obtain ⟨c0, c1⟩ := box_held HA.out HN6.out
  go_wp2_with fail
  refine (ftdone_yes 0 2 0 3 3 1 2 3 (.inl rfl) _).mono ?_
  rintro e w7 ⟨rfl, hb7⟩
  have hu7 := block_held (heap_alloc_new w6 _) hb7
  have HN7 := Lib.hid ((HN6.out.behind (below_box _ _)).behind hb7)
  clear hb7 c0 c1 HN6
  obtain ⟨c0, c1⟩ := box_held HA.out HN7.out
  obtain ⟨d0, d1, d2, d3, d4, d5, d6, d7⟩ := eight_cells hu7
  go_wp2_with fail
  refine (ftwords_yes 0 2 0 3 1 2 3 _).mono ?_
  rintro e w8 ⟨rfl, hb8⟩
  have HN8 := Lib.hid (HN7.out.behind hb8)
  clear hb8 c0 c1 HN7 hu7 d0 d1 d2 d3 d4 d5 d6 d7
  obtain ⟨c0, c1⟩ := box_held HA.out HN8.out
  obtain ⟨T, hA8, -⟩ := HN8.out.arena
  have H8 := Lib.hid hA8
  clear hA8
  go_wp2_with fail
  refine (open_in 0 2 2 HO.out (by decide) _ H8.out (by rw [HC6.out]; decide)).mono ?_
  rintro e w9 ⟨rfl, hb9⟩
  rw [show (a6.cs.getD (Rg.stand 0 2 2) 0 == 2) = true by rw [HC6.out]; rfl]
  have HN9 := Lib.hid (HN8.out.behind hb9)
  clear hb9 c0 c1 HN8 H8
  go_wp2
  go_ret
  exact ⟨rfl, (HB.out.alloc HB.out.size _).trans (Now.below (HA.out.alloc _) HN9.out)⟩

end Go.Proofs.Ytieehpajkidbcaa
