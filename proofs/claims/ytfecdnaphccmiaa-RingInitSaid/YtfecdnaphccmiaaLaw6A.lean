/- The laws' own first look at a ring of two places. -/
import Derived.Test.YtfecdnaphccmiaaRngD
import Derived.Test.YtfecdnaphccmiaaArnD
namespace Go.Proofs.Ytfecdnaphccmiaa
open Go.RowKit

theorem cells_two (w : World) : Calls Try.prog 8 #[.int .i64 2] w fun e w' => e = .returned (.int .i64 9) ∧ w' = w := rcells_in 2 (by omega) w

set_option maxHeartbeats 2000000 in
theorem awake6_any (w : World) : Calls Try.prog 6 #[] w fun e w' => e = .returned (.bool true) ∧ Below w.heap.size w w' := by
  have hok : Rg.Ok 0 2 := by unfold Rg.Ok; omega
  have HO := Lib.hid hok
  clear hok
  go_enter Try.func6, Try.ntmps6
  go_wp2_with fail
  refine (new_yes 9 _ (by omega) (by omega)).mono ?_
  rintro e w1 ⟨s, rfl, h1, hR1⟩
  have hb1 := hR1.below (Nat.le_refl _) (fun k hk => hk.elim)
  have HA := Lib.hid h1
  clear hR1 h1
  go_wp2_with fail
  refine (cells_two _).mono ?_
  rintro e w2 ⟨rfl, rfl⟩
  go_wp2_with fail
  refine (init_yes 0 2 HO.out _ (HA.out.alloc _) (by simp [Ar.new])).mono ?_
  rintro e w2 ⟨rfl, a, hcs, hN⟩
  obtain ⟨c0, c1, hN1⟩ := Now.box HA.out hN
  have hbn := hb1.trans (Now.below HA.out hN1)
  obtain ⟨T, hA2, -⟩ := hN1.arena
  have hcs2 : a.cs = [0, 0, 0, 0, 0, 1, 0, 0, 0] := hcs
  have H2 := Lib.hid hA2
  have HC := Lib.hid hcs2
  have hbs := cell_block c0
  clear hN hcs hcs2 hA2 hN1 hb1 HA
  go_wp2_with fail
  refine (open_in 0 2 0 HO.out (by decide) _ H2.out (by rw [HC.out]; decide)).mono ?_
  rintro e w3 ⟨rfl, hb3⟩
  rw [show (a.cs.getD (Rg.stand 0 2 0) 0 == 0) = true by rw [HC.out]; rfl]
  have h3 := Lib.hid (H2.out.kept (Rest.of_below hb3) (fun _ _ => id))
  have d0 := (hb3.cell (p := ⟨w1.heap.size, 0, none⟩) hbs).trans c0
  have d1 := (hb3.cell (p := ⟨w1.heap.size, 1, none⟩) hbs).trans c1
  have hbn3 := hbn.trans (hb3.mono hbn.size)
  have hbs3 := cell_block d0
  clear hb3 c0 c1 hbn H2 hbs
  go_wp2_with fail
  refine (open_in 0 2 1 HO.out (by decide) _ h3.out (by rw [HC.out]; decide)).mono ?_
  rintro e w4 ⟨rfl, hb4⟩
  rw [show (a.cs.getD (Rg.stand 0 2 1) 0 == 1) = true by rw [HC.out]; rfl]
  have h4 := Lib.hid (h3.out.kept (Rest.of_below hb4) (fun _ _ => id))
  have e0 := (hb4.cell (p := ⟨w1.heap.size, 0, none⟩) hbs3).trans d0
  have e1 := (hb4.cell (p := ⟨w1.heap.size, 1, none⟩) hbs3).trans d1
  have hbn4 := hbn3.trans (hb4.mono hbn3.size)
  clear hb4 d0 d1 hbn3 h3 hbs3
  go_wp2_with fail
  refine (ready_in 0 2 0 HO.out (by decide) _ h4.out (by rw [HC.out]; decide)).mono ?_
  rintro e w5 ⟨rfl, hb5⟩
  rw [show (a.cs.getD (Rg.stand 0 2 0) 0 == 0 + 1) = false by rw [HC.out]; rfl]
  have hbn5 := hbn4.trans (hb5.mono hbn4.size)
  clear hb5 e0 e1 hbn4 h4
  go_wp2
  go_ret
  exact ⟨rfl, hbn5⟩

end Go.Proofs.Ytfecdnaphccmiaa
