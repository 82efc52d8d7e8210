/- awake: a retry. -/
import Derived.Test.YtljiebajdemigaaBdgA
namespace Go.Proofs.Ytljiebajdemigaa
open Go.RowKit

set_option maxHeartbeats 2000000 in
set_option maxRecDepth 100000 in
theorem awake15_any (w : World) : Calls Try.prog 10 #[] w fun e w' => e = .returned (.bool true) ∧ Below w.heap.size w w' := by
  go_enter Try.func10, Try.ntmps10
  go_wp2_with fail
  have hnew := bnew_any 2 1 2 3 2 8 w
  rw [show Bd.near 2 14 = 2 by decide, show Bd.near 1 1048576 = 1 by decide, show Bd.near 2 1048576 = 2 by decide, show Bd.near 3 1048576 = 3 by decide] at hnew
  refine hnew.mono ?_
  rintro e w1 ⟨rfl, hn, hb⟩
  have H1 := Lib.hid ((Held.start w).made hb hn (by omega))
  clear hnew hn hb
  generalize w.heap.size + 1 = P at H1 ⊢
  go_wp2_with fail
  refine (btake_yes (by decide) (by decide) w1 (H1.out.get 0 rfl)).mono ?_
  rintro e w2 ⟨rfl, hn, hr⟩
  have H2 := Lib.hid (H1.out.rest hr hn)
  clear hn hr H1
  go_wp2_with fail
  refine (btake_no (by decide) w2 (H2.out.get 0 rfl)).mono ?_
  rintro e w3 ⟨rfl, hb⟩
  have H3 := Lib.hid (H2.out.call hb)
  clear hb H2
  go_wp2_with fail
  refine (bleft_any w3 (H3.out.get 0 rfl)).mono ?_
  rintro e w4 ⟨rfl, rfl⟩
  go_wp2_with fail
  have hwait := bwait_any 3 (by decide) w3 (H3.out.get 0 rfl)
  rw [show max 1 (Tk.twice 2 ((max 1 3 : Int) - 1).toNat 8) = 8 by decide] at hwait
  refine hwait.mono ?_
  rintro e w4 ⟨rfl, hb⟩
  have H4 := Lib.hid (H3.out.call hb)
  clear hb H3 hwait
  go_wp2_with fail
  refine (bmost_any w4 (H4.out.get 0 rfl)).mono ?_
  rintro e w5 ⟨rfl, rfl⟩
  go_wp2
  go_ret
  exact ⟨rfl, H4.out.below⟩
end Go.Proofs.Ytljiebajdemigaa
