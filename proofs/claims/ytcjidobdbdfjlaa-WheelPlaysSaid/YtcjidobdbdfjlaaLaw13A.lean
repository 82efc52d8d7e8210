/- awake: it has come. -/
import Derived.Test.YtcjidobdbdfjlaaWhU
namespace Go.Proofs.Ytcjidobdbdfjlaa
open Go.RowKit Go.Sort

set_option maxHeartbeats 2000000 in
set_option maxRecDepth 100000 in
theorem awake13_any (w : World) : Calls Try.prog 17 #[] w fun e w' => e = .returned (.bool true) ∧ Rest (fun _ => False) w w' := by
  go_enter Try.func17, Try.ntmps17
  go_wp2_with fail
  refine (wl_new 0 (by decide) w w (Rest.refl _ _) [] (fun k hk => by simp at hk)).mono ?_
  rintro e w1 ⟨rfl, h1, -⟩
  have H1 := Lib.hid (show Wl w w1 w.heap.size 0 [] [] from h1)
  clear h1
  go_wp2_with fail
  refine (wl_put ⟨5, 0, 0, 1, 0, 0⟩ 0 H1.out (by decide) (by decide)).mono ?_
  rintro e w2 ⟨rfl, h2, -⟩
  have H2 := Lib.hid (show Wl w w2 w.heap.size 0 [⟨5, 0, 0, 1, 0, 0⟩] [] from h2)
  clear h2 H1
  go_wp2_with fail
  refine (wl_adv 4 H2.out (by decide)).mono ?_
  rintro e w3 ⟨rfl, h3, -⟩
  have H3 := Lib.hid (show Wl w w3 w.heap.size 4 [⟨5, 0, 0, 1, 0, 0⟩] [] from h3)
  clear h3 H2
  go_wp2_with fail
  have hc : Rf.come 4 [⟨5, 0, 0, 1, 0, 0⟩] = 0 := by decide
  have hcome := wl_come H3.out
  rw [hc] at hcome
  refine hcome.mono ?_
  rintro e w4 ⟨rfl, rfl⟩
  clear hcome hc
  go_wp2_with fail
  refine (wl_adv 5 H3.out (by decide)).mono ?_
  rintro e w4 ⟨rfl, h4, -⟩
  have H4 := Lib.hid (show Wl w w4 w.heap.size 5 [⟨5, 0, 0, 1, 0, 0⟩] [] from h4)
  clear h4 H3
  go_wp2_with fail
  refine (wl_take H4.out (by decide)).mono ?_
  rintro e w5 ⟨rfl, h5, -⟩
  have hr := Rest.alloc (fun _ => False) w5 (.cells #[.int .i64 5, .int .i64 0, .int .i64 0, .int .i64 1, .int .i64 0] 30)
  have H5 := Lib.hid (h5.past hr)
  clear h5 H4 hr
  go_wp2_with fail
  generalize w5.alloc (.cells #[.int .i64 5, .int .i64 0, .int .i64 0, .int .i64 1, .int .i64 0] 30) = w6 at H5 ⊢
  refine (wl_len H5.out).mono ?_
  rintro e w7 ⟨rfl, hr7⟩
  have H7 := Lib.hid (H5.out.past hr7)
  clear hr7 H5
  go_wp2_with fail
  refine (wl_now H7.out).mono ?_
  rintro e w8 ⟨rfl, rfl⟩
  go_wp2
  go_ret
  exact ⟨rfl, H7.out.rest⟩
end Go.Proofs.Ytcjidobdbdfjlaa
