/- awake: of two alarms the earlier is taken first. -/
import Derived.Test.YtfjhknmpolhfeaaDueK
namespace Go.Proofs.Ytfjhknmpolhfeaa
open Go.RowKit Go.Sort

set_option maxHeartbeats 2000000 in
set_option maxRecDepth 100000 in
theorem awake12_any (w : World) : Calls Try.prog 12 #[] w fun e w' => e = .returned (.bool true) ∧ Rest (fun _ => False) w w' := by
  have h5 : Tk.clamp 5 = 5 := by decide
  have h3 : Tk.clamp 3 = 3 := by decide
  go_enter Try.func12, Try.ntmps12
  go_wp2_with fail
  have H0 := Lib.hid (du_new w w (Rest.refl _ _))
  generalize w.alloc _ = w1 at H0 ⊢
  refine (du_put 5 0 0 1 0 w1 H0.out (by decide) (by decide) (by decide)).mono ?_
  rintro e w2 ⟨rfl, hd2, -⟩
  rw [h5] at hd2
  have H2 := Lib.hid (show Du w w2 w.heap.size 1 [⟨5, 0, 0, 1, 0, 0⟩] [] from hd2)
  clear hd2
  go_wp2_with fail
  refine (du_put 3 0 0 2 0 w2 H2.out (by decide) (by decide) (by decide)).mono ?_
  rintro e w3 ⟨rfl, hd3, -⟩
  rw [h3] at hd3
  have H3 := Lib.hid (show Du w w3 w.heap.size 2 [⟨5, 0, 0, 1, 0, 0⟩, ⟨3, 0, 0, 2, 0, 1⟩] [] from hd3)
  clear hd3 H0 H2
  have hb : Hp.Best [⟨5, 0, 0, 1, 0, 0⟩, ⟨3, 0, 0, 2, 0, 1⟩] 1 := ⟨by decide, fun k hk => by
    match k, hk with
    | 0, _ => decide
    | 1, _ => decide, fun k hk => by
    match k, hk with
    | 0, _ => decide⟩
  have ht := du_take 3 w3 H3.out (by decide) hb (by decide)
  have hval : (Hp.alarm (Hp.e [⟨5, 0, 0, 1, 0, 0⟩, ⟨3, 0, 0, 2, 0, 1⟩] 1)).toArray = #[.int .i64 3, .int .i64 0, .int .i64 0, .int .i64 2, .int .i64 0] := rfl
  rw [hval] at ht
  go_wp2_with fail
  refine ht.mono ?_
  rintro e w4 ⟨rfl, hd4, -⟩
  have H4 := Lib.hid (show Du w w4 w.heap.size 2 [⟨5, 0, 0, 1, 0, 0⟩] [] from hd4)
  clear hd4 H3 hb ht hval
  have hf := fun w' (hr : Rest (fun _ => False) w4 w') => du_first (v := 5) w' (H4.out.past hr) (.inr ⟨0, ⟨by decide, fun k hk => by
    match k, hk with
    | 0, _ => decide, fun k hk => absurd hk (Nat.not_lt_zero _)⟩, rfl⟩)
  have HF := Lib.hid hf
  clear hf
  go_wp2_with fail
  refine (HF.out _ (Rest.alloc _ _ _)).mono ?_
  rintro e w5 ⟨rfl, rfl⟩
  go_wp2
  go_ret
  exact ⟨rfl, (H4.out.past (Rest.alloc _ _ _)).rest⟩
end Go.Proofs.Ytfjhknmpolhfeaa
