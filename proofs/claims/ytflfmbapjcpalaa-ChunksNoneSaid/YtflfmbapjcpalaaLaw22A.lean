/- ChunksNone: of no stream nothing came. -/
import Derived.Test.YtflfmbapjcpalaaChkA
namespace Go.Proofs.Ytflfmbapjcpalaa
open Go.RowKit

set_option maxHeartbeats 1000000 in
/-- In order. -/
theorem awake22_any (w : World) : Calls Try.prog 5 #[] w fun e w' => e = .returned (.bool true) ∧ Below w.heap.size w w' := by
  have HU := Lib.hid ((Upon.start (fun _ => False) w).lay (cks 0 0 false fun _ => 0))
  have HP := Lib.hid (fun w h => ckput_form (P := w.heap.size) (C := 0) (R := 0) (s := 1) (e := false) (f := fun _ => 0) (.inl (by decide)) 5 w h)
  generalize hP : w.heap.size = P at HU
  have H1 := Lib.hid (fun w => ckput_form (P := P) (C := 0) (R := 0) (s := 1) (e := false) (f := fun _ => 0) (.inl (by decide)) 5 w)
  have H2 := Lib.hid (fun w => ckput_yes (P := P) (k := 0) (C := 0) (R := 0) (o := 0) (C' := 1) (f := fun _ => 0) (by decide) (by decide) (by decide) (by decide) (by decide) 6 w)
  have H3 := Lib.hid (fun w => ckread_yes (P := P) (k := 0) (C := 1) (R := 0) (o := 1) (R' := 1) (e := false) (f := Ck.put (fun _ => 0) 0 6) (by decide) (by decide) (by decide) (by decide) (by decide) w)
  clear HP
  go_enter Try.func5, Try.ntmps5
  go_wp2_with fail
  refine (cknew_any w).mono ?_
  rintro e w1 ⟨rfl, rfl⟩
  rw [hP]
  generalize w.alloc (cks 0 0 false fun _ => 0) = w1 at HU ⊢
  go_wp2_with fail
  refine (H1.out _ (HU.out.get 0 rfl)).mono ?_
  rintro e w2 ⟨rfl, rfl⟩
  go_wp2_with fail
  refine (H2.out _ (HU.out.get 0 rfl)).mono ?_
  rintro e w2 ⟨rfl, hn, hr⟩
  have HU2 := Lib.hid (HU.out.put hr hn)
  clear hn hr HU
  go_wp2_with fail
  refine (H3.out _ (HU2.out.get 0 rfl)).mono ?_
  rintro e w3 ⟨rfl, hn, hr⟩
  have HU3 := Lib.hid (HU2.out.put hr hn)
  clear hn hr HU2
  have hf : Ck.put (fun _ => 0) 0 6 0 = 6 := rfl
  rw [hf]
  go_wp2_with fail
  refine (ckcame_any _ (HU3.out.get 0 rfl)).mono ?_
  rintro e w4 ⟨rfl, rfl⟩
  go_wp2_with fail
  refine (ckend_yes _ (HU3.out.get 0 rfl)).mono ?_
  rintro e w5 ⟨rfl, hn, hr⟩
  have HU5 := Lib.hid (HU3.out.put hr hn)
  clear hn hr HU3
  go_wp2_with fail
  refine (ckended_any _ (HU5.out.get 0 rfl)).mono ?_
  rintro e w6 ⟨rfl, rfl⟩
  go_wp2_with fail
  go_ret
  exact ⟨rfl, hP ▸ HU5.out.below (fun _ h => h)⟩

set_option maxHeartbeats 1000000 in
/-- The law. -/
theorem chunksnone_any (s v : Int) (w : World) : Calls Try.prog 3 #[.int .i64 s, .int .u32 v] w fun e w' => e = .returned (.bool true) ∧ Below w.heap.size w w' := by
  go_enter Try.func3, Try.ntmps3
  go_wp2_with fail
  refine (ckread_nil _).mono ?_
  rintro e w1 ⟨rfl, rfl⟩
  go_wp2_with fail
  refine (awake22_any _).mono ?_
  rintro e w2 ⟨rfl, hb⟩
  go_wp2_with fail
  refine (ckput_nil _ _ _).mono ?_
  rintro e w3 ⟨rfl, rfl⟩
  go_wp2_with fail
  refine (ckend_nil _ _).mono ?_
  rintro e w3 ⟨rfl, rfl⟩
  go_wp2_with fail
  refine (ckcame_nil _).mono ?_
  rintro e w3 ⟨rfl, rfl⟩
  go_wp2_with fail
  refine (ckleft_nil _).mono ?_
  rintro e w3 ⟨rfl, rfl⟩
  go_wp2_with fail
  refine (ckended_nil _).mono ?_
  rintro e w3 ⟨rfl, rfl⟩
  go_wp2_with fail
  go_ret
  exact ⟨rfl, hb⟩
end Go.Proofs.Ytflfmbapjcpalaa
