/- RecordNone: no book has none; what is none is not laid. -/
import Derived.Test.YtnllgomafmgbeaaRcE
namespace Go.Proofs.Ytnllgomafmgbeaa
open Go.RowKit

namespace Rc
/-- The law's own record. -/
def three : Rec := ⟨⟨0, 0, 0, 1, 2, 3, 0, false, false, 0, 0⟩, 0, 0, 0, none, 0, 0, 0, none, false, false, false⟩
end Rc
set_option maxRecDepth 10000 in
set_option maxHeartbeats 1000000 in
/-- A record. -/
theorem awake28_any (w : World) : Calls Try.prog 4 #[] w fun e w' => e = .returned (.bool true) ∧ Below w.heap.size w w' := by
  have H1 := Lib.hid (rc_made (Own.start (fun _ => False) w) 1)
  go_enter Try.func4, Try.ntmps4
  go_wp2_with fail
  refine (rcnew_any 1 w).mono ?_
  rintro e w1 ⟨rfl, rfl⟩
  generalize w.alloc _ = w1 at H1 ⊢
  generalize w.heap.size = B at H1 ⊢
  have H2 := Lib.hid (H1.out.lay (Rc.obj Rc.three))
  clear H1
  go_wp2_with fail
  refine (rcput_yes (i := 0) _ H2.out rfl (by decide) rfl).mono ?_
  rintro e w2 ⟨rfl, h3⟩
  have H3 : Hid (Own (fun _ => False) w w2 [Rc.part B 1 [(w1.heap.size, Rc.three)]]) := Lib.hid h3
  clear h3 H2
  generalize w1.heap.size = P at H3 ⊢
  go_wp2_with fail
  refine (rcfind_any 3 _ H3.out (i := 0) rfl).mono ?_
  rintro e w3 ⟨rfl, hb⟩
  have H4 := Lib.hid (H3.out.past hb)
  clear hb H3
  rw [show Rc.tell (Rc.first (Rc.Rec.of 3) [(P, Rc.three)]) = .pointer (some ⟨P, 0, none⟩) from rfl]
  go_wp2_with fail
  refine (rclive_any 1 2 _ H4.out (i := 0) rfl).mono ?_
  rintro e w4 ⟨rfl, hb⟩
  have H5 := Lib.hid (H4.out.past hb)
  clear hb H4
  rw [show Rc.tell (Rc.first (Rc.Rec.live 1 2) [(P, Rc.three)]) = .pointer (some ⟨P, 0, none⟩) from rfl]
  go_wp2_with fail
  refine (rcroom_any _ H5.out (i := 0) rfl).mono ?_
  rintro e w5 ⟨rfl, hb⟩
  have H6 := Lib.hid (H5.out.past hb)
  clear hb H5
  rw [show decide (([(P, Rc.three)].length : Int) < 1) = false from rfl]
  go_wp2_with fail
  refine (rcdrop_yes 3 _ H6.out (i := 0) rfl (k := 0) rfl rfl).mono ?_
  rintro e w6 ⟨rfl, h7⟩
  have H7 : Hid (Own (fun _ => False) w w6 [Rc.part B 1 []]) := Lib.hid h7.tail
  clear h7 H6
  go_wp2_with fail
  refine (rclen_any _ H7.out (i := 0) rfl).mono ?_
  rintro e w7 ⟨rfl, rfl⟩
  rw [show (([] : List (Nat × Rc.Rec)).length : Int) = 0 from rfl]
  go_wp2_with fail
  go_ret
  exact ⟨rfl, H7.out.below (fun _ => id)⟩

set_option maxHeartbeats 1000000 in
/-- The law. -/
theorem recordnone_any (c s g : Int) (w : World) : Calls Try.prog 3 #[.int .u32 c, .int .i64 s, .int .i64 g] w fun e w' => e = .returned (.bool true) ∧ Below w.heap.size w w' := by
  have H0 := Lib.hid (Own.start (fun _ => False) w)
  go_enter Try.func3, Try.ntmps3
  go_wp2_with fail
  refine (awake28_any _).mono ?_
  rintro e w1 ⟨rfl, hb⟩
  have H1 := Lib.hid (H0.out.past hb)
  clear hb H0
  have H2 := Lib.hid (H1.out.lay (Rc.obj ⟨Wk.zero, 0, 0, 0, none, 0, 0, 0, none, false, false, false⟩)).tail
  clear H1
  go_wp2_with fail
  refine (rcput_nil _ _).mono ?_
  rintro e w2 ⟨rfl, hb⟩
  have H3 := Lib.hid (H2.out.past hb)
  clear hb H2
  go_wp2_with fail
  refine (rcfind_nil _ _).mono ?_
  rintro e w3 ⟨rfl, hb⟩
  have H4 := Lib.hid (H3.out.past hb)
  clear hb H3
  go_wp2_with fail
  refine (rclive_nil _ _ _).mono ?_
  rintro e w4 ⟨rfl, hb⟩
  have H5 := Lib.hid (H4.out.past hb)
  clear hb H4
  go_wp2_with fail
  refine (rcdrop_nil _ _).mono ?_
  rintro e w5 ⟨rfl, hb⟩
  have H6 := Lib.hid (H5.out.past hb)
  clear hb H5
  go_wp2_with fail
  refine (rclen_nil _).mono ?_
  rintro e w6 ⟨rfl, rfl⟩
  go_wp2_with fail
  refine (rcroom_nil _).mono ?_
  rintro e w6 ⟨rfl, hb⟩
  have H7 := Lib.hid (H6.out.past hb)
  clear hb H6
  go_wp2_with fail
  refine (rcall_nil _).mono ?_
  rintro e w7 ⟨rfl, rfl⟩
  go_wp2_with fail
  refine (rcnew_any 4 _).mono ?_
  rintro e w7 ⟨rfl, rfl⟩
  have H8 := Lib.hid (H7.out.lay (Rc.head (Rc.room 4) none 0 0)).tail
  clear H7
  generalize w6.alloc _ = w8 at H8 ⊢
  go_wp2_with fail
  refine (rcput_none _ _).mono ?_
  rintro e w9 ⟨rfl, rfl⟩
  go_wp2_with fail
  refine (rcnew_any 99 _).mono ?_
  rintro e w9 ⟨rfl, rfl⟩
  have H9 := Lib.hid (rc_made H8.out 99)
  clear H8
  generalize w8.alloc _ = w9 at H9 ⊢
  go_wp2_with fail
  refine (rclen_any _ H9.out (i := 0) rfl).mono ?_
  rintro e w10 ⟨rfl, rfl⟩
  rw [show (([] : List (Nat × Rc.Rec)).length : Int) = 0 from rfl]
  go_wp2_with fail
  go_ret
  exact ⟨rfl, H9.out.below (fun _ => id)⟩
end Go.Proofs.Ytnllgomafmgbeaa
