/- CreditRaw: nothing is taken that was not granted; what is granted at once to a service is cut to the most. -/
import Derived.Test.YtnbdnalgmcpecaaCrA
namespace Go.Proofs.Ytnbdnalgmcpecaa
open Go.RowKit Go.Sort

set_option maxHeartbeats 1000000 in
/-- Two. -/
theorem awake21_any (w : World) : Calls Try.prog 8 #[] w fun e w' => e = .returned (.bool true) ∧ Below w.heap.size w w' := by
  have HN := Lib.hid (fun w => crnew_any 2 w)
  have HG := Lib.hid (fun w => crgrant_any (W := Cr.cut 1 2) (G := 0) (T := 0) (o := 0) (r := 2) (n := 5) (m := 2) (G' := 2) (by decide) (by decide) (by decide) (by decide) w)
  have HM := Lib.hid (fun w => crmore_any (L := 0) (S := 0) (n := 2) (L' := 2) (by decide) w)
  have HS := Lib.hid (fun w => crsend_yes (L := 2) (S := 0) (L' := 1) (S' := 1) (by decide) (by decide) (by decide) w)
  go_enter Try.func8, Try.ntmps8
  go_wp2_with fail
  refine (HN.out _).mono ?_
  rintro e w1 ⟨rfl, hb⟩
  have H1 := Lib.hid ((Held.start w).call hb)
  clear hb HN
  go_wp2_with fail
  refine (HG.out _).mono ?_
  rintro e w2 ⟨rfl, hb⟩
  have H2 := Lib.hid (H1.out.call hb)
  clear hb HG H1
  go_upto_region 2 with fail
  have H3 := Lib.hid (H2.out.lay (.cells #[.int .i64 (Cr.cut 1 2), .int .i64 2, .int .i64 0] 23))
  generalize w2.alloc (.cells #[.int .i64 (Cr.cut 1 2), .int .i64 2, .int .i64 0] 23) = w3 at H3 ⊢
  clear H2
  go_wp2_with fail
  refine (HM.out _).mono ?_
  rintro e w4 ⟨rfl, hb⟩
  have H4 := Lib.hid (H3.out.call hb)
  clear hb HM H3
  go_wp2_with fail
  refine (HS.out _).mono ?_
  rintro e w5 ⟨rfl, hb⟩
  have H5 := Lib.hid (H4.out.call hb)
  clear hb HS H4
  go_upto_region 3 with fail
  have H6 := Lib.hid (H5.out.lay (.cells #[.int .i64 1, .int .i64 1] 28))
  generalize w5.alloc (.cells #[.int .i64 1, .int .i64 1] 28) = w6 at H6 ⊢
  clear H5
  obtain ⟨c0, c1, c2⟩ := tri_cells (H6.out.get 1 rfl)
  obtain ⟨d0, d1⟩ := two_cells (H6.out.get 0 rfl)
  go_wp2_with fail
  refine (crout_any (o := 2) (by decide) _).mono ?_
  rintro e w7 ⟨rfl, hb⟩
  have H7 := Lib.hid (H6.out.call hb)
  clear hb H6 c0 c1 c2 d0 d1
  obtain ⟨d0, d1⟩ := two_cells (H7.out.get 0 rfl)
  go_wp2_with fail
  refine (crleft_any _).mono ?_
  rintro e w8 ⟨rfl, hb⟩
  have H8 := Lib.hid (H7.out.call hb)
  clear hb H7
  go_wp2_with fail
  go_ret
  exact ⟨rfl, H8.out.below⟩

set_option maxHeartbeats 1000000 in
/-- The law. -/
theorem creditraw_any (n m : Int) (w : World) : Calls Try.prog 3 #[.int .i64 n, .int .i64 m] w fun e w' => e = .returned (.bool true) ∧ Below w.heap.size w w' := by
  have HN := Lib.hid (fun w => crnew_any m w)
  generalize Cr.cut 1 m = W at HN
  have HT := Lib.hid (fun w => crtake_no (W := W) (G := 0) (T := 0) (by decide) w)
  have hz : Cr.cut 0 n = min (max n 0) 16 := by unfold Cr.cut; omega
  have HM := Lib.hid (fun w => crmore_any (L := 0) (S := 0) (n := n) (L' := Cr.cut 0 n) (by
    have h0 := Cr.cut_lo 0 n
    have h1 : Cr.cut 0 n ≤ 16 := Cr.cut_hi (by omega)
    rw [Int.zero_add, IntKind.wrap_i64]; omega) w)
  generalize Cr.cut 0 n = L at HM hz
  have HZ := Lib.hid hz
  clear hz
  have HS := Lib.hid (fun w => crsend_no 0 w)
  go_enter Try.func3, Try.ntmps3
  go_wp2_with fail
  refine (HN.out _).mono ?_
  rintro e w1 ⟨rfl, hb⟩
  have H1 := Lib.hid ((Held.start w).call hb)
  clear hb HN
  go_wp2_with fail
  refine (HT.out _).mono ?_
  rintro e w2 ⟨rfl, hb⟩
  have H2 := Lib.hid (H1.out.call hb)
  clear hb HT H1
  go_upto_region 2 with fail
  have H3 := Lib.hid (H2.out.lay (.cells #[.int .i64 W, .int .i64 0, .int .i64 0] 23))
  generalize w2.alloc (.cells #[.int .i64 W, .int .i64 0, .int .i64 0] 23) = w3 at H3 ⊢
  clear H2
  go_wp2_with fail
  refine (HM.out _).mono ?_
  rintro e w4 ⟨rfl, hb⟩
  have H4 := Lib.hid (H3.out.call hb)
  clear hb HM H3
  go_upto_region 3 with fail
  have H5 := Lib.hid (H4.out.lay (.cells #[.int .i64 L, .int .i64 0] 28))
  generalize w4.alloc (.cells #[.int .i64 L, .int .i64 0] 28) = w5 at H5 ⊢
  clear H4
  go_wp2_with fail
  refine (HS.out _).mono ?_
  rintro e w6 ⟨rfl, hb⟩
  have H6 := Lib.hid (H5.out.call hb)
  clear hb HS H5
  go_upto_region 4 with fail
  have H7 := Lib.hid (H6.out.lay (.cells #[.int .i64 0, .int .i64 0] 28))
  generalize w6.alloc (.cells #[.int .i64 0, .int .i64 0] 28) = w7 at H7 ⊢
  clear H6
  have hz := HZ.out
  clear HZ
  have q1 : (if n < 0 then 0 else n) = max n 0 := by omega
  have q2 : (if 0 < n then n else 0) = max n 0 := by omega
  generalize max n 0 = x at q1 q2 hz
  have q3 : (if x < 16 then x else 16) = L := by omega
  have q4 : (if 16 < x then 16 else x) = L := by omega
  have q5 : (L == L) = true := by simp
  clear hz
  go_wp2_with fail
  refine (awake21_any _).mono ?_
  rintro e w8 ⟨rfl, hb⟩
  have H8 := Lib.hid (H7.out.call hb)
  clear hb H7
  obtain ⟨c0, c1, c2⟩ := tri_cells (H8.out.get 2 rfl)
  go_wp2_with fail
  refine (crout_any (o := 0) (by decide) _).mono ?_
  rintro e w9 ⟨rfl, hb⟩
  have H9 := Lib.hid (H8.out.call hb)
  clear hb H8 c0 c1 c2
  obtain ⟨d0, d1⟩ := two_cells (H9.out.get 1 rfl)
  go_wp2_with fail
  refine (crleft_any _).mono ?_
  rintro e w10 ⟨rfl, hb⟩
  have H10 := Lib.hid (H9.out.call hb)
  clear hb H9
  go_wp2_with fail
  all_goals (go_ret; exact ⟨rfl, H10.out.below⟩)
end Go.Proofs.Ytnbdnalgmcpecaa
