/- PumpFair: between two turns to one thing all others had theirs; none has nothing. -/
import Derived.Test.YtpognlidhppnaaaLaw29A
import Derived.Deep.CutBlock
namespace Go.Proofs.Ytpognlidhppnaaa
open Go.RowKit Go.Sort

set_option maxRecDepth 100000 in
set_option maxHeartbeats 4000000 in
/-- The law. -/
theorem pumpfair_any (s : Int) (b : Bool) (w : World) : Calls Try.prog 3 #[.int .i64 s, .bool b] w fun e w' => e = .returned (.bool true) ∧ Below w.heap.size w w' := by
  have hs1 : (if s < (1 : Int) then 1 else s) = max s 1 := by omega
  have hs2 : (if (1 : Int) < s then s else 1) = max s 1 := by omega
  have hs3 : (if max s 1 < (4 : Int) then max s 1 else 4) = min (max s 1) 4 := by omega
  have hs4 : (if (4 : Int) < max s 1 then 4 else max s 1) = min (max s 1) 4 := by omega
  obtain ⟨N, hNe⟩ : ∃ N, N = min (max s 1) 4 := ⟨_, rfl⟩
  rw [← hNe] at hs3 hs4
  have hN : 1 ≤ N ∧ N ≤ 4 := by omega
  have hnew : Pm.new s = ⟨N, 0, []⟩ := by unfold Pm.new; congr 1; omega
  have hw2 : IntKind.i64.wrap (2 + N) = 2 + N := by rw [IntKind.wrap_i64]; omega
  have H0 := Lib.hid (pm_made (Own.start (fun _ => False) w) s)
  have HNEW := Lib.hid (pmnew_any s w)
  rw [hnew] at H0 HNEW
  clear hNe hnew
  cases b with
  | false =>
    go_enter Try.func3, Try.ntmps3
    go_wp2_with fail
    refine HNEW.out.mono ?_
    rintro e w1 ⟨rfl, rfl⟩
    have h1 := H0.out
    clear H0 HNEW
    generalize w.alloc _ = w1 at h1 ⊢
    generalize w.heap.size = P at h1 ⊢
    go_wp2_with fail
    have H1 := Lib.hid h1
    clear h1
    go_loopg [8, 9] (4 : Nat) (fun gh s8 _ wx => ∃ k : Nat, s8 = .int .i64 k ∧ k ≤ 3 ∧ 4 - k ≤ gh ∧ Hid (Own (fun _ => False) w wx [Pm.part P ⟨N, 0, []⟩]))
    case atStart => exact ⟨0, rfl, by omega, by omega, H1⟩
    case round =>
      obtain ⟨k, rfl, hk, hg, HK⟩ := hrel
      clear H1
      by_cases h3 : k < 3
      · have h3' : (k : Int) < 3 := by omega
        have hwk : IntKind.i64.wrap ((k : Int) + 1) = (k : Int) + 1 := by rw [IntKind.wrap_i64]; omega
        go_wp2_with fail
        go_loopg [9] (7 : Nat) (fun gh s9 wx => ∃ x : Nat, s9 = .int .i64 x ∧ 1 ≤ x ∧ (x : Int) ≤ 2 + N ∧ 7 - x ≤ gh ∧ Hid (Own (fun _ => False) w wx [Pm.part P (Pm.at' N [] x)]))
        case atStart => exact ⟨1, rfl, Nat.le_refl _, by omega, by omega, Lib.hid (by have := HK.out; rw [← Pm.at_first N []] at this; exact this)⟩
        case round =>
          obtain ⟨x, rfl, hf, hx, hgx, HX⟩ := hrel
          clear HK
          have hwx : IntKind.i64.wrap ((x : Int) + 1) = (x : Int) + 1 := by rw [IntKind.wrap_i64]; omega
          by_cases hlt : (x : Int) < 2 + N
          · go_wp2_with fail
            refine (pmturn_any (i := 0) _ HX.out rfl).mono ?_
            rw [Pm.at_told hN.1 hlt (by intro _; omega), Pm.at_turn hN.1 hlt (by omega) (by intro _; omega)]
            rintro e w3 ⟨rfl, h3⟩
            have H3 := Lib.hid h3
            clear h3 HX
            go_wp2_with fail
            go_roundg (7 - (x + 1))
            case measure => omega
            case rel => exact ⟨x + 1, by go_num, by omega, by omega, by omega, H3⟩
          · have hxe : (x : Int) = 2 + N := by omega
            have H3 : Hid (Own (fun _ => False) w _ [Pm.part P ⟨N, 0, []⟩]) := Lib.hid (by have := HX.out; rw [hxe, Pm.at_end] at this; exact this)
            clear HX hxe
            go_wp2_with fail
            go_roundg (4 - (k + 1))
            case measure => omega
            case rel => exact ⟨k + 1, by go_num, by omega, by omega, H3⟩
      · have h3' : ¬(k : Int) < 3 := by omega
        go_wp2_with fail
        refine (pmput_nil Wk.zero _).mono ?_
        rintro e w4 ⟨rfl, hb⟩
        have H4 := Lib.hid (HK.out.past hb)
        clear hb HK
        go_wp2_with fail
        refine (pmfirst_nil _).mono ?_
        rintro e w5 ⟨rfl, hb⟩
        have H5 := Lib.hid ((H4.out.past hb).lay (.cells #[.int .i64 0, .int .i64 0, .int .i64 0, .int .i64 0, .int .i64 0, .int .u32 0, .int .i64 0, .bool false, .bool false, .int .i64 0, .int .u32 0] 27))
        clear hb H4
        dsimp only
        go_upto_region 19 with fail
        generalize w5.alloc _ = w6 at H5 ⊢
        generalize w5.heap.size = bF at H5 ⊢
        go_wp2_with fail
        refine (awake29_any _).mono ?_
        rintro e w7 ⟨rfl, hb⟩
        have H7 := Lib.hid (H5.out.past hb)
        clear hb H5
        go_wp2_with fail
        refine (pmturn_nil _).mono ?_
        rintro e w8 ⟨rfl, rfl⟩
        go_wp2_with fail
        refine (pmgone_nil _).mono ?_
        rintro e w8 ⟨rfl, rfl⟩
        go_wp2_with fail
        refine (pmlast_nil _).mono ?_
        rintro e w8 ⟨rfl, hb⟩
        have H8 := Lib.hid (H7.out.past hb)
        clear hb H7
        go_wp2_with fail
        refine (pmlen_nil _).mono ?_
        rintro e w9 ⟨rfl, rfl⟩
        go_wp2_with fail
        refine (pmall_nil _).mono ?_
        rintro e w9 ⟨rfl, rfl⟩
        go_wp2_with fail
        go_ret
        exact ⟨rfl, H8.out.below (fun _ => id)⟩
  | true =>
    go_enter Try.func3, Try.ntmps3
    go_wp2_with fail
    refine HNEW.out.mono ?_
    rintro e w1 ⟨rfl, rfl⟩
    have h0 := H0.out
    clear H0 HNEW
    generalize w.alloc _ = w1 at h0 ⊢
    generalize w.heap.size = P at h0 ⊢
    go_wp2_with fail
    refine (pmput_any (i := 0) Wk.zero (Nat.zero_le _) w1 h0 rfl).mono ?_
    rintro e w2 ⟨rfl, h1⟩
    have h1 : Own (fun _ => False) w w2 [Pm.part P ⟨N, 0, [Wk.zero]⟩] := h1
    clear h0
    go_wp2_with fail
    have H1 := Lib.hid h1
    clear h1
    go_loopg [8, 9] (4 : Nat) (fun gh s8 _ wx => ∃ k : Nat, s8 = .int .i64 k ∧ k ≤ 3 ∧ 4 - k ≤ gh ∧ Hid (Own (fun _ => False) w wx [Pm.part P ⟨N, 0, [Wk.zero]⟩]))
    case atStart => exact ⟨0, rfl, by omega, by omega, H1⟩
    case round =>
      obtain ⟨k, rfl, hk, hg, HK⟩ := hrel
      clear H1
      by_cases h3 : k < 3
      · have h3' : (k : Int) < 3 := by omega
        have hwk : IntKind.i64.wrap ((k : Int) + 1) = (k : Int) + 1 := by rw [IntKind.wrap_i64]; omega
        go_wp2_with fail
        go_loopg [9] (7 : Nat) (fun gh s9 wx => ∃ x : Nat, s9 = .int .i64 x ∧ 0 ≤ x ∧ (x : Int) ≤ 2 + N ∧ 7 - x ≤ gh ∧ Hid (Own (fun _ => False) w wx [Pm.part P (Pm.at' N [Wk.zero] x)]))
        case atStart => exact ⟨0, rfl, Nat.le_refl _, by omega, by omega, Lib.hid (by have := HK.out; rw [← Pm.at_first N [Wk.zero]] at this; exact this)⟩
        case round =>
          obtain ⟨x, rfl, hf, hx, hgx, HX⟩ := hrel
          clear HK
          have hwx : IntKind.i64.wrap ((x : Int) + 1) = (x : Int) + 1 := by rw [IntKind.wrap_i64]; omega
          by_cases hlt : (x : Int) < 2 + N
          · go_wp2_with fail
            refine (pmturn_any (i := 0) _ HX.out rfl).mono ?_
            rw [Pm.at_told hN.1 hlt (by intro e; cases e), Pm.at_turn hN.1 hlt (by omega) (by intro e; cases e)]
            rintro e w3 ⟨rfl, h3⟩
            have H3 := Lib.hid h3
            clear h3 HX
            go_wp2_with fail
            go_roundg (7 - (x + 1))
            case measure => omega
            case rel => exact ⟨x + 1, by go_num, by omega, by omega, by omega, H3⟩
          · have hxe : (x : Int) = 2 + N := by omega
            have H3 : Hid (Own (fun _ => False) w _ [Pm.part P ⟨N, 0, [Wk.zero]⟩]) := Lib.hid (by have := HX.out; rw [hxe, Pm.at_end] at this; exact this)
            clear HX hxe
            go_wp2_with fail
            go_roundg (4 - (k + 1))
            case measure => omega
            case rel => exact ⟨k + 1, by go_num, by omega, by omega, H3⟩
      · have h3' : ¬(k : Int) < 3 := by omega
        go_wp2_with fail
        refine (pmput_nil Wk.zero _).mono ?_
        rintro e w4 ⟨rfl, hb⟩
        have H4 := Lib.hid (HK.out.past hb)
        clear hb HK
        go_wp2_with fail
        refine (pmfirst_nil _).mono ?_
        rintro e w5 ⟨rfl, hb⟩
        have H5 := Lib.hid ((H4.out.past hb).lay (.cells #[.int .i64 0, .int .i64 0, .int .i64 0, .int .i64 0, .int .i64 0, .int .u32 0, .int .i64 0, .bool false, .bool false, .int .i64 0, .int .u32 0] 27))
        clear hb H4
        dsimp only
        go_upto_region 19 with fail
        generalize w5.alloc _ = w6 at H5 ⊢
        generalize w5.heap.size = bF at H5 ⊢
        go_wp2_with fail
        refine (awake29_any _).mono ?_
        rintro e w7 ⟨rfl, hb⟩
        have H7 := Lib.hid (H5.out.past hb)
        clear hb H5
        go_wp2_with fail
        refine (pmturn_nil _).mono ?_
        rintro e w8 ⟨rfl, rfl⟩
        go_wp2_with fail
        refine (pmgone_nil _).mono ?_
        rintro e w8 ⟨rfl, rfl⟩
        go_wp2_with fail
        refine (pmlast_nil _).mono ?_
        rintro e w8 ⟨rfl, hb⟩
        have H8 := Lib.hid (H7.out.past hb)
        clear hb H7
        go_wp2_with fail
        refine (pmlen_nil _).mono ?_
        rintro e w9 ⟨rfl, rfl⟩
        go_wp2_with fail
        refine (pmall_nil _).mono ?_
        rintro e w9 ⟨rfl, rfl⟩
        go_wp2_with fail
        go_ret
        exact ⟨rfl, H8.out.below (fun _ => id)⟩
end Go.Proofs.Ytpognlidhppnaaa
