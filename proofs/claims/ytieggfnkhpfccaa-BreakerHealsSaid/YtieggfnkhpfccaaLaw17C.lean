/- BreakerHeals: a breaker that opened is shut when all that try go well; as long as one goes ill, it opens again. -/
import Derived.Test.YtieggfnkhpfccaaLaw17A
import Derived.Test.YtieggfnkhpfccaaLaw17P
import Derived.Deep.DeepCutAuto
namespace Go.Proofs.Ytieggfnkhpfccaa
open Go.RowKit

namespace Br
theorem shut_at {u we wl last : Int} {ev : List (Int × Bool)} (t : Int) : at_ ⟨0, u, we, wl, last, ev⟩ t = ⟨0, u, we, wl, last, ev⟩ := at_other t (show (0 : Int) ≠ 1 by decide)
theorem shut_went (r : BRule) {u we wl last : Int} {ev : List (Int × Bool)} : went r ⟨0, u, we, wl, last, ev⟩ = true := rfl
end Br

set_option maxHeartbeats 4000000 in
set_option maxRecDepth 100000 in
theorem brkheals_any (n0 wd le pa co tr ill : Int) (w : World) :
    Calls Try.prog 3 #[.agg #[.int .i64 n0, .int .i64 wd, .int .i64 le, .int .i64 pa, .int .i64 co, .int .i64 tr], .int .i64 ill] w fun e w' => e = .returned (.bool true) ∧ Below w.heap.size w w' := by
  have H0 := Lib.hid ((Held.start w).lay (.cells #[.int .i64 n0, .int .i64 wd, .int .i64 le, .int .i64 pa, .int .i64 co, .int .i64 tr] 24))
  have hnear := fun w => brknear_any n0 wd le pa co tr w
  have hs : 1 ≤ le % 4 + 1 ∧ le % 4 + 1 ≤ 4 ∧ 0 ≤ co % 16 ∧ co % 16 ≤ 15 ∧ 0 ≤ tr % 4 ∧ tr % 4 ≤ 3 := by omega
  generalize n0 % 4 = n1 at hnear
  generalize wd % 8 = wd1 at hnear
  generalize le % 4 + 1 = le1 at hnear hs
  generalize pa % 128 = pa1 at hnear
  generalize co % 16 = co1 at hnear hs
  generalize tr % 4 = tr1 at hnear hs
  have hlow : bits .and .i64 ill 3 = ill % 4 := low3 ill
  obtain ⟨K, hK, hK3⟩ : ∃ K : Nat, ill % 4 = (K : Int) ∧ K ≤ 3 := ⟨(ill % 4).toNat, by omega, by omega⟩
  rw [hK] at hlow
  clear hK
  have HNW := Lib.hid (fun (w wx : World) (l : List (Nat × Obj)) (h : Held w wx l) => brnew_any ⟨n1, wd1, le1, pa1, co1, tr1⟩ h (by dsimp only; omega))
  obtain ⟨r, hr, hsm, hrt⟩ : ∃ r : BRule, BRule.near ⟨n1, wd1, le1, pa1, co1, tr1⟩ = r ∧ Br.Small r ∧ r.tr = max 1 tr1 :=
    ⟨_, rfl, ⟨by dsimp only [BRule.near]; omega, by dsimp only [BRule.near]; omega, by dsimp only [BRule.near]; omega, by dsimp only [BRule.near]; omega, by dsimp only [BRule.near]; omega, by dsimp only [BRule.near]; omega, by dsimp only [BRule.near]; omega⟩, rfl⟩
  rw [hr] at HNW
  obtain ⟨T, hT, hT1, hT3⟩ : ∃ T : Nat, r.tr = (T : Int) ∧ 1 ≤ T ∧ T ≤ 3 := ⟨r.tr.toNat, by have := hsm.tr0; omega, by have := hsm.tr0; omega, by have := hsm.tr1; omega⟩
  have hm1 : (if 1 < tr1 then tr1 else 1) = (T : Int) := by omega
  have hm2 : (if tr1 < 1 then 1 else tr1) = (T : Int) := by omega
  have HSM := Lib.hid hsm
  have HT := Lib.hid hT
  have HC := Lib.hid (And.intro hsm.co0 hsm.co1)
  clear hs hr hsm hrt hT
  go_enter Try.func3, Try.ntmps3
  go_wp2_with fail
  generalize w.alloc (.cells #[.int .i64 n0, .int .i64 wd, .int .i64 le, .int .i64 pa, .int .i64 co, .int .i64 tr] 24) = w0 at H0 ⊢
  refine (hnear w0).mono ?_
  rintro e w1 ⟨rfl, hb⟩
  have H1 := Lib.hid ((H0.out.call hb).lay (.cells #[.int .i64 n1, .int .i64 wd1, .int .i64 le1, .int .i64 pa1, .int .i64 co1, .int .i64 tr1] 24)).swap.tail
  clear hnear hb H0
  go_wp2_with fail
  generalize w1.alloc (.cells #[.int .i64 n1, .int .i64 wd1, .int .i64 le1, .int .i64 pa1, .int .i64 co1, .int .i64 tr1] 24) = w2 at H1 ⊢
  generalize w1.heap.size = z at H1 ⊢
  refine (HNW.out _ _ _ H1.out).mono ?_
  rintro e w3 ⟨B, P, R, rfl, h3⟩
  generalize hL : [(z, Obj.cells #[.int .i64 n1, .int .i64 wd1, .int .i64 le1, .int .i64 pa1, .int .i64 co1, .int .i64 tr1] 24 (0, 0))] = L at h3
  have HL := Lib.hid hL
  have H3 := Lib.hid (show Brk w w3 B P R r (Br.ill r 0) L by unfold Br.ill; rw [if_pos (by have := HSM.out.le0; omega)]; exact h3)
  clear h3 H1 HNW hL
  go_wp2_with fail
  go_loopg [8] (9 : Nat) (fun gh s8 wx => ∃ i : Nat, s8 = .int .i64 i ∧ i ≤ 8 ∧ 9 - i ≤ gh ∧ Hid (Brk w wx B P R r (Br.ill r i) L))
  case atStart => exact ⟨0, rfl, by omega, by omega, H3⟩
  case round =>
    obtain ⟨i, rfl, hi8, hg, HI⟩ := hrel
    clear H3
    by_cases hl : i < 8
    · have hl' : (i : Int) < 8 := by omega
      have hwi : IntKind.i64.wrap ((i : Int) + 1) = (i : Int) + 1 := by rw [IntKind.wrap_i64]; omega
      go_wp2_with fail
      have hn := brnote_any 0 false HI.out (by have := Br.ill_length r i; omega)
      rw [Br.ill_note HSM.out] at hn
      refine hn.mono ?_
      rintro e w4 ⟨rfl, h4⟩
      have H4 := Lib.hid h4
      clear h4 HI hn
      go_wp2_with fail
      go_roundg (9 - (i + 1))
      case measure => omega
      case rel => exact ⟨i + 1, by go_num, by omega, by omega, H4⟩
    · have hl' : ¬(i : Int) < 8 := by omega
      obtain rfl : i = 8 := by omega
      have HI2 := HI.out
      rw [Br.ill_opened HSM.out] at HI2
      have H4 := Lib.hid HI2
      clear HI HI2 hg hi8 hl
      go_wp2_with fail
      refine (awake17_any wr).mono ?_
      rintro e w5 ⟨rfl, hb⟩
      have H5 := Lib.hid (H4.out.call hb)
      clear hb H4
      go_wp2_with fail
      have hn := brstate_any 0 H5.out
      rw [Br.open_stays (by omega) (by omega) (by have := HC.out; omega) (by have := HC.out; omega) (by have := HC.out; omega)] at hn
      refine hn.mono ?_
      rintro e w6 ⟨rfl, h6⟩
      have H6 := Lib.hid (show Brk w w6 B P R r ⟨1, 20 * ((0 : Nat) : Int) + r.co, 0, 0, 0, []⟩ L by rw [show 20 * ((0 : Nat) : Int) + r.co = r.co by omega]; exact h6)
      clear h6 H5 hn
      go_wp2_with fail
      go_loopg [7, 9] (4 : Nat) (fun gh s7 s9 wx => ∃ (k : Nat) (we wl last : Int), s7 = .int .i64 (20 * (k : Int)) ∧ s9 = .int .i64 k ∧ k ≤ K ∧ 4 - k ≤ gh ∧ Hid (Brk w wx B P R r ⟨1, 20 * (k : Int) + r.co, we, wl, last, []⟩ L))
      case atStart => exact ⟨0, 0, 0, 0, rfl, rfl, by omega, by omega, H6⟩
      case round =>
        obtain ⟨k, we, wl, last, rfl, rfl, hkK, hgk, HI⟩ := hrel
        clear H6
        have hwn : IntKind.i64.wrap (20 * (k : Int) + 20) = 20 * (k : Int) + 20 := by rw [IntKind.wrap_i64]; omega
        by_cases hk : k < K
        · have hk' : (k : Int) < (K : Int) := by omega
          have hwk : IntKind.i64.wrap ((k : Int) + 1) = (k : Int) + 1 := by rw [IntKind.wrap_i64]; omega
          go_wp2_with fail
          have hn := brmay_any (20 * (k : Int) + 20) HI.out
          have hz : (0 : Int) ≠ r.tr := by rw [HT.out]; omega
          rw [Br.open_half (by omega) (by omega) (by have := HC.out; omega) (by have := HC.out; omega), Br.half_went, Br.half_gone hz, show (!((0 : Int) == r.tr)) = true by simpa using hz] at hn
          refine hn.mono ?_
          rintro e w4 ⟨rfl, h4⟩
          have H4 := Lib.hid h4
          clear h4 HI hn hz
          go_wp2_with fail
          have hn := brstate_any (20 * (k : Int) + 20) H4.out
          rw [Br.half_at] at hn
          refine hn.mono ?_
          rintro e w5 ⟨rfl, h5⟩
          have H5 := Lib.hid h5
          clear h5 H4 hn
          go_wp2_with fail
          have hn := brnote_any (20 * (k : Int) + 20) false H5.out (show 0 < 1000000 by decide)
          obtain ⟨last', hla⟩ := Br.half_ill HSM.out (u := 20 * (k : Int) + r.co) (we := 0 + 1) (wl := 0) (last := last) (ev := []) (t := 20 * (k : Int) + 20) (by omega) (by omega)
          rw [hla] at hn
          clear hla
          refine hn.mono ?_
          rintro e w6 ⟨rfl, h6⟩
          have H6 := Lib.hid h6
          clear h6 H5 hn
          go_wp2_with fail
          have hn := brstate_any (20 * (k : Int) + 20) H6.out
          rw [Br.open_stays (by omega) (by omega) (by have := HC.out; omega) (by have := HC.out; omega) (by have := HC.out; omega)] at hn
          refine hn.mono ?_
          rintro e w7 ⟨rfl, h7⟩
          have H7 := Lib.hid (show Brk w w7 B P R r ⟨1, 20 * ((k + 1 : Nat) : Int) + r.co, 0 + 1, 0, last', []⟩ L by rw [show 20 * ((k + 1 : Nat) : Int) + r.co = 20 * (k : Int) + 20 + r.co by omega]; exact h7)
          clear h7 H6 hn
          go_wp2_with fail
          go_roundg (4 - (k + 1))
          case measure => omega
          case rel => exact ⟨k + 1, _, _, _, by rw [show 20 * ((k + 1 : Nat) : Int) = 20 * (k : Int) + 20 by omega], by go_num, by omega, by omega, H7⟩
        · have hk' : ¬(k : Int) < (K : Int) := by omega
          have hat := Br.open_half (u := 20 * (k : Int) + r.co) (we := we) (wl := wl) (last := last) (t := 20 * (k : Int) + 20) (by omega) (by omega) (by have := HC.out; omega) (by have := HC.out; omega)
          generalize 20 * (k : Int) + r.co = U at hat HI
          go_wp2_with fail
          generalize 20 * (k : Int) + 20 = t at hat ⊢
          have H4 := Lib.hid (show ∃ s : Br, s.at_ t = ⟨2, U, ((0 : Nat) : Int), 0, last, []⟩ ∧ Brk w wr B P R r s L from ⟨_, hat, HI.out⟩)
          clear hat hwn HI
          go_loopg [10] (4 : Nat) (fun gh s10 wx => ∃ j : Nat, s10 = .int .i64 j ∧ j ≤ T ∧ 4 - j ≤ gh ∧ Hid (∃ s : Br, s.at_ t = ⟨2, U, (j : Int), 0, last, []⟩ ∧ Brk w wx B P R r s L))
          case atStart => exact ⟨0, rfl, by omega, by omega, H4⟩
          case round =>
            obtain ⟨j, rfl, hjT, hgj, HI⟩ := hrel
            clear H4
            obtain ⟨s, hat, hs⟩ := HI.out
            have HS := Lib.hid (by have hn := brstate_any t hs; rw [hat] at hn; exact hn)
            clear HI hs hat
            go_wp2_with fail
            refine HS.out.mono ?_
            rintro e w4 ⟨rfl, h4⟩
            have H4 := Lib.hid h4
            clear h4 HS
            dsimp only
            by_cases hj : j < T
            · have hj9 : (j : Int) < 9 := by omega
              have hwj : IntKind.i64.wrap ((j : Int) + 1) = (j : Int) + 1 := by rw [IntKind.wrap_i64]; omega
              go_wp2_with fail
              have hn := brmay_any t H4.out
              have hz : (j : Int) ≠ r.tr := by rw [HT.out]; omega
              rw [Br.half_at, Br.half_went, Br.half_gone hz, show (!((j : Int) == r.tr)) = true by simpa using hz] at hn
              refine hn.mono ?_
              rintro e w5 ⟨rfl, h5⟩
              have H5 := Lib.hid (show ∃ s : Br, s.at_ t = ⟨2, U, ((j + 1 : Nat) : Int), 0, last, []⟩ ∧ Brk w w5 B P R r s L from ⟨_, Br.half_at t, by rw [show ((j + 1 : Nat) : Int) = (j : Int) + 1 by omega]; exact h5⟩)
              clear h5 H4 hn hz
              go_wp2_with fail
              go_roundg (4 - (j + 1))
              case measure => omega
              case rel => exact ⟨j + 1, by go_num, by omega, by omega, H5⟩
            · obtain rfl : j = T := by omega
              go_wp2_with fail
              have hn := brmay_any t H4.out
              rw [← HT.out, Br.half_at, Br.half_went, Br.half_full, show (!(r.tr == r.tr)) = false by simp] at hn
              refine hn.mono ?_
              rintro e w5 ⟨rfl, h5⟩
              have H5 := Lib.hid (show Brk w w5 B P R r ⟨if ((0 : Nat) : Int) = r.tr then 0 else 2, U, r.tr, ((0 : Nat) : Int), last, []⟩ L by rw [if_neg (by rw [HT.out]; omega)]; exact h5)
              clear h5 H4 hn
              go_wp2_with fail
              go_loopg [11] (4 : Nat) (fun gh s11 wx => ∃ (i : Nat) (lt : Int) (ev : List (Int × Bool)), s11 = .int .i64 i ∧ i ≤ j ∧ 4 - i ≤ gh ∧ ev.length ≤ i ∧ Hid (Brk w wx B P R r ⟨if (i : Int) = r.tr then 0 else 2, U, r.tr, (i : Int), lt, ev⟩ L))
              case atStart => exact ⟨0, last, [], rfl, by omega, by omega, by simp, H5⟩
              case round =>
                obtain ⟨i, lt, ev, rfl, hij, hgi, hev, HI⟩ := hrel
                clear H5
                by_cases hi : i < j
                · have hi' : (i : Int) < (j : Int) := by omega
                  have hwi : IntKind.i64.wrap ((i : Int) + 1) = (i : Int) + 1 := by rw [IntKind.wrap_i64]; omega
                  have H4 := Lib.hid (show Brk w wr B P R r ⟨2, U, r.tr, (i : Int), lt, ev⟩ L by have h := HI.out; rw [if_neg (by rw [HT.out]; omega)] at h; exact h)
                  clear HI
                  go_wp2_with fail
                  have hn := brstate_any t H4.out
                  rw [Br.half_at] at hn
                  refine hn.mono ?_
                  rintro e w5 ⟨rfl, h5⟩
                  have H5 := Lib.hid h5
                  clear h5 H4 hn
                  go_wp2_with fail
                  have hn := brnote_any t true H5.out (by dsimp only; omega)
                  obtain ⟨lt', ev', hel, hla⟩ := Br.half_well (r := r) (u := U) (i := (i : Int)) (last := lt) (t := t) (ev := ev) (by rw [HT.out]; omega)
                  rw [hla] at hn
                  clear hla
                  refine hn.mono ?_
                  rintro e w6 ⟨rfl, h6⟩
                  have H6 := Lib.hid (show Brk w w6 B P R r ⟨if ((i + 1 : Nat) : Int) = r.tr then 0 else 2, U, r.tr, ((i + 1 : Nat) : Int), lt', ev'⟩ L by rw [show ((i + 1 : Nat) : Int) = (i : Int) + 1 by omega]; exact h6)
                  clear h6 H5 hn
                  go_wp2_with fail
                  go_roundg (4 - (i + 1))
                  case measure => omega
                  case rel => exact ⟨i + 1, lt', ev', by go_num, by omega, by omega, by omega, H6⟩
                · obtain rfl : i = j := by omega
                  have H4 := Lib.hid (show Brk w wr B P R r ⟨0, U, r.tr, (i : Int), lt, ev⟩ L by have h := HI.out; rw [if_pos HT.out.symm] at h; exact h)
                  have hii : ¬(i : Int) < (i : Int) := by omega
                  clear HI
                  go_wp2_with fail
                  refine (brnote_nil t false wr).mono ?_
                  rintro e w5 ⟨rfl, rfl⟩
                  have hx : wr.heap[z]? = some (.cells #[.int .i64 n1, .int .i64 wd1, .int .i64 le1, .int .i64 pa1, .int .i64 co1, .int .i64 tr1] 24 (0, 0)) := H4.out.wnl.held.get 1 (by rw [← HL.out]; rfl)
                  obtain ⟨-, -, -, -, -, x5⟩ := cells_six hx
                  clear hx
                  go_wp2_with fail
                  have hn := brstate_any t H4.out
                  rw [Br.shut_at] at hn
                  refine hn.mono ?_
                  rintro e w6 ⟨rfl, h6⟩
                  have H6 := Lib.hid h6
                  clear h6 H4 hn x5
                  go_wp2_with fail
                  have hn := brmay_any t H6.out
                  rw [Br.shut_at, Br.shut_went] at hn
                  refine hn.mono ?_
                  rintro e w7 ⟨rfl, h7⟩
                  have H7 := Lib.hid h7.below
                  clear h7 H6 hn
                  go_wp2_with fail
                  refine (brmay_nil t w7).mono ?_
                  rintro e w8 ⟨rfl, rfl⟩
                  go_wp2_with fail
                  refine (brstate_nil t w7).mono ?_
                  rintro e w8 ⟨rfl, rfl⟩
                  go_wp2_with fail
                  refine (brcounts_nil t w7).mono ?_
                  rintro e w8 ⟨rfl, hb⟩
                  have H8 := Lib.hid (on H7.out hb)
                  clear hb H7
                  go_wp2_with fail
                  go_ret
                  exact ⟨rfl, H8.out⟩
end Go.Proofs.Ytieggfnkhpfccaa
