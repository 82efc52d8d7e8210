/- AdmitPlays: how many go on, in all and to each service, is never more than may. -/
import Derived.Test.YtpknonfiiegnnaaLaw19A
import Derived.Test.YtpknonfiiegnnaaLow
namespace Go.Proofs.Ytpknonfiiegnnaa
open Go.RowKit

/-- The law's own count. -/
def four (f : Nat → Int) : Obj := .cells #[.int .i64 (f 0), .int .i64 (f 1), .int .i64 (f 2), .int .i64 (f 3)] 25 (0, 0)
theorem four_at {w : World} {Q : Nat} {f : Nat → Int} (h : w.heap[Q]? = some (four f)) {k : Nat} (hk : k < 4) :
    w.cell? ⟨Q, k, none⟩ = some (.int .i64 (f k)) ∧ w.frozen? ⟨Q, k, none⟩ = false := by
  rcases (show k = 0 ∨ k = 1 ∨ k = 2 ∨ k = 3 by omega) with rfl | rfl | rfl | rfl
  all_goals exact ⟨cell_of_row _ _ _ _ _ _ h, frozen_of_row _ _ _ _ _ h⟩
theorem four_put {w : World} {Q : Nat} {f : Nat → Int} (h : w.heap[Q]? = some (four f)) {k : Nat} (hk : k < 4) (v : Int) :
    (w.setCell ⟨Q, k, none⟩ (.int .i64 v)).heap[Q]? = some (four (Ad.put f k v)) := by
  rcases (show k = 0 ∨ k = 1 ∨ k = 2 ∨ k = 3 by omega) with rfl | rfl | rfl | rfl
  all_goals exact heap_setCell_same _ _ _ _ _ _ h
/-- One of its numbers is written. -/
theorem Held.four {w wx : World} {l : List (Nat × Obj)} {Q : Nat} {f : Nat → Int} (h : Held w wx ((Q, four f) :: l)) {k : Nat} (hk : k < 4) (v : Int) :
    Held w (wx.setCell ⟨Q, k, none⟩ (.int .i64 v)) ((Q, Proofs.Ytpknonfiiegnnaa.four (Ad.put f k v)) :: l) :=
  h.put (h.below.setCell (h.old 0 rfl) _) (four_put (h.get 0 rfl) hk v) (fun _ hj => heap_setCell_other _ _ _ _ hj)

/-- The program's count and the law's own, the same. -/
structure Pla (w wx : World) (P Q : Nat) (x y : Int) (f : Nat → Int) : Prop where
  adv : Adv w wx P x y f [(Q, four f)]
theorem Pla.lay {w wx : World} {P : Nat} {x y : Int} {f : Nat → Int} (h : Adv w wx P x y f []) : Pla w (wx.alloc (four f)) P wx.heap.size x y f := ⟨⟨(h.held.lay _).swap, h.ok, h.most⟩⟩
theorem Pla.call {w wx wy : World} {P Q : Nat} {x y : Int} {f : Nat → Int} (h : Pla w wx P Q x y f) (hb : Below wx.heap.size wx wy) : Pla w wy P Q x y f := ⟨h.adv.call hb⟩
theorem Pla.low {w wx : World} {P Q : Nat} {x y : Int} {f : Nat → Int} (h : Pla w wx P Q x y f) : Below w.heap.size w wx := h.adv.held.below
/-- Both are written. -/
theorem Pla.turn {w wx wy : World} {P Q : Nat} {x y : Int} {f : Nat → Int} (h : Pla w wx P Q x y f) {k : Nat} (hk : k < 4) {v : Int} (h0 : 0 ≤ v) (h1 : v ≤ 64) (hn : wy.heap[P]? = some (adm x y (Ad.put f k v))) (hr : Rest (fun i => i = P) wx wy) :
    wy.cell? ⟨Q, k, none⟩ = some (.int .i64 (f k)) ∧ wy.frozen? ⟨Q, k, none⟩ = false ∧ Pla w (wy.setCell ⟨Q, k, none⟩ (.int .i64 v)) P Q x y (Ad.put f k v) := by
  have hh := h.adv.held.rest hr hn
  have hq := four_at (hh.get 1 rfl) hk
  exact ⟨hq.1, hq.2, ⟨⟨(hh.swap.four hk v).swap, h.adv.ok.put k h0 h1, h.adv.most⟩⟩⟩

set_option maxHeartbeats 4000000 in
set_option maxRecDepth 100000 in
/-- The law. -/
theorem adplays_any (x y : Int) (sp : Option Addr) (len cap bk o : Nat) (L : Nat → Bool) (T : Nat → Int) (w : World) (hsp : 0 < len → sp = some ⟨bk, o, none⟩)
    (hc : ∀ i, i < len → w.cell? ⟨bk, o + i * 2, none⟩ = some (.bool (L i)) ∧ w.cell? ⟨bk, o + i * 2 + 1, none⟩ = some (.int .i64 (T i))) :
    Calls Try.prog 3 #[.int .i64 x, .int .i64 y, .slice sp len cap] w fun e w' => e = .returned (.bool true) ∧ Below w.heap.size w w' := by
  have hX : 0 ≤ bits .and .i64 x 15 ∧ bits .and .i64 x 15 ≤ 15 := by rw [low15]; omega
  have hY : 0 ≤ bits .and .i64 y 7 ∧ bits .and .i64 y 7 ≤ 7 := by rw [show bits .and .i64 y 7 = y % 8 from i64_low y 3 (by omega)]; omega
  have hnew := fun w1 => adv_new (Held.start w1) (bits .and .i64 x 15) (bits .and .i64 y 7)
  rw [Ad.cut_in hX.1 (by omega), Ad.cut_in hY.1 (by omega)] at hnew
  go_enter Try.func3, Try.ntmps3
  go_wp2_with fail
  generalize bits .and .i64 x 15 = X at hX hnew ⊢
  generalize bits .and .i64 y 7 = Y at hY hnew ⊢
  obtain ⟨hX0, hX1⟩ := hX
  obtain ⟨hY0, hY1⟩ := hY
  refine (hnew w).mono ?_
  rintro e w1 ⟨rfl, h1⟩
  generalize w.heap.size = P at h1 ⊢
  have H1 := Lib.hid (show Pla w (w1.alloc (.cells #[.int .i64 0, .int .i64 0, .int .i64 0, .int .i64 0] 25)) P w1.heap.size X Y Ad.zero from Pla.lay h1)
  clear h1 hnew
  go_wp2_with fail
  generalize w1.alloc (.cells #[.int .i64 0, .int .i64 0, .int .i64 0, .int .i64 0] 25) = w2 at H1 ⊢
  generalize w1.heap.size = Q at H1 ⊢
  go_loopg [11, 12] (81 : Nat) (fun gh s11 s12 wx => ∃ (i : Nat) (f : Nat → Int), s11 = .int .i64 (Ad.sum f) ∧ s12 = .int .i64 i ∧ i ≤ 80 ∧ 81 - i ≤ gh ∧ Hid (Pla w wx P Q X Y f))
  case atStart => exact ⟨0, Ad.zero, rfl, rfl, by omega, by omega, H1⟩
  case round =>
    obtain ⟨i, f, rfl, rfl, hi, hg, HI⟩ := hrel
    clear H1
    by_cases hl : i < len
    · have hl' : (i : Int) < (len : Int) := by omega
      by_cases h80 : i < 80
      · have h80' : (i : Int) < 80 := by omega
        have hwi : IntKind.i64.wrap ((i : Int) + 1) = (i : Int) + 1 := by rw [IntKind.wrap_i64]; omega
        obtain rfl := hsp (by omega)
        obtain ⟨y0, y1⟩ := hc i hl
        have x0 : wr.cell? _ = _ := (HI.out.low.cell (cell_block y0)).trans y0
        have x1 : wr.cell? _ = _ := (HI.out.low.cell (cell_block y1)).trans y1
        clear y0 y1 hc
        go_upto_if 42 with fail
        generalize decide (0 < bits .and .i64 (i : Int) 7) = q0
        go_cut [13] (fun s13 wx => ∃ k : Int, s13 = .int .i64 k ∧ wx = wr)
        case first =>
          cases q0
          all_goals
            go_wp2_with fail
            go_meet
            case rel => exact ⟨_, rfl, rfl⟩
        case rest =>
          obtain ⟨k, rfl, rfl⟩ := hcut
          clear x1
          by_cases hin : 0 ≤ k ∧ k < 4
          · obtain ⟨j, rfl⟩ : ∃ j : Nat, k = (j : Int) := ⟨k.toNat, by omega⟩
            have hj : j < 4 := by omega
            have h0 : 0 ≤ (j : Int) := by omega
            have h4 : (j : Int) < 4 := by omega
            have e1 : bits .and .i64 (j : Int) 3 = j := by rw [low3]; omega
            clear hin
            go_upto_if 59 with fail
            generalize L i = d at x0 ⊢
            clear x0
            go_cut [11] (fun s11 wx => ∃ f : Nat → Int, s11 = .int .i64 (Ad.sum f) ∧ Hid (Pla w wx P Q X Y f))
            case first =>
              obtain ⟨cq, -⟩ := four_at (HI.out.adv.held.get 1 rfl) hj
              have hs := HI.out.adv.ok.sum
              have hz := HI.out.adv.ok j
              have HS := Lib.hid (fun v => Ad.sum_put f v hj)
              cases d
              · by_cases h1 : Ad.sum f < X
                · by_cases h2 : f j < Y
                  · have hT := atake_yes hj HI.out.adv.ok h1 h2 (by omega) wc (HI.out.adv.held.get 0 rfl)
                    have HU := Lib.hid (fun wy hn hr => HI.out.turn (wy := wy) hj (v := f j + 1) (by omega) (by omega) hn hr)
                    generalize f j = z at hz cq h2 hT HU HS
                    generalize Ad.sum f = n at hs h1 HS
                    have hwn : IntKind.i64.wrap (n + 1) = n + 1 := by rw [IntKind.wrap_i64]; omega
                    have hwz : IntKind.i64.wrap (z + 1) = z + 1 := by rw [IntKind.wrap_i64]; omega
                    clear HI
                    go_wp2_with fail
                    refine hT.mono ?_
                    rintro e w5 ⟨rfl, hn, hr⟩
                    clear cq hT
                    obtain ⟨cq, fq, hP⟩ := HU.out w5 hn hr
                    have HP := Lib.hid hP
                    clear hP hn hr HU
                    go_wp2_with fail
                    go_meet
                    case rel => exact ⟨Ad.put f j (z + 1), congrArg (Value.int .i64) (by rw [HS.out]; omega), HP⟩
                  · have hT := atake_many hj HI.out.adv.ok h1 (by omega) wc (HI.out.adv.held.get 0 rfl)
                    have HC := Lib.hid (fun wy hb => HI.out.call (wy := wy) hb)
                    generalize hzz : f j = z at cq h2
                    generalize hnn : Ad.sum f = n at h1 ⊢
                    have HN := Lib.hid hnn
                    clear HI hzz hnn
                    go_wp2_with fail
                    refine hT.mono ?_
                    rintro e w5 ⟨rfl, hb⟩
                    clear cq hT
                    go_wp2_with fail
                    go_meet
                    case rel => exact ⟨f, congrArg (Value.int .i64) HN.out.symm, Lib.hid (HC.out _ hb)⟩
                · have hT := atake_full hj HI.out.adv.ok (by omega) wc (HI.out.adv.held.get 0 rfl)
                  have HC := Lib.hid (fun wy hb => HI.out.call (wy := wy) hb)
                  generalize hzz : f j = z at cq
                  generalize hnn : Ad.sum f = n at h1 ⊢
                  have HN := Lib.hid hnn
                  clear HI hzz hnn
                  go_wp2_with fail
                  refine hT.mono ?_
                  rintro e w5 ⟨rfl, hb⟩
                  clear cq hT
                  go_wp2_with fail
                  go_meet
                  case rel => exact ⟨f, congrArg (Value.int .i64) HN.out.symm, Lib.hid (HC.out _ hb)⟩
              · by_cases h1 : 0 < f j
                · have hT := agive_yes (x := X) (y := Y) hj ⟨h1, hz.2⟩ wc (HI.out.adv.held.get 0 rfl)
                  have HU := Lib.hid (fun wy hn hr => HI.out.turn (wy := wy) hj (v := f j - 1) (by omega) (by omega) hn hr)
                  generalize f j = z at hz cq h1 hT HU HS
                  generalize Ad.sum f = n at hs HS
                  have hwn : IntKind.i64.wrap (n - 1) = n - 1 := by rw [IntKind.wrap_i64]; omega
                  have hwz : IntKind.i64.wrap (z - 1) = z - 1 := by rw [IntKind.wrap_i64]; omega
                  clear HI
                  go_wp2_with fail
                  refine hT.mono ?_
                  rintro e w5 ⟨rfl, hn, hr⟩
                  clear cq hT
                  obtain ⟨cq, fq, hP⟩ := HU.out w5 hn hr
                  have HP := Lib.hid hP
                  clear hP hn hr HU
                  go_wp2_with fail
                  go_meet
                  case rel => exact ⟨Ad.put f j (z - 1), congrArg (Value.int .i64) (by rw [HS.out]; omega), HP⟩
                · have hT := agive_no (x := X) (y := Y) hj (by omega) wc (HI.out.adv.held.get 0 rfl)
                  have HC := Lib.hid (fun wy hb => HI.out.call (wy := wy) hb)
                  generalize hzz : f j = z at cq h1
                  generalize hnn : Ad.sum f = n at ⊢
                  have HN := Lib.hid hnn
                  clear HI hzz hnn
                  go_wp2_with fail
                  refine hT.mono ?_
                  rintro e w5 ⟨rfl, rfl⟩
                  clear cq hT
                  go_wp2_with fail
                  go_meet
                  case rel => exact ⟨f, congrArg (Value.int .i64) HN.out.symm, Lib.hid (HC.out _ (Below.refl _ _))⟩
            case rest =>
              obtain ⟨f, rfl, HI⟩ := hcut
              obtain ⟨cq, -⟩ := four_at (HI.out.adv.held.get 1 rfl) hj
              have hlen := fun w h => (alen_any (P := P) (x := X) (y := Y) HI.out.adv.ok w h).mono (fun _ _ h => And.intro h.1 h.2.symm)
              have hto := fun w h => (ato_yes (P := P) (x := X) (y := Y) (f := f) hj w h).mono (fun _ _ h => And.intro h.1 h.2.symm)
              have H := Lib.hid (HI.out.adv.held.get 0 rfl)
              generalize f j = z at cq hto
              have HC := Lib.hid (fun wy hb => HI.out.call (wy := wy) hb)
              generalize hnn : Ad.sum f = n at hlen ⊢
              have HN := Lib.hid hnn
              clear HI hnn
              go_wp2_with fail
              go_quiet ((first | (go_at_call 8; exact Calls.quiet_of_same (hlen _ H.out)) | (go_at_call 9; exact Calls.quiet_of_same (hto _ H.out))))
              go_wp2_with fail
              go_roundg (81 - (i + 1))
              case measure => omega
              case rel => exact ⟨i + 1, f, congrArg (Value.int .i64) HN.out.symm, by push_cast; rfl, by omega, by omega, Lib.hid (HC.out _ (Ad.below_drewN (Below.refl _ _) _))⟩
          · have HT := Lib.hid (fun w => atake_out P k hin w)
            have HG := Lib.hid (fun w => agive_out P k hin w)
            have HO := Lib.hid (fun w => (ato_no P k hin w).mono (fun _ _ h => And.intro h.1 h.2.symm))
            go_upto_region 9 with fail
            go_cut [14] (fun s14 wx => s14 = .bool false ∧ wx = wc)
            case first =>
              by_cases hk : 0 ≤ k
              · have hd : decide (k < 4) = false := by simp; omega
                clear hin
                go_wp2_with fail
                go_meet
                case rel => exact ⟨rfl, rfl⟩
              · clear hin
                go_wp2_with fail
                go_meet
                case rel => exact ⟨rfl, rfl⟩
            case rest =>
              obtain ⟨rfl, rfl⟩ := hcut
              clear hin
              go_upto_if 59 with fail
              generalize L i = d at x0 ⊢
              have HC := Lib.hid (fun wy hb => HI.out.call (wy := wy) hb)
              clear x0 HI
              generalize hnn : Ad.sum f = n
              have HN := Lib.hid hnn
              clear hnn
              go_cut [11] (fun s11 wx => s11 = .int .i64 n ∧ Hid (Pla w wx P Q X Y f))
              case first =>
                cases d
                · go_wp2_with fail
                  refine (HT.out _).mono ?_
                  rintro e w5 ⟨rfl, hb⟩
                  go_wp2_with fail
                  go_meet
                  case rel => exact ⟨rfl, Lib.hid (HC.out _ hb)⟩
                · go_wp2_with fail
                  refine (HG.out _).mono ?_
                  rintro e w5 ⟨rfl, rfl⟩
                  go_wp2_with fail
                  go_meet
                  case rel => exact ⟨rfl, Lib.hid (HC.out _ (Below.refl _ _))⟩
              case rest =>
                clear HC
                obtain ⟨rfl, hcut⟩ := hcut
                have hlen := fun w h => (alen_any (P := P) (x := X) (y := Y) hcut.out.adv.ok w h).mono (fun _ _ h => And.intro h.1 h.2.symm)
                have H := Lib.hid (hcut.out.adv.held.get 0 rfl)
                have HC := Lib.hid (fun wy hb => hcut.out.call (wy := wy) hb)
                rw [HN.out] at hlen
                clear hcut
                go_wp2_with fail
                go_quiet ((first | (go_at_call 8; exact Calls.quiet_of_same (hlen _ H.out)) | (go_at_call 9; exact Calls.quiet_of_same (HO.out _))))
                go_wp2_with fail
                go_roundg (81 - (i + 1))
                case measure => omega
                case rel => exact ⟨i + 1, f, congrArg (Value.int .i64) HN.out.symm, by push_cast; rfl, by omega, by omega, Lib.hid (HC.out _ (Ad.below_drewN (Below.refl _ _) _))⟩
      · obtain rfl : i = 80 := by omega
        go_wp2_with fail
        refine (awake19_any _).mono ?_
        rintro e w5 ⟨rfl, hb⟩
        go_wp2_with fail
        go_ret
        exact ⟨rfl, on HI.out.low hb⟩
    · have hl' : ¬(i : Int) < (len : Int) := by omega
      go_wp2_with fail
      refine (awake19_any _).mono ?_
      rintro e w5 ⟨rfl, hb⟩
      go_wp2_with fail
      go_ret
      exact ⟨rfl, on HI.out.low hb⟩
end Go.Proofs.Ytpknonfiiegnnaa
