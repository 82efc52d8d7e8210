/- AdmitMost: what may go on is cut to what there may be. -/
import Derived.Test.YtpknonfiiegnnaaLaw19A
import Derived.Deep.CutBlock
namespace Go.Proofs.Ytpknonfiiegnnaa
open Go.RowKit

namespace Ad
/-- The services ahead of i took what they may, i took k, none behind it any. -/
structure At (X Y : Int) (f : Nat → Int) (i : Nat) (k : Int) : Prop where
  sum : Ad.sum f = min X (i * Y) + k
  here : f i = k
  lo : 0 ≤ k
  hi : k ≤ Y
  most : Ad.sum f ≤ X
  past : ∀ j, i < j → f j = 0

theorem At.start {X Y : Int} (hx : 0 ≤ X) (hy : 0 ≤ Y) : At X Y zero 0 0 := ⟨by simp [Ad.sum, zero]; omega, rfl, by omega, by omega, by simp [Ad.sum, zero]; omega, fun _ _ => rfl⟩
theorem At.step {X Y k : Int} {f : Nat → Int} {i : Nat} (h : At X Y f i k) (hi : i < 4) (hm : may X Y f i = true) : At X Y (took X Y f i) i (k + 1) := by
  have hm' := hm
  simp only [may, decide_eq_true_eq] at hm'
  rw [took, hm, if_pos rfl, h.here]
  have h1 := h.sum
  have h2 := h.lo
  have h3 := h.here
  have h4 := sum_put f (k + 1) hi
  exact ⟨by omega, put_at _ _ _, by omega, by omega, by omega, fun j hj => by rw [put_but _ _ (by omega)]; exact h.past j hj⟩
theorem At.next {X Y k : Int} {f : Nat → Int} {i : Nat} (h : At X Y f i k) (hm : may X Y f i = false) : At X Y (took X Y f i) (i + 1) 0 := by
  have hm' := hm
  simp only [may, decide_eq_false_iff_not] at hm'
  rw [took, hm, if_neg Bool.false_ne_true]
  have h1 := h.sum
  have h2 := h.lo
  have h3 := h.here
  have h4 := h.hi
  have h5 := h.most
  have h6 : ((i + 1 : Nat) : Int) * Y = i * Y + Y := by push_cast; rw [Int.add_mul]; omega
  generalize (i : Int) * Y = m at h1 h6
  exact ⟨by rw [h6]; omega, h.past _ (by omega), by omega, by omega, h5, fun j hj => h.past j (by omega)⟩
end Ad

set_option maxHeartbeats 4000000 in
set_option maxRecDepth 100000 in
/-- The law. -/
theorem admost_any (x y : Int) (w : World) : Calls Try.prog 4 #[.int .i64 x, .int .i64 y] w fun e w' => e = .returned (.bool true) ∧ Below w.heap.size w w' := by
  have HX := Lib.hid (show Ad.cut x = max 0 (min x 64) from rfl)
  have HY := Lib.hid (show Ad.cut y = max 0 (min y 64) from rfl)
  have hX := And.intro (Ad.cut_lo x) (Ad.cut_hi x)
  have hY := And.intro (Ad.cut_lo y) (Ad.cut_hi y)
  have hnew := fun w1 => adv_new (Held.start w1) x y
  generalize Ad.cut x = X at HX hX hnew
  generalize Ad.cut y = Y at HY hY hnew
  obtain ⟨hX0, hX1⟩ := hX
  obtain ⟨hY0, hY1⟩ := hY
  have HT := Lib.hid (fun wx P f i (hi : i < 4) (h : Adv w wx P X Y f []) => adv_take h hi)
  go_enter Try.func4, Try.ntmps4
  go_wp2_with fail
  refine (hnew w).mono ?_
  rintro e w1 ⟨rfl, h1⟩
  generalize w.heap.size = P at h1 ⊢
  have H1 := Lib.hid h1
  clear h1 hnew
  go_wp2_with fail
  go_loopg [6, 7, 8] (5 : Nat) (fun gh s6 s7 s8 wx => ∃ (i : Nat) (f : Nat → Int), s6 = .int .i64 (Ad.sum f) ∧ s7 = .int .i64 i ∧ i ≤ 4 ∧ 5 - i ≤ gh ∧ Hid (Ad.At X Y f i 0) ∧ Hid (Adv w wx P X Y f []))
  case atStart => exact ⟨0, Ad.zero, rfl, rfl, by omega, by omega, Lib.hid (Ad.At.start hX0 hY0), H1⟩
  case round =>
    obtain ⟨i, f, rfl, rfl, hi, hg, HA, HV⟩ := hrel
    clear H1
    by_cases h4 : i < 4
    · have h4' : (i : Int) < 4 := by omega
      have hwi : IntKind.i64.wrap ((i : Int) + 1) = (i : Int) + 1 := by rw [IntKind.wrap_i64]; omega
      go_wp2_with fail
      go_loopg [6, 8] (66 : Nat) (fun gh s6 s8 wx => ∃ (k : Nat) (f : Nat → Int), s6 = .int .i64 (Ad.sum f) ∧ s8 = .int .i64 k ∧ 66 - k ≤ gh ∧ Hid (Ad.At X Y f i k) ∧ Hid (Adv w wx P X Y f []))
      case atStart => exact ⟨0, f, rfl, rfl, by omega, HA, HV⟩
      case round =>
        obtain ⟨k, f, rfl, rfl, hg, HA, HV⟩ := hrel
        have hk := HA.out.hi
        have hk' : (k : Int) < 70 := by omega
        have hk6 : k ≤ 64 := by omega
        have hwk : IntKind.i64.wrap ((k : Int) + 1) = (k : Int) + 1 := by rw [IntKind.wrap_i64]; omega
        have hs := HV.out.ok.sum
        have hws : IntKind.i64.wrap (Ad.sum f + 1) = Ad.sum f + 1 := by rw [IntKind.wrap_i64]; omega
        have hsn : Ad.may X Y f i = true → Ad.sum f + 1 = Ad.sum (Ad.took X Y f i) := fun hm => by rw [Ad.took, hm, if_pos rfl, Ad.sum_put _ _ h4]; omega
        have HSN := Lib.hid hsn
        have HSE := Lib.hid (show Ad.may X Y f i = false → Ad.took X Y f i = f from fun hm => by rw [Ad.took, hm, if_neg Bool.false_ne_true])
        have HM := Lib.hid (fun hm => HA.out.step h4 hm)
        have HE := Lib.hid (fun hm => HA.out.next hm)
        have HTK := Lib.hid (HT.out wr P f i h4 HV.out)
        clear hs hsn hk
        generalize hn : Ad.sum f = n at hws HSN ⊢
        have HN := Lib.hid hn
        generalize Ad.may X Y f i = b at HTK HM HE HSN HSE
        generalize hff : Ad.took X Y f i = f2 at HTK HM HE HSN HSE
        clear hff hn HA HV
        go_wp2_with fail
        refine HTK.out.mono ?_
        rintro e w2 ⟨rfl, h2⟩
        have H2 := Lib.hid h2
        clear h2 HTK
        cases b
        · go_wp2_with fail
          go_roundg (5 - (i + 1))
          case measure => omega
          case rel => exact ⟨i + 1, f2, congrArg (Value.int .i64) (by rw [HSE.out trivial]; exact HN.out.symm), by push_cast; rfl, by omega, by omega, Lib.hid (HE.out trivial), H2⟩
        · go_wp2_with fail
          go_roundg (66 - (k + 1))
          case measure => omega
          case rel => exact ⟨k + 1, f2, congrArg (Value.int .i64) (HSN.out trivial), by push_cast; rfl, by omega, Lib.hid (by push_cast; exact HM.out trivial), H2⟩
    · obtain rfl : i = 4 := by omega
      have hsum : Ad.sum f = min X (4 * Y) := by have := HA.out.sum; omega
      have HS := Lib.hid hsum
      generalize hn : Ad.sum f = n at HS ⊢
      have HN := Lib.hid hn
      clear hn hsum
      go_upto_region 10 with fail
      go_cut [9, 10] (fun s9 s10 wx => s9 = .int .i64 X ∧ s10 = .int .i64 Y ∧ wx = wr)
      case first =>
        rcases (show (x < 0 ∧ x ≤ 64 ∧ X = 0) ∨ (0 ≤ x ∧ x ≤ 64 ∧ X = x) ∨ (0 ≤ x ∧ 64 < x ∧ X = 64) by have := HX.out; omega) with ⟨x1, x2, rfl⟩ | ⟨x1, x2, rfl⟩ | ⟨x1, x2, rfl⟩
        all_goals
          rcases (show (y < 0 ∧ y ≤ 64 ∧ Y = 0) ∨ (0 ≤ y ∧ y ≤ 64 ∧ Y = y) ∨ (0 ≤ y ∧ 64 < y ∧ Y = 64) by have := HY.out; omega) with ⟨y1, y2, rfl⟩ | ⟨y1, y2, rfl⟩ | ⟨y1, y2, rfl⟩
          all_goals
            go_wp2_with fail
            go_meet
            case rel => exact ⟨rfl, rfl, rfl⟩
      case rest =>
        obtain ⟨rfl, rfl, rfl⟩ := hcut
        have HA5 := Lib.hid (fun w => awake19_any w)
        have HL := Lib.hid (fun wz (h : Adv w wz P X Y f []) => alen_any h.ok wz (h.held.get 0 rfl))
        rw [HN.out] at HL
        have hw4 : IntKind.i64.wrap (4 * Y) = 4 * Y := by rw [IntKind.wrap_i64]; omega
        clear HX HY
        have HB := Lib.hid (fun w => atake_nil 0 w)
        have HG := Lib.hid (fun w => agive_nil 0 w)
        have HO := Lib.hid (fun w => ato_nil 0 w)
        rcases (show (X ≤ 4 * Y ∧ n = X) ∨ (¬X ≤ 4 * Y ∧ n = 4 * Y) by have := HS.out; omega) with ⟨hm, rfl⟩ | ⟨hm, rfl⟩
        all_goals
          go_wp2_with fail
          refine (HA5.out _).mono ?_
          rintro e w2 ⟨rfl, hb⟩
          have H2 := Lib.hid (HV.out.call hb)
          clear hb HV
          go_wp2_with fail
          refine (HL.out _ H2.out).mono ?_
          rintro e w3 ⟨rfl, rfl⟩
          go_wp2_with fail
          refine (HB.out _).mono ?_
          rintro e w3 ⟨rfl, hb⟩
          have H3 := Lib.hid (H2.out.call hb)
          clear hb H2
          go_wp2_with fail
          refine (HG.out _).mono ?_
          rintro e w4 ⟨rfl, rfl⟩
          go_wp2_with fail
          refine (alen_nil _).mono ?_
          rintro e w4 ⟨rfl, rfl⟩
          go_wp2_with fail
          refine (HO.out _).mono ?_
          rintro e w4 ⟨rfl, rfl⟩
          go_wp2_with fail
          go_ret
          exact ⟨rfl, H3.out.held.below⟩
end Go.Proofs.Ytpknonfiiegnnaa
