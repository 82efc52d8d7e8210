/- container/heap's down over a queue of entries. -/
import Derived.Test.YtfjhknmpolhfeaaDueD
namespace Go.Proofs.Ytfjhknmpolhfeaa
open Go.RowKit Go.Sort

/-- It tells something. -/
def Back (e : Ending) : Prop := ∃ b, e = .returned (.bool b)

set_option maxHeartbeats 4000000 in
/-- The root goes down among the first nn. -/
theorem down_any {B P g off cap : Nat} {n : Int} {q : List En} (w : World) (h : Dq w B P g off cap n q) (hm : q.length ≤ 1000000) {q0 : List En} {nn : Nat} (hu : Hp.Down q0 q nn 0) :
    Calls Try.prog 20 #[.iface 49 (.pointer (some ⟨P, 0, none⟩)), .int .i64 0, .int .i64 nn] w fun e w' => Back e ∧ ∃ q', Dq w' B P g off cap n q' ∧ (∃ i, Hp.Down q0 q' nn i) ∧ Hp.Heap q' nn ∧ Rest (fun k => k = g) w w' := by
  have HH := Lib.hid h
  have HU := Lib.hid hu
  have HM := Lib.hid hm
  clear h hu hm
  go_enter Try.func20, Try.ntmps20
  go_wp2_with fail
  go_loopg [7] nn (fun g1 v wr => ∃ (k : Nat) (qk : List En), v = .int .i64 k ∧ nn - k ≤ g1 ∧ k ≤ nn ∧ Hid (Dq wr B P g off cap n qk) ∧ Hid (Hp.Down q0 qk nn k) ∧ Hid (qk.length ≤ 1000000) ∧ Hid (Rest (fun k => k = g) w wr))
  case atStart => exact ⟨0, q, rfl, by omega, by omega, HH, HU, HM, Rest.refl _ _⟩
  case round =>
    obtain ⟨k, qk, rfl, hk, hkn, HD, HUk, HMk, HRk⟩ := hrel
    have hmost := HUk.out.most
    have hml := HMk.out
    by_cases hge : 2 * k + 1 < nn
    · have e1 : (((2 * k + 1 : Nat)) : Int) = 2 * (k : Int) + 1 := by omega
      have e2 : (((2 * k + 2 : Nat)) : Int) = 2 * (k : Int) + 1 + 1 := by omega
      have n0 : ¬ (2 * (k : Int) + 1 ≥ (nn : Int)) := by omega
      by_cases h2 : 2 * k + 2 < nn
      · cases hv0 : En.lt (Hp.e qk (2 * k + 2)) (Hp.e qk (2 * k + 1)) with
        | true =>
          have hkid : Hp.kid qk nn k = 2 * k + 2 := by unfold Hp.kid; rw [if_pos ⟨h2, hv0⟩]
          have hl := qless_any wr HD.out.row hml (i := 2 * k + 2) (j := 2 * k + 1) (by omega) (by omega)
          rw [hv0, e1, e2] at hl
          have mL := less_met wr P _ HD.out.cell
          simp only [Try.types_size, Nat.reduceAdd] at mL
          go_wp2_with fail
          refine hl.mono ?_
          rintro e w2 ⟨rfl, m2, os2, hw2⟩
          have hr2 : Rest (fun _ => False) wr w2 := by rw [hw2]; exact Rest.grow _ _ _ _
          clear hw2 hl mL
          have HD2 := Lib.hid (HD.out.none hr2)
          have HR2 := Lib.hid (HRk.out.trans (o3 := fun k => k = g) hr2 (fun _ _ => id) (fun _ _ => False.elim))
          clear hr2
          have hkl := Hp.kid_lt (q := qk) (n := nn) (i := k) hge
          rw [hkid] at hkl
          cases hv : En.lt (Hp.e qk (2 * k + 2)) (Hp.e qk k) with
          | true =>
            have hl := qless_any w2 HD2.out.row hml (i := 2 * k + 2) (j := k) (by omega) (by omega)
            rw [hv, e2] at hl
            have mL := less_met w2 P _ HD2.out.cell
            simp only [Try.types_size, Nat.reduceAdd] at mL
            go_wp2_with fail
            refine hl.mono ?_
            rintro e w3 ⟨rfl, m3, os3, hw3⟩
            have hr3 : Rest (fun _ => False) w2 w3 := by rw [hw3]; exact Rest.grow _ _ _ _
            clear hw3 hl mL
            have HD3 := Lib.hid (HD2.out.none hr3)
            have mS := swap_met w3 P _ HD3.out.cell
            simp only [Try.types_size, Nat.reduceAdd] at mS
            have hs := qswap_any w3 HD3.out.row hml (i := k) (j := 2 * k + 2) (by omega) (by omega)
            rw [e2] at hs
            go_wp2_with fail
            refine hs.mono ?_
            rintro e w4 ⟨rfl, hrow, hr4⟩
            have HD4 := Lib.hid (HD3.out.turned hr4 (Hp.sw_length _ _ _) hrow)
            have HU4 := Lib.hid (HUk.out.step hge (by rw [hkid]; exact hv))
            rw [hkid] at HU4
            have HR4 := Lib.hid ((HR2.out.trans (o3 := fun k => k = g) hr3 (fun _ _ => id) (fun _ _ => False.elim)).trans (o3 := fun k => k = g) hr4 (fun _ _ => id) (fun _ _ => id))
            have HM4 := Lib.hid (show (Hp.sw qk k (2 * k + 2)).length ≤ 1000000 by rw [Hp.sw_length]; exact hml)
            clear hs mS hr3 hr4 hrow HD3 HUk HRk HMk
            go_wp2_with fail
            go_roundg (nn - (2 * k + 2))
            case measure => omega
            case rel => exact ⟨2 * k + 2, _, by first | rfl | rw [e2] | go_num, by omega, by omega, HD4, HU4, HM4, HR4⟩
          | false =>
            have hl := qless_any w2 HD2.out.row hml (i := 2 * k + 2) (j := k) (by omega) (by omega)
            rw [hv, e2] at hl
            have mL := less_met w2 P _ HD2.out.cell
            simp only [Try.types_size, Nat.reduceAdd] at mL
            go_wp2_with fail
            refine hl.mono ?_
            rintro e w3 ⟨rfl, m3, os3, hw3⟩
            have hr3 : Rest (fun _ => False) w2 w3 := by rw [hw3]; exact Rest.grow _ _ _ _
            clear hw3 hl mL
            go_wp2
            go_ret
            exact ⟨⟨_, rfl⟩, qk, HD2.out.none hr3, ⟨k, HUk.out⟩, HUk.out.stop (.inr (by rw [hkid]; exact hv)), HR2.out.trans (o3 := fun k => k = g) hr3 (fun _ _ => id) (fun _ _ => False.elim)⟩
        | false =>
          have hkid : Hp.kid qk nn k = 2 * k + 1 := by unfold Hp.kid; rw [if_neg (fun x => by rw [hv0] at x; cases x.2)]
          have hl := qless_any wr HD.out.row hml (i := 2 * k + 2) (j := 2 * k + 1) (by omega) (by omega)
          rw [hv0, e1, e2] at hl
          have mL := less_met wr P _ HD.out.cell
          simp only [Try.types_size, Nat.reduceAdd] at mL
          go_wp2_with fail
          refine hl.mono ?_
          rintro e w2 ⟨rfl, m2, os2, hw2⟩
          have hr2 : Rest (fun _ => False) wr w2 := by rw [hw2]; exact Rest.grow _ _ _ _
          clear hw2 hl mL
          have HD2 := Lib.hid (HD.out.none hr2)
          have HR2 := Lib.hid (HRk.out.trans (o3 := fun k => k = g) hr2 (fun _ _ => id) (fun _ _ => False.elim))
          clear hr2
          have hkl := Hp.kid_lt (q := qk) (n := nn) (i := k) hge
          rw [hkid] at hkl
          cases hv : En.lt (Hp.e qk (2 * k + 1)) (Hp.e qk k) with
          | true =>
            have hl := qless_any w2 HD2.out.row hml (i := 2 * k + 1) (j := k) (by omega) (by omega)
            rw [hv, e1] at hl
            have mL := less_met w2 P _ HD2.out.cell
            simp only [Try.types_size, Nat.reduceAdd] at mL
            go_wp2_with fail
            refine hl.mono ?_
            rintro e w3 ⟨rfl, m3, os3, hw3⟩
            have hr3 : Rest (fun _ => False) w2 w3 := by rw [hw3]; exact Rest.grow _ _ _ _
            clear hw3 hl mL
            have HD3 := Lib.hid (HD2.out.none hr3)
            have mS := swap_met w3 P _ HD3.out.cell
            simp only [Try.types_size, Nat.reduceAdd] at mS
            have hs := qswap_any w3 HD3.out.row hml (i := k) (j := 2 * k + 1) (by omega) (by omega)
            rw [e1] at hs
            go_wp2_with fail
            refine hs.mono ?_
            rintro e w4 ⟨rfl, hrow, hr4⟩
            have HD4 := Lib.hid (HD3.out.turned hr4 (Hp.sw_length _ _ _) hrow)
            have HU4 := Lib.hid (HUk.out.step hge (by rw [hkid]; exact hv))
            rw [hkid] at HU4
            have HR4 := Lib.hid ((HR2.out.trans (o3 := fun k => k = g) hr3 (fun _ _ => id) (fun _ _ => False.elim)).trans (o3 := fun k => k = g) hr4 (fun _ _ => id) (fun _ _ => id))
            have HM4 := Lib.hid (show (Hp.sw qk k (2 * k + 1)).length ≤ 1000000 by rw [Hp.sw_length]; exact hml)
            clear hs mS hr3 hr4 hrow HD3 HUk HRk HMk
            go_wp2_with fail
            go_roundg (nn - (2 * k + 1))
            case measure => omega
            case rel => exact ⟨2 * k + 1, _, by first | rfl | rw [e1] | go_num, by omega, by omega, HD4, HU4, HM4, HR4⟩
          | false =>
            have hl := qless_any w2 HD2.out.row hml (i := 2 * k + 1) (j := k) (by omega) (by omega)
            rw [hv, e1] at hl
            have mL := less_met w2 P _ HD2.out.cell
            simp only [Try.types_size, Nat.reduceAdd] at mL
            go_wp2_with fail
            refine hl.mono ?_
            rintro e w3 ⟨rfl, m3, os3, hw3⟩
            have hr3 : Rest (fun _ => False) w2 w3 := by rw [hw3]; exact Rest.grow _ _ _ _
            clear hw3 hl mL
            go_wp2
            go_ret
            exact ⟨⟨_, rfl⟩, qk, HD2.out.none hr3, ⟨k, HUk.out⟩, HUk.out.stop (.inr (by rw [hkid]; exact hv)), HR2.out.trans (o3 := fun k => k = g) hr3 (fun _ _ => id) (fun _ _ => False.elim)⟩
      · have hkid : Hp.kid qk nn k = 2 * k + 1 := by unfold Hp.kid; rw [if_neg (fun x => h2 x.1)]
        have hkl := Hp.kid_lt (q := qk) (n := nn) (i := k) hge
        rw [hkid] at hkl
        cases hv : En.lt (Hp.e qk (2 * k + 1)) (Hp.e qk k) with
        | true =>
          have hl := qless_any wr HD.out.row hml (i := 2 * k + 1) (j := k) (by omega) (by omega)
          rw [hv, e1] at hl
          have mL := less_met wr P _ HD.out.cell
          simp only [Try.types_size, Nat.reduceAdd] at mL
          go_wp2_with fail
          refine hl.mono ?_
          rintro e w3 ⟨rfl, m3, os3, hw3⟩
          have hr3 : Rest (fun _ => False) wr w3 := by rw [hw3]; exact Rest.grow _ _ _ _
          clear hw3 hl mL
          have HD3 := Lib.hid (HD.out.none hr3)
          have mS := swap_met w3 P _ HD3.out.cell
          simp only [Try.types_size, Nat.reduceAdd] at mS
          have hs := qswap_any w3 HD3.out.row hml (i := k) (j := 2 * k + 1) (by omega) (by omega)
          rw [e1] at hs
          go_wp2_with fail
          refine hs.mono ?_
          rintro e w4 ⟨rfl, hrow, hr4⟩
          have HD4 := Lib.hid (HD3.out.turned hr4 (Hp.sw_length _ _ _) hrow)
          have HU4 := Lib.hid (HUk.out.step hge (by rw [hkid]; exact hv))
          rw [hkid] at HU4
          have HR4 := Lib.hid ((HRk.out.trans (o3 := fun k => k = g) hr3 (fun _ _ => id) (fun _ _ => False.elim)).trans (o3 := fun k => k = g) hr4 (fun _ _ => id) (fun _ _ => id))
          have HM4 := Lib.hid (show (Hp.sw qk k (2 * k + 1)).length ≤ 1000000 by rw [Hp.sw_length]; exact hml)
          clear hs mS hr3 hr4 hrow HD3 HUk HRk HMk
          go_wp2_with fail
          go_roundg (nn - (2 * k + 1))
          case measure => omega
          case rel => exact ⟨2 * k + 1, _, by first | rfl | rw [e1] | go_num, by omega, by omega, HD4, HU4, HM4, HR4⟩
        | false =>
          have hl := qless_any wr HD.out.row hml (i := 2 * k + 1) (j := k) (by omega) (by omega)
          rw [hv, e1] at hl
          have mL := less_met wr P _ HD.out.cell
          simp only [Try.types_size, Nat.reduceAdd] at mL
          go_wp2_with fail
          refine hl.mono ?_
          rintro e w3 ⟨rfl, m3, os3, hw3⟩
          have hr3 : Rest (fun _ => False) wr w3 := by rw [hw3]; exact Rest.grow _ _ _ _
          clear hw3 hl mL
          go_wp2
          go_ret
          exact ⟨⟨_, rfl⟩, qk, HD.out.none hr3, ⟨k, HUk.out⟩, HUk.out.stop (.inr (by rw [hkid]; exact hv)), HRk.out.trans (o3 := fun k => k = g) hr3 (fun _ _ => id) (fun _ _ => False.elim)⟩
    · go_wp2
      go_ret
      exact ⟨⟨_, rfl⟩, qk, HD.out, ⟨k, HUk.out⟩, HUk.out.stop (.inl (by omega)), HRk.out⟩
end Go.Proofs.Ytfjhknmpolhfeaa
