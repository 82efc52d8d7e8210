/- The law on several fields: with every word and all fields it returns true, and leaves what was there as it was. -/
import Derived.Test.YtpjgeielcoemaaaWalkE
import Derived.Deep.DeepCutAuto
import Derived.Deep.Light
import Derived.BigQuiet
import Derived.Deep.QuietTactic
namespace Go.Proofs.Ytpjgeielcoemaaa
open Go.RowKit
attribute [local go_sem ↓] Go.wp_at_zero Go.wp_at_succ

theorem rmay_y (a b : Int) (h : Fld.May a b) (w : World) :
    Calls Try.prog 5 #[.int .i64 a, .int .i64 b] w fun e w' => e = .returned (.bool true) ∧ w = w' := by
  obtain ⟨h1, h2, h3⟩ := h
  obtain ⟨x, rfl⟩ := Int.eq_ofNat_of_zero_le h1
  obtain ⟨y, rfl⟩ := Int.eq_ofNat_of_zero_le (show 0 ≤ b by omega)
  exact rmay_yes x y (by omega) (by omega) w

/-- What the law finds out as it goes: behind j bits. -/
def Seen (A B : Nat → Int) (L j : Nat) (p : Bool) : Prop := p = true ↔ ∀ i, i < j → (∀ k, k < L → Fld.May (A k) (B k)) ∧ Fld.cnt A B i L ≤ 1
/-- .. and behind k fields at one bit. -/
def SeenIn (A B : Nat → Int) (k : Nat) (p q : Bool) : Prop := q = true ↔ p = true ∧ ∀ i, i < k → Fld.May (A i) (B i)

theorem seen_start (A B : Nat → Int) (L : Nat) : Seen A B L 0 true := ⟨fun _ _ hi => absurd hi (Nat.not_lt_zero _), fun _ => rfl⟩
theorem in_start (A B : Nat → Int) (p : Bool) : SeenIn A B 0 p p := ⟨fun h => ⟨h, fun _ hi => absurd hi (Nat.not_lt_zero _)⟩, fun h => h.1⟩

theorem rput_bit (x j : Nat) (hx : x < 18446744073709551616) (hj : j < 64) (w : World) :
    Calls Try.prog 10 #[.int .u64 x, .int .i64 j, .int .i64 1, .int .u64 0] w fun e w' => e = .returned (.int .u64 (Fld.put x j 1 0 : Nat)) ∧ w = w' :=
  rput_yes x 0 j 1 hx (by omega) (by omega) (by omega) w

theorem cnt_in {A B : Nat → Int} {j k : Nat} (h : Fld.May (A k) (B k)) (h1 : A k ≤ j) (h2 : (j : Int) < A k + B k) : Fld.cnt A B j (k + 1) = Fld.cnt A B j k + 1 := by
  show Fld.cnt A B j k + (Fld.has (A k) (B k) j).toNat = _
  have : Fld.has (A k) (B k) j = true := decide_eq_true ⟨h, h1, h2⟩
  rw [this]; rfl
theorem cnt_out {A B : Nat → Int} {j k : Nat} (h : ¬ (Fld.May (A k) (B k) ∧ A k ≤ j ∧ (j : Int) < A k + B k)) : Fld.cnt A B j (k + 1) = Fld.cnt A B j k := by
  show Fld.cnt A B j k + (Fld.has (A k) (B k) j).toNat = _
  have : Fld.has (A k) (B k) j = false := decide_eq_false h
  rw [this]; rfl
theorem in_yes {A B : Nat → Int} {k : Nat} {p q : Bool} (h : SeenIn A B k p q) (hm : Fld.May (A k) (B k)) : SeenIn A B (k + 1) p q :=
  ⟨fun e => ⟨(h.1 e).1, fun i hi => by
    by_cases g : i = k
    · rw [g]; exact hm
    · exact (h.1 e).2 i (by omega)⟩, fun e => h.2 ⟨e.1, fun i hi => e.2 i (by omega)⟩⟩
theorem in_no {A B : Nat → Int} {k : Nat} {p : Bool} (hm : ¬ Fld.May (A k) (B k)) : SeenIn A B (k + 1) p false :=
  ⟨(fun e => by cases e), fun e => absurd (e.2 k (by omega)) hm⟩
theorem seen_few {A B : Nat → Int} {L j : Nat} {p q : Bool} (h : Seen A B L j p) (hi : SeenIn A B L p q) (hc : Fld.cnt A B j L ≤ 1) : Seen A B L (j + 1) q :=
  ⟨fun e i hij => by
    obtain ⟨e1, e2⟩ := hi.1 e
    by_cases g : i = j
    · rw [g]; exact ⟨e2, hc⟩
    · exact h.1 e1 i (by omega), fun e => hi.2 ⟨h.2 (fun i hij => e i (by omega)), (e j (by omega)).1⟩⟩
theorem seen_many {A B : Nat → Int} {L j : Nat} (hc : ¬ Fld.cnt A B j L ≤ 1) : Seen A B L (j + 1) false :=
  ⟨(fun e => by cases e), fun e => absurd (e j (by omega)).2 hc⟩
theorem clr_yes {A B : Nat → Int} {L x j : Nat} (h : 0 < Fld.cnt A B j L) : Value.int .u64 ((Fld.put (Fld.clr A B L x j) j 1 0 : Nat) : Int) = .int .u64 ((Fld.clr A B L x (j + 1) : Nat) : Int) := by
  have : Fld.clr A B L x (j + 1) = Fld.put (Fld.clr A B L x j) j 1 0 := if_pos h
  rw [this]
theorem clr_no {A B : Nat → Int} {L x j : Nat} (h : ¬ 0 < Fld.cnt A B j L) : Value.int .u64 ((Fld.clr A B L x j : Nat) : Int) = .int .u64 ((Fld.clr A B L x (j + 1) : Nat) : Int) := by
  have : Fld.clr A B L x (j + 1) = Fld.clr A B L x j := if_neg h
  rw [this]
theorem seen_ok {A B : Nat → Int} {L : Nat} {p : Bool} (h : Seen A B L 64 p) : p = true ↔ Fld.Ok A B L := Iff.trans h (Fld.apart_iff A B L).symm

set_option maxRecDepth 100000 in
set_option maxHeartbeats 4000000 in
theorem law2_any (A B : Nat → Int) (sa : Option Addr) (x len cap bk o L : Nat) (hx : x < 18446744073709551616) (hlen : len ≤ cap) (hcap : cap ≤ 9223372036854775807) (hnil : sa = none → len = 0 ∧ cap = 0) (hL : L = min len 6) (hsa : 0 < L → sa = some ⟨bk, o, none⟩) (w : World)
    (hc : ∀ i, i < L → w.cell? ⟨bk, o + i * 2, none⟩ = some (.int .i64 (A i)) ∧ w.cell? ⟨bk, o + i * 2 + 1, none⟩ = some (.int .i64 (B i))) (hbd : ∀ i, i < L → In64 (A i) ∧ In64 (B i)) :
    Calls Try.prog 4 #[.int .u64 x, .slice sa len cap] w fun e w' => e = .returned (.bool true) ∧ Below w.heap.size w w' := by
  have HC := Lib.hid hc
  have HB := Lib.hid hbd
  have HS := Lib.hid hsa
  have HL := Lib.hid hL
  have HN := Lib.hid hnil
  have hL6 : L ≤ 6 := by omega
  clear hc hbd hsa hL hnil
  go_enter Try.func4, Try.ntmps4
  go_upto_region 1 with fail
  go_cut [5] (fun s5 wx => s5 = .slice sa L cap ∧ w = wx)
  case first =>
    cases sa with
    | none =>
      obtain ⟨rfl, rfl⟩ := HN.out rfl
      go_wp2_with fail
      go_meet
      case rel => exact ⟨by rw [HL.out]; rfl, rfl⟩
    | some a =>
      by_cases h6 : 6 < len
      · go_wp2_with fail
        go_meet
        case rel => exact ⟨by rw [HL.out, Nat.min_eq_right (by omega)], rfl⟩
      · go_wp2_with fail
        go_meet
        case rel => exact ⟨by rw [HL.out, Nat.min_eq_left (by omega)], rfl⟩
  case rest =>
    obtain ⟨rfl, rfl⟩ := hcut
    clear HL HN hlen hcap
    go_wp2_with fail
    go_loopg [6, 7, 8] 64 (fun g s6 s7 s8 wr => ∃ (j : Nat) (p : Bool), j ≤ 64 ∧ g = 64 - j ∧ s8 = .int .i64 j ∧ s6 = .bool p ∧ s7 = .int .u64 (Fld.clr A B L x j : Nat) ∧ Hid (Seen A B L j p) ∧ Below w.heap.size w wr)
    case atStart => exact ⟨0, true, Nat.zero_le _, rfl, rfl, rfl, rfl, seen_start A B L, Below.refl _ _⟩
    case round =>
      obtain ⟨j, p, hj, rfl, rfl, rfl, rfl, hseen, hbel⟩ := hrel
      by_cases hlt : j < 64
      · have hlt2 : (j : Int) < 64 := by omega
        go_wp2_with fail
        go_loopg [6, 9, 10] L (fun g s6 s9 s10 wi => ∃ (k : Nat) (q : Bool), k ≤ L ∧ g = L - k ∧ s10 = .int .i64 k ∧ s9 = .int .i64 (Fld.cnt A B j k : Nat) ∧ s6 = .bool q ∧ Hid (SeenIn A B k p q) ∧ Below w.heap.size w wi)
        case atStart => exact ⟨0, p, Nat.zero_le _, rfl, rfl, rfl, rfl, in_start A B p, hbel⟩
        case round =>
          clear hbel
          obtain ⟨k, q, hk, rfl, rfl, rfl, rfl, hin, hbel⟩ := hrel
          by_cases hkL : k < L
          · obtain rfl := HS.out (by omega)
            have hkL2 : (k : Int) < (L : Int) := by omega
            have hk0 : (0 : Int) ≤ (k : Int) := by omega
            obtain ⟨c0, c1⟩ := elem_in (HC.out k hkL) hbel
            have hcnt := Fld.cnt_le A B j k
            by_cases hm : Fld.May (A k) (B k)
            · have HM := Lib.hid hm
              obtain ⟨m1, m2, m3⟩ := hm
              go_wp2_with fail
              go_region_held3 (fun w' => w'.cell? ⟨bk, o + k * 2, none⟩ = some (.int .i64 (A k)) ∧ w'.cell? ⟨bk, o + k * 2 + 1, none⟩ = some (.int .i64 (B k)) ∧ Below w.heap.size w w')
                (first | assumption | exact ⟨c0, c1, hbel.drew⟩)
                (first | (go_at_call 5; refine (rmay_y (A k) (B k) HM.out _).mono ?_; rintro e w2 ⟨rfl, rfl⟩))
              by_cases g1 : A k ≤ (j : Int)
              · by_cases g2 : (j : Int) < A k + B k
                · go_wp2_with fail
                  go_quiet (fail)
                  go_wp2_with fail
                  go_roundg (L - (k + 1))
                  case measure => go_light; omega
                  case rel => exact ⟨k + 1, q, by omega, rfl, by go_num, by rw [cnt_in HM.out g1 g2]; go_num, rfl, in_yes hin.out HM.out, by first | exact below_drewN hbel.drew _ | exact below_drewN hbel _⟩
                · go_wp2_with fail
                  go_quiet (fail)
                  go_wp2_with fail
                  go_roundg (L - (k + 1))
                  case measure => go_light; omega
                  case rel => exact ⟨k + 1, q, by omega, rfl, by go_num, by rw [cnt_out (fun h => by have := h.2.2; omega)], rfl, in_yes hin.out HM.out, by first | exact below_drewN hbel.drew _ | exact below_drewN hbel _⟩
              · have gd : decide (A k ≤ (j : Int)) = false := decide_eq_false g1
                go_wp2_with fail
                go_quiet (fail)
                go_wp2_with fail
                go_roundg (L - (k + 1))
                case measure => go_light; omega
                case rel => exact ⟨k + 1, q, by omega, rfl, by go_num, by rw [cnt_out (fun h => by have := h.2.1; omega)], rfl, in_yes hin.out HM.out, by first | exact below_drewN hbel.drew _ | exact below_drewN hbel _⟩
            · have HM := Lib.hid hm
              clear hm
              go_wp2_with fail
              go_region_held3 (fun w' => w'.cell? ⟨bk, o + k * 2, none⟩ = some (.int .i64 (A k)) ∧ w'.cell? ⟨bk, o + k * 2 + 1, none⟩ = some (.int .i64 (B k)) ∧ Below w.heap.size w w')
                (first | assumption | exact ⟨c0, c1, hbel.drew⟩)
                (first | (go_at_call 5; refine (rmay_no (A k) (B k) HM.out (HB.out k hkL).1 (HB.out k hkL).2 _).mono ?_; rintro e w2 ⟨rfl, rfl⟩))
              go_wp2_with fail
              go_roundg (L - (k + 1))
              case measure => go_light; omega
              case rel => exact ⟨k + 1, false, by omega, rfl, by go_num, by rw [cnt_out (fun h => HM.out h.1)], rfl, in_no HM.out, hbel.drew⟩
          · obtain rfl : k = L := by omega
            have hcl := Fld.clr_lt A B k hx j hj
            by_cases hc0 : 0 < Fld.cnt A B j k
            · by_cases hc1 : 1 < Fld.cnt A B j k
              · have e0 : (0 : Int) < (Fld.cnt A B j k : Nat) := by omega
                have e1 : (1 : Int) < (Fld.cnt A B j k : Nat) := by omega
                go_wp2_with fail
                refine (rput_bit _ j hcl hlt _).mono ?_
                rintro e w2 ⟨rfl, rfl⟩
                go_wp2_with fail
                go_roundg (64 - (j + 1))
                case measure => go_light; omega
                case rel => exact ⟨j + 1, false, by omega, rfl, by go_num, rfl, clr_yes hc0, seen_many (by omega), hbel⟩
              · have e0 : (0 : Int) < (Fld.cnt A B j k : Nat) := by omega
                have e1 : ¬ (1 : Int) < (Fld.cnt A B j k : Nat) := by omega
                go_wp2_with fail
                refine (rput_bit _ j hcl hlt _).mono ?_
                rintro e w2 ⟨rfl, rfl⟩
                go_wp2_with fail
                go_roundg (64 - (j + 1))
                case measure => go_light; omega
                case rel => exact ⟨j + 1, q, by omega, rfl, by go_num, rfl, clr_yes hc0, seen_few hseen.out hin.out (by omega), hbel⟩
            · have e0 : ¬ (0 : Int) < (Fld.cnt A B j k : Nat) := by omega
              have e1 : ¬ (1 : Int) < (Fld.cnt A B j k : Nat) := by omega
              go_wp2_with fail
              go_roundg (64 - (j + 1))
              case measure => go_light; omega
              case rel => exact ⟨j + 1, q, by omega, rfl, by go_num, rfl, clr_no hc0, seen_few hseen.out hin.out (by omega), hbel⟩
      · obtain rfl : j = 64 := by omega
        clear hlt hj
        have hcr := Fld.rest_clr A B L hx
        have HR := Lib.hid hcr
        clear hcr
        go_wp2_with fail
        refine (awake_any _).mono ?_
        rintro e w1 ⟨rfl, hb1⟩
        have hb2 := hbel.trans (hb1.mono hbel.size)
        clear hb1 hbel
        go_wp2_with fail
        refine (apart_any A B sa L cap bk o hL6 HS.out p (seen_ok hseen.out) _ ?_ HB.out).mono ?_
        · exact fun i hi => elem_in (HC.out i hi) hb2
        rintro e w3 ⟨rfl, hb3⟩
        have hb4 := hb2.trans (hb3.mono hb2.size)
        clear hb3 hb2
        go_wp2_with fail
        refine (rest_any A B sa x L cap bk o hx hL6 HS.out _ ?_ HB.out).mono ?_
        · exact fun i hi => elem_in (HC.out i hi) hb4
        rintro e w5 ⟨rfl, hb5⟩
        have hb6 := hb4.trans (hb5.mono hb4.size)
        clear hb5 hb4
        rw [HR.out]
        go_wp2_with fail
        go_ret
        exact ⟨rfl, hb6⟩

end Go.Proofs.Ytpjgeielcoemaaa
