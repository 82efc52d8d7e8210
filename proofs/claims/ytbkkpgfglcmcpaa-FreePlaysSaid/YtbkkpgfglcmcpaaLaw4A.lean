/- The law's own first look, and the law on how many there are: true whatever comes. -/
import Derived.Test.YtbkkpgfglcmcpaaFreB
namespace Go.Proofs.Ytbkkpgfglcmcpaa
open Go.RowKit

set_option maxHeartbeats 800000 in
theorem awake4_any (w : World) : Calls Try.prog 11 #[] w fun e w' => e = .returned (.bool true) ∧ Below w.heap.size w w' := by
  go_enter Try.func11, Try.ntmps11
  go_wp2_with fail
  refine (fnew_any 2 2 (by decide) _).mono ?_
  rintro e w1 ⟨s, rfl, h1, hR1⟩
  have hb1 := hR1.below (Nat.le_refl _) (fun k hk => hk.elim)
  have h1' : Free w1 w.heap.size s ⟨[0, 1], 2⟩ := h1
  clear hR1 h1
  go_wp2_with fail
  refine (take_yes _ h1').mono ?_
  rintro e w2 ⟨rfl, hN⟩
  have hb2 := hb1.trans (hN.below h1')
  obtain ⟨L2, -, h2, -⟩ := hN
  clear h1' hb1
  go_wp2_with fail
  refine (flen_any _ h2).mono ?_
  rintro e w3 ⟨rfl, rfl⟩
  go_wp2_with fail
  refine (give_yes 0 _ h2 (by decide) (by decide)).mono ?_
  rintro e w3 ⟨rfl, hN⟩
  have hb3 := hb2.trans (hN.below h2)
  obtain ⟨L3, -, h3, -⟩ := hN
  have h3' : Free w3 w.heap.size ⟨s.P, s.M, L3⟩ ⟨[1, 0], 2⟩ := h3
  clear h2 hb2 h3
  go_wp2_with fail
  refine (give_no 0 _ h3' (by decide)).mono ?_
  rintro e w4 ⟨rfl, rfl⟩
  go_wp2_with fail
  refine (fhas_in 0 _ h3' (by decide)).mono ?_
  rintro e w4 ⟨rfl, rfl⟩
  go_wp2_with fail
  go_ret
  exact ⟨rfl, hb3⟩

theorem fhas_any {B : Nat} {s : FSpot} {m : Nat} (x : Int) (w : World) (h : Free w B s ⟨List.range m, m⟩) : Calls Try.prog 10 #[.pointer (some ⟨s.P, 0, none⟩), .int .i64 x] w fun e w' => e = .returned (.bool (decide (0 ≤ x ∧ x < m))) ∧ w = w' := by
  by_cases hx : 0 ≤ x ∧ x < m
  · obtain ⟨i, rfl⟩ := Int.eq_ofNat_of_zero_le hx.1
    have hi : i < m := by omega
    refine (fhas_in i w h hi).mono fun e w' ⟨he, hw⟩ => ⟨he.trans (retb ?_), hw⟩
    rw [decide_eq_true hx]
    simp [hi]
  · refine (fhas_out x w h hx).mono fun e w' ⟨he, hw⟩ => ⟨he.trans (retb ?_), hw⟩
    rw [decide_eq_false hx]
theorem give_full {B : Nat} {s : FSpot} {m : Nat} (x : Int) (w : World) (h : Free w B s ⟨List.range m, m⟩) : Calls Try.prog 6 #[.pointer (some ⟨s.P, 0, none⟩), .int .i64 x] w fun e w' => e = .returned (.bool false) ∧ w = w' := by
  by_cases hx : 0 ≤ x ∧ x < m
  · obtain ⟨i, rfl⟩ := Int.eq_ofNat_of_zero_le hx.1
    exact give_no i w h (by simp; omega)
  · exact give_out x w h hx

set_option maxHeartbeats 800000 in
theorem sizes_any (n x : Int) (w : World) :
    Calls Try.prog 4 #[.int .i64 n, .int .i64 x] w fun e w' => e = .returned (.bool true) ∧ Below w.heap.size w w' := by
  obtain ⟨m, hm⟩ : ∃ m : Nat, (m : Int) = min (max n 0) 1024 := ⟨(min (max n 0) 1024).toNat, by omega⟩
  have HM := Lib.hid hm
  have hm1 : m ≤ 1024 := by omega
  clear hm
  go_enter Try.func4, Try.ntmps4
  go_wp2_with fail
  refine (fnew_any n m HM.out _).mono ?_
  rintro e w1 ⟨s, rfl, h1, hR1⟩
  have hb1 := hR1.below (Nat.le_refl _) (fun k hk => hk.elim)
  have H1 := Lib.hid h1
  clear hR1 h1
  go_upto_region 2 with fail
  go_cut [6] (fun s6 wx => s6 = .int .i64 (m : Int) ∧ w1 = wx)
  case first =>
    go_wp2_with fail
    all_goals (go_meet)
    all_goals (refine ⟨?_, rfl⟩; have := HM.out; congr 1; omega)
  case rest =>
    obtain ⟨rfl, rfl⟩ := hcut
    clear HM
    go_wp2_with fail
    refine (take_nil _).mono ?_
    rintro e w2 ⟨rfl, rfl⟩
    go_wp2_with fail
    refine (awake4_any _).mono ?_
    rintro e w2 ⟨rfl, hb⟩
    have hb2 := hb1.trans (hb.mono hb1.size)
    have h2 := H1.out.kept (Rest.of_below (own := fun _ => False) hb) (fun _ _ => id)
    have H2 := Lib.hid h2
    have hl : (List.range m).length = m := by simp
    have HL := Lib.hid hl
    clear hb hb1 H1 h2 hl
    by_cases hx0 : 0 ≤ x
    · by_cases hx1 : x < m
      · have hd : decide (0 ≤ x ∧ x < m) = true := decide_eq_true ⟨hx0, hx1⟩
        have HD := Lib.hid hd
        clear hd
        go_wp2_with fail
        refine (flen_any _ H2.out).mono ?_
        rintro e w3 ⟨rfl, rfl⟩
        rw [HL.out]
        go_wp2_with fail
        refine (fhas_any x _ H2.out).mono ?_
        rintro e w3 ⟨rfl, rfl⟩
        rw [HD.out]
        go_wp2_with fail
        refine (give_full x _ H2.out).mono ?_
        rintro e w3 ⟨rfl, rfl⟩
        go_wp2_with fail
        refine (give_nil _ _).mono ?_
        rintro e w3 ⟨rfl, rfl⟩
        go_wp2_with fail
        refine (fhas_nil _ _).mono ?_
        rintro e w3 ⟨rfl, rfl⟩
        go_wp2_with fail
        refine (flen_nil _).mono ?_
        rintro e w3 ⟨rfl, rfl⟩
        go_wp2_with fail
        refine (all_nil _).mono ?_
        rintro e w3 ⟨rfl, rfl⟩
        go_wp2_with fail
        go_ret
        first | exact ⟨rfl, hb2⟩ | exact ⟨retb (by simp; omega), hb2⟩
      · have hd : decide (0 ≤ x ∧ x < m) = false := decide_eq_false (fun h => hx1 h.2)
        have HD := Lib.hid hd
        clear hd
        go_wp2_with fail
        refine (flen_any _ H2.out).mono ?_
        rintro e w3 ⟨rfl, rfl⟩
        rw [HL.out]
        go_wp2_with fail
        refine (fhas_any x _ H2.out).mono ?_
        rintro e w3 ⟨rfl, rfl⟩
        rw [HD.out]
        go_wp2_with fail
        refine (give_full x _ H2.out).mono ?_
        rintro e w3 ⟨rfl, rfl⟩
        go_wp2_with fail
        refine (give_nil _ _).mono ?_
        rintro e w3 ⟨rfl, rfl⟩
        go_wp2_with fail
        refine (fhas_nil _ _).mono ?_
        rintro e w3 ⟨rfl, rfl⟩
        go_wp2_with fail
        refine (flen_nil _).mono ?_
        rintro e w3 ⟨rfl, rfl⟩
        go_wp2_with fail
        refine (all_nil _).mono ?_
        rintro e w3 ⟨rfl, rfl⟩
        go_wp2_with fail
        go_ret
        first | exact ⟨rfl, hb2⟩ | exact ⟨retb (by simp; omega), hb2⟩
    · have hd : decide (0 ≤ x ∧ x < m) = false := decide_eq_false (fun h => hx0 h.1)
      have HD := Lib.hid hd
      clear hd
      go_wp2_with fail
      refine (flen_any _ H2.out).mono ?_
      rintro e w3 ⟨rfl, rfl⟩
      rw [HL.out]
      go_wp2_with fail
      refine (fhas_any x _ H2.out).mono ?_
      rintro e w3 ⟨rfl, rfl⟩
      rw [HD.out]
      go_wp2_with fail
      refine (give_full x _ H2.out).mono ?_
      rintro e w3 ⟨rfl, rfl⟩
      go_wp2_with fail
      refine (give_nil _ _).mono ?_
      rintro e w3 ⟨rfl, rfl⟩
      go_wp2_with fail
      refine (fhas_nil _ _).mono ?_
      rintro e w3 ⟨rfl, rfl⟩
      go_wp2_with fail
      refine (flen_nil _).mono ?_
      rintro e w3 ⟨rfl, rfl⟩
      go_wp2_with fail
      refine (all_nil _).mono ?_
      rintro e w3 ⟨rfl, rfl⟩
      go_wp2_with fail
      go_ret
      first | exact ⟨rfl, hb2⟩ | exact ⟨retb (by simp; omega), hb2⟩

end Go.Proofs.Ytbkkpgfglcmcpaa
