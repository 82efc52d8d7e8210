/- The law on turns behind turns: a slot is taken and given back until it has none more, and no turn comes twice. -/
import Derived.Test.YtalkgehhmbipbaaDoorLaw9B
namespace Go.Proofs.YtalkgehhmbipbaaDoor
open Go.RowKit

/-- How a slot of so many turns stands behind so many. -/
def Slt.behind (m i : Nat) : Nat := Slt.word (min i m) (if i < m then 0 else 3)
theorem Slt.behind_low {m i : Nat} (hm : m ≤ 16) (h : i < m) : Slt.gen (Slt.behind m i) = i ∧ Slt.st (Slt.behind m i) = 0 ∧ Slt.behind m i < 18446744073709551616 := by
  have e : min i m = i := by omega
  unfold Slt.behind
  rw [if_pos h, e]
  exact ⟨Slt.gen_word (by omega), Slt.st_word (by omega) (by omega), Slt.word_small (by omega) (by omega)⟩
theorem Slt.behind_all {m i : Nat} (hm : m ≤ 16) (h : ¬ i < m) : Slt.gen (Slt.behind m i) = m ∧ Slt.st (Slt.behind m i) = 3 ∧ Slt.behind m i < 18446744073709551616 := by
  have e : min i m = m := by omega
  unfold Slt.behind
  rw [if_neg h, e]
  exact ⟨Slt.gen_word (by omega), Slt.st_word (by omega) (by omega), Slt.word_small (by omega) (by omega)⟩
theorem Slt.behind_next {m i : Nat} (h : i < m) : Slt.word (i + 1) (if m ≤ i + 1 then 3 else 0) = Slt.behind m (i + 1) := by
  have e : min (i + 1) m = i + 1 := by omega
  unfold Slt.behind
  rw [e]
  by_cases h1 : m ≤ i + 1
  · rw [if_pos h1, if_neg (by omega)]
  · rw [if_neg h1, if_pos (by omega)]
theorem Slt.behind_stays {m i : Nat} (h : ¬ i < m) : Slt.behind m (i + 1) = Slt.behind m i := by
  unfold Slt.behind
  rw [if_neg h, if_neg (by omega), show min i m = m by omega, show min (i + 1) m = m by omega]
theorem Slt.behind_dead (m i : Nat) (hm : m ≤ 16) : ¬ Slt.Live (Slt.behind m i) := by
  unfold Slt.Live
  by_cases h : i < m
  · rw [(Slt.behind_low hm h).2.1]; omega
  · rw [(Slt.behind_all hm h).2.1]; omega

theorem Slt.behind_gen {m i : Nat} (hm : m ≤ 16) (h : i < m) : ((Slt.gen (Slt.behind m (i + 1)) : Nat) : Int) = (i : Int) + 1 := by
  by_cases h1 : i + 1 < m
  · have := (Slt.behind_low hm h1).1; omega
  · have := (Slt.behind_all hm h1).1; omega
theorem Slt.behind_small (m i : Nat) (hm : m ≤ 16) : Slt.behind m i < 18446744073709551616 := by
  by_cases h1 : i < m
  · exact (Slt.behind_low hm h1).2.2
  · exact (Slt.behind_all hm h1).2.2
theorem Slt.last_eq (K i : Nat) (h : K ≤ 15) : (if min ((K : Int) + 1) 16777215 ≤ ((i + 1 : Nat) : Int) then 3 else 0) = (if K + 1 ≤ i + 1 then 3 else 0) := by
  by_cases h1 : K ≤ i
  · rw [if_pos (by omega), if_pos (by omega)]
  · rw [if_neg (by omega), if_neg (by omega)]

set_option maxRecDepth 100000 in
set_option maxHeartbeats 2000000 in
/-- The law on turns behind turns. -/
theorem turns_any (Y : Nat → Bool) (most : Int) (sa : Option Addr) (len cap bk o : Nat) (hsa : 0 < len → sa = some ⟨bk, o, none⟩) (w : World) (hc : ∀ i, i < len → w.cell? ⟨bk, o + i, none⟩ = some (.bool (Y i))) (hL : SLay w) :
    Calls Tryd.prog 4 #[.int .i64 most, .slice sa len cap] w fun e w' => e = .returned (.bool true) ∧ Below w.heap.size w w' := by
  obtain ⟨K, hK, hK2⟩ : ∃ K : Nat, bits .and .i64 most 15 = (K : Int) ∧ K ≤ 15 := ⟨(most % 16).toNat, by rw [low15]; omega, by omega⟩
  have HC := Lib.hid hc
  have HS := Lib.hid hsa
  clear hc hsa
  go_enter Tryd.func4, Tryd.ntmps4
  go_wp2_with fail
  refine (sword_any _ _ (by omega) (by omega) _ hL).mono ?_
  rintro e w1 ⟨rfl, hb⟩
  have e1 : Slt.word (min (Int.toNat 0) 16777215) (min (Int.toNat 0) 3) = Slt.behind (K + 1) 0 := by unfold Slt.behind; rw [if_pos (by omega), Nat.zero_min]; rfl
  rw [e1]
  clear e1
  go_wp2_with fail
  go_loopg [6, 7] 20 (fun m s6 s7 wr => ∃ i : Nat, i ≤ 20 ∧ m = 20 - i ∧ s6 = .int .u64 (Slt.behind (K + 1) i : Nat) ∧ s7 = .int .i64 i ∧ Below w.heap.size w wr)
  case atStart => exact ⟨0, Nat.zero_le _, rfl, rfl, rfl, hb⟩
  case round =>
    obtain ⟨i, hi, rfl, rfl, rfl, hbel⟩ := hrel
    clear hb
    have HK := Lib.hid hK2
    by_cases hlt : i < 20
    · have hl1 : (i : Int) < 20 := by omega
      have hdead := Lib.hid (Slt.behind_dead (K + 1) i (by omega))
      by_cases hin : i < len
      · obtain rfl := HS.out (by omega)
        have c0 := (hbel.cell (p := ⟨bk, o + i, none⟩) (block_lt_of_cell (HC.out i hin))).trans (HC.out i hin)
        have hl2 : (i : Int) < (len : Int) := by omega
        generalize Y i = b at c0
        go_wp2_with fail
        cases b
        · by_cases hlow : i < K + 1
          · have hl3 : (i : Int) < (K : Int) + 1 := by omega
            have hW := Lib.hid (Slt.behind_low (m := K + 1) (i := i) (by omega) hlow)
            have hN := Lib.hid (Slt.behind_next (m := K + 1) (i := i) hlow)
            have hNg := Lib.hid (Slt.behind_gen (m := K + 1) (i := i) (by omega) hlow)
            have hNd := Lib.hid (Slt.behind_dead (K + 1) (i + 1) (by omega))
            have hNs := Lib.hid (Slt.behind_small (K + 1) (i + 1) (by omega))
            refine (sopen_yes _ false ((K : Int) + 1) hW.out.2.2 hW.out.2.1 (by have := hW.out.1; omega) _ (hL.kept hbel)).mono ?_
            rintro e w3 ⟨rfl, hb2⟩
            have hb := below_on hbel hb2
            clear hb2 hbel
            rw [hW.out.1]
            clear hW
            have hT := Lib.hid (taken_facts (i + 1) false (by omega))
            have hG : Hid (((Slt.gen (Slt.word (i + 1) (if false = true then 2 else 1)) : Nat) : Int) = (i : Int) + 1) := by have := hT.out.1; show _ = _; omega
            have hS : Hid (((Slt.st (Slt.word (i + 1) (if false = true then 2 else 1)) : Nat) : Int) = 1) := by show _ = _; rw [hT.out.2.2.1]; rfl
            generalize Slt.word (i + 1) (if false = true then 2 else 1) = x at hT hG hS ⊢
            go_wp2_with fail
            refine (sopen_no x false _ hT.out.2.2.2 (by have := hS.out; rintro ⟨h, -⟩; omega) _ (hL.kept hb)).mono ?_
            rintro e w4 ⟨rfl, hb2⟩
            have hb := below_on hb hb2
            clear hb2
            go_wp2_with fail
            refine (sgen_any x hT.out.2.2.2 _ (hL.kept hb)).mono ?_
            rintro e w5 ⟨rfl, hb2⟩
            have hb := below_on hb hb2
            clear hb2
            rw [hG.out]
            go_wp2_with fail
            refine (sstate_any x hT.out.2.2.2 _ (hL.kept hb)).mono ?_
            rintro e w6 ⟨rfl, hb2⟩
            have hb := below_on hb hb2
            clear hb2
            rw [hS.out]
            go_wp2_with fail
            refine (slive_any x _ hT.out.2.2.2 _ (hL.kept hb)).mono ?_
            rintro e w7 ⟨rfl, hb2⟩
            have hb := below_on hb hb2
            clear hb2
            rw [dec_yes x _ hG.out hT.out.2.1]
            go_wp2_with fail
            refine (slive_any x _ hT.out.2.2.2 _ (hL.kept hb)).mono ?_
            rintro e w8 ⟨rfl, hb2⟩
            have hb := below_on hb hb2
            clear hb2
            rw [dec_no x _ (.inl (by have := hG.out; omega))]
            go_wp2_with fail
            refine (sclose_yes x _ hT.out.2.2.2 hT.out.2.1 _ (hL.kept hb)).mono ?_
            rintro e w9 ⟨rfl, hb2⟩
            have hb := below_on hb hb2
            clear hb2
            rw [hT.out.1, Slt.last_eq K i hK2, hN.out]
            clear hT hG hS hN
            generalize hq : Slt.behind (K + 1) (i + 1) = q at hNg hNd hNs ⊢
            have HQ := Lib.hid hq
            clear hq
            go_wp2_with fail
            refine (sgen_any q hNs.out _ (hL.kept hb)).mono ?_
            rintro e w10 ⟨rfl, hb2⟩
            have hb := below_on hb hb2
            clear hb2
            rw [hNg.out]
            go_wp2_with fail
            refine (slive_any q _ hNs.out _ (hL.kept hb)).mono ?_
            rintro e w11 ⟨rfl, hb2⟩
            have hb := below_on hb hb2
            clear hb2
            rw [dec_no q _ (.inr hNd.out)]
            go_wp2_with fail
            refine (sclose_no q _ hNs.out hNd.out _ (hL.kept hb)).mono ?_
            rintro e w12 ⟨rfl, hb2⟩
            have hb := below_on hb hb2
            clear hb2
            go_wp2_with fail
            go_roundg (20 - (i + 1))
            case measure => go_light; omega
            case rel => exact ⟨i + 1, by omega, rfl, by rw [← HQ.out], by go_num, hb⟩
          · have hl3 : ¬ (i : Int) < (K : Int) + 1 := by omega
            have hW := Lib.hid (Slt.behind_all (m := K + 1) (i := i) (by omega) hlow)
            have hN := Lib.hid (Slt.behind_stays (m := K + 1) (i := i) hlow)
            have hS : Hid (((Slt.st (Slt.behind (K + 1) i) : Nat) : Int) = 3) := by show _ = _; rw [hW.out.2.1]; rfl
            have hb := hbel
            clear hbel
            generalize hq : Slt.behind (K + 1) i = q at hW hN hS hdead ⊢
            have HQ := Lib.hid hq
            clear hq
            refine (sopen_no q false ((K : Int) + 1) hW.out.2.2 (by have := hS.out; rintro ⟨h, -⟩; omega) _ (hL.kept hb)).mono ?_
            rintro e w3 ⟨rfl, hb2⟩
            have hb := below_on hb hb2
            clear hb2
            go_wp2_with fail
            refine (sstate_any q hW.out.2.2 _ (hL.kept hb)).mono ?_
            rintro e w4 ⟨rfl, hb2⟩
            have hb := below_on hb hb2
            clear hb2
            rw [hS.out]
            go_wp2_with fail
            refine (sclose_no q _ hW.out.2.2 hdead.out _ (hL.kept hb)).mono ?_
            rintro e w5 ⟨rfl, hb2⟩
            have hb := below_on hb hb2
            clear hb2
            go_wp2_with fail
            go_roundg (20 - (i + 1))
            case measure => go_light; omega
            case rel => exact ⟨i + 1, by omega, rfl, by rw [hN.out], by go_num, hb⟩
        · by_cases hlow : i < K + 1
          · have hl3 : (i : Int) < (K : Int) + 1 := by omega
            have hW := Lib.hid (Slt.behind_low (m := K + 1) (i := i) (by omega) hlow)
            have hN := Lib.hid (Slt.behind_next (m := K + 1) (i := i) hlow)
            have hNg := Lib.hid (Slt.behind_gen (m := K + 1) (i := i) (by omega) hlow)
            have hNd := Lib.hid (Slt.behind_dead (K + 1) (i + 1) (by omega))
            have hNs := Lib.hid (Slt.behind_small (K + 1) (i + 1) (by omega))
            refine (sopen_yes _ true ((K : Int) + 1) hW.out.2.2 hW.out.2.1 (by have := hW.out.1; omega) _ (hL.kept hbel)).mono ?_
            rintro e w3 ⟨rfl, hb2⟩
            have hb := below_on hbel hb2
            clear hb2 hbel
            rw [hW.out.1]
            clear hW
            have hT := Lib.hid (taken_facts (i + 1) true (by omega))
            have hG : Hid (((Slt.gen (Slt.word (i + 1) (if true = true then 2 else 1)) : Nat) : Int) = (i : Int) + 1) := by have := hT.out.1; show _ = _; omega
            have hS : Hid (((Slt.st (Slt.word (i + 1) (if true = true then 2 else 1)) : Nat) : Int) = 2) := by show _ = _; rw [hT.out.2.2.1]; rfl
            generalize Slt.word (i + 1) (if true = true then 2 else 1) = x at hT hG hS ⊢
            go_wp2_with fail
            refine (sopen_no x true _ hT.out.2.2.2 (by have := hS.out; rintro ⟨h, -⟩; omega) _ (hL.kept hb)).mono ?_
            rintro e w4 ⟨rfl, hb2⟩
            have hb := below_on hb hb2
            clear hb2
            go_wp2_with fail
            refine (sgen_any x hT.out.2.2.2 _ (hL.kept hb)).mono ?_
            rintro e w5 ⟨rfl, hb2⟩
            have hb := below_on hb hb2
            clear hb2
            rw [hG.out]
            go_wp2_with fail
            refine (sstate_any x hT.out.2.2.2 _ (hL.kept hb)).mono ?_
            rintro e w6 ⟨rfl, hb2⟩
            have hb := below_on hb hb2
            clear hb2
            rw [hS.out]
            go_wp2_with fail
            refine (slive_any x _ hT.out.2.2.2 _ (hL.kept hb)).mono ?_
            rintro e w7 ⟨rfl, hb2⟩
            have hb := below_on hb hb2
            clear hb2
            rw [dec_yes x _ hG.out hT.out.2.1]
            go_wp2_with fail
            refine (slive_any x _ hT.out.2.2.2 _ (hL.kept hb)).mono ?_
            rintro e w8 ⟨rfl, hb2⟩
            have hb := below_on hb hb2
            clear hb2
            rw [dec_no x _ (.inl (by have := hG.out; omega))]
            go_wp2_with fail
            refine (sclose_yes x _ hT.out.2.2.2 hT.out.2.1 _ (hL.kept hb)).mono ?_
            rintro e w9 ⟨rfl, hb2⟩
            have hb := below_on hb hb2
            clear hb2
            rw [hT.out.1, Slt.last_eq K i hK2, hN.out]
            clear hT hG hS hN
            generalize hq : Slt.behind (K + 1) (i + 1) = q at hNg hNd hNs ⊢
            have HQ := Lib.hid hq
            clear hq
            go_wp2_with fail
            refine (sgen_any q hNs.out _ (hL.kept hb)).mono ?_
            rintro e w10 ⟨rfl, hb2⟩
            have hb := below_on hb hb2
            clear hb2
            rw [hNg.out]
            go_wp2_with fail
            refine (slive_any q _ hNs.out _ (hL.kept hb)).mono ?_
            rintro e w11 ⟨rfl, hb2⟩
            have hb := below_on hb hb2
            clear hb2
            rw [dec_no q _ (.inr hNd.out)]
            go_wp2_with fail
            refine (sclose_no q _ hNs.out hNd.out _ (hL.kept hb)).mono ?_
            rintro e w12 ⟨rfl, hb2⟩
            have hb := below_on hb hb2
            clear hb2
            go_wp2_with fail
            go_roundg (20 - (i + 1))
            case measure => go_light; omega
            case rel => exact ⟨i + 1, by omega, rfl, by rw [← HQ.out], by go_num, hb⟩
          · have hl3 : ¬ (i : Int) < (K : Int) + 1 := by omega
            have hW := Lib.hid (Slt.behind_all (m := K + 1) (i := i) (by omega) hlow)
            have hN := Lib.hid (Slt.behind_stays (m := K + 1) (i := i) hlow)
            have hS : Hid (((Slt.st (Slt.behind (K + 1) i) : Nat) : Int) = 3) := by show _ = _; rw [hW.out.2.1]; rfl
            have hb := hbel
            clear hbel
            generalize hq : Slt.behind (K + 1) i = q at hW hN hS hdead ⊢
            have HQ := Lib.hid hq
            clear hq
            refine (sopen_no q true ((K : Int) + 1) hW.out.2.2 (by have := hS.out; rintro ⟨h, -⟩; omega) _ (hL.kept hb)).mono ?_
            rintro e w3 ⟨rfl, hb2⟩
            have hb := below_on hb hb2
            clear hb2
            go_wp2_with fail
            refine (sstate_any q hW.out.2.2 _ (hL.kept hb)).mono ?_
            rintro e w4 ⟨rfl, hb2⟩
            have hb := below_on hb hb2
            clear hb2
            rw [hS.out]
            go_wp2_with fail
            refine (sclose_no q _ hW.out.2.2 hdead.out _ (hL.kept hb)).mono ?_
            rintro e w5 ⟨rfl, hb2⟩
            have hb := below_on hb hb2
            clear hb2
            go_wp2_with fail
            go_roundg (20 - (i + 1))
            case measure => go_light; omega
            case rel => exact ⟨i + 1, by omega, rfl, by rw [hN.out], by go_num, hb⟩
      · have hl2 : ¬ (i : Int) < (len : Int) := by omega
        go_wp2_with fail
        by_cases hlow : i < K + 1
        · have hl3 : (i : Int) < (K : Int) + 1 := by omega
          have hW := Lib.hid (Slt.behind_low (m := K + 1) (i := i) (by omega) hlow)
          have hN := Lib.hid (Slt.behind_next (m := K + 1) (i := i) hlow)
          have hNg := Lib.hid (Slt.behind_gen (m := K + 1) (i := i) (by omega) hlow)
          have hNd := Lib.hid (Slt.behind_dead (K + 1) (i + 1) (by omega))
          have hNs := Lib.hid (Slt.behind_small (K + 1) (i + 1) (by omega))
          refine (sopen_yes _ false ((K : Int) + 1) hW.out.2.2 hW.out.2.1 (by have := hW.out.1; omega) _ (hL.kept hbel)).mono ?_
          rintro e w3 ⟨rfl, hb2⟩
          have hb := below_on hbel hb2
          clear hb2 hbel
          rw [hW.out.1]
          clear hW
          have hT := Lib.hid (taken_facts (i + 1) false (by omega))
          have hG : Hid (((Slt.gen (Slt.word (i + 1) (if false = true then 2 else 1)) : Nat) : Int) = (i : Int) + 1) := by have := hT.out.1; show _ = _; omega
          have hS : Hid (((Slt.st (Slt.word (i + 1) (if false = true then 2 else 1)) : Nat) : Int) = 1) := by show _ = _; rw [hT.out.2.2.1]; rfl
          generalize Slt.word (i + 1) (if false = true then 2 else 1) = x at hT hG hS ⊢
          go_wp2_with fail
          refine (sopen_no x false _ hT.out.2.2.2 (by have := hS.out; rintro ⟨h, -⟩; omega) _ (hL.kept hb)).mono ?_
          rintro e w4 ⟨rfl, hb2⟩
          have hb := below_on hb hb2
          clear hb2
          go_wp2_with fail
          refine (sgen_any x hT.out.2.2.2 _ (hL.kept hb)).mono ?_
          rintro e w5 ⟨rfl, hb2⟩
          have hb := below_on hb hb2
          clear hb2
          rw [hG.out]
          go_wp2_with fail
          refine (sstate_any x hT.out.2.2.2 _ (hL.kept hb)).mono ?_
          rintro e w6 ⟨rfl, hb2⟩
          have hb := below_on hb hb2
          clear hb2
          rw [hS.out]
          go_wp2_with fail
          refine (slive_any x _ hT.out.2.2.2 _ (hL.kept hb)).mono ?_
          rintro e w7 ⟨rfl, hb2⟩
          have hb := below_on hb hb2
          clear hb2
          rw [dec_yes x _ hG.out hT.out.2.1]
          go_wp2_with fail
          refine (slive_any x _ hT.out.2.2.2 _ (hL.kept hb)).mono ?_
          rintro e w8 ⟨rfl, hb2⟩
          have hb := below_on hb hb2
          clear hb2
          rw [dec_no x _ (.inl (by have := hG.out; omega))]
          go_wp2_with fail
          refine (sclose_yes x _ hT.out.2.2.2 hT.out.2.1 _ (hL.kept hb)).mono ?_
          rintro e w9 ⟨rfl, hb2⟩
          have hb := below_on hb hb2
          clear hb2
          rw [hT.out.1, Slt.last_eq K i hK2, hN.out]
          clear hT hG hS hN
          generalize hq : Slt.behind (K + 1) (i + 1) = q at hNg hNd hNs ⊢
          have HQ := Lib.hid hq
          clear hq
          go_wp2_with fail
          refine (sgen_any q hNs.out _ (hL.kept hb)).mono ?_
          rintro e w10 ⟨rfl, hb2⟩
          have hb := below_on hb hb2
          clear hb2
          rw [hNg.out]
          go_wp2_with fail
          refine (slive_any q _ hNs.out _ (hL.kept hb)).mono ?_
          rintro e w11 ⟨rfl, hb2⟩
          have hb := below_on hb hb2
          clear hb2
          rw [dec_no q _ (.inr hNd.out)]
          go_wp2_with fail
          refine (sclose_no q _ hNs.out hNd.out _ (hL.kept hb)).mono ?_
          rintro e w12 ⟨rfl, hb2⟩
          have hb := below_on hb hb2
          clear hb2
          go_wp2_with fail
          go_roundg (20 - (i + 1))
          case measure => go_light; omega
          case rel => exact ⟨i + 1, by omega, rfl, by rw [← HQ.out], by go_num, hb⟩
        · have hl3 : ¬ (i : Int) < (K : Int) + 1 := by omega
          have hW := Lib.hid (Slt.behind_all (m := K + 1) (i := i) (by omega) hlow)
          have hN := Lib.hid (Slt.behind_stays (m := K + 1) (i := i) hlow)
          have hS : Hid (((Slt.st (Slt.behind (K + 1) i) : Nat) : Int) = 3) := by show _ = _; rw [hW.out.2.1]; rfl
          have hb := hbel
          clear hbel
          generalize hq : Slt.behind (K + 1) i = q at hW hN hS hdead ⊢
          have HQ := Lib.hid hq
          clear hq
          refine (sopen_no q false ((K : Int) + 1) hW.out.2.2 (by have := hS.out; rintro ⟨h, -⟩; omega) _ (hL.kept hb)).mono ?_
          rintro e w3 ⟨rfl, hb2⟩
          have hb := below_on hb hb2
          clear hb2
          go_wp2_with fail
          refine (sstate_any q hW.out.2.2 _ (hL.kept hb)).mono ?_
          rintro e w4 ⟨rfl, hb2⟩
          have hb := below_on hb hb2
          clear hb2
          rw [hS.out]
          go_wp2_with fail
          refine (sclose_no q _ hW.out.2.2 hdead.out _ (hL.kept hb)).mono ?_
          rintro e w5 ⟨rfl, hb2⟩
          have hb := below_on hb hb2
          clear hb2
          go_wp2_with fail
          go_roundg (20 - (i + 1))
          case measure => go_light; omega
          case rel => exact ⟨i + 1, by omega, rfl, by rw [hN.out], by go_num, hb⟩
    · have hl1 : ¬ (i : Int) < 20 := by omega
      go_wp2_with fail
      refine (awake9_any _ (hL.kept hbel)).mono ?_
      rintro e w3 ⟨rfl, hb2⟩
      have hb := below_on hbel hb2
      clear hb2 hbel
      go_wp2_with fail
      go_ret
      exact ⟨rfl, hb⟩

end Go.Proofs.YtalkgehhmbipbaaDoor
