/- The law on which tables may be, cells of slots, and live words: true whatever comes. -/
import Derived.Test.YtgnodijblleipaaDoorLaw10D
import Derived.Test.YtgnodijblleipaaDoorLaw10E
import Derived.Deep.CutBlock
namespace Go.Proofs.YtgnodijblleipaaDoor
open Go.RowKit
attribute [local go_sem ↓] Go.wp_at_zero Go.wp_at_succ

set_option maxRecDepth 100000 in
set_option maxHeartbeats 4000000 in
theorem tmayLaw_any (b n g : Int) (hb : -9223372036854775808 ≤ b ∧ b ≤ 9223372036854775807) (X : Nat → Int) (sl : Option Addr) (len cap bk o : Nat) (hsl : 0 < len → sl = some ⟨bk, o, none⟩) (w : World)
    (hc : ∀ i, i < len → w.cell? ⟨bk, o + i, none⟩ = some (.int .i64 (X i))) (hL : SLay w) :
    Calls Tryd.prog 4 #[.agg #[.int .i64 b, .int .i64 n, .int .i64 g], .slice sl len cap] w fun e w' => e = .returned (.bool true) ∧ Below w.heap.size w w' := by
  have HC := Lib.hid hc
  have HS := Lib.hid hsl
  have HL := Lib.hid hL
  have HBb := Lib.hid hb
  clear hc hsl hL hb
  go_enter Tryd.func4, Tryd.ntmps4
  go_upto_region 1 with fail
  go_cut [5] (fun s5 wx => s5 = .bool (decide (May3 b n g)) ∧ w.alloc (.cells #[.int .i64 b, .int .i64 n, .int .i64 g] 26) = wx)
  case first =>
    by_cases hM : May3 b n g
    · have HD := Lib.hid (decide_eq_true hM)
      unfold May3 at hM
      obtain ⟨m1, m2, m3, m4, m5, m6⟩ := hM
      have hw1 : IntKind.i64.wrap (16384 - n) = 16384 - n := by rw [IntKind.wrap_i64]; omega
      go_wp2_with fail
      go_meet
      case rel => exact ⟨by rw [HD.out], rfl⟩
    · have HD := Lib.hid (decide_eq_false hM)
      have hbb := HBb.out
      unfold May3 at hM
      by_cases m1 : 1 ≤ n
      · by_cases m2 : n ≤ 16
        · have hw1 : IntKind.i64.wrap (16384 - n) = 16384 - n := by rw [IntKind.wrap_i64]; omega
          by_cases m3 : 0 ≤ b
          · by_cases m4 : b ≤ 16384 - n
            · by_cases m5 : 1 ≤ g
              · have m6 : ¬ g ≤ 16777215 := by omega
                clear hM
                go_wp2_with fail
                go_meet
                case rel => exact ⟨by rw [HD.out], rfl⟩
              · clear hM
                go_wp2_with fail
                go_meet
                case rel => exact ⟨by rw [HD.out], rfl⟩
            · clear hM
              go_wp2_with fail
              go_meet
              case rel => exact ⟨by rw [HD.out], rfl⟩
          · clear hM
            go_wp2_with fail
            go_meet
            case rel => exact ⟨by rw [HD.out], rfl⟩
        · clear hM
          go_wp2_with fail
          go_meet
          case rel => exact ⟨by rw [HD.out], rfl⟩
      · clear hM
        go_wp2_with fail
        go_meet
        case rel => exact ⟨by rw [HD.out], rfl⟩
  case rest =>
  obtain ⟨rfl, rfl⟩ := hcut
  go_wp2_with fail
  refine (tnew_made b n g HBb.out _).mono ?_
  rintro e w1 ⟨p, rfl, hmd, hb1⟩
  have hmd := hmd.lower (B' := w.heap.size) (by simp)
  have HBox := Lib.hid (show Boxed w1 w.heap.size (.int .i64 b) (.int .i64 n) (.int .i64 g) from three_held hb1)
  have HMd := Lib.hid hmd
  have hbl1 := (below_box w (.cells #[.int .i64 b, .int .i64 n, .int .i64 g] 26)).trans (hb1.mono (by simp))
  have hsz : w.heap.size + 1 ≤ w1.heap.size := by have := hb1.size; simpa using this
  clear hb1 hmd
  go_wp2_with fail
  have HK1 := Lib.hid (show Boxed w1 w.heap.size (.int .i64 b) (.int .i64 n) (.int .i64 g) ∧ Made w.heap.size w1 b n g p ∧ SLay w1 ∧ Below w.heap.size w w1 from ⟨HBox.out, HMd.out, HL.out.kept hbl1, hbl1⟩)
  refine (tnew_yes 1 4 3 (by omega) _).mono ?_
  rintro e w2 ⟨su, rfl, hU, hb2⟩
  have hb12 := (below_box w1 (.cells #[.int .i64 1, .int .i64 4, .int .i64 3] 26)).trans (hb2.mono (by simp))
  have HK2 := Lib.hid (show Keeps w w2 b n g p su from ⟨HK1.out.1.on hb12, HK1.out.2.1.on hb12, hU.lower (by simp; omega), HK1.out.2.2.1.kept hb12, HK1.out.2.2.2.trans (hb12.mono (by omega))⟩)
  clear hU hb2 hb12 HK1 HBox HMd hbl1 hsz
  go_wp2_with fail
  refine (new_yes 8 _ (by omega) (by omega)).mono ?_
  rintro e w3 ⟨sa, rfl, hA, hR⟩
  have HW3 := Lib.hid (Wrote.start hA)
  have hb3 : Below w2.heap.size w2 w3 := hR.below (Nat.le_refl _) (fun k hk => hk.elim)
  clear hA hR
  dsimp only
  go_upto_block 0 with fail
  go_cut [10, 11, 12] (fun s10 s11 s12 wx => ∃ k q : Nat, s10 = .int .i64 q ∧ q ≤ 4 ∧ Hid (Wrote wx w2.heap.size sa k q) ∧ Below w2.heap.size w2 wx)
  case first =>
    go_wp2_with fail
    go_loopg [10, 11] len (fun m s10 s11 wr => ∃ k q : Nat, k ≤ len ∧ k ≤ 4 ∧ q ≤ k ∧ m = len - k ∧ s10 = .int .i64 q ∧ s11 = .int .i64 k ∧ Hid (Wrote wr w2.heap.size sa k q) ∧ Below w2.heap.size w2 wr)
    case atStart => exact ⟨0, 0, Nat.zero_le _, Nat.zero_le _, Nat.le_refl _, rfl, rfl, rfl, HW3, hb3⟩
    case round =>
      clear HW3 hb3
      obtain ⟨k, q, hk, hk4, hqk, rfl, rfl, rfl, HW, hb⟩ := hrel
      by_cases hlt : k < len ∧ k < 4
      · obtain ⟨hl1, hl2⟩ := hlt
        have hl3 : (k : Int) < 4 := by omega
        have hl4 : (k : Int) < len := by omega
        obtain rfl := HS.out (by omega)
        have HKr := Lib.hid (HK2.out.on hb)
        have c0 := HC.out k hl1
        have q0 := (HKr.out.below.cell (p := ⟨bk, o + k, none⟩) (cell_block c0)).trans c0
        have hbk : bk < w.heap.size := cell_block c0
        obtain ⟨p7, hp7, e7⟩ := low7_nat (X k)
        obtain ⟨t3, ht3, e3⟩ := low3_nat (X k / 8)
        clear c0
        go_wp2_with fail
        have HWd := Lib.hid (HW.out.on (Below.refl _ _).drew)
        have HKd := Lib.hid (HKr.out.on (Below.refl _ _).drew)
        have hbd := hb.drew
        refine wp_region_held_drew (S := fun w' => w'.cell? ⟨bk, o + k, none⟩ = some (.int .i64 (X k))) (by kernel_rfl) q0 (fun hHeld => ?_)
        refine wpAnyH_yield 0 (.pointer (some ⟨sa.P, 0, none⟩)) rfl (by kernel_rfl) (by kernel_rfl) (by kernel_rfl) (fun d _ _ _ h => by cases d <;> exact h) (by rfl) (by assumption) (fun _ _ => by go_simp) ?_
        simp only [Act.put, List.setIfInBounds_toArray, List.set_cons_zero, List.set_cons_succ]
        refine wpAnyH_yield 1 (.pointer (some ⟨su.P, 0, none⟩)) rfl (by kernel_rfl) (by kernel_rfl) (by kernel_rfl) (fun d _ _ _ h => by cases d <;> exact h) (by rfl) (by assumption) (fun _ _ => by go_simp) ?_
        simp only [Act.put, List.setIfInBounds_toArray, List.set_cons_zero, List.set_cons_succ]
        refine wpAnyH_yield 2 (.int .i64 k) rfl (by kernel_rfl) (by kernel_rfl) (by kernel_rfl) (fun d _ _ _ h => by cases d <;> exact h) (by rfl) (by assumption) (fun _ _ => by go_simp) ?_
        simp only [Act.put, List.setIfInBounds_toArray, List.set_cons_zero, List.set_cons_succ]
        refine wpAnyH_yield 4 (.slice (some ⟨bk, o, none⟩) len cap) rfl (by kernel_rfl) (by kernel_rfl) (by kernel_rfl) (fun d _ _ _ h => by cases d <;> exact h) (by rfl) (by assumption) (fun _ _ => by go_simp) ?_
        simp only [Act.put, List.setIfInBounds_toArray, List.set_cons_zero, List.set_cons_succ]
        refine wpAnyH_yield 5 (.int .i64 k) rfl (by kernel_rfl) (by kernel_rfl) (by kernel_rfl) (fun d _ _ _ h => by cases d <;> exact h) (by rfl) (by assumption) (fun _ _ => by go_simp) ?_
        simp only [Act.put, List.setIfInBounds_toArray, List.set_cons_zero, List.set_cons_succ]
        refine wpAnyH_yield 6 (.pointer (some ⟨bk, o + k, none⟩)) rfl (by kernel_rfl) (by kernel_rfl) (by kernel_rfl) (fun d _ _ _ h => by cases d <;> exact h) (by rfl) (by assumption) (fun _ _ => by go_simp) ?_
        simp only [Act.put, List.setIfInBounds_toArray, List.set_cons_zero, List.set_cons_succ]
        refine wpAnyH_yield 7 (.int .i64 (X k)) rfl (by kernel_rfl) (by kernel_rfl) (by kernel_rfl) (fun d _ _ _ h => by cases d <;> exact h) (by rfl) (by assumption) (fun _ hSw => by (try dsimp only at hSw); go_simp) ?_
        simp only [Act.put, List.setIfInBounds_toArray, List.set_cons_zero, List.set_cons_succ]
        refine wpAnyH_yield 8 (.int .i64 p7) rfl (by kernel_rfl) (by kernel_rfl) (by kernel_rfl) (fun d _ _ _ h => by cases d <;> exact h) (by rfl) (by assumption) (fun _ _ => by go_simp) ?_
        simp only [Act.put, List.setIfInBounds_toArray, List.set_cons_zero, List.set_cons_succ]
        refine wpAnyH_yield 9 (.slice (some ⟨bk, o, none⟩) len cap) rfl (by kernel_rfl) (by kernel_rfl) (by kernel_rfl) (fun d _ _ _ h => by cases d <;> exact h) (by rfl) (by assumption) (fun _ _ => by go_simp) ?_
        simp only [Act.put, List.setIfInBounds_toArray, List.set_cons_zero, List.set_cons_succ]
        refine wpAnyH_yield 10 (.int .i64 k) rfl (by kernel_rfl) (by kernel_rfl) (by kernel_rfl) (fun d _ _ _ h => by cases d <;> exact h) (by rfl) (by assumption) (fun _ _ => by go_simp) ?_
        simp only [Act.put, List.setIfInBounds_toArray, List.set_cons_zero, List.set_cons_succ]
        refine wpAnyH_yield 11 (.pointer (some ⟨bk, o + k, none⟩)) rfl (by kernel_rfl) (by kernel_rfl) (by kernel_rfl) (fun d _ _ _ h => by cases d <;> exact h) (by rfl) (by assumption) (fun _ _ => by go_simp) ?_
        simp only [Act.put, List.setIfInBounds_toArray, List.set_cons_zero, List.set_cons_succ]
        refine wpAnyH_yield 12 (.int .i64 (X k)) rfl (by kernel_rfl) (by kernel_rfl) (by kernel_rfl) (fun d _ _ _ h => by cases d <;> exact h) (by rfl) (by assumption) (fun _ hSw => by (try dsimp only at hSw); go_simp) ?_
        simp only [Act.put, List.setIfInBounds_toArray, List.set_cons_zero, List.set_cons_succ]
        refine wpAnyH_yield 13 (.int .i64 (X k / 8)) rfl (by kernel_rfl) (by kernel_rfl) (by kernel_rfl) (fun d _ _ _ h => by cases d <;> exact h) (by rfl) (by assumption) (fun _ _ => by go_simp) ?_
        simp only [Act.put, List.setIfInBounds_toArray, List.set_cons_zero, List.set_cons_succ]
        refine wpAnyH_yield 14 (.int .i64 t3) rfl (by kernel_rfl) (by kernel_rfl) (by kernel_rfl) (fun d _ _ _ h => by cases d <;> exact h) (by rfl) (by assumption) (fun _ _ => by go_simp) ?_
        simp only [Act.put, List.setIfInBounds_toArray, List.set_cons_zero, List.set_cons_succ]
        generalize wr.drew = wd at HWd HKd hbd hHeld ⊢
        refine wpAnyH_ready (rs := [3]) (by kernel_rfl) (by simp) (AllReadyH.cons rfl (fun K hK => ?_) AllReadyH.nil)
        go_simp
        go_at_call 15
        refine (tcell_in k _ HKd.out.tab hl2).mono ?_
        rintro e w4 ⟨rfl, rfl⟩
        refine hK.out _ _ (hHeld) (fun hHeld => ?_)
        clear hK K
        refine wpAnyH_ready (rs := [15]) (by kernel_rfl) (by simp) (AllReadyH.cons rfl (fun K hK => ?_) AllReadyH.nil)
        go_simp
        go_at_call 7
        refine (sword_any _ _ (by omega) (by omega) _ HKd.out.lay).mono ?_
        rintro e w4 ⟨rfl, hb4⟩
        rw [show Slt.word (min (Int.toNat (p7 : Int)) 16777215) (min (Int.toNat (t3 : Int)) 3) = Slt.word p7 t3 by rw [Int.toNat_natCast, Int.toNat_natCast, Nat.min_eq_left (by omega), Nat.min_eq_left ht3]]
        have hv1 := Slt.word_small (g := p7) (s := t3) (by omega) ht3
        have hv2 := Slt.st_word (g := p7) (s := t3) (by omega) ht3
        generalize Slt.word p7 t3 = v at hv1 hv2 ⊢
        have q4 : w4.cell? ⟨bk, o + k, none⟩ = some (.int .i64 (X k)) := (hb4.cell (p := ⟨bk, o + k, none⟩) (cell_block hHeld)).trans hHeld
        have HW4 := Lib.hid (HWd.out.on hb4)
        have hbr4 := hbd.trans (hb4.mono hbd.size)
        clear hb4 HWd HKr q0
        refine hK.out _ _ (q4) (fun hHeld => ?_)
        clear hK K
        try simp only [Act.put, List.setIfInBounds_toArray, List.set_cons_zero, List.set_cons_succ]
        obtain ⟨T, a, hA4, hk8, hmore⟩ := HW4.out.more hl2 hv2
        have HA4 := Lib.hid hA4
        have HM4 := Lib.hid hmore
        clear hA4 hmore hv2
        refine wpAnyH_ready (rs := [16]) (by kernel_rfl) (by simp) (AllReadyH.cons rfl (fun K hK => ?_) AllReadyH.nil)
        go_simp
        go_at_call 14
        refine (write_in (1 + k) v _ HA4.out hk8 hv1).mono ?_
        rintro e w5 ⟨rfl, hN5⟩
        obtain ⟨hW5, hb5⟩ := HM4.out _ hN5
        have q5 : w5.cell? ⟨bk, o + k, none⟩ = some (.int .i64 (X k)) := (hb5.cell (p := ⟨bk, o + k, none⟩) (by have := HK2.out.below.size; dsimp only; omega)).trans q4
        have hbr5 := hbr4.trans hb5
        have HW5 := Lib.hid hW5
        clear hN5 hW5 hb5 HM4 HA4 HW4 hk8 hv1 q4 hbr4
        refine hK.out _ _ (q5) (fun hHeld => ?_)
        clear hK K
        try simp only [Act.put, List.setIfInBounds_toArray, List.set_cons_zero, List.set_cons_succ]
        refine wpAnyH_done (by kernel_rfl) ?_ _
        clear hHeld
        rcases (by omega : t3 = 0 ∨ t3 = 1 ∨ t3 = 2 ∨ t3 = 3) with rfl | rfl | rfl | rfl
        · go_wp2_with fail
          go_roundg (len - (k + 1))
          case measure => go_light; omega
          case rel => exact ⟨k + 1, q, by omega, by omega, by omega, rfl, rfl, by go_num, HW5, hbr5⟩
        · go_wp2_with fail
          go_roundg (len - (k + 1))
          case measure => go_light; omega
          case rel => exact ⟨k + 1, q + 1, by omega, by omega, by omega, rfl, by go_num, by go_num, HW5, hbr5⟩
        · go_wp2_with fail
          go_roundg (len - (k + 1))
          case measure => go_light; omega
          case rel => exact ⟨k + 1, q + 1, by omega, by omega, by omega, rfl, by go_num, by go_num, HW5, hbr5⟩
        · go_wp2_with fail
          go_roundg (len - (k + 1))
          case measure => go_light; omega
          case rel => exact ⟨k + 1, q, by omega, by omega, by omega, rfl, rfl, by go_num, HW5, hbr5⟩
      · by_cases hl1 : k < len
        · have hl3 : ¬ (k : Int) < 4 := by omega
          clear hlt
          go_wp2_with fail
          go_meet
          case rel => exact ⟨k, q, rfl, by omega, HW, hb⟩
        · clear hlt
          go_wp2_with fail
          go_meet
          case rel => exact ⟨k, q, rfl, by omega, HW, hb⟩
  case rest =>
  obtain ⟨k, q, rfl, hq4, HW, hb⟩ := hcut
  clear HW3 hb3
  have HKr := Lib.hid (HK2.out.on (hb.drew))
  have HWr := Lib.hid (HW.out.on (Below.refl _ _).drew)
  clear HW hb
  go_wp2_with fail
  refine (tpick_nil _).mono ?_
  rintro e w4 ⟨rfl, rfl⟩
  go_upto_region 14 with fail
  rcases HKr.out.made with ⟨hM, s1, b', n', g', rfl, rfl, rfl, rfl, -⟩ | ⟨hM, rfl⟩
  · rw [decide_eq_true hM]
    refine may_end_yes (Lib.hid hM) HKr HWr _ _ _ _ _ _ _ _ _ _ _ _ _ _ _ _ _ _ _ _ _ _ _ _ _ _ _ _ _ _ _ _ _ _ _ _ _ _ _ _ _ _ _ _ _ _ _ _ _ _ _ _ _ _ _ _ _ _ _ _ _ _ _ _ _ _ _ _ _ _ _ _ _ _ _ _ _ _ _ _ _ _ _ _ _ _ _ _ _ _ _ _ _ _ _ _ _ _ _ _ _ _ _ _ _ _ _ _ _ _ _ _ _ _ _ _ _ _ _ _ _ _ _ _ _ _ _ _ _ _ _ _ _ _ _ _ _ _ _ _ _ _ _ _ _ _ _ _ _ _ _ _ _ _ _ _ _ _ _ _ _ _ _ _ (Lib.hid (fun x99 x100 x101 x102 x103 x104 x105 x106 x107 x108 x109 x110 x111 x112 x113 x114 x115 x116 x117 x118 x119 x120 x121 x122 x123 x124 x125 x126 x127 x128 x129 x130 x131 x132 x133 x134 x135 x136 x137 x138 x139 x140 x141 x142 x143 x144 x145 x146 x147 x148 x149 x150 x151 x152 x153 x154 x155 x156 x157 x158 x159 x160 x161 x162 x163 x164 x165 x166 x167 x168 x169 x170 wn hpost => ?_)) (fun v d c a w h => by cases d <;> exact h)
    go_wp2_with fail
    go_ret
    exact ⟨rfl, hpost⟩
  · rw [decide_eq_false hM]
    refine may_end_no hM HBb HKr HWr _ _ _ _ _ _ _ _ _ _ _ _ _ _ _ _ _ _ _ _ _ _ _ _ _ _ _ _ _ _ _ _ _ _ _ _ _ _ _ _ _ _ _ _ _ _ _ _ _ _ _ _ _ _ _ _ _ _ _ _ _ _ _ _ _ _ _ _ _ _ _ _ _ _ _ _ _ _ _ _ _ _ _ _ _ _ _ _ _ _ _ _ _ _ _ _ _ _ _ _ _ _ _ _ _ _ _ _ _ _ _ _ _ _ _ _ _ _ _ _ _ _ _ _ _ _ _ _ _ _ _ _ _ _ _ _ _ _ _ _ _ _ _ _ _ _ _ _ _ _ _ _ _ _ _ _ _ _ _ _ _ _ _ _ (Lib.hid (fun x99 x100 x101 x102 x103 x104 x105 x106 x107 x108 x109 x110 x111 x112 x113 x114 x115 x116 x117 x118 x119 x120 x121 x122 x123 x124 x125 x126 x127 x128 x129 x130 x131 x132 x133 x134 x135 x136 x137 x138 x139 x140 x141 x142 x143 x144 x145 x146 x147 x148 x149 x150 x151 x152 x153 x154 x155 x156 x157 x158 x159 x160 x161 x162 x163 x164 x165 x166 x167 x168 x169 x170 wn hpost => ?_)) (fun v d c a w h => by cases d <;> exact h)
    go_wp2_with fail
    go_ret
    exact ⟨rfl, hpost⟩

end Go.Proofs.YtgnodijblleipaaDoor
