/- The law on what is taken and given back, walked through. -/
import Derived.Test.YtbkkpgfglcmcpaaLaw4B
import Derived.BigQuiet
import Derived.Deep.QuietTactic
namespace Go.Proofs.Ytbkkpgfglcmcpaa
open Go.RowKit
attribute [local go_sem ↓] Go.wp_at_zero Go.wp_at_succ

set_option maxRecDepth 100000 in
set_option maxHeartbeats 4000000 in
theorem plays_any (G : Nat → Bool) (X : Nat → Int) (n : Int) (sa : Option Addr) (len cap bk o : Nat) (hsa : 0 < len → sa = some ⟨bk, o, none⟩) (w : World)
    (hc : ∀ i, i < len → w.cell? ⟨bk, o + i * 2, none⟩ = some (.bool (G i)) ∧ w.cell? ⟨bk, o + i * 2 + 1, none⟩ = some (.int .i64 (X i))) (hX : ∀ i, i < len → -9223372036854775808 ≤ X i ∧ X i ≤ 9223372036854775807) :
    Calls Try.prog 3 #[.int .i64 n, .slice sa len cap] w fun e w' => e = .returned (.bool true) ∧ Below w.heap.size w w' := by
  have HC := Lib.hid hc
  have HX := Lib.hid hX
  have HS := Lib.hid hsa
  clear hc hX hsa
  obtain ⟨k1, k2⟩ := and15 n
  obtain ⟨kk, hkk⟩ := Int.eq_ofNat_of_zero_le k1
  have hk15 : kk ≤ 15 := by omega
  have KK := Lib.hid (show (kk : Int) = min (max (kk : Int) 0) 1024 by omega)
  clear k1 k2
  obtain ⟨i0, hinf, hz0, hz1, hz2⟩ := info_parts Try.infoNum
  go_enter Try.func3, Try.ntmps3
  go_wp2_with fail
  refine (fnew_any (kk : Int) kk KK.out _).mono ?_
  rintro e w1 ⟨⟨P, M, L⟩, rfl, h1, hR1⟩
  have hb1 := hR1.below (Nat.le_refl _) (fun k hk => hk.elim)
  have hrow0 : Row (w1.alloc (.cells #[] 3)) w1.heap.size 3 (.slice (some ⟨w1.heap.size, 0, none⟩) 0 0) (numCells []) :=
    ⟨w1.heap.size, 0, 0, #[], rfl, Nat.le_refl _, heap_alloc_new _ _, Nat.le_refl _, Nat.zero_le _, Nat.le_refl _, fun j u hj => by simp [numCells] at hj⟩
  have hboth := Lib.hid (Both.fresh h1 (Rest.alloc (fun _ => False) w1 (.cells #[] 3)) hrow0)
  have hb2 := hb1.alloc hb1.size (.cells #[] 3)
  clear hrow0 h1 hR1 hb1 hkk
  dsimp only
  go_wp2_with fail
  go_loopg [7, 8] kk (fun g s7 s8 wr => ∃ i g7 o7 c7 : Nat, s7 = .slice (some ⟨g7, o7, none⟩) i c7 ∧ i ≤ kk ∧ g = kk - i ∧ s8 = .int .i64 i ∧ Hid (Both wr w.heap.size P M s7 ⟨List.range kk, kk⟩ (List.range i)) ∧ Below w.heap.size w wr)
  case atStart => exact ⟨0, w1.heap.size, 0, 0, rfl, Nat.zero_le _, rfl, rfl, hboth, hb2⟩
  case round =>
    clear hboth hb2
    obtain ⟨i, g7, o7, c7, rfl, hi, rfl, rfl, hboth, hbel⟩ := hrel
    by_cases hlt : i < kk
    · have hlt2 : (i : Int) < (kk : Int) := by omega
      obtain ⟨L1, hF, hR, hd⟩ := hboth.out
      have hra := Lib.hid (hR.rest (Rest.alloc (fun _ => False) wr (.cells #[.int .i64 (i : Int)] 3)) (fun _ _ => id))
      have hbs := hF.size
      clear hR hd hF
      go_wp2_with (at_builtin; refine wpList_append_row _ rfl _ _ 25 rfl w.heap.size 3 i0 (.int .i64 0) 8 Try.underlying25 hinf hz0 hz1 hz2 rfl _ (numCells (List.range i)) rfl hra.out ⟨wr.heap.size, 0, none⟩ 1 1 [.int .i64 (i : Int)] rfl rfl ?c1 ?c2 ?c3 ?c4 ?c5 ?_)
      case c1 => exact fun j u hj => cell_one_new wr (.int .i64 (i : Int)) 3 j u hj
      case c2 => intro u hu; simp at hu; subst hu; rfl
      case c3 => rw [numCells_length, List.length_range]; unfold maxLen; omega
      case c4 => rw [numCells_length, List.length_range]; omega
      case c5 => simp; omega
      intro v' w2 hown' hgrow hwhere
      obtain ⟨hb3, hbel3⟩ := hboth.out.snoc hown' hgrow hwhere
      have HB := Lib.hid hb3
      have HW := hbel.trans hbel3
      obtain ⟨g8, o8, c8, hv', -⟩ := hb3.shape
      have hll : (List.range i ++ [i]).length = i + 1 := by simp
      rw [hll] at hv'
      subst hv'
      clear hown' hgrow hwhere hb3 hbel3 hra hboth hbel hll
      go_wp2_with fail
      go_roundg (kk - (i + 1))
      case measure => go_light; omega
      case rel => exact ⟨i + 1, g8, o8, c8, rfl, by omega, rfl, by go_num, by rw [List.range_succ]; exact HB.out, HW⟩
    · obtain rfl : i = kk := by omega
      obtain ⟨g7', o7', c7', e7, hlc, hcm, -⟩ := hboth.out.shape
      simp only [Value.slice.injEq, Option.some.injEq, Addr.mk.injEq, and_true, List.length_range, true_and] at e7
      obtain ⟨⟨rfl, rfl⟩, rfl⟩ := e7
      rw [List.length_range] at hlc
      clear hlt hi KK
      go_wp2_with fail
      go_loopg [7, 9] len (fun g s7 s9 wr => ∃ (k g7 o7 c7 : Nat) (ln : List Nat), s7 = .slice (some ⟨g7, o7, none⟩) ln.length c7 ∧ k ≤ len ∧ g = len - k ∧ s9 = .int .i64 k ∧ k ≤ 80 ∧ ln.length ≤ c7 ∧ c7 ≤ 9223372036854775807 ∧ Hid (Both wr w.heap.size P M s7 ⟨ln, i⟩ ln) ∧ Below w.heap.size w wr)
      case atStart => exact ⟨0, g7, o7, c7, List.range i, by rw [List.length_range], Nat.zero_le _, rfl, rfl, by omega, by rw [List.length_range]; exact hlc, hcm, hboth, hbel⟩
      case round =>
        clear hboth hbel hlc hcm
        obtain ⟨k, g7, o7, c7, ln, rfl, hk, rfl, rfl, hk80, hlc, hcm, hboth, hbel⟩ := hrel
        by_cases hlt : k < len ∧ k < 80
        · obtain ⟨hl1, hl2⟩ := hlt
          have hl3 : (k : Int) < 80 := by omega
          obtain rfl := HS.out (by omega)
          obtain ⟨c0, c1⟩ := HC.out k hl1
          have q0 := (hbel.cell (p := ⟨bk, o + k * 2, none⟩) (block_lt_of_cell c0)).trans c0
          have q1 := (hbel.cell (p := ⟨bk, o + k * 2 + 1, none⟩) (block_lt_of_cell c1)).trans c1
          obtain ⟨x1, x2⟩ := HX.out k hl1
          generalize X k = x at *
          generalize G k = gv at *
          clear c0 c1
          go_upto_if 48 with fail
          go_cut [10] (fun s10 wx => ∃ y : Int, s10 = .int .i64 y ∧ -9223372036854775808 ≤ y ∧ y ≤ 9223372036854775807 ∧ wr = wx)
          case first =>
            obtain ⟨a1, a2⟩ := and15 x
            by_cases h3 : (0 : Int) < bits BinOp.and IntKind.i64 (k : Int) 3
            · go_wp2_with fail
              go_meet
              case rel => exact ⟨_, rfl, by omega, by omega, rfl⟩
            · go_wp2_with fail
              go_meet
              case rel => exact ⟨x, rfl, x1, x2, rfl⟩
          case rest =>
            obtain ⟨y, rfl, y1, y2, rfl⟩ := hcut
            clear x1 x2 q1
            go_upto_if 59 with fail
            go_cut [7] (fun s7 wx => ∃ (g7 o7 c7 : Nat) (ln : List Nat), s7 = .slice (some ⟨g7, o7, none⟩) ln.length c7 ∧ ln.length ≤ c7 ∧ c7 ≤ 9223372036854775807 ∧ Hid (Both wx w.heap.size P M s7 ⟨ln, i⟩ ln) ∧ Below w.heap.size w wx)
            case first =>
              cases gv with
              | true =>
                go_upto_region 14 with fail
                go_cut [11] (fun s11 wx => s11 = .bool (decide (¬ (0 ≤ y ∧ y < i))) ∧ wr = wx)
                case first =>
                  by_cases h3 : y < 0
                  · go_wp2_with fail
                    go_meet
                    case rel => exact ⟨by rw [decide_eq_true (show ¬ (0 ≤ y ∧ y < i) by omega)], rfl⟩
                  · by_cases h4 : (i : Int) ≤ y
                    · go_wp2_with fail
                      go_meet
                      case rel => exact ⟨by rw [decide_eq_true (show ¬ (0 ≤ y ∧ y < i) by omega)], rfl⟩
                    · go_wp2_with fail
                      go_meet
                      case rel => exact ⟨by rw [decide_eq_false (show ¬ ¬ (0 ≤ y ∧ y < i) by omega)], rfl⟩
                case rest =>
                  obtain ⟨rfl, rfl⟩ := hcut
                  have hst := Lib.hid (Found.start y i ln)
                  generalize decide (¬ (0 ≤ y ∧ y < i)) = b0 at *
                  have hfew := hboth.out.few
                  go_wp2_with fail
                  go_loopg [11, 12] ln.length (fun g s11 s12 wx => ∃ (j : Nat) (q : Bool), j ≤ ln.length ∧ g = ln.length - j ∧ s11 = .bool q ∧ s12 = .int .i64 j ∧ Hid (Found y i ln j q) ∧ wr = wx)
                  case atStart => exact ⟨0, b0, Nat.zero_le _, rfl, rfl, rfl, hst, rfl⟩
                  case round =>
                    clear hst
                    obtain ⟨j, q, hj, rfl, rfl, rfl, hfound, rfl⟩ := hrel
                    by_cases hjl : j < ln.length
                    · have hjl2 : (j : Int) < ln.length := by omega
                      cases q with
                      | true =>
                        go_wp2_with fail
                        go_roundg (ln.length - (j + 1))
                        case measure => go_light; omega
                        case rel => exact ⟨j + 1, true, by omega, rfl, rfl, by go_num, hfound.out.yes, rfl⟩
                      | false =>
                        obtain ⟨ga, oa, ca, ea, -, -, hcells⟩ := hboth.out.shape
                        simp only [Value.slice.injEq, Option.some.injEq, Addr.mk.injEq, and_true, true_and] at ea
                        obtain ⟨⟨rfl, rfl⟩, rfl⟩ := ea
                        have hcj := hcells j hjl
                        generalize hz : ln.getD j 0 = z at *
                        have HZ := Lib.hid hz
                        clear hcells hz
                        by_cases he : (z : Int) = y
                        · have hd : ((z : Int) == y) = true := by rw [beq_iff_eq]; exact he
                          have HE := Lib.hid he
                          clear he
                          go_wp2_with fail
                          go_roundg (ln.length - (j + 1))
                          case measure => go_light; omega
                          case rel => exact ⟨j + 1, true, by omega, rfl, rfl, by go_num, Found.now (by rw [HZ.out]; exact HE.out), rfl⟩
                        · have hd : ((z : Int) == y) = false := by rw [beq_eq_false_iff_ne]; exact he
                          have HE := Lib.hid he
                          clear he
                          go_wp2_with fail
                          go_roundg (ln.length - (j + 1))
                          case measure => go_light; omega
                          case rel => exact ⟨j + 1, false, by omega, rfl, rfl, by go_num, hfound.out.no (by rw [HZ.out]; exact HE.out), rfl⟩
                    · obtain rfl : j = ln.length := by omega
                      clear hj hjl
                      obtain ⟨L1, hF, hR, hd⟩ := hboth.out
                      cases q with
                      | true =>
                        have HF := Lib.hid hF
                        clear hF hR hd
                        go_wp2_with fail
                        refine (give_found y _ HF.out hfound.out).mono ?_
                        rintro e w2 ⟨rfl, rfl⟩
                        go_wp2_with fail
                        go_meet
                        case rel => exact ⟨g7, o7, c7, ln, rfl, hlc, hcm, hboth, hbel⟩
                      | false =>
                        obtain ⟨z, rfl, hz1', hz2'⟩ := found_not hfound.out
                        have HF := Lib.hid hF
                        have HR := Lib.hid hR
                        have HD := Lib.hid hd
                        have HZ := Lib.hid hz2'
                        clear hF hR hd hz2'
                        go_wp2_with fail
                        refine (give_yes z _ HF.out hz1' HZ.out).mono ?_
                        rintro e w2 ⟨rfl, hN⟩
                        have hbl := hbel.trans (hN.below HF.out)
                        have hbo := Lib.hid (Both.turn HR.out HD.out hN)
                        obtain ⟨L2, hF2, hR2, hd2⟩ := hbo.out
                        have HF2 := Lib.hid hF2
                        obtain ⟨ga, oa, ca, ea, -, -, hcells⟩ := hR2.cells
                        rw [numCells_length] at ea
                        simp only [Value.slice.injEq, Option.some.injEq, Addr.mk.injEq, and_true, true_and] at ea
                        obtain ⟨⟨rfl, rfl⟩, rfl⟩ := ea
                        have HCE := Lib.hid hcells
                        have hgs : g7 < w2.heap.size := (hR2.lt (k := g7) rfl).2
                        have hwb := Nat.le_of_lt hF2.size
                        have hrow0 : Row (w2.alloc (.cells #[] 3)) w2.heap.size 3 (.slice (some ⟨w2.heap.size, 0, none⟩) 0 0) [] :=
                          ⟨w2.heap.size, 0, 0, #[], rfl, Nat.le_refl _, heap_alloc_new _ _, Nat.le_refl _, Nat.zero_le _, Nat.le_refl _, fun j u hj => by simp at hj⟩
                        have HR0 := Lib.hid hrow0
                        clear hN hF2 hR2 hd2 hcells hrow0 hbel hboth HF HR HD HZ hfound
                        go_wp2_with (at_builtin; refine wpList_append_row _ rfl _ _ 25 rfl w2.heap.size 3 i0 (.int .i64 0) 8 Try.underlying25 hinf hz0 hz1 hz2 rfl _ [] rfl HR0.out ⟨g7, o7, none⟩ ln.length c7 (numCells ln) rfl (numCells_length ln) ?c1 numCells_one ?c3 ?c4 ?c5 ?_)
                        case c1 => exact fun j u hj => by rw [Addr.add_lit, World.cell?_of_block (Below.heap_alloc _ _ _ hgs)]; exact HCE.out j u hj
                        case c3 => simp; unfold maxLen; omega
                        case c4 => simp; omega
                        case c5 => simp
                        intro v3 w3 hown3 hgrow3 hwhere3
                        clear hwhere3 HCE HR0
                        have hr3 := Lib.hid ((Rest.alloc (fun _ => False) w2 (.cells #[] 3)).trans (o3 := fun _ => False) (Rest.grown (own := fun k => k = w2.heap.size) hgrow3 (fun k hk => by simp [Value.ownBlock] at hk; omega)) (fun _ _ => id) (fun i hi e => by omega))
                        obtain ⟨g9, o9, c9, e9, -⟩ := hown3.cells
                        simp only [numCells_length] at e9 hown3
                        subst e9
                        have hg9 : w2.heap.size ≤ g9 := (hown3.lt (k := g9) rfl).1
                        have hra := Lib.hid (hown3.rest (Rest.alloc (fun _ => False) w3 (.cells #[.int .i64 (z : Int)] 3)) (fun _ _ => id))
                        have hs3 := hr3.out.size
                        clear hgrow3 hown3
                        go_wp2_with (at_builtin; refine wpList_append_row _ rfl _ _ 25 rfl w2.heap.size 3 i0 (.int .i64 0) 8 Try.underlying25 hinf hz0 hz1 hz2 rfl _ (numCells ln) rfl hra.out ⟨w3.heap.size, 0, none⟩ 1 1 [.int .i64 (z : Int)] rfl rfl ?d1 ?d2 ?d3 ?d4 ?d5 ?_)
                        case d1 => exact fun j u hj => cell_one_new w3 (.int .i64 (z : Int)) 3 j u hj
                        case d2 => intro u hu; simp at hu; subst hu; rfl
                        case d3 => rw [numCells_length]; unfold maxLen; omega
                        case d4 => rw [numCells_length]; omega
                        case d5 => simp; omega
                        intro v4 w4 hown4 hgrow4 hwhere4
                        clear hwhere4 hra
                        have hr4 := (hr3.out.trans (o3 := fun _ => False) ((Rest.alloc (fun _ => False) w3 (.cells #[.int .i64 (z : Int)] 3)).trans (o3 := fun k => k = g9) (Rest.grown (own := fun k => k = g9) hgrow4 (fun k hk => by simp [Value.ownBlock] at hk; omega)) (fun _ _ => False.elim) (fun _ _ => id)) (fun _ _ => id) (fun i hi e => by omega))
                        have hbo4 := Both.fresh (l' := ln ++ [z]) HF2.out hr4 (by rw [numCells_append]; exact hown4)
                        have hbl4 := hbl.trans (hr4.below hwb (fun k hk => hk.elim))
                        obtain ⟨gb, ob, cb, eb, hlb, hcb, -⟩ := hbo4.shape
                        have HB4 := Lib.hid hbo4
                        subst eb
                        clear hgrow4 hown4 hr3 hr4 hbo4 hbo HF2 hbl
                        go_wp2_with fail
                        go_meet
                        case rel => exact ⟨gb, ob, cb, ln ++ [z], rfl, hlb, hcb, HB4, hbl4⟩
              | false =>
                obtain ⟨L1, hF, hR, hd⟩ := hboth.out
                have hfew := hboth.out.few
                cases ln with
                | nil =>
                  have HF := Lib.hid hF
                  have HB := Lib.hid hboth.out
                  clear hF hR hd hboth
                  go_wp2_with fail
                  refine (take_no _ HF.out rfl).mono ?_
                  rintro e w2 ⟨rfl, rfl⟩
                  go_wp2_with fail
                  go_meet
                  case rel => exact ⟨g7, o7, c7, [], rfl, hlc, hcm, HB, hbel⟩
                | cons z r =>
                  obtain ⟨ga, oa, ca, ea, -, -, hcells⟩ := hboth.out.shape
                  simp only [Value.slice.injEq, Option.some.injEq, Addr.mk.injEq, and_true, true_and] at ea
                  obtain ⟨⟨rfl, rfl⟩, rfl⟩ := ea
                  have HF := Lib.hid hF
                  have HR := Lib.hid hR
                  have HD := Lib.hid hd
                  clear hF hR hd hboth hcells
                  simp only [List.length_cons] at hlc hfew
                  go_wp2_with fail
                  refine (take_yes _ HF.out).mono ?_
                  rintro e w2 ⟨rfl, hN⟩
                  have hbl := hbel.trans (hN.below HF.out)
                  have hbo := Both.turn HR.out HD.out hN
                  obtain ⟨ga, oa, ca, ea, -, -, hcells⟩ := hbo.shape
                  simp only [Value.slice.injEq, Option.some.injEq, Addr.mk.injEq, and_true, true_and] at ea
                  obtain ⟨⟨rfl, rfl⟩, rfl⟩ := ea
                  have hx0 : w2.cell? ⟨g7, o7, none⟩ = some (.int .i64 (z : Int)) := hcells 0 (by simp)
                  obtain ⟨g8, o8, c8, e8, h81, h82, hbo8⟩ := hbo.cut
                  have hslice := slice_one g7 o7 (r.length + 1) c7 (by omega)
                  rw [e8] at hslice
                  have HB8 := Lib.hid hbo8
                  clear hN hbo hcells e8 hbo8 HR HD HF hbel
                  go_wp2_with fail
                  go_meet
                  case rel => exact ⟨g8, o8, c8, r, rfl, h81, h82, HB8, hbl⟩
            case rest =>
              clear hboth hbel hlc hcm
              obtain ⟨g7, o7, c7, ln, rfl, hlc, hcm, hboth, hbel⟩ := hcut
              obtain ⟨L1, hF, -, -⟩ := hboth.out
              have HF := Lib.hid hF
              have hfew := hboth.out.few
              clear hF
              go_wp2_with fail
              refine (all_any _ HF.out).mono ?_
              rintro e w2 ⟨v15, rfl, hline, hr⟩
              have hbl := hbel.trans (hr.below hbel.size (fun k hk => hk.elim))
              have HB2 := Lib.hid (hboth.out.rest hr)
              obtain ⟨a15, c15, g15, o15, rfl, ha15, hcells⟩ := hline.spread
              have HA := Lib.hid ha15
              have HCE : Hid (∀ j, j < ln.length → w2.cell? ⟨g15, o15 + j, none⟩ = some (.int .i64 ((ln.getD j 0 : Nat) : Int))) := hcells
              obtain ⟨L2, hF2, -, -⟩ := HB2.out
              have HF2 := Lib.hid hF2
              clear hline hr ha15 hcells hF2 hbel hboth HF
              go_wp2_with fail
              refine (flen_any _ HF2.out).mono ?_
              rintro e w3 ⟨rfl, rfl⟩
              dsimp only
              clear HF2
              go_wp2_with fail
              go_loopg [16] ln.length (fun g s16 wx => ∃ j : Nat, j ≤ ln.length ∧ g = ln.length - j ∧ s16 = .int .i64 j ∧ Hid (Both wx w.heap.size P M (.slice (some ⟨g7, o7, none⟩) ln.length c7) ⟨ln, i⟩ ln) ∧
                Hid (∀ j, j < ln.length → wx.cell? ⟨g15, o15 + j, none⟩ = some (.int .i64 ((ln.getD j 0 : Nat) : Int))) ∧ Below w.heap.size w wx)
              case atStart => exact ⟨0, Nat.zero_le _, rfl, rfl, HB2, HCE, hbl⟩
              case round =>
                clear HB2 HCE hbl
                obtain ⟨j, hj, rfl, rfl, HB2, HCE, hbl⟩ := hrel
                by_cases hjl : j < ln.length
                · have hjl2 : (j : Int) < ln.length := by omega
                  obtain rfl := HA.out (by omega)
                  have m0 := HCE.out j hjl
                  obtain ⟨ga, oa, ca, ea, -, -, hcells⟩ := HB2.out.shape
                  simp only [Value.slice.injEq, Option.some.injEq, Addr.mk.injEq, and_true, true_and] at ea
                  obtain ⟨⟨rfl, rfl⟩, rfl⟩ := ea
                  have m1 := hcells j hjl
                  have hz : ln.getD j 0 ∈ ln := by rw [List.getD_eq_getElem?_getD, List.getElem?_eq_getElem hjl]; exact List.getElem_mem _
                  have HZ := Lib.hid hz
                  have HB3 := Lib.hid (HB2.out.rest (Rest.drew _ _))
                  have HCE3 : Hid (∀ j, j < ln.length → wr.drew.cell? ⟨g15, o15 + j, none⟩ = some (.int .i64 ((ln.getD j 0 : Nat) : Int))) := HCE.out
                  obtain ⟨L3, hF3, -, -⟩ := HB3.out
                  have HF3 := Lib.hid hF3
                  generalize ln.getD j 0 = z at *
                  clear hcells hz hF3
                  go_wp2_with fail
                  go_region_held3 (fun w' => w'.cell? ⟨g15, o15 + j, none⟩ = some (.int .i64 (z : Int)) ∧ w'.cell? ⟨g7, o7 + j, none⟩ = some (.int .i64 (z : Int)) ∧ Hid (Free w' w.heap.size ⟨P, M, L3⟩ ⟨ln, i⟩) ∧ Below w.heap.size w w')
                    (first | assumption | exact ⟨m0, m1, HF3, hbl.drew⟩)
                    (first | (go_at_call 10; refine (fhas_seen (B := w.heap.size) (s := ⟨P, M, L3⟩) (a := ⟨ln, i⟩) (w0 := w) (p := ⟨g15, o15 + j, none⟩) (q := ⟨g7, o7 + j, none⟩) z (by assumption) HZ.out).mono ?_; rintro e w3 ⟨rfl, rfl⟩))
                  go_wp2_with fail
                  go_roundg (ln.length - (j + 1))
                  case measure => go_light; omega
                  case rel => exact ⟨j + 1, by omega, rfl, by go_num, HB3, HCE3, hbl.drew⟩
                · obtain rfl : j = ln.length := by omega
                  go_wp2_with fail
                  go_roundg (len - (k + 1))
                  case measure => go_light; omega
                  case rel => exact ⟨k + 1, g7, o7, c7, ln, rfl, by omega, rfl, by go_num, by omega, hlc, hcm, HB2, hbl⟩
        · by_cases hl1 : k < len
          · have hl3 : ¬ (k : Int) < 80 := by omega
            clear hlt
            go_wp2_with fail
            refine (awake4_any _).mono ?_
            rintro e w2 ⟨rfl, hb⟩
            have hbl := hbel.trans (hb.mono hbel.size)
            clear hb hbel
            go_wp2_with fail
            go_ret
            exact ⟨rfl, hbl⟩
          · clear hlt
            go_wp2_with fail
            refine (awake4_any _).mono ?_
            rintro e w2 ⟨rfl, hb⟩
            have hbl := hbel.trans (hb.mono hbel.size)
            clear hb hbel
            go_wp2_with fail
            go_ret
            exact ⟨rfl, hbl⟩

end Go.Proofs.Ytbkkpgfglcmcpaa
