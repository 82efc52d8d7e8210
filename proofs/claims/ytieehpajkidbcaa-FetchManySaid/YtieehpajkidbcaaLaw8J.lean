/- The law on many who send and one who fetches: what comes of any order of steps. -/
import Derived.Test.YtieehpajkidbcaaLaw8H
import Derived.Test.YtieehpajkidbcaaLaw8I
namespace Go.Proofs.Ytieehpajkidbcaa
open Go.RowKit
attribute [local go_sem ↓] Go.wp_at_zero Go.wp_at_succ

set_option maxHeartbeats 8000000 in
set_option maxRecDepth 100000 in
theorem many_law (X : Nat → Int) (len : Nat) (many : Int) (sa : Option Addr) (cap bk o : Nat) (hsa : 0 < len → sa = some ⟨bk, o, none⟩) (w : World)
    (hc : ∀ i, i < len → w.cell? ⟨bk, o + i, none⟩ = some (.int .i64 (X i))) :
    Calls Try.prog 4 #[.slice sa len cap, .int .i64 many] w fun e w' => e = .returned (.bool true) ∧ Below w.heap.size w w' := by
  obtain ⟨K, hK, hsh⟩ := many_low many
  have HO : Hid (Rg.Ok 0 2) := by show Rg.Ok 0 2; unfold Rg.Ok; omega
  have HC := Lib.hid hc
  have HS := Lib.hid hsa
  have hmk1 := make_tasks K (by omega)
  have hmk2 := make_ints K (by omega)
  generalize hT9 : madeCells none8 (K * 9) = T9 at hmk1
  generalize hI1 : madeCells #[.int .i64 0] (K * 1) = I1 at hmk2
  have HT9 := Lib.hid hT9
  have HI1 := Lib.hid hI1
  clear hc hsa hT9 hI1
  go_enter Try.func4, Try.ntmps4
  go_wp2_with fail
  refine (cells_two _).mono ?_
  rintro e w0 ⟨rfl, rfl⟩
  go_wp2_with fail
  refine (new_yes 9 _ (by omega) (by omega)).mono ?_
  rintro e w1 ⟨s, rfl, hA, hR⟩
  obtain ⟨hS1, hr1⟩ := Side.start hA hR
  have HS1 := Lib.hid hS1
  have HR1 := Lib.hid hr1
  have c0 : w1.cell? ⟨w.heap.size, 0, none⟩ = some (.int .i64 0) := cell_of_row _ _ _ _ _ _ hr1
  have c1 : w1.cell? ⟨w.heap.size, 1, none⟩ = some (.int .i64 2) := cell_of_row _ _ _ _ _ _ hr1
  clear hA hR hS1 hr1
  go_wp2_with fail
  obtain ⟨T, hA1, hN1⟩ := HS1.out.call
  refine (init_yes 0 2 HO.out _ hA1 (by simp [Ar.new])).mono ?_
  rintro e w2 ⟨rfl, a0, hcs, hN⟩
  obtain ⟨hS2, hk2⟩ := hN1 _ _ hN
  have HR2 := Lib.hid ((hk2 _ rfl).trans HR1.out)
  have HS2 := Lib.hid hS2
  have HGame : Hid (Rg.Game K 0 a0.cs 0 (fun m => Rg.anew 0 2 m 0) (fun _ => 0) (fun _ => 0) ⟨0, 2, 0, 0, 0, 0, 0, 0⟩) := by show Rg.Game K 0 a0.cs 0 _ _ _ _; rw [hcs]; exact Rg.Game.start hK _ (by simp [Ar.new])
  clear hcs hN hA1 hN1 hS2 hk2 HS1 HR1 c0 c1
  go_upto_region 5 with fail
  go_cut [8, 9, 10] (fun s8 s9 s10 wx => ∃ gt gs ge : Nat, s8 = .slice (some ⟨gt, 0, none⟩) K K ∧ s9 = .slice (some ⟨gs, 0, none⟩) K K ∧ s10 = .slice (some ⟨ge, 0, none⟩) K K ∧ Hid (Three w2 wx K gt gs ge))
  case first =>
    go_region
    all_goals (go_wp2_with fail; go_meet)
    case rel => exact ⟨_, _, _, rfl, rfl, rfl, three_tii w2 HT9.out HI1.out⟩
    case rel => exact ⟨_, _, _, rfl, rfl, rfl, (three_tii w2 HT9.out HI1.out).swap⟩
    case rel => exact ⟨_, _, _, rfl, rfl, rfl, three_iti w2 HT9.out HI1.out⟩
    case rel => exact ⟨_, _, _, rfl, rfl, rfl, three_iit w2 HT9.out HI1.out⟩
    case rel => exact ⟨_, _, _, rfl, rfl, rfl, (three_iti w2 HT9.out HI1.out).swap⟩
    case rel => exact ⟨_, _, _, rfl, rfl, rfl, (three_iit w2 HT9.out HI1.out).swap⟩
  case rest =>
  obtain ⟨gt, gs, ge, rfl, rfl, rfl, hth⟩ := hcut
  have c0 : wc.cell? ⟨w.heap.size, 0, none⟩ = some (.int .i64 0) := cell_of_row _ _ _ _ _ _ ((hth.out.below.block _ (HS2.out.old _ rfl)).trans HR2.out)
  have c1 : wc.cell? ⟨w.heap.size, 1, none⟩ = some (.int .i64 2) := cell_of_row _ _ _ _ _ _ ((hth.out.below.block _ (HS2.out.old _ rfl)).trans HR2.out)
  clear hmk1 hmk2
  go_wp2_with fail
  refine (ftnew_any 0 2 0 _).mono ?_
  rintro e w3 ⟨rfl, hb3⟩
  have HM0 : Hid (Mny w (w3.alloc (.cells #[.int .i64 0, .int .i64 2, .int .u64 0, .int .i64 0, .int .i64 0, .int .u64 0, .int .u64 0, .int .u64 0] 43)) s K a0 gt gs ge w3.heap.size (fun _ => zero8) (fun _ => 0) (fun _ => 0) ⟨0, 2, 0, 0, 0, 0, 0, 0⟩) := Mny.start HS2.out HR2.out hth.out hb3
  clear hb3 hth HS2 HR2 c0 c1
  go_wp2_with fail
  generalize w3.alloc _ = w4 at HM0 ⊢
  generalize w3.heap.size = gu at HM0 ⊢
  go_loopg [13] K (fun g s13 wr => ∃ i : Nat, i ≤ K ∧ g = K - i ∧ s13 = .int .i64 i ∧ Hid (Mny w wr s K a0 gt gs ge gu (fun m => if m < i then Rg.anew 0 2 m 0 else zero8) (fun _ => 0) (fun _ => 0) ⟨0, 2, 0, 0, 0, 0, 0, 0⟩))
  case atStart => exact ⟨0, Nat.zero_le _, rfl, rfl, HM0.out.same (fun m _ => by rw [if_neg (Nat.not_lt_zero _)]) (fun _ _ => rfl) (fun _ _ => rfl)⟩
  case round =>
    clear HM0
    obtain ⟨i, hi, rfl, rfl, HM⟩ := hrel
    by_cases h1 : i < K
    · have h1i : (i : Int) < (K : Int) := by omega
      have hwi : IntKind.u64.wrap (i : Int) = (i : Int) := by rw [IntKind.wrap_u64]; omega
      obtain ⟨d0, d1⟩ := HM.out.cells
      go_wp2_with fail
      refine (snew_any 0 2 i 0 i _).mono ?_
      rintro e w5 ⟨rfl, hb5⟩
      have HM5 := Lib.hid (HM.out.behind hb5)
      obtain ⟨c0, c1, c2, c3, c4, c5, c6, c7, c8⟩ := tasks_cells HM5.out.tasks h1 rfl
      obtain ⟨f0, f1, f2, f3, f4, f5, f6, f7, f8⟩ := tasks_free (i := i) HM5.out.tasks
      clear hb5 HM d0 d1
      go_wp2_with fail
      have HM6 := Lib.hid (HM5.out.putT h1 (Rg.anew 0 2 i 0))
      clear c0 c1 c2 c3 c4 c5 c6 c7 c8 f0 f1 f2 f3 f4 f5 f6 f7 f8 HM5
      go_roundg (K - (i + 1))
      case measure => go_light; omega
      case rel => exact ⟨i + 1, by omega, rfl, by go_num, HM6.out.same (fun m _ => by by_cases e : m = i; (subst e; simp); (by_cases e2 : m < i; (rw [if_neg e, if_pos e2, if_pos (by omega)]); (rw [if_neg e, if_neg e2, if_neg (by omega)]))) (fun _ _ => rfl) (fun _ _ => rfl)⟩
    · obtain rfl : K = i := by omega
      have HM1 := Lib.hid (HM.out.same (S' := fun m => Rg.anew 0 2 m 0) (fun m hm => if_pos hm) (fun _ _ => rfl) (fun _ _ => rfl))
      clear HM
      go_wp2_with fail
      go_loopg [12, 14] 400 (fun g s12 s14 wr => ∃ i H : Nat, i ≤ 400 ∧ g = 400 - i ∧ s12 = .int .u64 H ∧ s14 = .int .i64 i ∧ H ≤ i ∧ Hid (∃ a S sent seen u, Mny w wr s K a gt gs ge gu S sent seen u ∧ Rg.Game K i a.cs H S sent seen u))
      case atStart => exact ⟨0, 0, by omega, rfl, rfl, rfl, Nat.le_refl _, a0, _, _, _, _, HM1.out, HGame.out⟩
      case round =>
        clear HM1 HGame
        obtain ⟨i, H, hi, rfl, rfl, rfl, hHi, hR⟩ := hrel
        obtain ⟨a, S, sent, seen, u, hm, hg⟩ := hR.out
        have HM := Lib.hid hm
        have HG := Lib.hid hg
        clear hR hm hg
        by_cases h4 : i < 400
        · have h4i : (i : Int) < 400 := by omega
          have hk1 : IntKind.i64.wrap ((K : Int) + 1) = (K : Int) + 1 := by rw [IntKind.wrap_i64]; omega
          have hk2 : (K : Int) + 1 ≠ 0 := by omega
          have hm0 : (i : Int).tmod ((K : Int) + 1) = ((i % (K + 1) : Nat) : Int) := rfl
          go_upto_if 66 with fail
          go_cut [15] (fun s15 wx => ∃ m : Nat, s15 = .int .i64 m ∧ m ≤ K ∧ wr = wx)
          case first =>
            have hle : i % (K + 1) ≤ K := by have := Nat.mod_lt i (show 0 < K + 1 by omega); omega
            by_cases hl : i < len
            · have hli : (i : Int) < (len : Int) := by omega
              have e := HS.out (by omega)
              subst e
              have x0 : wr.cell? ⟨bk, o + i, none⟩ = some (.int .i64 (X i)) := (HM.out.below.cell (cell_block (HC.out i hl))).trans (HC.out i hl)
              generalize X i = x at x0
              obtain ⟨y, hy⟩ : ∃ y : Nat, bits .and .i64 x 255 = (y : Int) := ⟨(x % 256).toNat, by rw [low255]; omega⟩
              have hm1 : (y : Int).tmod ((K : Int) + 1) = ((y % (K + 1) : Nat) : Int) := rfl
              have hle2 : y % (K + 1) ≤ K := by have := Nat.mod_lt y (show 0 < K + 1 by omega); omega
              go_wp2_with fail
              go_meet
              case rel => exact ⟨y % (K + 1), rfl, hle2, rfl⟩
            · have hli : ¬ (i : Int) < (len : Int) := by omega
              go_wp2_with fail
              go_meet
              case rel => exact ⟨i % (K + 1), rfl, hle, rfl⟩
          case rest =>
          obtain ⟨m, rfl, hmK, rfl⟩ := hcut
          clear hm0
          go_wp2_with fail
          obtain ⟨T2, hA2, hN2⟩ := HM.out.call
          refine (begin_any _ hA2).mono ?_
          rintro e w5 ⟨rfl, hA5, hR5⟩
          have HM5 := Lib.hid (hN2 _ _ ⟨_, .inl rfl, hA5, hR5⟩)
          have HG5 : Hid (Rg.Game K i a.begin.cs H S sent seen u) := HG
          clear hA2 hN2 hA5 hR5 HM HG
          by_cases hmk : m < K
          · have hmi : (m : Int) < (K : Int) := by omega
            go_upto_if 79 with fail
            have HGb : Hid (Rg.Game K i a.begin.cs H S sent seen u) := HG5
            refine many_send (ab := a.begin) hK h4 rfl HM5 HGb hmk _ _ _ _ _ _ _ _ _ _ _ _ _ _ _ _ _ _ _ _ _ _ _ _ _ _ _ _ _ _ _ _ _ _ _ _ _ _ _ _ _ _ _ _ _ _ _ _ _ _ _ _ _ _ _ _ _ _ _ _ _ _ _ _ _ _ _ _ _ _ _ _ _ _ _ _ _ _ _ _ _ _ _ _ _ _ _ _ _ _ _ _ _ _ _ _ _ _ _ _ _ _ _ _ _ _ _ _ _ _ _ _ _ _ _ _ _ _ _ _ _ _ _ _ _ _ _ _ _ _ _ _ _ _ _ _ _ _ _ _ _ _ _ _ _ _ _ _ _ _ _ _ _ _ _ _ _ _ _ _ _ _ _ _ _ _ _ _ _ _ _ _ _ _ _ _ _ _ _ _ _ _ _ _ _ _ _ _ _ _ _ _ _ _ _ _ _ _ _ _ (Lib.hid (fun x16 x17 x80 x81 x82 x83 x84 x85 x86 x87 x88 x89 x90 x91 x92 x93 x94 x95 x96 x97 x98 x99 x100 x101 x102 x103 x104 x105 x106 x107 x108 x109 x110 x111 x112 x113 x114 x115 x116 x117 x118 x119 x120 x121 x122 x123 x124 x125 x126 wn hpost => ?_)) (fun v d c a w h => by cases d <;> exact h)
            obtain ⟨a2, S2, sent2, hT, hmq, hgm⟩ := hpost
            have HT := Lib.hid hT
            have HMQ := Lib.hid hmq
            have HGm := Lib.hid hgm
            clear hT hmq hgm HM5 HG5 HGb
            go_wp2_with fail
            obtain ⟨T9, hA9, -⟩ := HMQ.out.call
            refine (touched_any _ hA9).mono ?_
            rintro e w9 ⟨ao, cp, rfl, -, hR9⟩
            have HM9 := Lib.hid (HMQ.out.behind (hR9.below (Nat.le_refl _) (fun k hk => hk.elim)))
            rw [HT.out]
            clear hA9 hR9 HMQ
            go_wp2_with fail
            go_roundg (400 - (i + 1))
            case measure => go_light; omega
            case rel => exact ⟨i + 1, H, by omega, rfl, by go_num, by go_num, by omega, a2, _, _, _, _, HM9.out, HGm.out⟩
          · obtain rfl : K = m := by omega
            have hmi : ¬ (K : Int) < (K : Int) := by omega
            go_upto_if 79 with fail
            have HGb : Hid (Rg.Game K i a.begin.cs H S sent seen u) := HG5
            refine many_fetch (ab := a.begin) hK h4 rfl HM5 HGb _ _ _ _ _ _ _ _ _ _ _ _ _ _ _ _ _ _ _ _ _ _ _ _ _ _ _ _ _ _ _ _ _ _ _ _ _ _ _ _ _ _ _ _ _ _ _ _ _ _ _ _ _ _ _ _ _ _ _ _ _ _ _ _ _ _ _ _ _ _ _ _ _ _ _ _ _ _ _ _ _ _ _ _ _ _ _ _ _ _ _ _ _ _ _ _ _ _ _ _ _ _ _ _ _ _ _ _ _ _ _ _ _ _ _ _ _ _ _ _ _ _ _ _ _ _ _ _ _ _ _ _ _ _ _ _ _ _ _ _ _ _ _ _ _ _ _ _ _ _ _ _ _ _ _ _ _ _ _ _ _ _ _ _ _ _ _ _ _ _ _ _ _ _ _ _ _ _ _ _ _ _ _ _ _ _ _ _ _ _ _ _ _ _ _ _ _ _ _ _ (Lib.hid (fun x18 x19 x20 x21 x127 x128 x129 x130 x131 x132 x133 x134 x135 x136 x137 x138 x139 x140 x141 x142 x143 x144 x145 x146 x147 x148 x149 x150 x151 x152 x153 x154 x155 x156 x157 x158 x159 x160 x161 x162 x163 x164 x165 x166 x167 x168 x169 x170 x171 x172 x173 x174 x175 x176 x177 x178 x179 x180 x181 x182 x183 x184 x185 x186 x187 wn H2 hpost => ?_)) (fun v d c a w h => by cases d <;> exact h)
            obtain ⟨hH2, a2, seen2, u2, hT, hmq, hgm⟩ := hpost
            have HT := Lib.hid hT
            have HMQ := Lib.hid hmq
            have HGm := Lib.hid hgm
            clear hT hmq hgm HM5 HG5 HGb
            go_wp2_with fail
            obtain ⟨T9, hA9, -⟩ := HMQ.out.call
            refine (touched_any _ hA9).mono ?_
            rintro e w9 ⟨ao, cp, rfl, -, hR9⟩
            have HM9 := Lib.hid (HMQ.out.behind (hR9.below (Nat.le_refl _) (fun k hk => hk.elim)))
            rw [HT.out]
            clear hA9 hR9 HMQ
            go_wp2_with fail
            go_roundg (400 - (i + 1))
            case measure => go_light; omega
            case rel => exact ⟨i + 1, H2, by omega, rfl, by go_num, by go_num, by omega, a2, _, _, _, _, HM9.out, HGm.out⟩
        · obtain rfl : 400 = i := by omega
          have HM1 := HM
          have HFew : Hid (∀ q, q < K → sent q ≤ 400 ∧ seen q ≤ sent q + 1) := fun q hq => HG.out.few hq
          clear HM HG
          go_wp2_with fail
          go_loopg [22] K (fun g s22 wx => ∃ i : Nat, i ≤ K ∧ g = K - i ∧ s22 = .int .i64 i ∧ Hid (Mny w wx s K a gt gs ge gu S sent seen u))
          case atStart => exact ⟨0, Nat.zero_le _, rfl, rfl, HM1.out⟩
          case round =>
            clear HM1
            obtain ⟨i, hi, rfl, rfl, HM⟩ := hrel
            by_cases h1 : i < K
            · have h1i : (i : Int) < (K : Int) := by omega
              obtain ⟨hf1, hf2⟩ := HFew.out i h1
              have HMd := Lib.hid (HM.out.behind (Below.refl _ _).drew)
              have q0 := ints_cell HMd.out.seens h1
              have q1 := ints_cell HMd.out.sents h1
              generalize sent i = c at hf1 hf2 q1
              generalize seen i = d at hf2 q0
              have hw : IntKind.i64.wrap ((c : Int) + 1) = (c : Int) + 1 := by rw [IntKind.wrap_i64]; omega
              have hgt : ¬ (c : Int) + 1 < (d : Int) := by omega
              have hq := And.intro q0 q1
              clear q0 q1 HM
              go_wp2_with fail
              refine wp_region_held_drew (S := fun w' => w'.cell? ⟨ge, i, none⟩ = some (.int .i64 (d : Nat)) ∧ w'.cell? ⟨gs, i, none⟩ = some (.int .i64 (c : Nat))) (by as_aux_lemma => kernel_rfl) hq (fun hHeld => ?_)
              refine wpAnyH_yield 0 (.slice (some ⟨ge, 0, none⟩) K K) rfl (by as_aux_lemma => kernel_rfl) (by as_aux_lemma => kernel_rfl) (by as_aux_lemma => kernel_rfl) (fun d _ _ _ h => by cases d <;> exact h) (by rfl) (by assumption) (fun _ _ => by go_simp) ?_
              simp only [Act.put, List.setIfInBounds_toArray, List.set_cons_zero, List.set_cons_succ]
              refine wpAnyH_yield 1 (.int .i64 i) rfl (by as_aux_lemma => kernel_rfl) (by as_aux_lemma => kernel_rfl) (by as_aux_lemma => kernel_rfl) (fun d _ _ _ h => by cases d <;> exact h) (by rfl) (by assumption) (fun _ _ => by go_simp) ?_
              simp only [Act.put, List.setIfInBounds_toArray, List.set_cons_zero, List.set_cons_succ]
              refine wpAnyH_yield 2 (.pointer (some ⟨ge, i, none⟩)) rfl (by as_aux_lemma => kernel_rfl) (by as_aux_lemma => kernel_rfl) (by as_aux_lemma => kernel_rfl) (fun d _ _ _ h => by cases d <;> exact h) (by rfl) (by assumption) (fun _ _ => by go_simp) ?_
              simp only [Act.put, List.setIfInBounds_toArray, List.set_cons_zero, List.set_cons_succ]
              refine wpAnyH_yield 3 (.int .i64 d) rfl (by as_aux_lemma => kernel_rfl) (by as_aux_lemma => kernel_rfl) (by as_aux_lemma => kernel_rfl) (fun d _ _ _ h => by cases d <;> exact h) (by rfl) (by assumption) (fun _ hSw => by (try dsimp only at hSw); go_simp) ?_
              simp only [Act.put, List.setIfInBounds_toArray, List.set_cons_zero, List.set_cons_succ]
              refine wpAnyH_yield 4 (.slice (some ⟨gs, 0, none⟩) K K) rfl (by as_aux_lemma => kernel_rfl) (by as_aux_lemma => kernel_rfl) (by as_aux_lemma => kernel_rfl) (fun d _ _ _ h => by cases d <;> exact h) (by rfl) (by assumption) (fun _ _ => by go_simp) ?_
              simp only [Act.put, List.setIfInBounds_toArray, List.set_cons_zero, List.set_cons_succ]
              refine wpAnyH_yield 5 (.int .i64 i) rfl (by as_aux_lemma => kernel_rfl) (by as_aux_lemma => kernel_rfl) (by as_aux_lemma => kernel_rfl) (fun d _ _ _ h => by cases d <;> exact h) (by rfl) (by assumption) (fun _ _ => by go_simp) ?_
              simp only [Act.put, List.setIfInBounds_toArray, List.set_cons_zero, List.set_cons_succ]
              refine wpAnyH_yield 6 (.pointer (some ⟨gs, i, none⟩)) rfl (by as_aux_lemma => kernel_rfl) (by as_aux_lemma => kernel_rfl) (by as_aux_lemma => kernel_rfl) (fun d _ _ _ h => by cases d <;> exact h) (by rfl) (by assumption) (fun _ _ => by go_simp) ?_
              simp only [Act.put, List.setIfInBounds_toArray, List.set_cons_zero, List.set_cons_succ]
              refine wpAnyH_yield 7 (.int .i64 c) rfl (by as_aux_lemma => kernel_rfl) (by as_aux_lemma => kernel_rfl) (by as_aux_lemma => kernel_rfl) (fun d _ _ _ h => by cases d <;> exact h) (by rfl) (by assumption) (fun _ hSw => by (try dsimp only at hSw); go_simp) ?_
              simp only [Act.put, List.setIfInBounds_toArray, List.set_cons_zero, List.set_cons_succ]
              refine wpAnyH_yield 8 (.int .i64 (c + 1)) rfl (by as_aux_lemma => kernel_rfl) (by as_aux_lemma => kernel_rfl) (by as_aux_lemma => kernel_rfl) (fun d _ _ _ h => by cases d <;> exact h) (by rfl) (by assumption) (fun _ _ => by go_simp) ?_
              simp only [Act.put, List.setIfInBounds_toArray, List.set_cons_zero, List.set_cons_succ]
              refine wpAnyH_yield 9 (.bool false) rfl (by as_aux_lemma => kernel_rfl) (by as_aux_lemma => kernel_rfl) (by as_aux_lemma => kernel_rfl) (fun d _ _ _ h => by cases d <;> exact h) (by rfl) (by assumption) (fun _ _ => by go_simp) ?_
              simp only [Act.put, List.setIfInBounds_toArray, List.set_cons_zero, List.set_cons_succ]
              refine wpAnyH_done (by as_aux_lemma => kernel_rfl) ?_ _
              go_wp2_with fail
              go_roundg (K - (i + 1))
              case measure => go_light; omega
              case rel => exact ⟨i + 1, by omega, rfl, by go_num, HMd.out⟩
            · obtain rfl : K = i := by omega
              go_wp2_with fail
              refine (awake8_any _).mono ?_
              rintro e v ⟨rfl, hv⟩
              have hbe := HM.out.below.trans (hv.mono HM.out.below.size)
              go_wp2
              go_ret
              exact ⟨rfl, hbe⟩



end Go.Proofs.Ytieehpajkidbcaa
