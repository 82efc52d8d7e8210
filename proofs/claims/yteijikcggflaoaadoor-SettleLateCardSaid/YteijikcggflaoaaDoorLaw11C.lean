/- The law on a slow one, that does not end the next turn. -/
import Derived.Test.YteijikcggflaoaaDoorLaw11B
import Derived.Test.YteijikcggflaoaaDoorLow
import Derived.Deep.DeepCutAuto
namespace Go.Proofs.YteijikcggflaoaaDoor
open Go.RowKit
attribute [local go_sem ↓] Go.wp_at_zero Go.wp_at_succ

theorem low16_nat (p : Int) : ∃ j : Nat, j ≤ 65535 ∧ bits .and .i64 p 65535 = (j : Int) := by
  rw [low16]
  exact ⟨(p % 65536).toNat, by omega, by omega⟩
theorem low1_two (p : Int) : bits .and .i64 p 1 = 0 ∨ bits .and .i64 p 1 = 1 := by
  rw [show bits .and .i64 p 1 = p % 2 from i64_low p 1 (by omega)]
  omega
theorem bit2_two (n : Int) : bits .and .i64 n 2 = 0 ∨ bits .and .i64 n 2 = 2 := by
  have key : (BitVec.ofInt 64 n &&& BitVec.ofInt 64 2).toNat = 0 ∨ (BitVec.ofInt 64 n &&& BitVec.ofInt 64 2).toNat = 2 := by
    rw [BitVec.toNat_and, show (BitVec.ofInt 64 2).toNat = 2 by rfl]
    generalize (BitVec.ofInt 64 n).toNat = x
    have h1 : x &&& 2 ≤ 2 := Nat.and_le_right
    have h2 : (x &&& 2) % 2 ^ 1 = (x % 2 ^ 1) &&& (2 % 2 ^ 1) := Nat.and_mod_two_pow
    rw [show 2 % 2 ^ 1 = 0 by rfl, Nat.and_zero] at h2
    omega
  have hb : bits .and .i64 n 2 = IntKind.i64.wrap ((BitVec.ofInt 64 n &&& BitVec.ofInt 64 2).toNat : Nat) := rfl
  rw [hb]
  rcases key with e | e <;> rw [e]
  · exact .inl rfl
  · exact .inr rfl

namespace Stl
/-- It read the word, and the word was changed since: it is found stale two steps later. -/
theorem run_slow (g m : Int) (p : Nat) (a : Ar) (h : ¬ (((Slt.gen (a.cs.getD 0 0) : Nat) : Int) = g ∧ Slt.Live (a.cs.getD 0 0))) (hp : a.cs.getD 0 0 ≠ p) : ∀ n, run (⟨0, g, m, 1, p⟩, a) (n + 2) = (⟨0, g, m, 3, 0⟩, (a.touch 0).touch 0)
  | 0 => run_succ (n := 1) (run_succ (n := 0) rfl (step_lost (d := ⟨0, g, m, 1, p⟩) rfl hp)) (step_stale (d := ⟨0, g, m, 0, 0⟩) rfl (by rw [Ar.touch_cs]; exact h))
  | n + 1 => run_succ (run_slow g m p a h hp n) (step_idle (d := ⟨0, g, m, 3, 0⟩) (Nat.le_succ 2))
/-- Whether it read the word, or not. -/
theorem run_late (g m : Int) (p k x z : Nat) (a : Ar) (hk : k = 0 ∧ x = 0 ∨ k = 1 ∧ x = p) (hz : a.cs = [z]) (h : ¬ (((Slt.gen z : Nat) : Int) = g ∧ Slt.Live z)) (hp : z ≠ p) : ∃ a', run (⟨0, g, m, k, x⟩, a) 4 = (⟨0, g, m, 3, 0⟩, a') ∧ a'.cs = [z] := by
  have e : a.cs.getD 0 0 = z := by rw [hz]; rfl
  rcases hk with ⟨rfl, rfl⟩ | ⟨rfl, rfl⟩
  · exact ⟨_, run_stale g m a (by rw [e]; exact h) 3, by rw [Ar.touch_cs, hz]⟩
  · exact ⟨_, run_slow g m x a (by rw [e]; exact h) (by rw [e]; exact hp) 2, by rw [Ar.touch_cs, Ar.touch_cs, hz]⟩
end Stl

set_option maxRecDepth 100000 in
set_option maxHeartbeats 4000000 in
theorem late_any (g when_ : Int) (w : World) (hL : SLay w) : Calls Tryd.prog 4 #[.int .i64 g, .int .i64 when_] w fun e w' => e = .returned (.bool true) ∧ Below w.heap.size w w' := by
  obtain ⟨n, hn, hng⟩ := low16_nat g
  have HL := Lib.hid hL
  clear hL
  go_enter Tryd.func4, Tryd.ntmps4
  go_wp2_with fail
  refine (new_yes 1 _ (by decide) (by decide)).mono ?_
  rintro e w1 hF
  obtain ⟨P, rfl, h1⟩ := St.fresh hF
  have H1 := Lib.hid h1
  clear hF h1
  go_wp2_with fail
  refine (sword_any ((n : Int) + 1) 1 (by omega) (by decide) _ (H1.out.lay HL.out)).mono ?_
  rintro e w2 ⟨rfl, hb⟩
  have H2 := Lib.hid (H1.out.below hb)
  clear hb H1
  rw [show Slt.word (min (Int.toNat ((n : Int) + 1)) 16777215) (min (Int.toNat 1) 3) = Slt.word (n + 1) 1 by congr 1; omega]
  have g1 : Slt.gen (Slt.word (n + 1) 1) = n + 1 := Slt.gen_word (by omega)
  have s1 : Slt.st (Slt.word (n + 1) 1) = 1 := Slt.st_word (by omega) (by omega)
  have l1 : Slt.word (n + 1) 1 < 18446744073709551616 := Slt.word_small (by omega) (by omega)
  generalize Slt.word (n + 1) 1 = p at g1 s1 l1 ⊢
  have HP : Hid (Slt.gen p = n + 1 ∧ Slt.st p = 1 ∧ p < 18446744073709551616) := Lib.hid ⟨g1, s1, l1⟩
  clear g1 s1 l1
  go_wp2_with fail
  refine (H2.out.write 0 p (by decide) HP.out.2.2).mono ?_
  rintro e w3 ⟨rfl, h3⟩
  have e0 : (((Ar.new 1).touch 0).put 0 p).cs = [p] := rfl
  generalize ((Ar.new 1).touch 0).put 0 p = a0 at h3 e0
  have H3 := Lib.hid h3
  have E0 := Lib.hid e0
  clear h3 H2 e0
  go_wp2_with fail
  refine (lnew_any 0 ((n : Int) + 1) 16777215 _).mono ?_
  rintro e w4 ⟨rfl, hb⟩
  have H4 := Lib.hid (H3.out.below hb)
  clear hb H3
  generalize hbt : w4.heap.size = bt at *
  have H5 := Lib.hid (hbt ▸ H4.out.add (.cells (Stl.cells ⟨0, (n : Int) + 1, 16777215, 0, 0⟩) 27 (0, 0)))
  clear H4
  go_wp2_with fail
  refine (lnew_any 0 ((n : Int) + 1) 16777215 _).mono ?_
  rintro e w5 ⟨rfl, hb⟩
  have H6 := Lib.hid (H5.out.below hb)
  clear hb H5
  go_wp2_with fail
  refine (H6.out.step5 HL.out 0 ((n : Int) + 1) 16777215 0 0 0 ((n : Int) + 1) 16777215 1 p (a0.touch 0) ⟨by rw [E0.out]; exact Nat.zero_lt_one, Nat.zero_lt_succ _, fun e => by simp at e⟩ ?_).mono ?_
  · have ev : a0.cs.getD 0 0 = p := by rw [E0.out]; rfl
    have := Stl.step_live (d := ⟨0, (n : Int) + 1, 16777215, 0, 0⟩) (a := a0) rfl (by show ((Slt.gen (a0.cs.getD 0 0) : Nat) : Int) = _ ∧ Slt.Live (a0.cs.getD 0 0); rw [ev]; exact ⟨by rw [HP.out.1]; rfl, .inl HP.out.2.1⟩)
    rw [this]
    show (Stl.mk 0 ((n : Int) + 1) 16777215 1 (a0.cs.getD 0 0), a0.touch 0) = _
    rw [ev]
  rintro e w6 ⟨rfl, h7⟩
  have e1 : (a0.touch 0).cs = [p] := by rw [Ar.touch_cs, E0.out]
  generalize a0.touch 0 = a1 at h7 e1
  have E1 := Lib.hid e1
  have hne : bt ≠ w6.heap.size := by have := h7.size (List.mem_cons_self ..); simp only at this; omega
  generalize hbu : w6.heap.size = bu at *
  have H8 := Lib.hid (hbu ▸ h7.add (.cells (Stl.cells ⟨0, (n : Int) + 1, 16777215, 1, p⟩) 27 (0, 0)))
  have HNE := Lib.hid hne
  clear h7 e1 E0 H6 hne
  have H9 : Hid (St w (w6.alloc (.cells #[.int .i64 0, .int .i64 ((n : Int) + 1), .int .i64 16777215, .int .i64 1, .int .u64 (p : Int)] 27 (0, 0))) P a1 [(bt, .cells (Stl.cells ⟨0, (n : Int) + 1, 16777215, 0, 0⟩) 27 (0, 0)), (bu, .cells (Stl.cells ⟨0, (n : Int) + 1, 16777215, 1, p⟩) 27 (0, 0))]) := Lib.hid H8.out.turn
  clear H8
  go_upto_if 33 with fail
  clear hbt hbu
  generalize w6.alloc (.cells #[.int .i64 0, .int .i64 ((n : Int) + 1), .int .i64 16777215, .int .i64 1, .int .u64 (p : Int)] 27 (0, 0)) = wx at H9 ⊢
  go_cut [7] (fun s7 wx => s7 = .pointer (some ⟨bt, 0, none⟩) ∧ ∃ (k x : Nat) (a2 : Ar), Hid (k = 0 ∧ x = 0 ∨ k = 1 ∧ x = p) ∧ Hid (a2.cs = [p]) ∧ Hid (St w wx P a2 [(bt, .cells (Stl.cells ⟨0, (n : Int) + 1, 16777215, k, x⟩) 27 (0, 0)), (bu, .cells (Stl.cells ⟨0, (n : Int) + 1, 16777215, 1, p⟩) 27 (0, 0))]))
  case first =>
    rcases low1_two when_ with hw | hw
    · go_wp2_with fail
      go_meet
      case rel => exact ⟨rfl, 0, 0, a1, .inl ⟨rfl, rfl⟩, E1, H9⟩
    · obtain ⟨c0, c1, c2, c3, c4⟩ := H9.out.task_cells
      dsimp only at c0 c1 c2 c3 c4
      go_wp2_with fail
      refine (H9.out.step5 HL.out 0 ((n : Int) + 1) 16777215 0 0 0 ((n : Int) + 1) 16777215 1 p (a1.touch 0) ⟨by rw [E1.out]; exact Nat.zero_lt_one, Nat.zero_lt_succ _, fun e => by simp at e⟩ ?_).mono ?_
      · have ev : a1.cs.getD 0 0 = p := by rw [E1.out]; rfl
        have := Stl.step_live (d := ⟨0, (n : Int) + 1, 16777215, 0, 0⟩) (a := a1) rfl (by show ((Slt.gen (a1.cs.getD 0 0) : Nat) : Int) = _ ∧ Slt.Live (a1.cs.getD 0 0); rw [ev]; exact ⟨by rw [HP.out.1]; rfl, .inl HP.out.2.1⟩)
        rw [this]
        show (Stl.mk 0 ((n : Int) + 1) 16777215 1 (a1.cs.getD 0 0), a1.touch 0) = _
        rw [ev]
      rintro e w7 ⟨rfl, h10⟩
      have H10 := Lib.hid h10
      clear h10 c0 c1 c2 c3 c4 H9
      obtain ⟨c0, c1, c2, c3, c4⟩ := H10.out.task_cells
      obtain ⟨f0, f1, f2, f3, f4⟩ := H10.out.task_free
      go_wp2_with fail
      go_meet
      case rel => exact ⟨rfl, 1, p, a1.touch 0, .inr ⟨rfl, rfl⟩, by show (a1.touch 0).cs = _; rw [Ar.touch_cs]; exact E1, H10.out.task (d' := ⟨0, (n : Int) + 1, 16777215, 1, p⟩) (fun q hq => by simp only [List.mem_singleton] at hq; subst hq; exact fun e => HNE.out e.symm) rfl⟩
  case rest =>
    obtain ⟨rfl, k, x, a2, HK, E2, H10⟩ := hcut
    clear H9 E1
    have H11 := Lib.hid H10.out.turn
    obtain ⟨c0, c1, c2, c3, c4⟩ := H11.out.task_cells
    dsimp only at c0 c1 c2 c3 c4
    go_wp2_with fail
    have hend : Stl.end_ ⟨0, (n : Int) + 1, 16777215, 1, p⟩ = Slt.word (n + 1) 0 := by
      unfold Stl.end_
      dsimp only
      rw [HP.out.1, if_neg (by omega)]
    have g1 : Slt.gen (Slt.word (n + 1) 0) = n + 1 := Slt.gen_word (by omega)
    have s1 : Slt.st (Slt.word (n + 1) 0) = 0 := Slt.st_word (by omega) (by omega)
    have l1 : Slt.word (n + 1) 0 < 18446744073709551616 := Slt.word_small (by omega) (by omega)
    generalize Slt.word (n + 1) 0 = q at g1 s1 l1 hend
    have HQ : Hid (Slt.gen q = n + 1 ∧ Slt.st q = 0 ∧ q < 18446744073709551616) := Lib.hid ⟨g1, s1, l1⟩
    have HE := Lib.hid hend
    clear g1 s1 l1 hend
    refine (H11.out.step5 HL.out 0 ((n : Int) + 1) 16777215 1 p 0 ((n : Int) + 1) 16777215 2 q ((a2.touch 0).put 0 q) ⟨by rw [E2.out]; exact Nat.zero_lt_one, HP.out.2.2, fun _ => .inl HP.out.2.1⟩ ?_).mono ?_
    · have := Stl.step_won (d := ⟨0, (n : Int) + 1, 16777215, 1, p⟩) (a := a2) rfl (by show a2.cs.getD 0 0 = p; rw [E2.out]; rfl)
      rw [this, HE.out]
    rintro e w7 ⟨rfl, h12⟩
    have e3 : ((a2.touch 0).put 0 q).cs = [q] := by show (a2.touch 0).cs.set 0 q = _; rw [Ar.touch_cs, E2.out]; rfl
    generalize (a2.touch 0).put 0 q = a3 at h12 e3
    have H12 := Lib.hid h12
    have E3 := Lib.hid e3
    clear h12 e3 E2 HE c0 c1 c2 c3 c4 H10 H11
    obtain ⟨c0, c1, c2, c3, c4⟩ := H12.out.task_cells
    obtain ⟨f0, f1, f2, f3, f4⟩ := H12.out.task_free
    go_upto_if 42 with fail
    have H13 := Lib.hid (H12.out.task (d' := ⟨0, (n : Int) + 1, 16777215, 2, q⟩) (fun r hr => by simp only [List.mem_singleton] at hr; subst hr; exact HNE.out) rfl).turn
    clear c0 c1 c2 c3 c4 f0 f1 f2 f3 f4 H12
    generalize (((((w7.setCell ⟨bu, 0, none⟩ (.int .i64 ((0 : Nat) : Int))).setCell ⟨bu, 1, none⟩ (.int .i64 ((n : Int) + 1))).setCell ⟨bu, 2, none⟩ (.int .i64 16777215)).setCell ⟨bu, 3, none⟩ (.int .i64 ((2 : Nat) : Int))).setCell ⟨bu, 4, none⟩ (.int .u64 (q : Int))) = wx at H13 ⊢
    go_cut [7] (fun s7 wx => s7 = .pointer (some ⟨bt, 0, none⟩) ∧ ∃ (z : Nat) (a4 : Ar), Hid (¬ (((Slt.gen z : Nat) : Int) = (n : Int) + 1 ∧ Slt.Live z) ∧ z ≠ p) ∧ Hid (a4.cs = [z]) ∧ Hid (St w wx P a4 [(bt, (.cells (Stl.cells ⟨0, (n : Int) + 1, 16777215, k, x⟩) 27 (0, 0))), (bu, (.cells (Stl.cells ⟨0, (n : Int) + 1, 16777215, 2, q⟩) 27 (0, 0)))]))
    case first =>
      rcases bit2_two when_ with hw | hw
      · go_wp2_with fail
        go_meet
        case rel => exact ⟨rfl, q, a3, ⟨fun h => by have := HQ.out.2.1; rcases h.2 with e | e <;> omega, fun e => by have := HQ.out.2.1; have := HP.out.2.1; subst e; omega⟩, E3, H13⟩
      · go_wp2_with fail
        refine (H13.out.look 0 (by rw [E3.out]; exact Nat.zero_lt_one)).mono ?_
        rintro e w8 ⟨rfl, rfl⟩
        rw [show a3.cs.getD 0 0 = q by rw [E3.out]; rfl]
        go_wp2_with fail
        refine (sopen_yes q false 16777215 HQ.out.2.2 HQ.out.2.1 (by rw [HQ.out.1]; omega) _ (H13.out.lay HL.out)).mono ?_
        rintro e w8 ⟨rfl, hb⟩
        have H14 := Lib.hid (H13.out.below hb)
        clear hb H13
        rw [HQ.out.1, show (if false = true then 2 else 1) = 1 by rfl]
        have g1 : Slt.gen (Slt.word (n + 1 + 1) 1) = n + 1 + 1 := Slt.gen_word (by omega)
        have l1 : Slt.word (n + 1 + 1) 1 < 18446744073709551616 := Slt.word_small (by omega) (by omega)
        generalize Slt.word (n + 1 + 1) 1 = r at g1 l1 ⊢
        have HR : Hid (Slt.gen r = n + 1 + 1 ∧ r < 18446744073709551616) := Lib.hid ⟨g1, l1⟩
        clear g1 l1
        go_wp2_with fail
        refine (H14.out.write 0 r (by rw [E3.out]; exact Nat.zero_lt_one) HR.out.2).mono ?_
        rintro e w9 ⟨rfl, h15⟩
        have H15 := Lib.hid h15
        clear h15 H14
        go_wp2_with fail
        go_meet
        case rel => exact ⟨rfl, r, (a3.touch 0).put 0 r, ⟨fun h => by have := HR.out.1; have := h.1; omega, fun e => by have := HR.out.1; have := HP.out.1; subst e; omega⟩, by show (a3.touch 0).cs.set 0 r = _; rw [Ar.touch_cs, E3.out]; rfl, H15⟩
    case rest =>
      obtain ⟨rfl, z, a4, HZ, E4, H14⟩ := hcut
      clear H13 E3
      go_wp2_with fail
      refine (H14.out.look 0 (by rw [E4.out]; exact Nat.zero_lt_one)).mono ?_
      rintro e w8 ⟨rfl, rfl⟩
      rw [show a4.cs.getD 0 0 = z by rw [E4.out]; rfl]
      go_wp2_with fail
      go_loopg [12] 4 (fun m s12 wr => ∃ (i : Nat) (d : Stl) (a : Ar), i ≤ 4 ∧ m = 4 - i ∧ s12 = .int .i64 i ∧ Stl.run (⟨0, (n : Int) + 1, 16777215, k, x⟩, a4) i = (d, a) ∧ d.Good a ∧ Hid (St w wr P a [(bt, .cells d.cells 27 (0, 0)), (bu, (.cells (Stl.cells ⟨0, (n : Int) + 1, 16777215, 2, q⟩) 27 (0, 0)))]))
      case atStart =>
        exact ⟨0, ⟨0, (n : Int) + 1, 16777215, k, x⟩, a4, Nat.zero_le _, rfl, rfl, rfl, ⟨by rw [E4.out]; exact Nat.zero_lt_one, by have := HP.out.2.2; rcases HK.out with ⟨_, h⟩ | ⟨_, h⟩ <;> (show x < _; omega), fun e => by
          have e : k = 1 := e
          rcases HK.out with ⟨h, _⟩ | ⟨_, h⟩
          · omega
          · show Slt.Live x
            rw [h]; exact .inl HP.out.2.1⟩, H14⟩
      case round =>
        obtain ⟨i, d, a, hi, rfl, rfl, hr, hg, HA⟩ := hrel
        clear H14
        by_cases hlt : i < 4
        · have hl1 : (i : Int) < 4 := by omega
          obtain ⟨c0, c1, c2, c3, c4⟩ := HA.out.task_cells
          obtain ⟨f0, f1, f2, f3, f4⟩ := HA.out.task_free
          rcases hs : d.step a with ⟨d', a'⟩
          have hg' := hg.step (HA.out.word d.i)
          rw [hs] at hg'
          go_wp2_with fail
          refine (HA.out.step5 HL.out d.i d.g d.m d.k d.x d'.i d'.g d'.m d'.k d'.x a' hg hs).mono ?_
          rintro e w9 ⟨rfl, h5⟩
          have H5 := Lib.hid h5
          clear h5 c0 c1 c2 c3 c4 f0 f1 f2 f3 f4 HA
          obtain ⟨c0, c1, c2, c3, c4⟩ := H5.out.task_cells
          obtain ⟨f0, f1, f2, f3, f4⟩ := H5.out.task_free
          go_wp2_with fail
          go_roundg (4 - (i + 1))
          case measure => go_light; omega
          case rel => exact ⟨i + 1, d', a', by omega, rfl, by go_num, Stl.run_succ hr hs, hg', Lib.hid (H5.out.task (fun r hr => by simp only [List.mem_singleton] at hr; subst hr; exact fun e => HNE.out e.symm) rfl)⟩
        · obtain rfl : i = 4 := by omega
          have hl1 : ¬ ((4 : Nat) : Int) < 4 := by omega
          obtain ⟨a', hy, ha'⟩ := Stl.run_late ((n : Int) + 1) 16777215 p k x z a4 HK.out E4.out HZ.out.1 HZ.out.2
          obtain ⟨rfl, rfl⟩ := Prod.mk.inj (hy.symm.trans hr)
          have E5 := Lib.hid ha'
          clear hr hy hg ha'
          have HB := Lib.hid HA.out.turn
          obtain ⟨c0, c1, c2, c3, c4⟩ := HB.out.task_cells
          dsimp only at c0 c1 c2 c3 c4
          go_wp2_with fail
          refine (ldone_won 0 ((n : Int) + 1) 16777215 q _).mono ?_
          rintro e w9 ⟨rfl, hb⟩
          have H16 := Lib.hid (HA.out.below hb)
          clear hb HA HB c0 c1 c2 c3 c4
          obtain ⟨c0, c1, c2, c3, c4⟩ := H16.out.task_cells
          dsimp only at c0 c1 c2 c3 c4
          go_wp2_with fail
          refine (ldone_stale 0 ((n : Int) + 1) 16777215 0 _).mono ?_
          rintro e w10 ⟨rfl, hb⟩
          have H17 := Lib.hid (H16.out.below hb)
          clear hb H16 c0 c1 c2 c3 c4
          go_wp2_with fail
          refine (awake11_any _ (H17.out.lay HL.out)).mono ?_
          rintro e w11 ⟨rfl, hb⟩
          have H18 := Lib.hid (H17.out.below hb)
          clear hb H17
          go_wp2_with fail
          refine (H18.out.look 0 (by rw [E5.out]; exact Nat.zero_lt_one)).mono ?_
          rintro e w12 ⟨rfl, rfl⟩
          rw [show a'.cs.getD 0 0 = z by rw [E5.out]; rfl]
          go_wp2_with fail
          go_ret
          exact ⟨rfl, H18.out.low⟩

end Go.Proofs.YteijikcggflaoaaDoor
