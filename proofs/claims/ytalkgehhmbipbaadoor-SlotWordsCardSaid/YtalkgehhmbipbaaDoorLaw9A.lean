/- The turn that the laws of slot ask for each time; and the law on a slot's word: with any numbers and any word it returns true. -/
import Derived.Test.YtalkgehhmbipbaaDoorSltB
namespace Go.Proofs.YtalkgehhmbipbaaDoor
open Go.RowKit

set_option maxRecDepth 100000 in
set_option maxHeartbeats 1000000 in
/-- A turn. -/
theorem awake9_any (w : World) (hL : SLay w) :
    Calls Tryd.prog 7 #[] w fun e w' => e = .returned (.bool true) ∧ Below w.heap.size w w' := by
  go_enter Tryd.func7, Tryd.ntmps7
  go_wp2_with fail
  refine (sword_any 0 0 (by omega) (by omega) _ hL).mono ?_
  rintro e w1 ⟨rfl, hb1⟩
  have e0 : Slt.word (min (Int.toNat 0) 16777215) (min (Int.toNat 0) 3) = 0 := by decide
  rw [e0]
  go_wp2_with fail
  refine (sopen_yes 0 false 5 (by omega) (by decide) (by decide) _ (hL.kept hb1)).mono ?_
  rintro e w2 ⟨rfl, hb2⟩
  have hb := below_on hb1 hb2
  have e1 : Slt.word (Slt.gen 0 + 1) (if false = true then 2 else 1) = 16777217 := by decide
  rw [e1]
  clear e0 e1 hb1 hb2
  go_wp2_with fail
  refine (sgen_any 16777217 (by omega) _ (hL.kept hb)).mono ?_
  rintro e w3 ⟨rfl, hb3⟩
  have hb := below_on hb hb3
  have e2 : ((Slt.gen 16777217 : Nat) : Int) = 1 := by decide
  rw [e2]
  go_wp2_with fail
  refine (slive_any 16777217 1 (by omega) _ (hL.kept hb)).mono ?_
  rintro e w4 ⟨rfl, hb4⟩
  have hb := below_on hb hb4
  have e3 : decide (((Slt.gen 16777217 : Nat) : Int) = 1 ∧ Slt.Live 16777217) = true := by decide
  rw [e3]
  go_wp2_with fail
  refine (sclose_yes 16777217 5 (by omega) (by decide) _ (hL.kept hb)).mono ?_
  rintro e w5 ⟨rfl, hb5⟩
  have hb := below_on hb hb5
  have e4 : Slt.word (Slt.gen 16777217) (if min 5 16777215 ≤ ((Slt.gen 16777217 : Nat) : Int) then 3 else 0) = 1 := by decide
  rw [e4]
  go_wp2_with fail
  refine (sstate_any 1 (by omega) _ (hL.kept hb)).mono ?_
  rintro e w6 ⟨rfl, hb6⟩
  have hb := below_on hb hb6
  have e5 : ((Slt.st 1 : Nat) : Int) = 0 := by decide
  rw [e5]
  go_wp2_with fail
  go_ret
  exact ⟨rfl, hb⟩

theorem dec_live (x : Nat) (g : Int) (a b c : Bool) (ha : decide ((x : Int) % 16777216 = g) = a) (hb : decide ((x : Int) / 16777216 % 4 = 1) = b) (hc : decide ((x : Int) / 16777216 % 4 = 2) = c) : decide (((Slt.gen x : Nat) : Int) = g ∧ Slt.Live x) = (a && (b || c)) := by
  subst ha hb hc
  rw [Bool.eq_iff_iff]
  simp only [Bool.and_eq_true, Bool.or_eq_true, decide_eq_true_eq]
  unfold Slt.Live Slt.st Slt.gen
  omega

set_option maxRecDepth 100000 in
set_option maxHeartbeats 2000000 in
/-- The law on a slot's word. -/
theorem words_any (g s : Int) (x : Nat) (hg : g ≤ 9223372036854775807) (hs : s ≤ 9223372036854775807) (hx : x < 18446744073709551616) (w : World) (hL : SLay w) :
    Calls Tryd.prog 3 #[.int .i64 g, .int .i64 s, .int .u64 x] w fun e w' => e = .returned (.bool true) ∧ Below w.heap.size w w' := by
  have hxg : ((Slt.gen x : Nat) : Int) = (x : Int) % 16777216 := by unfold Slt.gen; omega
  have hxs : ((Slt.st x : Nat) : Int) = (x : Int) / 16777216 % 4 := by unfold Slt.st; omega
  have HXG := Lib.hid hxg
  have HXS := Lib.hid hxs
  clear hxg hxs
  have HG : Hid ((g < 0 ∧ ((min g.toNat 16777215 : Nat) : Int) = 0) ∨ (0 ≤ g ∧ g ≤ 16777215 ∧ ((min g.toNat 16777215 : Nat) : Int) = g) ∨ (16777215 < g ∧ ((min g.toNat 16777215 : Nat) : Int) = 16777215)) := by show _ ∨ _; omega
  have HS : Hid ((s < 0 ∧ ((min s.toNat 3 : Nat) : Int) = 0) ∨ (0 ≤ s ∧ s ≤ 3 ∧ ((min s.toNat 3 : Nat) : Int) = s) ∨ (3 < s ∧ ((min s.toNat 3 : Nat) : Int) = 3)) := by show _ ∨ _; omega
  go_enter Tryd.func3, Tryd.ntmps3
  go_wp2_with fail
  refine (sword_any g s hg hs _ hL).mono ?_
  rintro e w1 ⟨rfl, hb⟩
  have hp := Slt.word_small (g := min g.toNat 16777215) (s := min s.toNat 3) (by omega) (by omega)
  have hpg := Lib.hid (Slt.gen_word (g := min g.toNat 16777215) (s := min s.toNat 3) (by omega))
  have hps := Lib.hid (Slt.st_word (g := min g.toNat 16777215) (s := min s.toNat 3) (by omega) (by omega))
  generalize Slt.word (min g.toNat 16777215) (min s.toNat 3) = p at hp hpg hps ⊢
  go_wp2_with fail
  refine (awake9_any _ (hL.kept hb)).mono ?_
  rintro e w2 ⟨rfl, hb2⟩
  have hb := below_on hb hb2
  clear hb2
  go_wp2_with fail
  refine (sgen_any p hp _ (hL.kept hb)).mono ?_
  rintro e w3 ⟨rfl, hb2⟩
  have hb := below_on hb hb2
  clear hb2
  rw [hpg.out]
  have a0 : ∀ z : Int, (z == z) = true := fun z => by simp
  rcases HG.out with ⟨h1, h2⟩ | ⟨h1, h3, h2⟩ | ⟨h1, h2⟩ <;> rw [h2] <;> clear h2 <;> go_wp2_with fail
  all_goals
    refine (sstate_any p hp _ (hL.kept hb)).mono ?_
    rintro e w4 ⟨rfl, hb2⟩
    have hb := below_on hb hb2
    clear hb2
    rw [hps.out]
    rcases HS.out with ⟨k1, k2⟩ | ⟨k1, k3, k2⟩ | ⟨k1, k2⟩ <;> rw [k2] <;> clear k2 <;> go_wp2_with fail
  all_goals
    refine (sgen_any x hx _ (hL.kept hb)).mono ?_
    rintro e w5 ⟨rfl, hb2⟩
    have hb := below_on hb hb2
    clear hb2
    rw [HXG.out]
    go_wp2_with fail
    refine (sstate_any x hx _ (hL.kept hb)).mono ?_
    rintro e w6 ⟨rfl, hb2⟩
    have hb := below_on hb hb2
    clear hb2
    rw [HXS.out]
    go_wp2_with fail
    by_cases ha : (x : Int) % 16777216 = g
    · by_cases hq : (x : Int) / 16777216 % 4 = 1
      · have hd := Lib.hid (dec_live x g true true _ (decide_eq_true ha) (decide_eq_true hq) rfl)
        refine (slive_any x g hx _ (hL.kept hb)).mono ?_
        rintro e w7 ⟨rfl, hb2⟩
        have hb := below_on hb hb2
        clear hb2
        rw [hd.out, Bool.true_and, Bool.true_or]
        go_wp2_with fail
        refine (sgen_any x hx _ (hL.kept hb)).mono ?_
        rintro e w8 ⟨rfl, hb2⟩
        have hb := below_on hb hb2
        clear hb2
        rw [HXG.out]
        go_wp2_with fail
        refine (sstate_any x hx _ (hL.kept hb)).mono ?_
        rintro e w9 ⟨rfl, hb2⟩
        have hb := below_on hb hb2
        clear hb2
        rw [HXS.out]
        go_wp2_with fail
        go_ret
        exact ⟨rfl, hb⟩
      · by_cases hr : (x : Int) / 16777216 % 4 = 2
        · have hd := Lib.hid (dec_live x g true false true (decide_eq_true ha) (decide_eq_false hq) (decide_eq_true hr))
          refine (slive_any x g hx _ (hL.kept hb)).mono ?_
          rintro e w7 ⟨rfl, hb2⟩
          have hb := below_on hb hb2
          clear hb2
          rw [hd.out, Bool.true_and, Bool.or_true]
          go_wp2_with fail
          refine (sgen_any x hx _ (hL.kept hb)).mono ?_
          rintro e w8 ⟨rfl, hb2⟩
          have hb := below_on hb hb2
          clear hb2
          rw [HXG.out]
          go_wp2_with fail
          refine (sstate_any x hx _ (hL.kept hb)).mono ?_
          rintro e w9 ⟨rfl, hb2⟩
          have hb := below_on hb hb2
          clear hb2
          rw [HXS.out]
          go_wp2_with fail
          refine (sstate_any x hx _ (hL.kept hb)).mono ?_
          rintro e w10 ⟨rfl, hb2⟩
          have hb := below_on hb hb2
          clear hb2
          rw [HXS.out]
          go_wp2_with fail
          go_ret
          exact ⟨rfl, hb⟩
        · have hd := Lib.hid (dec_live x g true false false (decide_eq_true ha) (decide_eq_false hq) (decide_eq_false hr))
          refine (slive_any x g hx _ (hL.kept hb)).mono ?_
          rintro e w7 ⟨rfl, hb2⟩
          have hb := below_on hb hb2
          clear hb2
          rw [hd.out, Bool.true_and, Bool.or_self]
          go_wp2_with fail
          refine (sgen_any x hx _ (hL.kept hb)).mono ?_
          rintro e w8 ⟨rfl, hb2⟩
          have hb := below_on hb hb2
          clear hb2
          rw [HXG.out]
          go_wp2_with fail
          refine (sstate_any x hx _ (hL.kept hb)).mono ?_
          rintro e w9 ⟨rfl, hb2⟩
          have hb := below_on hb hb2
          clear hb2
          rw [HXS.out]
          go_wp2_with fail
          refine (sstate_any x hx _ (hL.kept hb)).mono ?_
          rintro e w10 ⟨rfl, hb2⟩
          have hb := below_on hb hb2
          clear hb2
          rw [HXS.out]
          go_wp2_with fail
          go_ret
          exact ⟨ret_bool (by simp [hq, hr]), hb⟩
    · have hd := Lib.hid (dec_live x g false _ _ (decide_eq_false ha) rfl rfl)
      refine (slive_any x g hx _ (hL.kept hb)).mono ?_
      rintro e w7 ⟨rfl, hb2⟩
      have hb := below_on hb hb2
      clear hb2
      rw [hd.out, Bool.false_and]
      go_wp2_with fail
      refine (sgen_any x hx _ (hL.kept hb)).mono ?_
      rintro e w8 ⟨rfl, hb2⟩
      have hb := below_on hb hb2
      clear hb2
      rw [HXG.out]
      go_wp2_with fail
      go_ret
      exact ⟨rfl, hb⟩

end Go.Proofs.YtalkgehhmbipbaaDoor
