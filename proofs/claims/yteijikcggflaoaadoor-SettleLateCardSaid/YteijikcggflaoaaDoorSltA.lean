/- The program's own calls on a slot's word, with any word: which turn it is of, how it stands, whether its turn goes on, and whether it is the last one. -/
import Derived.Test.YteijikcggflaoaaDoorFldB
import Derived.Test.YteijikcggflaoaaDoorSltMath
import Derived.Test.YteijikcggflaoaaDoorSltLaid
namespace Go.Proofs.YteijikcggflaoaaDoor
open Go.RowKit

theorem ret_num {a b : Int} (h : a = b) : Ending.returned (.int .i64 a) = .returned (.int .i64 b) := by rw [h]

theorem nat_or_neg (g : Int) : (∃ n : Nat, g = n) ∨ g < 0 := by
  by_cases h : 0 ≤ g
  · exact .inl ⟨g.toNat, by omega⟩
  · exact .inr (by omega)

set_option maxHeartbeats 1000000 in
/-- Word: of the nearest numbers. -/
theorem sword_any (g s : Int) (hg : g ≤ 9223372036854775807) (hs : s ≤ 9223372036854775807) (w : World) (hL : SLay w) :
    Calls Tryd.prog 13 #[.int .i64 g, .int .i64 s] w fun e w' => e = .returned (.int .u64 (Slt.word (min g.toNat 16777215) (min s.toNat 3) : Nat)) ∧ Below w.heap.size w w' := by
  obtain ⟨c0, c1⟩ := hL.gen_
  rcases nat_or_neg g with ⟨n, rfl⟩ | h1 <;> rcases nat_or_neg s with ⟨m, rfl⟩ | h2
  · go_enter Tryd.func13, Tryd.ntmps13
    go_wp2_with fail
    refine (put_yes 0 n 0 24 (by omega) (by omega) (by omega) (by omega) _).mono ?_
    rintro e w1 ⟨rfl, hb1⟩
    obtain ⟨d0, d1⟩ := (hL.kept hb1).state_
    have hp := Slt.put_gen_small n
    have e := Slt.put_word n m
    generalize Fld.put 0 0 24 n = p at hp e ⊢
    go_wp2_with fail
    refine (put_yes p m 24 2 hp (by omega) (by omega) (by omega) _).mono ?_
    rintro e w2 ⟨rfl, hb2⟩
    go_wp2_with fail
    go_ret
    exact ⟨ret_u64 (by unfold Slt.word; omega), below_on hb1 hb2⟩
  · go_enter Tryd.func13, Tryd.ntmps13
    go_wp2_with fail
    refine (put_yes 0 n 0 24 (by omega) (by omega) (by omega) (by omega) _).mono ?_
    rintro e w1 ⟨rfl, hb1⟩
    obtain ⟨d0, d1⟩ := (hL.kept hb1).state_
    have hp := Slt.put_gen_small n
    have e := Slt.put_word n 0
    generalize Fld.put 0 0 24 n = p at hp e ⊢
    go_wp2_with fail
    refine (put_yes p 0 24 2 hp (by omega) (by omega) (by omega) _).mono ?_
    rintro e w2 ⟨rfl, hb2⟩
    go_wp2_with fail
    go_ret
    exact ⟨ret_u64 (by unfold Slt.word; omega), below_on hb1 hb2⟩
  · go_enter Tryd.func13, Tryd.ntmps13
    go_wp2_with fail
    refine (put_yes 0 0 0 24 (by omega) (by omega) (by omega) (by omega) _).mono ?_
    rintro e w1 ⟨rfl, hb1⟩
    obtain ⟨d0, d1⟩ := (hL.kept hb1).state_
    have hp := Slt.put_gen_small 0
    have e := Slt.put_word 0 m
    generalize Fld.put 0 0 24 0 = p at hp e ⊢
    go_wp2_with fail
    refine (put_yes p m 24 2 hp (by omega) (by omega) (by omega) _).mono ?_
    rintro e w2 ⟨rfl, hb2⟩
    go_wp2_with fail
    go_ret
    exact ⟨ret_u64 (by unfold Slt.word; omega), below_on hb1 hb2⟩
  · go_enter Tryd.func13, Tryd.ntmps13
    go_wp2_with fail
    refine (put_yes 0 0 0 24 (by omega) (by omega) (by omega) (by omega) _).mono ?_
    rintro e w1 ⟨rfl, hb1⟩
    obtain ⟨d0, d1⟩ := (hL.kept hb1).state_
    have hp := Slt.put_gen_small 0
    have e := Slt.put_word 0 0
    generalize Fld.put 0 0 24 0 = p at hp e ⊢
    go_wp2_with fail
    refine (put_yes p 0 24 2 hp (by omega) (by omega) (by omega) _).mono ?_
    rintro e w2 ⟨rfl, hb2⟩
    go_wp2_with fail
    go_ret
    exact ⟨ret_u64 (by unfold Slt.word; omega), below_on hb1 hb2⟩

/-- Gen: the turn. -/
theorem sgen_any (x : Nat) (hx : x < 18446744073709551616) (w : World) (hL : SLay w) :
    Calls Tryd.prog 20 #[.int .u64 x] w fun e w' => e = .returned (.int .i64 (Slt.gen x : Nat)) ∧ Below w.heap.size w w' := by
  obtain ⟨c0, c1⟩ := hL.gen_
  have hm := Slt.gen_le x
  go_enter Tryd.func20, Tryd.ntmps20
  go_wp2_with fail
  refine (get_yes x 0 24 hx (by omega) (by omega) _).mono ?_
  rintro e w1 ⟨rfl, hb1⟩
  rw [Slt.get_gen]
  go_wp2_with fail
  go_ret
  exact ⟨ret_num (by omega), hb1⟩

/-- State: how it stands. -/
theorem sstate_any (x : Nat) (hx : x < 18446744073709551616) (w : World) (hL : SLay w) :
    Calls Tryd.prog 25 #[.int .u64 x] w fun e w' => e = .returned (.int .i64 (Slt.st x : Nat)) ∧ Below w.heap.size w w' := by
  obtain ⟨c0, c1⟩ := hL.state_
  have hm := Slt.st_le x
  go_enter Tryd.func25, Tryd.ntmps25
  go_wp2_with fail
  refine (get_yes x 24 2 hx (by omega) (by omega) _).mono ?_
  rintro e w1 ⟨rfl, hb1⟩
  rw [Slt.get_st]
  go_wp2_with fail
  go_ret
  exact ⟨ret_num (by omega), hb1⟩

/-- Whether its turn goes on. -/
theorem sgoes_any (x : Nat) (hx : x < 18446744073709551616) (w : World) (hL : SLay w) :
    Calls Tryd.prog 21 #[.int .u64 x] w fun e w' => e = .returned (.bool (decide (Slt.Live x))) ∧ Below w.heap.size w w' := by
  go_enter Tryd.func21, Tryd.ntmps21
  go_wp2_with fail
  refine (sstate_any x hx _ hL).mono ?_
  rintro e w1 ⟨rfl, hb1⟩
  go_wp2_with fail
  all_goals (go_ret; refine ⟨ret_bool ?_, hb1⟩)
  all_goals (rw [Bool.eq_iff_iff]; simp only [Bool.or_eq_true, beq_iff_eq, decide_eq_true_eq]; unfold Slt.Live; first | omega | (simp only [true_iff]; omega))

/-- Whether the turn is the last one of so many. -/
theorem slast_any (x : Nat) (m : Int) (hx : x < 18446744073709551616) (w : World) (hL : SLay w) :
    Calls Tryd.prog 26 #[.int .u64 x, .int .i64 m] w fun e w' => e = .returned (.bool (decide (min m 16777215 ≤ (Slt.gen x : Nat)))) ∧ Below w.heap.size w w' := by
  go_enter Tryd.func26, Tryd.ntmps26
  go_wp2_with fail
  refine (sgen_any x hx _ hL).mono ?_
  rintro e w1 ⟨rfl, hb1⟩
  go_wp2_with fail
  all_goals (go_ret; refine ⟨ret_bool ?_, hb1⟩)
  all_goals (rw [Bool.eq_iff_iff]; simp only [decide_eq_true_eq]; omega)

end Go.Proofs.YteijikcggflaoaaDoor
