/- The program's own calls that step a slot's word: Live, Open, Close, with any word and any number of turns. -/
import Derived.Test.YteijikcggflaoaaDoorSltA
namespace Go.Proofs.YteijikcggflaoaaDoor
open Go.RowKit

/-- Live: of that turn, and it goes on. -/
theorem slive_any (x : Nat) (g : Int) (hx : x < 18446744073709551616) (w : World) (hL : SLay w) :
    Calls Tryd.prog 10 #[.int .u64 x, .int .i64 g] w fun e w' => e = .returned (.bool (decide (((Slt.gen x : Nat) : Int) = g ∧ Slt.Live x))) ∧ Below w.heap.size w w' := by
  by_cases hg : ((Slt.gen x : Nat) : Int) = g
  · go_enter Tryd.func10, Tryd.ntmps10
    go_wp2_with fail
    refine (sgen_any x hx _ hL).mono ?_
    rintro e w1 ⟨rfl, hb1⟩
    go_wp2_with fail
    refine (sgoes_any x hx _ (hL.kept hb1)).mono ?_
    rintro e w2 ⟨rfl, hb2⟩
    go_wp2_with fail
    go_ret
    exact ⟨ret_bool (by simp [hg]), below_on hb1 hb2⟩
  · go_enter Tryd.func10, Tryd.ntmps10
    go_wp2_with fail
    refine (sgen_any x hx _ hL).mono ?_
    rintro e w1 ⟨rfl, hb1⟩
    go_wp2_with fail
    go_ret
    exact ⟨ret_bool (by simp [hg]), hb1⟩

theorem ret_two {a b : Int} {c : Bool} (h : a = b) : Ending.returned (.tuple #[.int .u64 a, .bool c]) = .returned (.tuple #[.int .u64 b, .bool c]) := by rw [h]

set_option maxHeartbeats 1000000 in
/-- Open: the next turn, pending or streaming. -/
theorem sopen_yes (x : Nat) (b : Bool) (m : Int) (hx : x < 18446744073709551616) (h0 : Slt.st x = 0) (h1 : ((Slt.gen x : Nat) : Int) < min m 16777215) (w : World) (hL : SLay w) :
    Calls Tryd.prog 14 #[.int .u64 x, .bool b, .int .i64 m] w fun e w' => e = .returned (.tuple #[.int .u64 (Slt.word (Slt.gen x + 1) (if b then 2 else 1) : Nat), .bool true]) ∧ Below w.heap.size w w' := by
  have hd : decide (min m 16777215 ≤ ((Slt.gen x : Nat) : Int)) = false := decide_eq_false (by omega)
  have h2 : Slt.gen x + 1 ≤ 16777215 := by omega
  clear h1
  go_enter Tryd.func14, Tryd.ntmps14
  go_wp2_with fail
  refine (sstate_any x hx _ hL).mono ?_
  rintro e w1 ⟨rfl, hb1⟩
  rw [h0]
  go_wp2_with fail
  refine (slast_any x m hx _ (hL.kept hb1)).mono ?_
  rintro e w2 ⟨rfl, hb2⟩
  rw [hd]
  have hb := below_on hb1 hb2
  clear hd hb1 hb2
  cases b
  · go_wp2_with fail
    refine (sgen_any x hx _ (hL.kept hb)).mono ?_
    rintro e w3 ⟨rfl, hb3⟩
    go_wp2_with fail
    refine (sword_any _ _ (by omega) (by omega) _ (hL.kept (below_on hb hb3))).mono ?_
    rintro e w4 ⟨rfl, hb4⟩
    go_wp2_with fail
    refine bodyPost_ret (results_tmp2 Tryd.results14 _ _ _) rfl ?_
    exact ⟨ret_two (by unfold Slt.word; simp only), below_on (below_on hb hb3) hb4⟩
  · go_wp2_with fail
    refine (sgen_any x hx _ (hL.kept hb)).mono ?_
    rintro e w3 ⟨rfl, hb3⟩
    go_wp2_with fail
    refine (sword_any _ _ (by omega) (by omega) _ (hL.kept (below_on hb hb3))).mono ?_
    rintro e w4 ⟨rfl, hb4⟩
    go_wp2_with fail
    refine bodyPost_ret (results_tmp2 Tryd.results14 _ _ _) rfl ?_
    exact ⟨ret_two (by unfold Slt.word; simp only), below_on (below_on hb hb3) hb4⟩

set_option maxHeartbeats 1000000 in
/-- .. the word as it was: it is not free, or has no turn more. -/
theorem sopen_no (x : Nat) (b : Bool) (m : Int) (hx : x < 18446744073709551616) (h : ¬ (Slt.st x = 0 ∧ ((Slt.gen x : Nat) : Int) < min m 16777215)) (w : World) (hL : SLay w) :
    Calls Tryd.prog 14 #[.int .u64 x, .bool b, .int .i64 m] w fun e w' => e = .returned (.tuple #[.int .u64 x, .bool false]) ∧ Below w.heap.size w w' := by
  by_cases h0 : Slt.st x = 0
  · have hd : decide (min m 16777215 ≤ ((Slt.gen x : Nat) : Int)) = true := decide_eq_true (by omega)
    clear h
    go_enter Tryd.func14, Tryd.ntmps14
    go_wp2_with fail
    refine (sstate_any x hx _ hL).mono ?_
    rintro e w1 ⟨rfl, hb1⟩
    rw [h0]
    go_wp2_with fail
    refine (slast_any x m hx _ (hL.kept hb1)).mono ?_
    rintro e w2 ⟨rfl, hb2⟩
    rw [hd]
    go_wp2_with fail
    refine bodyPost_ret (results_tmp2 Tryd.results14 _ _ _) rfl ?_
    exact ⟨rfl, below_on hb1 hb2⟩
  · have h1 : ¬ ((Slt.st x : Nat) : Int) = 0 := by omega
    clear h h0
    go_enter Tryd.func14, Tryd.ntmps14
    go_wp2_with fail
    refine (sstate_any x hx _ hL).mono ?_
    rintro e w1 ⟨rfl, hb1⟩
    go_wp2_with fail
    refine bodyPost_ret (results_tmp2 Tryd.results14 _ _ _) rfl ?_
    exact ⟨rfl, hb1⟩

set_option maxHeartbeats 1000000 in
/-- Close: of a turn that goes on, free, or retired where it was the last one. -/
theorem sclose_yes (x : Nat) (m : Int) (hx : x < 18446744073709551616) (h : Slt.Live x) (w : World) (hL : SLay w) :
    Calls Tryd.prog 18 #[.int .u64 x, .int .i64 m] w fun e w' => e = .returned (.int .u64 (Slt.word (Slt.gen x) (if min m 16777215 ≤ ((Slt.gen x : Nat) : Int) then 3 else 0) : Nat)) ∧ Below w.heap.size w w' := by
  have hm := Slt.gen_le x
  by_cases hl : min m 16777215 ≤ ((Slt.gen x : Nat) : Int)
  · rw [if_pos hl]
    have hd := decide_eq_true hl
    have hv := decide_eq_true h
    clear hl h
    go_enter Tryd.func18, Tryd.ntmps18
    go_wp2_with fail
    refine (sgoes_any x hx _ hL).mono ?_
    rintro e w1 ⟨rfl, hb1⟩
    rw [hv]
    go_wp2_with fail
    refine (slast_any x m hx _ (hL.kept hb1)).mono ?_
    rintro e w2 ⟨rfl, hb2⟩
    rw [hd]
    have hb := below_on hb1 hb2
    clear hd hv hb1 hb2
    go_wp2_with fail
    refine (sgen_any x hx _ (hL.kept hb)).mono ?_
    rintro e w3 ⟨rfl, hb3⟩
    go_wp2_with fail
    refine (sword_any _ _ (by omega) (by omega) _ (hL.kept (below_on hb hb3))).mono ?_
    rintro e w4 ⟨rfl, hb4⟩
    go_wp2_with fail
    go_ret
    exact ⟨ret_u64 (by unfold Slt.word; omega), below_on (below_on hb hb3) hb4⟩
  · rw [if_neg hl]
    have hd := decide_eq_false hl
    have hv := decide_eq_true h
    clear hl h
    go_enter Tryd.func18, Tryd.ntmps18
    go_wp2_with fail
    refine (sgoes_any x hx _ hL).mono ?_
    rintro e w1 ⟨rfl, hb1⟩
    rw [hv]
    go_wp2_with fail
    refine (slast_any x m hx _ (hL.kept hb1)).mono ?_
    rintro e w2 ⟨rfl, hb2⟩
    rw [hd]
    have hb := below_on hb1 hb2
    clear hd hv hb1 hb2
    go_wp2_with fail
    refine (sgen_any x hx _ (hL.kept hb)).mono ?_
    rintro e w3 ⟨rfl, hb3⟩
    go_wp2_with fail
    refine (sword_any _ _ (by omega) (by omega) _ (hL.kept (below_on hb hb3))).mono ?_
    rintro e w4 ⟨rfl, hb4⟩
    go_wp2_with fail
    go_ret
    exact ⟨ret_u64 (by unfold Slt.word; omega), below_on (below_on hb hb3) hb4⟩

/-- .. else as it was. -/
theorem sclose_no (x : Nat) (m : Int) (hx : x < 18446744073709551616) (h : ¬ Slt.Live x) (w : World) (hL : SLay w) :
    Calls Tryd.prog 18 #[.int .u64 x, .int .i64 m] w fun e w' => e = .returned (.int .u64 x) ∧ Below w.heap.size w w' := by
  have hv := decide_eq_false h
  clear h
  go_enter Tryd.func18, Tryd.ntmps18
  go_wp2_with fail
  refine (sgoes_any x hx _ hL).mono ?_
  rintro e w1 ⟨rfl, hb1⟩
  rw [hv]
  go_wp2_with fail
  go_ret
  exact ⟨rfl, hb1⟩

end Go.Proofs.YteijikcggflaoaaDoor
