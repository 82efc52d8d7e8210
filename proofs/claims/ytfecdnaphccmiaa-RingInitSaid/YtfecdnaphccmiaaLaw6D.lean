/- The law on a ring that is begun: true whatever comes. -/
import Derived.Test.YtfecdnaphccmiaaLaw6A
import Derived.Test.YtfecdnaphccmiaaLow
import Derived.Test.YtfecdnaphccmiaaSkip
import Derived.Test.YtfecdnaphccmiaaLaw6C
namespace Go.Proofs.Ytfecdnaphccmiaa
open Go.RowKit
attribute [local go_sem ↓] Go.wp_at_zero Go.wp_at_succ

/-- What the law has: its ring, its arena. -/
structure Duo (w wr : World) (B : Nat) (s : Spot) (b n : Nat) (a : Ar) : Prop where
  c0 : wr.cell? ⟨w.heap.size, 0, none⟩ = some (.int .i64 (b : Int))
  c1 : wr.cell? ⟨w.heap.size, 1, none⟩ = some (.int .i64 (n : Int))
  har : ∃ T, Arena wr B { s with T := T } a
  bel : Below w.heap.size w wr
theorem Duo.kept {w wr w2 : World} {B b n : Nat} {s : Spot} {a : Ar} (h : Duo w wr B s b n a) (hb : Below wr.heap.size wr w2) : Duo w w2 B s b n a := by
  obtain ⟨T, hA⟩ := h.har
  exact ⟨(hb.cell (cell_block h.c0)).trans h.c0, (hb.cell (cell_block h.c1)).trans h.c1, ⟨T, hA.kept (Rest.of_below hb) (fun _ _ => id)⟩, h.bel.trans (hb.mono h.bel.size)⟩
theorem Duo.now {w wr w2 : World} {B b n : Nat} {s : Spot} {a a' : Ar} {T : Option Nat} (h : Duo w wr B s b n a) (hB : w.heap.size < B) (hA : Arena wr B { s with T := T } a) (hN : Now wr w2 B { s with T := T } a') : Duo w w2 B s b n a' := by
  have hn : ¬ ({ s with T := T } : Spot).has w.heap.size := fun hk => by have := hA.from _ hk; omega
  have hb := (Now.below hA hN).mono (Nat.le_of_lt hB)
  obtain ⟨T2, hA2, -⟩ := hN.arena
  exact ⟨(hN.cell (p := ⟨w.heap.size, 0, none⟩) (cell_block h.c0) hn).trans h.c0, (hN.cell (p := ⟨w.heap.size, 1, none⟩) (cell_block h.c1) hn).trans h.c1, ⟨T2, hA2⟩, h.bel.trans hb⟩

/-- Behind i turns all places of theirs but the k-th stand full. -/
def Filled (b n k i : Nat) (cs : List Nat) : Prop := cs.length = b + 1 + 4 * n ∧ ∀ j, j < n → cs.getD (b + 1 + 4 * j) 0 = if j < i ∧ j ≠ k then j + 1 else j
theorem Filled.start {b n k : Nat} : Filled b n k 0 (Rg.laid b (Ar.new (b + 1 + 4 * n)).cs n) := by
  have hl : (Ar.new (b + 1 + 4 * n)).cs.length = b + 1 + 4 * n := by simp [Ar.new]
  refine ⟨by rw [Rg.laid_length]; exact hl, fun j hj => ?_⟩
  rw [Rg.laid_at _ _ _ _ hj (by omega), if_neg (by omega)]
theorem Filled.same {b n k : Nat} {cs : List Nat} (h : Filled b n k k cs) : Filled b n k (k + 1) cs := by
  refine ⟨h.1, fun j hj => ?_⟩
  rw [h.2 j hj]
  by_cases e : j < k ∧ j ≠ k
  · rw [if_pos e, if_pos (by omega)]
  · rw [if_neg e, if_neg (by omega)]
theorem Filled.put {b n k i : Nat} {cs : List Nat} (h : Filled b n k i cs) (hi : i < n) (hk : i ≠ k) : Filled b n k (i + 1) (cs.set (b + 1 + 4 * i) (i + 1)) := by
  refine ⟨by rw [List.length_set]; exact h.1, fun j hj => ?_⟩
  by_cases e : j = i
  · subst e
    rw [Rg.getD_set_same _ _ _ (by rw [h.1]; omega), if_pos (by omega)]
  · rw [Rg.getD_set_other _ _ _ _ (by omega), h.2 j hj]
    by_cases e2 : j < i ∧ j ≠ k
    · rw [if_pos e2, if_pos (by omega)]
    · rw [if_neg e2, if_neg (by omega)]
theorem Filled.now {b n k i : Nat} {cs : List Nat} (h : Filled b n k i cs) (hi : i < n) : cs.getD (b + 1 + 4 * i) 0 = i := by rw [h.2 i hi, if_neg (by omega)]

set_option maxHeartbeats 4000000 in
set_option maxRecDepth 100000 in
theorem init_law (base places full : Int) (w : World) :
    Calls Try.prog 5 #[.int .i64 base, .int .i64 places, .int .i64 full] w fun e w' => e = .returned (.bool true) ∧ Below w.heap.size w w' := by
  obtain ⟨n, hn, hsh⟩ := shl_two places
  obtain ⟨b, hb, hba⟩ : ∃ b : Nat, b < 64 ∧ bits .and .i64 base 63 = (b : Int) := ⟨(base % 64).toNat, by omega, by rw [low63]; omega⟩
  have n1 : n ≤ 64 := by omega
  have HO : Hid (Rg.Ok b n) := by show Rg.Ok b n; unfold Rg.Ok; omega
  go_enter Try.func5, Try.ntmps5
  go_wp2_with fail
  rw [hsh]
  clear hsh hba
  obtain ⟨c0, c1, hb2⟩ := kept (t := 23) (w := w) (x := .int .i64 b) (y := .int .i64 n) (Below.refl _ _)
  have j1 : IntKind.i64.wrap ((b : Int) + (1 + 4 * (n : Int))) = (b : Int) + (1 + 4 * (n : Int)) := by rw [IntKind.wrap_i64]; omega
  have HJ : Hid ((b : Int) + (1 + 4 * (n : Int)) = ((b + 1 + 4 * n : Nat) : Int)) := by show (b : Int) + (1 + 4 * (n : Int)) = _; omega
  refine wp_region_held_drew (S := fun w' => w'.cell? ⟨w.heap.size, 0, none⟩ = some (.int .i64 b) ∧ w'.cell? ⟨w.heap.size, 1, none⟩ = some (.int .i64 n) ∧ Below w.heap.size w w') (by kernel_rfl) ⟨c0, c1, hb2.drew⟩ (fun hHeld => ?_)
  refine wpAnyH_yield 0 (.pointer (some ⟨w.heap.size, 0, none⟩)) rfl (by kernel_rfl) (by kernel_rfl) (by kernel_rfl) (fun d _ _ _ h => by cases d <;> exact h) (by rfl) (by assumption) (fun _ _ => by go_simp) ?_
  simp only [Act.put, List.setIfInBounds_toArray, List.set_cons_zero, List.set_cons_succ]
  refine wpAnyH_yield 1 (.int .i64 b) rfl (by kernel_rfl) (by kernel_rfl) (by kernel_rfl) (fun d _ _ _ h => by cases d <;> exact h) (by rfl) (by assumption) (fun _ hSw => by (try dsimp only at hSw); go_simp) ?_
  simp only [Act.put, List.setIfInBounds_toArray, List.set_cons_zero, List.set_cons_succ]
  refine wpAnyH_yield 2 (.int .i64 n) rfl (by kernel_rfl) (by kernel_rfl) (by kernel_rfl) (fun d _ _ _ h => by cases d <;> exact h) (by rfl) (by assumption) (fun _ _ => by go_simp) ?_
  simp only [Act.put, List.setIfInBounds_toArray, List.set_cons_zero, List.set_cons_succ]
  refine wpAnyH_ready (rs := [3]) (by kernel_rfl) (by simp) (AllReadyH.cons rfl (fun K hK => ?_) AllReadyH.nil)
  go_simp
  go_at_call 8
  refine (rcells_in n n1 _).mono ?_
  rintro e w2 ⟨rfl, rfl⟩
  refine hK.out _ _ (hHeld) (fun hHeld => ?_)
  clear hK K
  try simp only [Act.put, List.setIfInBounds_toArray, List.set_cons_zero, List.set_cons_succ]
  refine wpAnyH_yield 4 (.int .i64 ((b : Int) + (1 + 4 * (n : Int)))) rfl (by kernel_rfl) (by kernel_rfl) (by kernel_rfl) (fun d _ _ _ h => by cases d <;> exact h) (by rfl) (by assumption) (fun _ _ => by go_simp) ?_
  simp only [Act.put, List.setIfInBounds_toArray, List.set_cons_zero, List.set_cons_succ]
  refine wpAnyH_ready (rs := [5]) (by kernel_rfl) (by simp) (AllReadyH.cons rfl (fun K hK => ?_) AllReadyH.nil)
  go_simp
  go_at_call 12
  rw [HJ.out]
  refine (new_yes (b + 1 + 4 * n) _ (by omega) (by omega)).mono ?_
  rintro e w3 ⟨sA, rfl, hA, hRA⟩
  have hA0 := hHeld
  refine hK.out _ _ (kept2 hHeld (hRA.below (Nat.le_refl _) (fun _ h => h.elim))) (fun hHeld => ?_)
  clear hK K
  try simp only [Act.put, List.setIfInBounds_toArray, List.set_cons_zero, List.set_cons_succ]
  refine wpAnyH_yield 6 (.pointer (some ⟨sA.P, 0, none⟩)) rfl (by kernel_rfl) (by kernel_rfl) (by kernel_rfl) (fun d _ _ _ h => by cases d <;> exact h) (by rfl) (by assumption) (fun _ _ => by go_simp) ?_
  simp only [Act.put, List.setIfInBounds_toArray, List.set_cons_zero, List.set_cons_succ]
  refine wpAnyH_done (by kernel_rfl) ?_ _
  clear c0 c1 hb2 j1 hA0 hRA
  have hbx : w.heap.size < (w.alloc (.cells #[.int .i64 (b : Int), .int .i64 (n : Int)] 23)).drew.heap.size := by show _ < (w.alloc _).heap.size; simp
  generalize (w.alloc (.cells #[.int .i64 (b : Int), .int .i64 (n : Int)] 23)).drew.heap.size = B at hbx hA
  obtain ⟨c0, c1, hbw⟩ := hHeld
  have HA := Lib.hid hA
  have HBW := Lib.hid (And.intro c0 (And.intro c1 hbw))
  clear hA hbw
  go_wp2_with fail
  rw [show (b : Int) + 1 = ((b + 1 : Nat) : Int) by omega]
  refine (new_yes (b + 1) _ (by omega) (by omega)).mono ?_
  rintro e w4 ⟨sB, rfl, hBt, hRB⟩
  have hA4 := HA.out.kept hRB (fun _ _ => id)
  have hdis : ∀ k, sB.has k → ¬ sA.has k := fun k hk hk2 => by have := hBt.from k hk; have := HA.out.old k hk2; omega
  obtain ⟨d0, d1, hb4⟩ := kept2 HBW.out (hRB.below (Nat.le_refl _) (fun _ h => h.elim))
  have D4 : Hid (Duo w w4 B sA b n (Ar.new (b + 1 + 4 * n))) := ⟨d0, d1, ⟨sA.T, hA4⟩, hb4⟩
  have HA4 := Lib.hid hA4
  have HB4 := Lib.hid hBt
  have HD := Lib.hid hdis
  clear c0 c1 HBW HA hRB hA4 hBt hdis hb4
  go_wp2_with fail
  refine (init_yes b n HO.out _ HA4.out (by simp [Ar.new])).mono ?_
  rintro e w5 ⟨rfl, a, hcs, hN⟩
  have D5 := Lib.hid (D4.out.now (T := sA.T) hbx HA4.out hN)
  have HB5 : Hid (Arena w5 w3.heap.size sB (Ar.new (b + 1))) := by
    obtain ⟨T, -, -, hR⟩ := hN
    exact HB4.out.kept hR HD.out
  clear d0 d1 D4 HA4 HB4 HD hN
  have c0 := D5.out.c0
  have c1 := D5.out.c1
  go_wp2_with fail
  refine (init_few b n HO.out _ HB5.out (by simp [Ar.new]; omega)).mono ?_
  rintro e w6 ⟨rfl, hb6⟩
  have D6 := Lib.hid (D5.out.kept hb6)
  clear c0 c1 D5 HB5 hb6
  go_wp2_with fail
  refine (init_no (-1) n _ (fun h => by unfold Rg.May at h; omega) (by omega) _).mono ?_
  rintro e w7 ⟨rfl, hb7⟩
  have D7 := Lib.hid (D6.out.kept hb7)
  clear D6 hb7
  have hfu : bits .and .i64 full 15 = ((full % 16).toNat : Int) := by rw [low15]; omega
  have hf16 : (full % 16).toNat < 16 := by omega
  generalize (full % 16).toNat = f at hfu hf16
  have hmod : (f : Int).tmod ((n : Int) + 1) = ((f % (n + 1) : Nat) : Int) := by rw [Int.tmod_eq_emod_of_nonneg (by omega)]; simp
  have hn0 : ¬ (n : Int) + 1 = 0 := by omega
  have hk := Nat.mod_lt f (show 0 < n + 1 by omega)
  generalize f % (n + 1) = k at hmod hk
  have hF : Hid (Filled b n k 0 a.cs) := by show Filled b n k 0 a.cs; rw [hcs]; exact Filled.start
  clear hcs
  go_wp2_with fail
  clear hfu hmod hn0
  go_loopg [12] n (fun g s12 wr => ∃ (i : Nat) (a : Ar), i ≤ n ∧ g = n - i ∧ s12 = .int .i64 i ∧ Hid (Filled b n k i a.cs) ∧ Hid (Duo w wr B sA b n a))
  case atStart => exact ⟨0, a, Nat.zero_le _, rfl, rfl, hF, D7⟩
  case round =>
    clear hF D7
    obtain ⟨i, a, hi, rfl, rfl, hF, hD⟩ := hrel
    have c0 := hD.out.c0
    have c1 := hD.out.c1
    have hlen : b + 1 + 4 * n ≤ a.cs.length := Nat.le_of_eq hF.out.1.symm
    by_cases hin : i < n
    · have hnow : a.cs.getD (Rg.stand b n i) 0 = i := by rw [Rg.stand_small hin]; exact hF.out.now hin
      have hst2 : Rg.stand b n (i + n) = Rg.stand b n i := by unfold Rg.stand; rw [Nat.add_mod_right]
      have HN := Lib.hid (And.intro hnow hst2)
      clear hnow hst2
      obtain ⟨T, hA⟩ := hD.out.har
      have HA := Lib.hid hA
      clear hA
      go_wp2_with fail
      refine (open_in b n i HO.out (by omega) _ HA.out hlen).mono ?_
      rintro e w8 ⟨rfl, hb8⟩
      rw [HN.out.1, show (i == i) = true by simp]
      have HA2 := Lib.hid (HA.out.kept (Rest.of_below hb8) (fun _ _ => id))
      have hD2 := Lib.hid (hD.out.kept hb8)
      clear c0 c1 hD HA hb8
      have c0 := hD2.out.c0
      have c1 := hD2.out.c1
      go_wp2_with fail
      refine (ready_in b n i HO.out (by omega) _ HA2.out hlen).mono ?_
      rintro e w9 ⟨rfl, hb9⟩
      rw [HN.out.1, show (i == i + 1) = false by rw [beq_eq_false_iff_ne]; omega]
      have HA := Lib.hid (HA2.out.kept (Rest.of_below hb9) (fun _ _ => id))
      have hD := Lib.hid (hD2.out.kept hb9)
      clear c0 c1 hD2 HA2 hb9
      have c0 := hD.out.c0
      have c1 := hD.out.c1
      go_wp2_with fail
      refine (open_in b n (i + n) HO.out (by omega) _ HA.out hlen).mono ?_
      rintro e w10 ⟨rfl, hb10⟩
      rw [HN.out.2, HN.out.1, show (i == i + n) = false by rw [beq_eq_false_iff_ne]; omega]
      have HA2 := Lib.hid (HA.out.kept (Rest.of_below hb10) (fun _ _ => id))
      have hD2 := Lib.hid (hD.out.kept hb10)
      clear c0 c1 hD HA hb10
      have c0 := hD2.out.c0
      have c1 := hD2.out.c1
      by_cases hik : i = k
      · have hne : ((i : Int) != (k : Int)) = false := by simp [hik]
        have HF : Hid (Filled b n k (i + 1) a.cs) := by
          have := hF.out
          rw [hik] at this ⊢
          exact this.same
        clear hik hF
        go_wp2_with fail
        go_roundg (n - (i + 1))
        case measure => go_light; omega
        case rel => exact ⟨i + 1, a, by omega, rfl, by go_num, HF, hD2⟩
      · have hne : ((i : Int) != (k : Int)) = true := by rw [bne_iff_ne]; omega
        have hput := Lib.hid (hF.out.put hin hik)
        clear hik hF
        go_wp2_with fail
        refine (stand_yes b n i HO.out (by omega) _).mono ?_
        rintro e w11 ⟨rfl, hb11⟩
        rw [Rg.stand_small hin]
        have HA := Lib.hid (HA2.out.kept (Rest.of_below hb11) (fun _ _ => id))
        have hD := Lib.hid (hD2.out.kept hb11)
        clear c0 c1 hD2 HA2 hb11
        go_wp2_with fail
        refine (write_in (b + 1 + 4 * i) (i + 1) _ HA.out (by omega) (by omega)).mono ?_
        rintro e w12 ⟨rfl, hN⟩
        have hD2 := Lib.hid (hD.out.now hbx HA.out hN)
        have HF : Hid (Filled b n k (i + 1) ((a.touch (b + 1 + 4 * i)).put (b + 1 + 4 * i) (i + 1)).cs) := by
          show Filled b n k (i + 1) ((a.touch (b + 1 + 4 * i)).cs.set (b + 1 + 4 * i) (i + 1))
          rw [Ar.touch_cs]
          exact hput.out
        clear hN hD HA hput
        go_wp2_with fail
        go_roundg (n - (i + 1))
        case measure => go_light; omega
        case rel => exact ⟨i + 1, _, by omega, rfl, by go_num, HF, hD2⟩
    · obtain rfl : n = i := by omega
      have hy : ∀ j, j < k → a.cs.getD (Rg.stand b n (0 + j)) 0 = 0 + j + 1 := fun j hj => by
        rw [Nat.zero_add, Rg.stand_small (by omega), hF.out.2 j (by omega), if_pos (by omega)]
      have hno : a.cs.getD (Rg.stand b n (0 + k)) 0 ≠ 0 + k + 1 := by
        rw [Nat.zero_add]
        by_cases e : k < n
        · rw [Rg.stand_small e, hF.out.2 k e, if_neg (by omega)]; omega
        · obtain rfl : n = k := by omega
          rw [show Rg.stand b n n = b + 1 + 4 * 0 by unfold Rg.stand; simp, hF.out.2 0 (by omega), if_pos (by omega)]; omega
      have hjk : (k + 1) % n ≠ k := by rcases hn with rfl | rfl | rfl | rfl <;> omega
      have hjn : (k + 1) % n < n := Nat.mod_lt _ (by omega)
      have hjc : a.cs.getD (Rg.stand b n ((k + 1) % n)) 0 = (k + 1) % n + 1 := by
        rw [Rg.stand_small hjn, hF.out.2 _ hjn, if_pos ⟨hjn, hjk⟩]
      have hmod : ((k : Int) + 1).tmod (n : Int) = (((k + 1) % n : Nat) : Int) := by rw [Int.tmod_eq_emod_of_nonneg (by omega)]; simp
      generalize (k + 1) % n = j at hjk hjn hjc hmod
      have HY := Lib.hid hy
      have HNO := Lib.hid hno
      have HJC := Lib.hid hjc
      clear hy hno hjc hF
      obtain ⟨T, hA⟩ := hD.out.har
      have HA := Lib.hid hA
      have HB := Lib.hid hD.out.bel
      clear hA hD
      have i1 : (if (n : Int) < (k : Int) then (n : Int) else (k : Int)) = k := if_neg (by omega)
      have i2 : IntKind.i64.wrap ((k : Int) + 1) = (k : Int) + 1 := by rw [IntKind.wrap_i64]; omega
      have i3 : IntKind.u64.wrap (j : Int) = (j : Int) := by rw [IntKind.wrap_u64]; omega
      have i4 : ((j : Int) != (k : Int)) = true := by rw [bne_iff_ne]; omega
      have i5 : (1 : Int) < (n : Int) := by omega
      have i6 : n ≠ 0 := by omega
      have i7 : ¬ n < k := by omega
      clear hi hin hjk hk hf16
      go_wp2_with fail
      refine wp_region_held_drew (S := fun w' => w'.cell? ⟨w.heap.size, 0, none⟩ = some (.int .i64 b) ∧ w'.cell? ⟨w.heap.size, 1, none⟩ = some (.int .i64 n) ∧ Below wr.heap.size wr w') (by kernel_rfl) ⟨c0, c1, (Below.refl _ _).drew⟩ (fun hHeld => ?_)
      clear c0 c1
      refine wpAnyH_ready (rs := [0]) (by kernel_rfl) (by simp) (AllReadyH.cons rfl (fun K hK => ?_) AllReadyH.nil)
      go_simp
      go_at_call 6
      refine (awake6_any _).mono ?_
      rintro e w8 ⟨rfl, hb8⟩
      refine hK.out _ _ (kept2 (w := wr) hHeld hb8) (fun hHeld => ?_)
      clear hK K
      try simp only [Act.put, List.setIfInBounds_toArray, List.set_cons_zero, List.set_cons_succ]
      clear hb8
      refine wpAnyH_yield 1 (.bool true) rfl (by kernel_rfl) (by kernel_rfl) (by kernel_rfl) (fun d _ _ _ h => by cases d <;> exact h) (by rfl) (by assumption) (fun _ _ => by go_simp) ?_
      simp only [Act.put, List.setIfInBounds_toArray, List.set_cons_zero, List.set_cons_succ]
      refine wpAnyH_yield 2 (.pointer (some ⟨sA.P, 0, none⟩)) rfl (by kernel_rfl) (by kernel_rfl) (by kernel_rfl) (fun d _ _ _ h => by cases d <;> exact h) (by rfl) (by assumption) (fun _ _ => by go_simp) ?_
      simp only [Act.put, List.setIfInBounds_toArray, List.set_cons_zero, List.set_cons_succ]
      refine wpAnyH_yield 3 (.agg #[.int .i64 b, .int .i64 n]) rfl (by kernel_rfl) (by kernel_rfl) (by kernel_rfl) (fun d _ _ _ h => by cases d <;> exact h) (by rfl) (by assumption) (fun _ hSw => by (try dsimp only at hSw); go_simp) ?_
      simp only [Act.put, List.setIfInBounds_toArray, List.set_cons_zero, List.set_cons_succ]
      refine wpAnyH_yield 5 (.int .i64 k) rfl (by kernel_rfl) (by kernel_rfl) (by kernel_rfl) (fun d _ _ _ h => by cases d <;> exact h) (by rfl) (by assumption) (fun _ _ => by go_simp) ?_
      simp only [Act.put, List.setIfInBounds_toArray, List.set_cons_zero, List.set_cons_succ]
      refine wpAnyH_yield 6 (.int .i64 n) rfl (by kernel_rfl) (by kernel_rfl) (by kernel_rfl) (fun d _ _ _ h => by cases d <;> exact h) (by rfl) (by assumption) (fun _ _ => by go_simp) ?_
      simp only [Act.put, List.setIfInBounds_toArray, List.set_cons_zero, List.set_cons_succ]
      refine wpAnyH_yield 7 (.int .i64 k) rfl (by kernel_rfl) (by kernel_rfl) (by kernel_rfl) (fun d _ _ _ h => by cases d <;> exact h) (by rfl) (by assumption) (fun _ _ => by go_simp) ?_
      simp only [Act.put, List.setIfInBounds_toArray, List.set_cons_zero, List.set_cons_succ]
      refine wpAnyH_ready (rs := [4]) (by kernel_rfl) (by simp) (AllReadyH.cons rfl (fun K hK => ?_) AllReadyH.nil)
      go_simp
      go_at_call 17
      refine (held_in b n 0 k HO.out (by omega) (by omega) _ (HA.out.kept (Rest.of_below hHeld.2.2) (fun _ _ => id)) hlen HY.out HNO.out).mono ?_
      rintro e w9 ⟨rfl, hb9⟩
      refine hK.out _ _ (kept2 (w := wr) hHeld hb9) (fun hHeld => ?_)
      clear hK K
      try simp only [Act.put, List.setIfInBounds_toArray, List.set_cons_zero, List.set_cons_succ]
      clear hb9
      refine wpAnyH_yield 8 (.bool true) rfl (by kernel_rfl) (by kernel_rfl) (by kernel_rfl) (fun d _ _ _ h => by cases d <;> exact h) (by rfl) (by assumption) (fun _ _ => by go_simp) ?_
      simp only [Act.put, List.setIfInBounds_toArray, List.set_cons_zero, List.set_cons_succ]
      refine wpAnyH_yield 9 (.bool true) rfl (by kernel_rfl) (by kernel_rfl) (by kernel_rfl) (fun d _ _ _ h => by cases d <;> exact h) (by rfl) (by assumption) (fun _ _ => by go_simp) ?_
      simp only [Act.put, List.setIfInBounds_toArray, List.set_cons_zero, List.set_cons_succ]
      refine wpAnyH_yield 10 (.bool true) rfl (by kernel_rfl) (by kernel_rfl) (by kernel_rfl) (fun d _ _ _ h => by cases d <;> exact h) (by rfl) (by assumption) (fun _ _ => by go_simp) ?_
      simp only [Act.put, List.setIfInBounds_toArray, List.set_cons_zero, List.set_cons_succ]
      refine wpAnyH_yield 11 (.pointer (some ⟨sA.P, 0, none⟩)) rfl (by kernel_rfl) (by kernel_rfl) (by kernel_rfl) (fun d _ _ _ h => by cases d <;> exact h) (by rfl) (by assumption) (fun _ _ => by go_simp) ?_
      simp only [Act.put, List.setIfInBounds_toArray, List.set_cons_zero, List.set_cons_succ]
      refine wpAnyH_yield 12 (.agg #[.int .i64 b, .int .i64 n]) rfl (by kernel_rfl) (by kernel_rfl) (by kernel_rfl) (fun d _ _ _ h => by cases d <;> exact h) (by rfl) (by assumption) (fun _ hSw => by (try dsimp only at hSw); go_simp) ?_
      simp only [Act.put, List.setIfInBounds_toArray, List.set_cons_zero, List.set_cons_succ]
      refine wpAnyH_yield 13 (.int .i64 k) rfl (by kernel_rfl) (by kernel_rfl) (by kernel_rfl) (fun d _ _ _ h => by cases d <;> exact h) (by rfl) (by assumption) (fun _ _ => by go_simp) ?_
      simp only [Act.put, List.setIfInBounds_toArray, List.set_cons_zero, List.set_cons_succ]
      refine wpAnyH_yield 14 (.int .i64 (k + 1)) rfl (by kernel_rfl) (by kernel_rfl) (by kernel_rfl) (fun d _ _ _ h => by cases d <;> exact h) (by rfl) (by assumption) (fun _ _ => by go_simp) ?_
      simp only [Act.put, List.setIfInBounds_toArray, List.set_cons_zero, List.set_cons_succ]
      refine wpAnyH_yield 15 (.int .i64 n) rfl (by kernel_rfl) (by kernel_rfl) (by kernel_rfl) (fun d _ _ _ h => by cases d <;> exact h) (by rfl) (by assumption) (fun _ _ => by go_simp) ?_
      simp only [Act.put, List.setIfInBounds_toArray, List.set_cons_zero, List.set_cons_succ]
      refine wpAnyH_yield 16 (.int .i64 j) rfl (by kernel_rfl) (by kernel_rfl) (by kernel_rfl) (fun d _ _ _ h => by cases d <;> exact h) (by rfl) (by assumption) (fun _ _ => by go_simp) ?_
      simp only [Act.put, List.setIfInBounds_toArray, List.set_cons_zero, List.set_cons_succ]
      refine wpAnyH_yield 17 (.int .u64 j) rfl (by kernel_rfl) (by kernel_rfl) (by kernel_rfl) (fun d _ _ _ h => by cases d <;> exact h) (by rfl) (by assumption) (fun _ _ => by go_simp) ?_
      simp only [Act.put, List.setIfInBounds_toArray, List.set_cons_zero, List.set_cons_succ]
      refine wpAnyH_yield 19 (.int .i64 n) rfl (by kernel_rfl) (by kernel_rfl) (by kernel_rfl) (fun d _ _ _ h => by cases d <;> exact h) (by rfl) (by assumption) (fun _ _ => by go_simp) ?_
      simp only [Act.put, List.setIfInBounds_toArray, List.set_cons_zero, List.set_cons_succ]
      refine wpAnyH_yield 20 (.bool true) rfl (by kernel_rfl) (by kernel_rfl) (by kernel_rfl) (fun d _ _ _ h => by cases d <;> exact h) (by rfl) (by assumption) (fun _ _ => by go_simp) ?_
      simp only [Act.put, List.setIfInBounds_toArray, List.set_cons_zero, List.set_cons_succ]
      refine wpAnyH_ready (rs := [18]) (by kernel_rfl) (by simp) (AllReadyH.cons rfl (fun K hK => ?_) AllReadyH.nil)
      go_simp
      go_at_call 15
      refine (ready_in b n j HO.out (by omega) _ (HA.out.kept (Rest.of_below hHeld.2.2) (fun _ _ => id)) hlen).mono ?_
      rintro e w10 ⟨rfl, hb10⟩
      rw [HJC.out, show (j + 1 == j + 1) = true by simp]
      refine hK.out _ _ (kept2 (w := wr) hHeld hb10) (fun hHeld => ?_)
      clear hK K
      try simp only [Act.put, List.setIfInBounds_toArray, List.set_cons_zero, List.set_cons_succ]
      clear hb10
      refine wpAnyH_yield 21 (.bool true) rfl (by kernel_rfl) (by kernel_rfl) (by kernel_rfl) (fun d _ _ _ h => by cases d <;> exact h) (by rfl) (by assumption) (fun _ _ => by go_simp) ?_
      simp only [Act.put, List.setIfInBounds_toArray, List.set_cons_zero, List.set_cons_succ]
      refine wpAnyH_yield 22 (.int .i64 k) rfl (by kernel_rfl) (by kernel_rfl) (by kernel_rfl) (fun d _ _ _ h => by cases d <;> exact h) (by rfl) (by assumption) (fun _ _ => by go_simp) ?_
      simp only [Act.put, List.setIfInBounds_toArray, List.set_cons_zero, List.set_cons_succ]
      refine wpAnyH_yield 23 (.int .i64 (k + 1)) rfl (by kernel_rfl) (by kernel_rfl) (by kernel_rfl) (fun d _ _ _ h => by cases d <;> exact h) (by rfl) (by assumption) (fun _ _ => by go_simp) ?_
      simp only [Act.put, List.setIfInBounds_toArray, List.set_cons_zero, List.set_cons_succ]
      refine wpAnyH_yield 24 (.int .i64 n) rfl (by kernel_rfl) (by kernel_rfl) (by kernel_rfl) (fun d _ _ _ h => by cases d <;> exact h) (by rfl) (by assumption) (fun _ _ => by go_simp) ?_
      simp only [Act.put, List.setIfInBounds_toArray, List.set_cons_zero, List.set_cons_succ]
      refine wpAnyH_yield 25 (.int .i64 j) rfl (by kernel_rfl) (by kernel_rfl) (by kernel_rfl) (fun d _ _ _ h => by cases d <;> exact h) (by rfl) (by assumption) (fun _ _ => by go_simp) ?_
      simp only [Act.put, List.setIfInBounds_toArray, List.set_cons_zero, List.set_cons_succ]
      refine wpAnyH_yield 26 (.int .i64 k) rfl (by kernel_rfl) (by kernel_rfl) (by kernel_rfl) (fun d _ _ _ h => by cases d <;> exact h) (by rfl) (by assumption) (fun _ _ => by go_simp) ?_
      simp only [Act.put, List.setIfInBounds_toArray, List.set_cons_zero, List.set_cons_succ]
      refine wpAnyH_yield 27 (.bool true) rfl (by kernel_rfl) (by kernel_rfl) (by kernel_rfl) (fun d _ _ _ h => by cases d <;> exact h) (by rfl) (by assumption) (fun _ _ => by go_simp) ?_
      simp only [Act.put, List.setIfInBounds_toArray, List.set_cons_zero, List.set_cons_succ]
      refine wpAnyH_yield 28 (.bool true) rfl (by kernel_rfl) (by kernel_rfl) (by kernel_rfl) (fun d _ _ _ h => by cases d <;> exact h) (by rfl) (by assumption) (fun _ _ => by go_simp) ?_
      simp only [Act.put, List.setIfInBounds_toArray, List.set_cons_zero, List.set_cons_succ]
      refine wpAnyH_yield 29 (.bool true) rfl (by kernel_rfl) (by kernel_rfl) (by kernel_rfl) (fun d _ _ _ h => by cases d <;> exact h) (by rfl) (by assumption) (fun _ _ => by go_simp) ?_
      simp only [Act.put, List.setIfInBounds_toArray, List.set_cons_zero, List.set_cons_succ]
      refine wpAnyH_yield 30 (.bool true) rfl (by kernel_rfl) (by kernel_rfl) (by kernel_rfl) (fun d _ _ _ h => by cases d <;> exact h) (by rfl) (by assumption) (fun _ _ => by go_simp) ?_
      simp only [Act.put, List.setIfInBounds_toArray, List.set_cons_zero, List.set_cons_succ]
      refine wpAnyH_yield 31 (.bool true) rfl (by kernel_rfl) (by kernel_rfl) (by kernel_rfl) (fun d _ _ _ h => by cases d <;> exact h) (by rfl) (by assumption) (fun _ _ => by go_simp) ?_
      simp only [Act.put, List.setIfInBounds_toArray, List.set_cons_zero, List.set_cons_succ]
      refine wpAnyH_done (by kernel_rfl) ?_ _
      have hbe := HB.out.trans (hHeld.2.2.mono HB.out.size)
      go_wp2
      go_ret
      exact ⟨rfl, hbe⟩

end Go.Proofs.Ytfecdnaphccmiaa
