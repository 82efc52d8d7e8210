/- The law on turns that ended: however often the slot is taken and given back behind one, it is not live again. -/
import Derived.Test.YtalkgehhmbipbaaDoorLaw9A
import Derived.Test.YtalkgehhmbipbaaDoorLow
import Derived.Deep.Light
import Derived.Deep.DeepCutAuto
namespace Go.Proofs.YtalkgehhmbipbaaDoor
open Go.RowKit

theorem low1 (n : Int) : bits .and .i64 n 1 = n % 2 := i64_low n 1 (by omega)
theorem dec_no (x : Nat) (g : Int) (h : ((Slt.gen x : Nat) : Int) ≠ g ∨ ¬ Slt.Live x) : decide (((Slt.gen x : Nat) : Int) = g ∧ Slt.Live x) = false := decide_eq_false (by rintro ⟨h1, h2⟩; rcases h with h | h; exact h h1; exact h h2)
theorem dec_yes (x : Nat) (g : Int) (h1 : ((Slt.gen x : Nat) : Int) = g) (h2 : Slt.Live x) : decide (((Slt.gen x : Nat) : Int) = g ∧ Slt.Live x) = true := decide_eq_true ⟨h1, h2⟩

/-- A turn that is taken: pending, or streaming. -/
theorem taken_facts (k : Nat) (b : Bool) (hk : k ≤ 16777215) : Slt.gen (Slt.word k (if b then 2 else 1)) = k ∧ Slt.Live (Slt.word k (if b then 2 else 1)) ∧ Slt.st (Slt.word k (if b then 2 else 1)) = (if b then 2 else 1) ∧ Slt.word k (if b then 2 else 1) < 18446744073709551616 := by
  unfold Slt.Live
  cases b
  · refine ⟨Slt.gen_word hk, ?_, Slt.st_word hk (by simp), Slt.word_small hk (by simp)⟩
    rw [Slt.st_word hk (by simp)]; simp
  · refine ⟨Slt.gen_word hk, ?_, Slt.st_word hk (by simp), Slt.word_small hk (by simp)⟩
    rw [Slt.st_word hk (by simp)]; simp

set_option maxRecDepth 100000 in
set_option maxHeartbeats 2000000 in
/-- The law on turns that ended. -/
theorem stale_any (g more : Int) (w : World) (hL : SLay w) :
    Calls Tryd.prog 5 #[.int .i64 g, .int .i64 more] w fun e w' => e = .returned (.bool true) ∧ Below w.heap.size w w' := by
  obtain ⟨K, hK, hK2⟩ : ∃ K : Nat, bits .and .i64 g 65535 = (K : Int) ∧ K ≤ 65535 := ⟨(g % 65536).toNat, by rw [low16]; omega, by omega⟩
  obtain ⟨M, hM, hM2⟩ : ∃ M : Nat, bits .and .i64 more 31 = (M : Int) ∧ M ≤ 31 := ⟨(more % 32).toNat, by rw [low31]; omega, by omega⟩
  go_enter Tryd.func5, Tryd.ntmps5
  go_wp2_with fail
  refine (sword_any _ _ (by omega) (by omega) _ hL).mono ?_
  rintro e w1 ⟨rfl, hb⟩
  have e1 : Slt.word (min ((K : Int) + 1).toNat 16777215) (min (Int.toNat 1) 3) = Slt.word (K + 1) (if false then 2 else 1) := by simp [Slt.word]; omega
  rw [e1]
  clear e1
  have hT := Lib.hid (taken_facts (K + 1) false (by omega))
  generalize Slt.word (K + 1) (if false then 2 else 1) = p at hT ⊢
  go_wp2_with fail
  refine (sclose_yes p _ hT.out.2.2.2 hT.out.2.1 _ (hL.kept hb)).mono ?_
  rintro e w2 ⟨rfl, hb2⟩
  have hb := below_on hb hb2
  clear hb2
  rw [hT.out.1, if_neg (by omega)]
  clear hT
  go_wp2_with fail
  go_loopg [6, 7] M (fun m s6 s7 wr => ∃ i : Nat, i ≤ M ∧ m = M - i ∧ s6 = .int .u64 (Slt.word (K + 1 + i) 0 : Nat) ∧ s7 = .int .i64 i ∧ Below w.heap.size w wr)
  case atStart => exact ⟨0, Nat.zero_le _, rfl, rfl, rfl, hb⟩
  case round =>
    obtain ⟨i, hi, rfl, rfl, rfl, hbel⟩ := hrel
    clear hb
    have HM := Lib.hid hM2
    have HK := Lib.hid hK2
    have hp1 := Lib.hid (Slt.gen_word (g := K + 1 + i) (s := 0) (by omega))
    have hp2 := Lib.hid (Slt.st_word (g := K + 1 + i) (s := 0) (by omega) (by omega))
    have hp3 := Lib.hid (Slt.word_small (g := K + 1 + i) (s := 0) (by omega) (by omega))
    generalize Slt.word (K + 1 + i) 0 = p at hp1 hp2 hp3 ⊢
    by_cases hlt : i < M
    · have hl1 : (i : Int) < M := by omega
      have e3 := low1 (i : Int)
      go_wp2_with fail
      refine (sopen_yes p _ _ hp3.out hp2.out (by have := hp1.out; omega) _ (hL.kept hbel)).mono ?_
      rintro e w3 ⟨rfl, hb2⟩
      have hb := below_on hbel hb2
      clear hb2 hbel
      rw [hp1.out]
      clear hp1 hp2 hp3
      generalize ((i : Int) % 2 == 1) = b
      have hT := Lib.hid (taken_facts (K + 1 + i + 1) b (by omega))
      generalize Slt.word (K + 1 + i + 1) (if b then 2 else 1) = x at hT ⊢
      go_wp2_with fail
      refine (slive_any x _ hT.out.2.2.2 _ (hL.kept hb)).mono ?_
      rintro e w4 ⟨rfl, hb2⟩
      have hb := below_on hb hb2
      clear hb2
      rw [dec_no x _ (.inl (by have := hT.out.1; omega))]
      go_wp2_with fail
      refine (slive_any x _ hT.out.2.2.2 _ (hL.kept hb)).mono ?_
      rintro e w5 ⟨rfl, hb2⟩
      have hb := below_on hb hb2
      clear hb2
      rw [dec_yes x _ (by have := hT.out.1; omega) hT.out.2.1]
      go_wp2_with fail
      refine (sclose_yes x _ hT.out.2.2.2 hT.out.2.1 _ (hL.kept hb)).mono ?_
      rintro e w6 ⟨rfl, hb2⟩
      have hb := below_on hb hb2
      clear hb2
      rw [hT.out.1, if_neg (by omega)]
      clear hT
      have hq1 := Lib.hid (Slt.gen_word (g := K + 1 + i + 1) (s := 0) (by omega))
      have hq3 := Lib.hid (Slt.word_small (g := K + 1 + i + 1) (s := 0) (by omega) (by omega))
      generalize hq : Slt.word (K + 1 + i + 1) 0 = q at hq1 hq3 ⊢
      have HQ := Lib.hid hq
      clear hq
      go_wp2_with fail
      refine (slive_any q _ hq3.out _ (hL.kept hb)).mono ?_
      rintro e w7 ⟨rfl, hb2⟩
      have hb := below_on hb hb2
      clear hb2
      rw [dec_no q _ (.inl (by have := hq1.out; omega))]
      go_wp2_with fail
      go_roundg (M - (i + 1))
      case measure => go_light; omega
      case rel => exact ⟨i + 1, by omega, rfl, by rw [← HQ.out]; rfl, by go_num, hb⟩
    · have hl1 : ¬ (i : Int) < M := by omega
      go_wp2_with fail
      refine (awake9_any _ (hL.kept hbel)).mono ?_
      rintro e w3 ⟨rfl, hb2⟩
      have hb := below_on hbel hb2
      clear hb2 hbel
      go_wp2_with fail
      refine (slive_any p _ hp3.out _ (hL.kept hb)).mono ?_
      rintro e w7 ⟨rfl, hb2⟩
      have hb := below_on hb hb2
      clear hb2
      rw [dec_no p _ (.inr (by unfold Slt.Live; have := hp2.out; omega))]
      go_wp2_with fail
      go_ret
      exact ⟨rfl, hb⟩

end Go.Proofs.YtalkgehhmbipbaaDoor
