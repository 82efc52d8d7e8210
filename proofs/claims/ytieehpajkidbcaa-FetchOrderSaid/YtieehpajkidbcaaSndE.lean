/- A sending that nobody is in the way of, step by step: it is sent, or there is no room. -/
import Derived.Test.YtieehpajkidbcaaSndD
namespace Go.Proofs.Ytieehpajkidbcaa
open Go.RowKit
namespace Snd

theorem step_0 (b p x y z t j : Nat) (l : Bool) (a : Ar) : step ⟨b, p, x, y, z, l, t, 0, j⟩ a = (⟨b, p, x, y, z, l, a.cs.getD b 0, 1, j⟩, a.touch b) := rfl
theorem step_1 (b p x y z t j : Nat) (l : Bool) (a : Ar) : step ⟨b, p, x, y, z, l, t, 1, j⟩ a = (found ⟨b, p, x, y, z, l, t, 1, j⟩ (a.cs.getD (Rg.stand b p t) 0), a.touch (Rg.stand b p t)) := rfl
theorem step_2 (b p x y z t j : Nat) (l : Bool) (a : Ar) : step ⟨b, p, x, y, z, l, t, 2, j⟩ a = if a.cs.getD b 0 = t then (⟨b, p, x, y, z, l, t, 3, j⟩, (a.touch b).put b (Rg.next t)) else (⟨b, p, x, y, z, false, 0, 0, 0⟩, a.touch b) := rfl
theorem step_3 (b p x y z t j : Nat) (l : Bool) (a : Ar) : step ⟨b, p, x, y, z, l, t, 3, j⟩ a = (⟨b, p, x, y, z, l, t, if j = 2 then 4 else 3, j + 1⟩, (a.touch (Rg.stand b p t + 1 + j)).put (Rg.stand b p t + 1 + j) (word ⟨b, p, x, y, z, l, t, 3, j⟩)) := rfl
theorem step_4 (b p x y z t j : Nat) (l : Bool) (a : Ar) : step ⟨b, p, x, y, z, l, t, 4, j⟩ a = (⟨b, p, x, y, z, l, t, 5, j⟩, (a.touch (Rg.stand b p t)).put (Rg.stand b p t) (Rg.next t)) := rfl
theorem run_zero (d : Snd) (a : Ar) : run d a 0 = (d, a) := rfl
theorem run_succ (d : Snd) (a : Ar) (n : Nat) : run d a (n + 1) = (run d a n).1.step (run d a n).2.begin := rfl
theorem begin_cs (a : Ar) : a.begin.cs = a.cs := rfl
theorem put_cs (a : Ar) (i j x : Nat) : ((a.touch i).put j x).cs = a.cs.set j x := by simp [Ar.put, Ar.touch_cs]

/-- One that writes its words, from any step on. -/
theorem run_words {d : Snd} {a : Ar} {n b p x y z t : Nat} {l : Bool} {a0 : Ar} (h : run d a n = (⟨b, p, x, y, z, l, t, 3, 0⟩, a0)) :
    ∃ a', run d a (n + 4) = (⟨b, p, x, y, z, l, t, 5, 3⟩, a') ∧ a'.cs = (((a0.cs.set (Rg.stand b p t + 1) x).set (Rg.stand b p t + 2) y).set (Rg.stand b p t + 3) z).set (Rg.stand b p t) (Rg.next t) ∧ ∀ i, n ≤ i → i < n + 4 → (run d a i).1.k < 5 := by
  generalize hs : Rg.stand b p t = S
  have h1 : run d a (n + 1) = (⟨b, p, x, y, z, l, t, 3, 1⟩, (a0.begin.touch (S + 1)).put (S + 1) x) := by rw [run_succ, h, ← hs]; rfl
  have h2 : run d a (n + 2) = (⟨b, p, x, y, z, l, t, 3, 2⟩, (((a0.begin.touch (S + 1)).put (S + 1) x).begin.touch (S + 2)).put (S + 2) y) := by rw [run_succ, h1, ← hs]; rfl
  have h3 : run d a (n + 3) = (⟨b, p, x, y, z, l, t, 4, 3⟩, (((((a0.begin.touch (S + 1)).put (S + 1) x).begin.touch (S + 2)).put (S + 2) y).begin.touch (S + 3)).put (S + 3) z) := by rw [run_succ, h2, ← hs]; rfl
  have h4 : run d a (n + 4) = (⟨b, p, x, y, z, l, t, 5, 3⟩, (((((((a0.begin.touch (S + 1)).put (S + 1) x).begin.touch (S + 2)).put (S + 2) y).begin.touch (S + 3)).put (S + 3) z).begin.touch S).put S (Rg.next t)) := by rw [run_succ, h3, ← hs]; rfl
  refine ⟨_, h4, ?_, fun i h5 h6 => ?_⟩
  · simp only [put_cs, begin_cs]
  · obtain rfl | rfl | rfl | rfl : i = n ∨ i = n + 1 ∨ i = n + 2 ∨ i = n + 3 := by omega
    · rw [h]; show 3 < 5; decide
    · rw [h1]; show 3 < 5; decide
    · rw [h2]; show 3 < 5; decide
    · rw [h3]; show 4 < 5; decide

/-- Sent. -/
theorem run_new (b p x y z t : Nat) (a : Ar) (h0 : a.cs.getD b 0 = t) (h1 : a.cs.getD (Rg.stand b p t) 0 = t) :
    ∃ a', run ⟨b, p, x, y, z, false, 0, 0, 0⟩ a 7 = (⟨b, p, x, y, z, false, t, 5, 3⟩, a') ∧ a'.cs = ((((a.cs.set b (Rg.next t)).set (Rg.stand b p t + 1) x).set (Rg.stand b p t + 2) y).set (Rg.stand b p t + 3) z).set (Rg.stand b p t) (Rg.next t) ∧ ∀ i, i < 7 → (run ⟨b, p, x, y, z, false, 0, 0, 0⟩ a i).1.k < 5 := by
  generalize hd : (⟨b, p, x, y, z, false, 0, 0, 0⟩ : Snd) = d
  have g1 : run d a 1 = (⟨b, p, x, y, z, false, t, 1, 0⟩, a.begin.touch b) := by rw [run_succ, run_zero, ← hd]; simp only; rw [step_0, begin_cs, h0]
  have g2 : run d a 2 = (⟨b, p, x, y, z, false, t, 2, 0⟩, (a.begin.touch b).begin.touch (Rg.stand b p t)) := by rw [run_succ, g1]; simp only; rw [step_1, begin_cs, Ar.touch_cs, begin_cs, h1]; simp [found]
  have g3 : run d a 3 = (⟨b, p, x, y, z, false, t, 3, 0⟩, (((a.begin.touch b).begin.touch (Rg.stand b p t)).begin.touch b).put b (Rg.next t)) := by
    rw [run_succ, g2]; simp only; rw [step_2, if_pos (by rw [begin_cs, Ar.touch_cs, begin_cs, Ar.touch_cs, begin_cs, h0])]
  obtain ⟨a', g7, hcs, hk⟩ := run_words g3
  refine ⟨a', g7, ?_, fun i hi => ?_⟩
  · rw [hcs, put_cs, begin_cs, Ar.touch_cs, begin_cs, Ar.touch_cs, begin_cs]
  · by_cases h3 : 3 ≤ i
    · exact hk i h3 hi
    · obtain rfl | rfl | rfl : i = 0 ∨ i = 1 ∨ i = 2 := by omega
      · rw [run_zero, ← hd]; show 0 < 5; decide
      · rw [g1]; show 1 < 5; decide
      · rw [g2]; show 2 < 5; decide

/-- .. alone. -/
theorem run_lone (b p x y z t : Nat) (a : Ar) (h1 : a.cs.getD (Rg.stand b p t) 0 = t) :
    ∃ a', run ⟨b, p, x, y, z, true, t, 1, 0⟩ a 5 = (⟨b, p, x, y, z, true, t, 5, 3⟩, a') ∧ a'.cs = (((a.cs.set (Rg.stand b p t + 1) x).set (Rg.stand b p t + 2) y).set (Rg.stand b p t + 3) z).set (Rg.stand b p t) (Rg.next t) ∧ ∀ i, i < 5 → (run ⟨b, p, x, y, z, true, t, 1, 0⟩ a i).1.k < 5 := by
  generalize hd : (⟨b, p, x, y, z, true, t, 1, 0⟩ : Snd) = d
  have g1 : run d a 1 = (⟨b, p, x, y, z, true, t, 3, 0⟩, a.begin.touch (Rg.stand b p t)) := by rw [run_succ, run_zero, ← hd]; simp only; rw [step_1, begin_cs, h1]; simp [found]
  obtain ⟨a', g7, hcs, hk⟩ := run_words g1
  refine ⟨a', g7, ?_, fun i hi => ?_⟩
  · rw [hcs, Ar.touch_cs, begin_cs]
  · by_cases h3 : 1 ≤ i
    · exact hk i h3 hi
    · obtain rfl : i = 0 := by omega
      rw [run_zero, ← hd]; show 1 < 5; decide

/-- There is no room. -/
theorem run_full (b p x y z t : Nat) (a : Ar) (h0 : a.cs.getD b 0 = t) (h1 : a.cs.getD (Rg.stand b p t) 0 < t) :
    ∃ a', run ⟨b, p, x, y, z, false, 0, 0, 0⟩ a 2 = (⟨b, p, x, y, z, false, t, 6, 0⟩, a') ∧ a'.cs = a.cs ∧ ∀ i, i < 2 → (run ⟨b, p, x, y, z, false, 0, 0, 0⟩ a i).1.k < 5 := by
  generalize hd : (⟨b, p, x, y, z, false, 0, 0, 0⟩ : Snd) = d
  have g1 : run d a 1 = (⟨b, p, x, y, z, false, t, 1, 0⟩, a.begin.touch b) := by rw [run_succ, run_zero, ← hd]; simp only; rw [step_0, begin_cs, h0]
  have g2 : run d a 2 = (⟨b, p, x, y, z, false, t, 6, 0⟩, (a.begin.touch b).begin.touch (Rg.stand b p t)) := by
    rw [run_succ, g1]; simp only; rw [step_1, begin_cs, Ar.touch_cs, begin_cs]; unfold found; rw [if_neg (by simp only; omega), if_pos (by simp only; omega)]
  refine ⟨_, g2, by rw [Ar.touch_cs, begin_cs, Ar.touch_cs, begin_cs], fun i hi => ?_⟩
  obtain rfl | rfl : i = 0 ∨ i = 1 := by omega
  · rw [run_zero, ← hd]; show 0 < 5; decide
  · rw [g1]; show 1 < 5; decide

/-- .. alone. -/
theorem run_shut (b p x y z t : Nat) (a : Ar) (h1 : a.cs.getD (Rg.stand b p t) 0 ≠ t) :
    ∃ a', run ⟨b, p, x, y, z, true, t, 1, 0⟩ a 1 = (⟨b, p, x, y, z, true, t, 6, 0⟩, a') ∧ a'.cs = a.cs ∧ ∀ i, i < 1 → (run ⟨b, p, x, y, z, true, t, 1, 0⟩ a i).1.k < 5 := by
  generalize hd : (⟨b, p, x, y, z, true, t, 1, 0⟩ : Snd) = d
  have g1 : run d a 1 = (⟨b, p, x, y, z, true, t, 6, 0⟩, a.begin.touch (Rg.stand b p t)) := by
    rw [run_succ, run_zero, ← hd]; simp only; rw [step_1, begin_cs]; unfold found; rw [if_neg (by simp only; omega), if_pos (by simp)]
  refine ⟨_, g1, by rw [Ar.touch_cs, begin_cs], fun i hi => ?_⟩
  obtain rfl : i = 0 := by omega
  rw [run_zero, ← hd]; show 1 < 5; decide
end Snd

theorem Rg.next_small {t : Nat} (h : t + 1 < 18446744073709551616) : Rg.next t = t + 1 := Nat.mod_eq_of_lt h

end Go.Proofs.Ytieehpajkidbcaa
