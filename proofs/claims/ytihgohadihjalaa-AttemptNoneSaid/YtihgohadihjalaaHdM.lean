/- Plain numbers: how many hedges, when the next one is sent, how many of them are ahead of the end. Nothing here speaks of a program. -/
import Derived.Test.YtihgohadihjalaaTkMath
namespace Go.Proofs.Ytihgohadihjalaa.Hd

/-- How many there may be. -/
def most (M A : Int) (su st : Bool) : Nat := if su = true ∨ st = true ∨ Tk.clamp A = 0 then 0 else (min (max M 0) 14).toNat
theorem most_hi (M A : Int) (su st : Bool) : most M A su st ≤ 14 := by unfold most; split <;> omega
theorem most_sure (M A : Int) (st : Bool) : most M A true st = 0 := by simp [most]
theorem most_stream (M A : Int) : most M A false true = 0 := by simp [most]
theorem most_zero (M : Int) {A : Int} (h : Tk.clamp A = 0) : most M A false false = 0 := by simp [most, h]
theorem most_some (M : Int) {A : Int} (h : Tk.clamp A ≠ 0) : ((most M A false false : Nat) : Int) = min (max M 0) 14 := by
  unfold most; rw [if_neg (by simp [h])]; omega

/-- When the next one is sent. -/
def next (m : Nat) (A : Int) (s l e : Int) : Int := if s < 0 ∨ (m : Int) ≤ s ∨ Tk.clamp e ≤ Tk.after l A then 1099511627776 else Tk.after l A
theorem next_lo (m : Nat) (A s l e : Int) : 0 ≤ next m A s l e := by have := Tk.after_lo l A; unfold next; split <;> omega
theorem next_hi (m : Nat) (A s l e : Int) : next m A s l e ≤ 1099511627776 := by have := Tk.after_hi l A; unfold next; split <;> omega

/-- When so many are sent, each so long behind the one ahead. -/
def it (A b : Int) : Nat → Int
  | 0 => Tk.clamp b
  | n + 1 => Tk.after (it A b n) A
theorem it_lo (A b : Int) (n : Nat) : 0 ≤ it A b n := by cases n; exact Tk.clamp_lo _; exact Tk.after_lo _ _
theorem it_hi (A b : Int) (n : Nat) : it A b n ≤ 1099511627776 := by cases n; exact Tk.clamp_hi _; exact Tk.after_hi _ _
theorem after_clamp (t n : Int) : Tk.after (Tk.clamp t) n = Tk.after t n := by unfold Tk.after; rw [Tk.clamp_in (Tk.clamp_lo t) (Tk.clamp_hi t)]
/-- The first behind the beginning, as it was told. -/
theorem it_one (A b : Int) : it A b 1 = Tk.after b A := after_clamp b A

/-- How many are ahead of the end, k of them left when n were sent. -/
def run (A b e : Int) : Nat → Nat → Nat
  | 0, n => n
  | k + 1, n => if Tk.clamp e ≤ it A b (n + 1) then n else run A b e k (n + 1)
theorem run_le (A b e : Int) : ∀ k n, n ≤ run A b e k n ∧ run A b e k n ≤ n + k
  | 0, n => ⟨Nat.le_refl _, Nat.le_refl _⟩
  | k + 1, n => by
    have := run_le A b e k (n + 1)
    unfold run; split <;> omega
/-- .. of so many. -/
def num (m : Nat) (A b e : Int) : Nat := run A b e m 0
theorem num_le (m : Nat) (A b e : Int) : num m A b e ≤ m := by have := run_le A b e m 0; unfold num; omega
/-- So many were sent, and it goes on from there. -/
def At (m : Nat) (A b e : Int) (n : Nat) : Prop := n ≤ m ∧ run A b e (m - n) n = num m A b e
theorem At.start (m : Nat) (A b e : Int) : At m A b e 0 := ⟨Nat.zero_le _, rfl⟩
theorem At.le {m : Nat} {A b e : Int} {n : Nat} (h : At m A b e n) : n ≤ m := h.1
theorem At.full {m : Nat} {A b e : Int} {n : Nat} (h : At m A b e n) (hn : m ≤ n) : num m A b e = n := by
  obtain ⟨h1, h2⟩ := h
  rw [show m - n = 0 by omega] at h2
  exact h2.symm
theorem At.late {m : Nat} {A b e : Int} {n : Nat} (h : At m A b e n) (hl : Tk.clamp e ≤ it A b (n + 1)) : num m A b e = n := by
  obtain ⟨h1, h2⟩ := h
  rw [← h2]
  cases m - n with
  | zero => rfl
  | succ k => unfold run; rw [if_pos hl]
theorem At.more {m : Nat} {A b e : Int} {n : Nat} (h : At m A b e n) (hn : n < m) (hl : it A b (n + 1) < Tk.clamp e) : At m A b e (n + 1) := by
  obtain ⟨h1, h2⟩ := h
  refine ⟨hn, ?_⟩
  rw [← h2, show m - n = m - (n + 1) + 1 by omega]
  conv => rhs; unfold run
  rw [if_neg (by omega)]
theorem At.num_ge {m : Nat} {A b e : Int} {n : Nat} (h : At m A b e n) : n ≤ num m A b e := by
  rw [← h.2]; exact (run_le _ _ _ _ _).1
/-- What is told as the next one, when n were sent and the last one stands there. -/
theorem next_at (m : Nat) (A b e : Int) (n : Nat) : next m A (n : Int) (it A b n) e = if n < m ∧ it A b (n + 1) < Tk.clamp e then it A b (n + 1) else 1099511627776 := by
  have hi : Tk.after (it A b n) A = it A b (n + 1) := rfl
  unfold next; rw [hi]
  by_cases h : n < m ∧ it A b (n + 1) < Tk.clamp e
  · rw [if_pos h, if_neg (by omega)]
  · rw [if_neg h, if_pos (by omega)]
theorem next_begin (m : Nat) (A b e : Int) : next m A 0 b e = next m A ((0 : Nat) : Int) (it A b 0) e := by
  unfold next
  rw [show it A b 0 = Tk.clamp b from rfl, after_clamp]
  rfl
/-- It is never, where none is left. -/
theorem At.stop {m : Nat} {A b e : Int} {n : Nat} (h : At m A b e n) (hs : next m A (n : Int) (it A b n) e = 1099511627776) : num m A b e = n := by
  rw [next_at] at hs
  by_cases hn : n < m ∧ it A b (n + 1) < Tk.clamp e
  · rw [if_pos hn] at hs
    have := Tk.clamp_hi e
    omega
  · rcases Nat.lt_or_ge n m with h1 | h1
    · exact h.late (by omega)
    · exact h.full h1
/-- .. else the one that comes. -/
theorem At.go {m : Nat} {A b e : Int} {n : Nat} (h : At m A b e n) (hs : next m A (n : Int) (it A b n) e ≠ 1099511627776) : next m A (n : Int) (it A b n) e = it A b (n + 1) ∧ At m A b e (n + 1) := by
  rw [next_at] at hs ⊢
  by_cases hn : n < m ∧ it A b (n + 1) < Tk.clamp e
  · rw [if_pos hn]
    exact ⟨rfl, h.more hn.1 hn.2⟩
  · rw [if_neg hn] at hs
    exact absurd rfl hs
end Go.Proofs.Ytihgohadihjalaa.Hd
