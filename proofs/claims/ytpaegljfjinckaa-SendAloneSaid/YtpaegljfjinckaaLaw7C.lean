/- Sendings alone, one behind the other, as plain numbers: what a ring's cells have when so many were sent. -/
import Derived.Test.YtpaegljfjinckaaSndE
namespace Go.Proofs.Ytpaegljfjinckaa
open Go.RowKit

theorem getD_set_if (l : List Nat) (i j x : Nat) (h : i < l.length) : (l.set i x).getD j 0 = if j = i then x else l.getD j 0 := by
  by_cases e : j = i
  · subst e; rw [if_pos rfl]; exact Rg.getD_set_same _ _ _ h
  · rw [if_neg e]; exact Rg.getD_set_other _ _ _ _ (Ne.symm e)

/-- So many were sent into a ring of n places from the cell 3 on. -/
structure Sent (n : Nat) (lone : Bool) (i : Nat) (cs : List Nat) : Prop where
  len : 4 + 4 * n ≤ cs.length
  tail : cs.getD 3 0 = if lone then 0 else min i n
  at_ : ∀ j, j < n → cs.getD (4 + 4 * j) 0 = if j < i then j + 1 else j

theorem Sent.start (n : Nat) (lone : Bool) (cs : List Nat) (h : 4 + 4 * n ≤ cs.length) : Sent n lone 0 (Rg.laid 3 cs n) := by
  refine ⟨by rw [Rg.laid_length]; exact h, ?_, fun j hj => ?_⟩
  · rw [Rg.laid_tail _ _ _ (by omega)]; cases lone <;> simp
  · have := Rg.laid_at 3 cs n j hj (by omega)
    rw [show 3 + 1 + 4 * j = 4 + 4 * j by omega] at this
    simpa using this

theorem stand3 {n i : Nat} (h : i < n) : Rg.stand 3 n i = 4 + 4 * i := by rw [Rg.stand_small h]

/-- The frame's cells are written. -/
theorem Sent.put {n i : Nat} {lone : Bool} {cs : List Nat} (h : Sent n lone i cs) (hi : i < n) (x y z : Nat) (cs1 : List Nat) (e1 : cs1 = if lone then cs else cs.set 3 (i + 1)) :
    Sent n lone (i + 1) ((((cs1.set (4 + 4 * i + 1) x).set (4 + 4 * i + 2) y).set (4 + 4 * i + 3) z).set (4 + 4 * i) (i + 1)) ∧
    ((((cs1.set (4 + 4 * i + 1) x).set (4 + 4 * i + 2) y).set (4 + 4 * i + 3) z).set (4 + 4 * i) (i + 1)).getD (4 + 4 * i + 1 + 0) 0 = x ∧
    ((((cs1.set (4 + 4 * i + 1) x).set (4 + 4 * i + 2) y).set (4 + 4 * i + 3) z).set (4 + 4 * i) (i + 1)).getD (4 + 4 * i + 1 + 1) 0 = y ∧
    ((((cs1.set (4 + 4 * i + 1) x).set (4 + 4 * i + 2) y).set (4 + 4 * i + 3) z).set (4 + 4 * i) (i + 1)).getD (4 + 4 * i + 1 + 2) 0 = z := by
  have hl := h.len
  have hl1 : cs1.length = cs.length := by rw [e1]; split <;> simp
  have ht : cs1.getD 3 0 = if lone then 0 else i + 1 := by
    rw [e1]
    cases lone
    · simp only [Bool.false_eq_true, if_false]; exact Rg.getD_set_same _ _ _ (by omega)
    · have := h.tail; simpa using this
  have ha : ∀ j, j < n → cs1.getD (4 + 4 * j) 0 = if j < i then j + 1 else j := fun j hj => by
    rw [e1]
    cases lone
    · simp only [Bool.false_eq_true, if_false]; rw [Rg.getD_set_other _ _ _ _ (by omega)]; exact h.at_ j hj
    · simpa using h.at_ j hj
  have g : ∀ j, ((((cs1.set (4 + 4 * i + 1) x).set (4 + 4 * i + 2) y).set (4 + 4 * i + 3) z).set (4 + 4 * i) (i + 1)).getD j 0 = if j = 4 + 4 * i then i + 1 else if j = 4 + 4 * i + 3 then z else if j = 4 + 4 * i + 2 then y else if j = 4 + 4 * i + 1 then x else cs1.getD j 0 := fun j => by
    rw [getD_set_if _ _ _ _ (by simp only [List.length_set]; omega), getD_set_if _ _ _ _ (by simp only [List.length_set]; omega), getD_set_if _ _ _ _ (by simp only [List.length_set]; omega), getD_set_if _ _ _ _ (by omega)]
  refine ⟨⟨by simp only [List.length_set]; omega, ?_, fun j hj => ?_⟩, ?_, ?_, ?_⟩
  · rw [g, if_neg (by omega), if_neg (by omega), if_neg (by omega), if_neg (by omega), ht, Nat.min_eq_left (by omega)]
  · rw [g]
    by_cases e : j = i
    · subst e; rw [if_pos rfl, if_pos (by omega)]
    · rw [if_neg (by omega), if_neg (by omega), if_neg (by omega), if_neg (by omega), ha j hj]
      by_cases e2 : j < i
      · rw [if_pos e2, if_pos (by omega)]
      · rw [if_neg e2, if_neg (by omega)]
  · rw [g, if_neg (by omega), if_neg (by omega), if_neg (by omega), if_pos (by omega)]
  · rw [g, if_neg (by omega), if_neg (by omega), if_pos (by omega)]
  · rw [g, if_neg (by omega), if_pos (by omega)]
/-- There was no room. -/
theorem Sent.full {n i : Nat} {lone : Bool} {cs : List Nat} (h : Sent n lone i cs) (hi : n ≤ i) : Sent n lone (i + 1) cs := by
  refine ⟨h.len, ?_, fun j hj => ?_⟩
  · rw [h.tail, Nat.min_eq_right hi, Nat.min_eq_right (by omega)]
  · rw [h.at_ j hj, if_pos (by omega), if_pos (by omega)]

/-- A sending as it begins. -/
def first (n i : Nat) (lone : Bool) (x y z : Nat) : Snd := if lone then ⟨3, n, x, y, z, true, i, 1, 0⟩ else ⟨3, n, x, y, z, false, 0, 0, 0⟩

theorem first_good {n i : Nat} {lone : Bool} {x y z : Nat} {a : Ar} (hn : n = 2 ∨ n = 4) (hi : i < 8) (hx : x < 18446744073709551616) (hy : y < 18446744073709551616) (hz : z < 18446744073709551616) (hl : 4 + 4 * n ≤ a.cs.length) :
    (first n i lone x y z).Good a := by
  unfold first
  cases lone
  · exact ⟨by unfold Rg.Ok; simp only [Bool.false_eq_true, if_false]; omega, by simp only [Bool.false_eq_true, if_false]; omega, hx, hy, hz, by show 0 < 18446744073709551616; decide, fun _ => by show 0 < 3; decide⟩
  · exact ⟨by unfold Rg.Ok; simp only [if_true]; omega, by simp only [if_true]; omega, hx, hy, hz, by show i < 18446744073709551616; omega, fun _ => by show 0 < 3; decide⟩

/-- A place is empty: it is sent. -/
theorem turn_sent {n i : Nat} {lone : Bool} {x y z : Nat} {a : Ar} (hn : n = 2 ∨ n = 4) (hi : i < n) (h : Sent n lone i a.cs) :
    ∃ (K : Nat) (a' : Ar), 1 ≤ K ∧ K < 40 ∧ Snd.run (first n i lone x y z) a K = (⟨3, n, x, y, z, lone, i, 5, 3⟩, a') ∧ (∀ m, m < K → (Snd.run (first n i lone x y z) a m).1.k < 5) ∧
      Sent n lone (i + 1) a'.cs ∧ a'.cs.getD (4 + 4 * i) 0 = i + 1 ∧ a'.cs.getD (4 + 4 * i + 1 + 0) 0 = x ∧ a'.cs.getD (4 + 4 * i + 1 + 1) 0 = y ∧ a'.cs.getD (4 + 4 * i + 1 + 2) 0 = z := by
  have hs := stand3 hi
  have hat := h.at_ i hi
  rw [if_neg (Nat.lt_irrefl _)] at hat
  have hnx : Rg.next i = i + 1 := Rg.next_small (by omega)
  cases lone
  · have ht := h.tail
    rw [if_neg (by simp), Nat.min_eq_left (by omega)] at ht
    obtain ⟨a', hr, hcs, hk⟩ := Snd.run_new 3 n x y z i a ht (by rw [hs]; exact hat)
    rw [hs, hnx] at hcs
    have hp := h.put hi x y z (a.cs.set 3 (i + 1)) (by simp)
    rw [← hcs] at hp
    refine ⟨7, a', by omega, by omega, hr, hk, hp.1, ?_, hp.2⟩
    have := hp.1.at_ i hi; rwa [if_pos (by omega)] at this
  · obtain ⟨a', hr, hcs, hk⟩ := Snd.run_lone 3 n x y z i a (by rw [hs]; exact hat)
    rw [hs, hnx] at hcs
    have hp := h.put hi x y z a.cs (by simp)
    rw [← hcs] at hp
    refine ⟨5, a', by omega, by omega, hr, hk, hp.1, ?_, hp.2⟩
    have := hp.1.at_ i hi; rwa [if_pos (by omega)] at this

/-- There is no room. -/
theorem turn_full {n i : Nat} {lone : Bool} {x y z : Nat} {a : Ar} (hn : n = 2 ∨ n = 4) (hi : n ≤ i) (hi8 : i < 8) (h : Sent n lone i a.cs) :
    ∃ (K t : Nat) (a' : Ar), 1 ≤ K ∧ K < 40 ∧ Snd.run (first n i lone x y z) a K = (⟨3, n, x, y, z, lone, t, 6, 0⟩, a') ∧ (∀ m, m < K → (Snd.run (first n i lone x y z) a m).1.k < 5) ∧
      Sent n lone (i + 1) a'.cs := by
  cases lone
  · have ht := h.tail
    rw [if_neg (by simp), Nat.min_eq_right (by omega)] at ht
    have hs : Rg.stand 3 n n = 4 + 4 * 0 := by unfold Rg.stand; rw [Nat.mod_self]
    have h0 := h.at_ 0 (by omega)
    rw [if_pos (by omega)] at h0
    obtain ⟨a', hr, hcs, hk⟩ := Snd.run_full 3 n x y z n a ht (by rw [hs, h0]; omega)
    exact ⟨2, n, a', by omega, by omega, hr, hk, by rw [hcs]; exact h.full hi⟩
  · have hm : i % n < n := Nat.mod_lt _ (by omega)
    have hs : Rg.stand 3 n i = 4 + 4 * (i % n) := rfl
    have h0 := h.at_ (i % n) hm
    rw [if_pos (by omega)] at h0
    obtain ⟨a', hr, hcs, hk⟩ := Snd.run_shut 3 n x y z i a (by rw [hs, h0]; rcases hn with rfl | rfl <;> omega)
    exact ⟨1, i, a', by omega, by omega, hr, hk, by rw [hcs]; exact h.full hi⟩

end Go.Proofs.Ytpaegljfjinckaa
