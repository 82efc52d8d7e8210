/- Who has the least to do, as plain numbers: the first of the least of those below room; who is ahead of whom; whether all are even. -/
import Derived.Test.YtgboiejiodgcnaaCmpA
namespace Go.Proofs.Ytgboiejiodgcnaa

namespace Rt
/-- Who is ahead: the one that has less to do, of equals the first. -/
def lt (X : Nat → Int) (a b : Nat) : Prop := X a < X b ∨ (X a = X b ∧ a < b)
def cmp (X : Nat → Int) (a b : Nat) : Int := if Hp.cmp (X a) (X b) ≠ 0 then Hp.cmp (X a) (X b) else Hp.cmp (a : Int) (b : Int)
theorem cmp_lt (X : Nat → Int) (a b : Nat) : cmp X a b < 0 ↔ lt X a b := by
  unfold cmp Hp.cmp lt
  constructor
  · intro h; (repeat' split at h) <;> omega
  · intro h; (repeat' split) <;> omega
theorem lt_irrefl (X : Nat → Int) (a : Nat) : ¬lt X a a := by unfold lt; omega
theorem lt_trans {X : Nat → Int} {a b c : Nat} (h : lt X a b) (k : lt X b c) : lt X a c := by unfold lt at *; omega
theorem lt_or {X : Nat → Int} {a b : Nat} (h : ¬lt X b a) (e : a ≠ b) : lt X a b := by unfold lt at *; omega
theorem le_trans {X : Nat → Int} {a b c : Nat} (h : ¬lt X b a) (k : ¬lt X c b) : ¬lt X c a := by unfold lt at *; omega

/-- Of the first k, the first of the least of those below room. -/
def best (X : Nat → Int) (room : Int) : Nat → Option Nat
  | 0 => none
  | k + 1 => match best X room k with
    | none => if X k < room then some k else none
    | some b => if X k < room ∧ X k < X b then some k else some b
def ans : Option Nat → Int
  | none => -1
  | some b => (b : Int)
theorem best_none {X : Nat → Int} {room : Int} : ∀ {k : Nat}, best X room k = none → ∀ i, i < k → room ≤ X i
  | 0, _ => fun _ h => absurd h (Nat.not_lt_zero _)
  | k + 1, h => by
    unfold best at h
    split at h
    · rename_i hb
      split at h
      · cases h
      · intro i hi
        by_cases e : i = k
        · subst e; omega
        · exact best_none hb i (by omega)
    · split at h <;> cases h
theorem best_some {X : Nat → Int} {room : Int} : ∀ {k b : Nat}, best X room k = some b → b < k ∧ X b < room ∧ ∀ i, i < k → X i < room → X b ≤ X i ∧ (X i = X b → b ≤ i)
  | 0, _, h => by cases h
  | k + 1, b, h => by
    unfold best at h
    split at h
    · rename_i hb
      split at h
      · rename_i hx
        cases h
        refine ⟨by omega, hx, fun i hi hr => ?_⟩
        by_cases e : i = k
        · subst e; exact ⟨Int.le_refl _, fun _ => Nat.le_refl _⟩
        · have := best_none hb i (by omega); omega
      · cases h
    · rename_i b0 hb
      obtain ⟨k1, k2, k3⟩ := best_some hb
      split at h
      · rename_i hx
        cases h
        refine ⟨by omega, hx.1, fun i hi hr => ?_⟩
        by_cases e : i = k
        · subst e; exact ⟨Int.le_refl _, fun _ => Nat.le_refl _⟩
        · have := k3 i (by omega) hr; omega
      · rename_i hx
        cases h
        refine ⟨by omega, k2, fun i hi hr => ?_⟩
        by_cases e : i = k
        · subst e; omega
        · exact k3 i (by omega) hr
theorem best_is {X : Nat → Int} {room : Int} {k b : Nat} (hb : b < k) (hr : X b < room) (h : ∀ i, i < k → X b ≤ X i ∧ (X i = X b → b ≤ i)) : best X room k = some b := by
  cases e : best X room k with
  | none => have := best_none e b hb; omega
  | some c =>
    obtain ⟨k1, k2, k3⟩ := best_some e
    have h1 := k3 b hb hr
    have h2 := h c k1
    congr 1
    omega
theorem best_no {X : Nat → Int} {room : Int} : ∀ {k : Nat}, (∀ i, i < k → room ≤ X i) → best X room k = none
  | k, h => by
    cases e : best X room k with
    | none => rfl
    | some c => obtain ⟨k1, k2, -⟩ := best_some e; have := h c k1; omega
theorem best_congr {X Y : Nat → Int} {room : Int} : ∀ {k : Nat}, (∀ i, i < k → X i = Y i) → best X room k = best Y room k
  | 0, _ => rfl
  | k + 1, h => by
    unfold best
    rw [best_congr (k := k) (fun i hi => h i (by omega)), h k (by omega)]
    cases e : best Y room k with
    | none => rfl
    | some b => simp only [h b (by have := (best_some e).1; omega)]

/-- The lowest and the highest of the first k, where there is one. -/
def low (X : Nat → Int) : Nat → Int
  | 0 => X 0
  | k + 1 => if X k < low X k then X k else low X k
def high (X : Nat → Int) : Nat → Int
  | 0 => X 0
  | k + 1 => if high X k < X k then X k else high X k
theorem low_le (X : Nat → Int) : ∀ (k i : Nat), i < k → low X k ≤ X i
  | 0, _, h => absurd h (Nat.not_lt_zero _)
  | k + 1, i, h => by
    unfold low
    by_cases e : i = k
    · subst e; split <;> omega
    · have := low_le X k i (by omega); split <;> omega
theorem low_at (X : Nat → Int) : ∀ (k : Nat), 0 < k → ∃ i, i < k ∧ low X k = X i
  | 0, h => absurd h (Nat.lt_irrefl _)
  | k + 1, _ => by
    unfold low
    split
    · exact ⟨k, by omega, rfl⟩
    · by_cases e : k = 0
      · subst e; exact ⟨0, by omega, rfl⟩
      · obtain ⟨i, hi, h⟩ := low_at X k (by omega); exact ⟨i, by omega, h⟩
theorem high_le (X : Nat → Int) : ∀ (k i : Nat), i < k → X i ≤ high X k
  | 0, _, h => absurd h (Nat.not_lt_zero _)
  | k + 1, i, h => by
    unfold high
    by_cases e : i = k
    · subst e; split <;> omega
    · have := high_le X k i (by omega); split <;> omega
theorem high_at (X : Nat → Int) : ∀ (k : Nat), 0 < k → ∃ i, i < k ∧ high X k = X i
  | 0, h => absurd h (Nat.lt_irrefl _)
  | k + 1, _ => by
    unfold high
    split
    · exact ⟨k, by omega, rfl⟩
    · by_cases e : k = 0
      · subst e; exact ⟨0, by omega, rfl⟩
      · obtain ⟨i, hi, h⟩ := high_at X k (by omega); exact ⟨i, by omega, h⟩
/-- None of the first n has more than one more than another one. -/
def even (X : Nat → Int) (n : Nat) : Prop := ∀ i, i < n → ∀ j, j < n → X i - X j ≤ 1
theorem even_low {X : Nat → Int} {n : Nat} (h : 0 < n) : even X n ↔ low X n = high X n ∨ low X n + 1 = high X n := by
  obtain ⟨i, hi, e1⟩ := low_at X n h
  obtain ⟨j, hj, e2⟩ := high_at X n h
  constructor
  · intro hv
    have := hv j hj i hi
    have := high_le X n i hi
    omega
  · intro hv a ha b hb
    have := high_le X n a ha
    have := low_le X n b hb
    omega

/-- Those below room, of the first k. -/
def those (X : Nat → Int) (room : Int) (k : Nat) : List Nat := (List.range k).filter fun i => decide (X i < room)
theorem those_yes {X : Nat → Int} {room : Int} {k : Nat} (h : X k < room) : those X room (k + 1) = those X room k ++ [k] := by
  simp [those, List.range_succ, List.filter_append, h]
theorem those_no {X : Nat → Int} {room : Int} {k : Nat} (h : ¬X k < room) : those X room (k + 1) = those X room k := by
  simp [those, List.range_succ, List.filter_append, h]
theorem those_mem {X : Nat → Int} {room : Int} {k i : Nat} : i ∈ those X room k ↔ i < k ∧ X i < room := by simp [those]
theorem those_nodup (X : Nat → Int) (room : Int) (k : Nat) : (those X room k).Nodup := List.nodup_range.filter _
theorem those_length (X : Nat → Int) (room : Int) (k : Nat) : (those X room k).length ≤ k := by
  have := List.length_filter_le (fun i => decide (X i < room)) (List.range k)
  simpa [those] using this
theorem those_congr {X Y : Nat → Int} {room : Int} {k : Nat} (h : ∀ i, i < k → X i = Y i) : those X room k = those Y room k :=
  List.filter_congr (fun i hi => by rw [h i (by simpa using hi)])
/-- Those below room, by their load, then their place: there is one such list alone. -/
def Sorted (X : Nat → Int) (room : Int) (n : Nat) (l : List Nat) : Prop := l.Perm (those X room n) ∧ l.Pairwise (lt X)
end Rt
end Go.Proofs.Ytgboiejiodgcnaa
