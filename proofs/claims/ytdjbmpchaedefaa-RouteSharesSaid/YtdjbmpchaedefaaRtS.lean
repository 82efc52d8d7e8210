/- What is given one behind the other to the one that has the least: so many each, or one more; their sum. -/
import Derived.Test.YtdjbmpchaedefaaRtM
namespace Go.Proofs.Ytdjbmpchaedefaa

namespace Rt
/-- What the k-th of m has, when so many were given. -/
def share (t m k : Nat) : Nat := (t + (m - 1 - k)) / m
theorem eight {m : Nat} (h : 1 ≤ m) (h8 : m ≤ 8) : m = 1 ∨ m = 2 ∨ m = 3 ∨ m = 4 ∨ m = 5 ∨ m = 6 ∨ m = 7 ∨ m = 8 := by omega
theorem share_start {m k : Nat} (_h : 1 ≤ m) (_h8 : m ≤ 8) (hk : k < m) : share 0 m k = 0 := by
  unfold share
  exact Nat.div_eq_of_lt (by omega)
theorem share_next {t m k : Nat} (h : 1 ≤ m) (h8 : m ≤ 8) (hk : k < m) : share (t + 1) m k = if k = t % m then share t m k + 1 else share t m k := by
  unfold share
  rcases eight h h8 with rfl | rfl | rfl | rfl | rfl | rfl | rfl | rfl <;> split <;> omega
theorem share_best {t m r : Nat} (h : 1 ≤ m) (h8 : m ≤ 8) (ht : t < r * m) : best (fun k => (share t m k : Nat)) (r : Int) m = some (t % m) := by
  refine best_is (Nat.mod_lt _ (by omega)) ?_ (fun i hi => ?_)
  · unfold share
    rcases eight h h8 with rfl | rfl | rfl | rfl | rfl | rfl | rfl | rfl <;> omega
  · unfold share
    rcases eight h h8 with rfl | rfl | rfl | rfl | rfl | rfl | rfl | rfl <;> omega
theorem share_none {t m r : Nat} (h : 1 ≤ m) (h8 : m ≤ 8) (ht : r * m ≤ t) : best (fun k => (share t m k : Nat)) (r : Int) m = none := by
  refine best_no (fun i hi => ?_)
  unfold share
  rcases eight h h8 with rfl | rfl | rfl | rfl | rfl | rfl | rfl | rfl <;> omega
theorem share_even (t : Nat) {m : Nat} (h : 1 ≤ m) (h8 : m ≤ 8) : even (fun k => (share t m k : Nat)) m := by
  intro i hi j hj
  simp only [share]
  rcases eight h h8 with rfl | rfl | rfl | rfl | rfl | rfl | rfl | rfl <;> omega
theorem share_le {t m : Nat} (k : Nat) (h : 1 ≤ m) (h8 : m ≤ 8) (ht : t ≤ 60) : share t m k ≤ 70 := by
  unfold share
  exact Nat.le_trans (Nat.div_le_self _ _) (by omega)
def sumTo (X : Nat → Nat) : Nat → Nat
  | 0 => 0
  | k + 1 => sumTo X k + X k
theorem sumTo_congr {X Y : Nat → Nat} : ∀ {m : Nat}, (∀ i, i < m → X i = Y i) → sumTo X m = sumTo Y m
  | 0, _ => rfl
  | m + 1, h => by rw [sumTo, sumTo, sumTo_congr (m := m) (fun i hi => h i (by omega)), h m (by omega)]
theorem sumTo_bump {X Y : Nat → Nat} {j : Nat} : ∀ {m : Nat}, j < m → (∀ i, i < m → Y i = if i = j then X i + 1 else X i) → sumTo Y m = sumTo X m + 1
  | 0, h, _ => absurd h (Nat.not_lt_zero _)
  | m + 1, h, e => by
    rw [sumTo, sumTo, e m (by omega)]
    by_cases hj : m = j
    · rw [if_pos hj, sumTo_congr (X := Y) (Y := X) (fun i hi => by rw [e i (by omega), if_neg (by omega)])]
      omega
    · rw [if_neg hj, sumTo_bump (X := X) (j := j) (m := m) (by omega) (fun i hi => e i (by omega))]
      omega
theorem sumTo_mono (X : Nat → Nat) : ∀ (m k : Nat), k ≤ m → sumTo X k ≤ sumTo X m
  | 0, k, h => by rw [show k = 0 by omega]; exact Nat.le_refl _
  | m + 1, k, h => by
    by_cases e : k = m + 1
    · subst e; exact Nat.le_refl _
    · exact Nat.le_trans (sumTo_mono X m k (by omega)) (by rw [sumTo]; omega)
/-- Their sum is what was given. -/
theorem share_sum {m : Nat} (h : 1 ≤ m) (h8 : m ≤ 8) : ∀ (t : Nat), sumTo (share t m) m = t
  | 0 => by
    have : ∀ k, k ≤ m → sumTo (share 0 m) k = 0 := by
      intro k
      induction k with
      | zero => intro _; rfl
      | succ k ih => intro hk; rw [sumTo, ih (by omega), share_start h h8 (by omega)]
    exact this m (Nat.le_refl _)
  | t + 1 => by rw [sumTo_bump (X := share t m) (j := t % m) (Nat.mod_lt _ (by omega)) (fun i hi => share_next h h8 hi), share_sum h h8 t]
end Rt
end Go.Proofs.Ytdjbmpchaedefaa
