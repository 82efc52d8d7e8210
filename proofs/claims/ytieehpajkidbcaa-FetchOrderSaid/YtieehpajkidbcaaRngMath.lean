/- A ring as plain numbers: which may be, how many cells one has, where a turn's place stands; what its cells hold when it is begun; how many frames are there. -/
import Derived.Test.YtieehpajkidbcaaRows
import Derived.WalkKit
import Derived.Lib.Hide
namespace Go.Proofs.Ytieehpajkidbcaa
open Go.RowKit
namespace Rg

/-- So many places are a power of 2, from 2 to 64. -/
def Pow (p : Int) : Prop := p = 2 ∨ p = 4 ∨ p = 8 ∨ p = 16 ∨ p = 32 ∨ p = 64
instance (p : Int) : Decidable (Pow p) := by unfold Pow; infer_instance
def cells (p : Int) : Int := 1 + 4 * min (max p 0) 64
/-- A ring may be: base, places. -/
def May (b p : Int) : Prop := Pow p ∧ 0 ≤ b ∧ b + 1 + 4 * p ≤ 16384
instance (b p : Int) : Decidable (May b p) := by unfold May; infer_instance
/-- .. in natural numbers. -/
def Ok (b n : Nat) : Prop := (n = 2 ∨ n = 4 ∨ n = 8 ∨ n = 16 ∨ n = 32 ∨ n = 64) ∧ b + 1 + 4 * n ≤ 16384
theorem Ok.may {b n : Nat} (h : Ok b n) : May b n := by unfold Ok at h; unfold May Pow; omega
theorem May.ok {b p : Int} (h : May b p) : ∃ x n : Nat, b = (x : Int) ∧ p = (n : Int) ∧ Ok x n := by
  obtain ⟨h1, h2, h3⟩ := h
  refine ⟨b.toNat, p.toNat, by omega, by unfold Pow at h1; omega, ?_⟩
  unfold Pow at h1; unfold Ok; omega
theorem Ok.pos {b n : Nat} (h : Ok b n) : 2 ≤ n ∧ n ≤ 64 ∧ b + 1 + 4 * n ≤ 16384 := by unfold Ok at h; omega

/-- The program's test for a power of 2. -/
theorem pow_all : ∀ n : Fin 65, 2 ≤ n.val → (bits .and .i64 (n.val : Int) ((n.val : Int) - 1) == 0) = decide (Pow (n.val : Int)) := of_decide_eq_true (by kernel_rfl)
theorem pow_bit (p : Int) (h1 : 2 ≤ p) (h2 : p ≤ 64) : (bits .and .i64 p (p - 1) == 0) = decide (Pow p) := by
  obtain ⟨n, rfl⟩ := Int.eq_ofNat_of_zero_le (show 0 ≤ p by omega)
  exact pow_all ⟨n, by omega⟩ (by show 2 ≤ n; omega)

theorem cells_ways (p : Int) : (p < 0 ∧ cells p = 1) ∨ (0 ≤ p ∧ p ≤ 64 ∧ cells p = 1 + 4 * p) ∨ (64 < p ∧ cells p = 257) := by unfold cells; omega
theorem cells_in {p : Int} (h0 : 0 ≤ p) (h1 : p ≤ 64) : cells p = 1 + 4 * p := by unfold cells; omega
theorem cells_small (p : Int) : 1 ≤ cells p ∧ cells p ≤ 257 := by unfold cells; omega

/-- The cell that tells how a turn's place stands. -/
def stand (b n t : Nat) : Nat := b + 1 + 4 * (t % n)
theorem stand_lt {b n : Nat} (h : Ok b n) (t : Nat) : stand b n t + 3 < b + 1 + 4 * n ∧ stand b n t + 3 < 16384 := by
  have h1 := h.pos
  have := Nat.mod_lt t (show 0 < n by omega)
  unfold stand; omega
theorem stand_inj {b n t u : Nat} (h : stand b n t = stand b n u) : t % n = u % n := by unfold stand at h; omega

theorem stand_small {b n t : Nat} (h : t < n) : stand b n t = b + 1 + 4 * t := by unfold stand; rw [Nat.mod_eq_of_lt h]

/-- A ring's cells as so many of its places have been laid empty. -/
def laid (b : Nat) (cs : List Nat) : Nat → List Nat
  | 0 => cs.set b 0
  | k + 1 => (laid b cs k).set (b + 1 + 4 * k) k
theorem laid_length (b : Nat) (cs : List Nat) (k : Nat) : (laid b cs k).length = cs.length := by
  induction k with
  | zero => simp [laid]
  | succ k ih => simp [laid, ih]
theorem getD_set_same (l : List Nat) (i x : Nat) (h : i < l.length) : (l.set i x).getD i 0 = x := by simp [List.getD, h]
theorem getD_set_other (l : List Nat) (i j x : Nat) (h : i ≠ j) : (l.set i x).getD j 0 = l.getD j 0 := by simp [List.getD, h]
theorem laid_at (b : Nat) (cs : List Nat) (k i : Nat) (hi : i < k) (hl : b + 1 + 4 * k ≤ cs.length) : (laid b cs k).getD (b + 1 + 4 * i) 0 = i := by
  induction k with
  | zero => omega
  | succ k ih =>
    unfold laid
    by_cases e : i = k
    · subst e; exact getD_set_same _ _ _ (by rw [laid_length]; omega)
    · rw [getD_set_other _ _ _ _ (by omega)]; exact ih (by omega) (by omega)
theorem laid_tail (b : Nat) (cs : List Nat) (k : Nat) (hl : b + 1 + 4 * k ≤ cs.length) : (laid b cs k).getD b 0 = 0 := by
  induction k with
  | zero => exact getD_set_same _ _ _ (by omega)
  | succ k ih => unfold laid; rw [getD_set_other _ _ _ _ (by omega)]; exact ih (by omega)
/-- All other cells are as they were. -/
theorem laid_other (b : Nat) (cs : List Nat) (k j : Nat) (hb : j ≠ b) (hj : ∀ i, i < k → j ≠ b + 1 + 4 * i) : (laid b cs k).getD j 0 = cs.getD j 0 := by
  induction k with
  | zero => exact getD_set_other _ _ _ _ (Ne.symm hb)
  | succ k ih => unfold laid; rw [getD_set_other _ _ _ _ (Ne.symm (hj k (by omega)))]; exact ih (fun i hi => hj i (by omega))

end Rg
end Go.Proofs.Ytieehpajkidbcaa
