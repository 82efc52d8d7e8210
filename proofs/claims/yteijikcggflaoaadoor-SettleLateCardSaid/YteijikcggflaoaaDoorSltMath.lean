/- Plain numbers: a slot's word, its turn, and how it stands. Nothing here speaks of a program. -/
import Derived.Test.YteijikcggflaoaaDoorMath
namespace Go.Proofs.YteijikcggflaoaaDoor.Slt
open Go.Proofs.YteijikcggflaoaaDoor

/-- A slot's word: its turn, and how it stands (0 free, 1 pending, 2 streaming, 3 retired). -/
def word (g s : Nat) : Nat := g + s * 16777216
/-- The turn that a word is of. -/
def gen (w : Nat) : Nat := w % 16777216
/-- How it stands. -/
def st (w : Nat) : Nat := w / 16777216 % 4
/-- Its turn goes on. -/
def Live (w : Nat) : Prop := st w = 1 ∨ st w = 2
instance (w : Nat) : Decidable (Live w) := by unfold Live; infer_instance

theorem gen_le (w : Nat) : gen w ≤ 16777215 := by unfold gen; omega
theorem st_le (w : Nat) : st w ≤ 3 := by unfold st; omega
theorem gen_word {g s : Nat} (h : g ≤ 16777215) : gen (word g s) = g := by unfold gen word; omega
theorem st_word {g s : Nat} (h : g ≤ 16777215) (hs : s ≤ 3) : st (word g s) = s := by unfold st word; omega
theorem word_lt {g s : Nat} (h : g ≤ 16777215) (hs : s ≤ 3) : word g s < 67108864 := by unfold word; omega
theorem word_small {g s : Nat} (h : g ≤ 16777215) (hs : s ≤ 3) : word g s < 18446744073709551616 := by unfold word; omega
theorem word_inj {g s g' s' : Nat} (h : g ≤ 16777215) (h' : g' ≤ 16777215) (e : word g s = word g' s') : g = g' ∧ s = s' := by unfold word at e; omega

theorem get_gen (w : Nat) : Fld.get w 0 24 = gen w := by unfold Fld.get gen; simp
theorem get_st (w : Nat) : Fld.get w 24 2 = st w := by unfold Fld.get st; simp

/-- A number above all bits that are there is laid beside them, or the field's greatest number. -/
theorem put_add {w a b n : Nat} (h : a + b ≤ 64) (hw : w < 2 ^ a) : Fld.put w a b n = w + min n (Fld.most b) * 2 ^ a := by
  have hw64 : w < 18446744073709551616 := Nat.lt_of_lt_of_le hw (Fld.pow_le (by omega))
  have hp := Fld.pow_pos b
  have hm : min n (Fld.most b) < 2 ^ b := by unfold Fld.most; omega
  have e : w + min n (Fld.most b) * 2 ^ a = min n (Fld.most b) * 2 ^ a ||| w := by rw [Nat.mul_comm, ← Nat.two_pow_add_eq_or_of_lt hw, Nat.add_comm]
  rw [e]
  apply Nat.eq_of_testBit_eq
  intro i
  rw [Fld.put_bit h hw64, Nat.testBit_or, Nat.testBit_mul_two_pow]
  by_cases h1 : a ≤ i
  · have hwi : w.testBit i = false := Nat.testBit_lt_two_pow (Nat.lt_of_lt_of_le hw (Nat.pow_le_pow_right (by omega) h1))
    by_cases h2 : i < a + b
    · simp [h1, h2, hwi]
    · have h3 : (min n (Fld.most b)).testBit (i - a) = false := Nat.testBit_lt_two_pow (Nat.lt_of_lt_of_le hm (Nat.pow_le_pow_right (by omega) (by omega)))
      simp only [h1, h2, hwi, h3, and_false, if_false, Bool.and_false, Bool.or_false]
  · simp [h1]

/-- A word that is made of its two fields. -/
theorem put_word (g s : Nat) : Fld.put (Fld.put 0 0 24 g) 24 2 s = word (min g 16777215) (min s 3) := by
  have e1 := @put_add 0 0 24 g (by omega) (by omega)
  have m1 : Fld.most 24 = 16777215 := by decide
  have m2 : Fld.most 2 = 3 := by decide
  rw [m1] at e1
  have e2 := @put_add (Fld.put 0 0 24 g) 24 2 s (by omega) (by omega)
  rw [m2] at e2
  rw [e2, e1]; unfold word; omega
theorem put_gen_small (g : Nat) : Fld.put 0 0 24 g < 18446744073709551616 := Fld.put_lt (by omega) (by omega)

end Go.Proofs.YteijikcggflaoaaDoor.Slt
