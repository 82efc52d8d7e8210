/- Plain numbers: several fields of bits: in how many of them a bit is, what all their bits are together, and what is left of a word without them. Nothing here speaks of a program. -/
import Derived.Test.YtebaipakjomenaaMath
namespace Go.Proofs.Ytebaipakjomenaa.Fld

/-- There is such a field. -/
def May (a b : Int) : Prop := 0 ≤ a ∧ 1 ≤ b ∧ a + b ≤ 64
instance (a b : Int) : Decidable (May a b) := by unfold May; infer_instance

/-- A field's bits where they stand; none, where there is no such field. -/
def mk (a b : Int) : Nat := if May a b then mask a.toNat b.toNat else 0
def has (a b : Int) (j : Nat) : Bool := decide (May a b ∧ a ≤ j ∧ (j : Int) < a + b)

theorem mk_bit (a b : Int) (j : Nat) : (mk a b).testBit j = has a b j := by
  unfold mk has
  by_cases h : May a b
  · rw [if_pos h, mask_bit]
    obtain ⟨h1, h2, h3⟩ := h
    by_cases g1 : a ≤ j
    · by_cases g2 : (j : Int) < a + b
      · have e1 : a.toNat ≤ j := by omega
        have e2 : j < a.toNat + b.toNat := by omega
        simp [e1, e2, g1, g2, May, h1, h2, h3]
      · have e2 : ¬ j < a.toNat + b.toNat := by omega
        simp [e2, g2]
    · have e1 : ¬ a.toNat ≤ j := by omega
      simp [e1, g1]
  · simp [h]

theorem mk_lt (a b : Int) : mk a b < 18446744073709551616 := by
  unfold mk
  split
  · rename_i h
    obtain ⟨h1, h2, h3⟩ := h
    exact mask_lt (by omega)
  · omega

theorem has_lt {a b : Int} {j : Nat} (h : has a b j = true) : j < 64 := by
  unfold has May at h
  have := of_decide_eq_true h
  omega

/-- In how many of the first k fields bit j is. -/
def cnt (A B : Nat → Int) (j : Nat) : Nat → Nat
  | 0 => 0
  | k + 1 => cnt A B j k + (has (A k) (B k) j).toNat
/-- All bits of the first k fields. -/
def un (A B : Nat → Int) : Nat → Nat
  | 0 => 0
  | k + 1 => un A B k ||| mk (A k) (B k)
/-- A word without the bits of the first k fields. -/
def rest (A B : Nat → Int) (w : Nat) : Nat → Nat
  | 0 => w
  | k + 1 => rest A B w k &&& (18446744073709551615 - mk (A k) (B k))
/-- A word from which, one behind the other, the first j bits were taken, as far as they are in one of L fields. -/
def clr (A B : Nat → Int) (L w : Nat) : Nat → Nat
  | 0 => w
  | j + 1 => if 0 < cnt A B j L then put (clr A B L w j) j 1 0 else clr A B L w j

theorem cnt_le (A B : Nat → Int) (j k : Nat) : cnt A B j k ≤ k := by
  induction k with
  | zero => exact Nat.le_refl _
  | succ k ih =>
    have : (has (A k) (B k) j).toNat ≤ 1 := Bool.toNat_le _
    show cnt A B j k + _ ≤ k + 1
    omega

theorem cnt_mono (A B : Nat → Int) (j k : Nat) : ∀ m, cnt A B j k ≤ cnt A B j (k + m)
  | 0 => Nat.le_refl _
  | m + 1 => Nat.le_trans (cnt_mono A B j k m) (Nat.le_add_right _ _)

theorem cnt_far (A B : Nat → Int) (j k : Nat) (h : 64 ≤ j) : cnt A B j k = 0 := by
  induction k with
  | zero => rfl
  | succ k ih =>
    have : has (A k) (B k) j = false := by
      by_cases e : has (A k) (B k) j = true
      · have := has_lt e; omega
      · simpa using e
    show cnt A B j k + (has (A k) (B k) j).toNat = 0
    rw [ih, this]; rfl

theorem un_bit (A B : Nat → Int) (j k : Nat) : (un A B k).testBit j = decide (0 < cnt A B j k) := by
  induction k with
  | zero => simp [un, cnt]
  | succ k ih =>
    show (un A B k ||| mk (A k) (B k)).testBit j = decide (0 < cnt A B j k + (has (A k) (B k) j).toNat)
    rw [Nat.testBit_or, ih, mk_bit]
    cases has (A k) (B k) j <;> simp

theorem un_lt (A B : Nat → Int) (k : Nat) : un A B k < 18446744073709551616 := by
  induction k with
  | zero => show 0 < _; omega
  | succ k ih =>
    show un A B k ||| mk (A k) (B k) < _
    rw [← pow64]
    exact Nat.or_lt_two_pow (by rw [pow64]; exact ih) (by rw [pow64]; exact mk_lt _ _)

theorem without_bit {m : Nat} (h : m < 18446744073709551616) (i : Nat) : (18446744073709551615 - m).testBit i = (decide (i < 64) && !m.testBit i) := by
  have : 18446744073709551615 - m = 2 ^ 64 - (m + 1) := by rw [pow64]; omega
  rw [this, Nat.testBit_two_pow_sub_succ (by rw [pow64]; exact h)]

theorem far_bit {w i : Nat} (hw : w < 18446744073709551616) (h : ¬ i < 64) : w.testBit i = false := by
  apply Nat.testBit_lt_two_pow
  exact Nat.lt_of_lt_of_le hw (by rw [← pow64]; exact Nat.pow_le_pow_right (by omega) (by omega))

theorem rest_lt (A B : Nat → Int) {w : Nat} (hw : w < 18446744073709551616) (k : Nat) : rest A B w k < 18446744073709551616 := by
  induction k with
  | zero => exact hw
  | succ k ih => exact Nat.lt_of_le_of_lt Nat.and_le_left ih

theorem rest_bit (A B : Nat → Int) {w : Nat} (hw : w < 18446744073709551616) (j k : Nat) : (rest A B w k).testBit j = (w.testBit j && decide (cnt A B j k = 0)) := by
  induction k with
  | zero => simp [rest, cnt]
  | succ k ih =>
    show (rest A B w k &&& (18446744073709551615 - mk (A k) (B k))).testBit j = (w.testBit j && decide (cnt A B j k + (has (A k) (B k) j).toNat = 0))
    rw [Nat.testBit_and, ih, without_bit (mk_lt _ _), mk_bit]
    by_cases h : j < 64
    · cases has (A k) (B k) j <;> simp [h]
    · rw [far_bit hw h]; simp

theorem clr_lt (A B : Nat → Int) (L : Nat) {w : Nat} (hw : w < 18446744073709551616) (j : Nat) (hj : j ≤ 64) : clr A B L w j < 18446744073709551616 := by
  induction j with
  | zero => exact hw
  | succ j ih =>
    show (if 0 < cnt A B j L then put (clr A B L w j) j 1 0 else clr A B L w j) < _
    split
    · exact put_lt (by omega) (ih (by omega))
    · exact ih (by omega)

theorem clr_bit (A B : Nat → Int) (L : Nat) {w : Nat} (hw : w < 18446744073709551616) (i j : Nat) (hj : j ≤ 64) :
    (clr A B L w j).testBit i = (w.testBit i && !decide (i < j ∧ 0 < cnt A B i L)) := by
  induction j with
  | zero => simp [clr]
  | succ j ih =>
    have ih' := ih (by omega)
    show (if 0 < cnt A B j L then put (clr A B L w j) j 1 0 else clr A B L w j).testBit i = _
    by_cases hc : 0 < cnt A B j L
    · rw [if_pos hc, put_bit (by omega) (clr_lt A B L hw j (by omega)), ih']
      by_cases e : i = j
      · subst e
        have : i ≤ i ∧ i < i + 1 := by omega
        rw [if_pos this]
        have hm : min 0 (most 1) = 0 := by omega
        rw [hm]
        have : decide (i < i + 1 ∧ 0 < cnt A B i L) = true := decide_eq_true ⟨by omega, hc⟩
        rw [this]; simp
      · have : ¬ (j ≤ i ∧ i < j + 1) := by omega
        rw [if_neg this]
        have e2 : decide (i < j ∧ 0 < cnt A B i L) = decide (i < j + 1 ∧ 0 < cnt A B i L) := by
          apply decide_eq_decide.2; constructor <;> intro h <;> omega
        rw [e2]
    · rw [if_neg hc, ih']
      by_cases e : i = j
      · subst e
        have e1 : decide (i < i ∧ 0 < cnt A B i L) = false := decide_eq_false (by omega)
        have e2 : decide (i < i + 1 ∧ 0 < cnt A B i L) = false := decide_eq_false (fun h => hc h.2)
        rw [e1, e2]
      · have e2 : decide (i < j ∧ 0 < cnt A B i L) = decide (i < j + 1 ∧ 0 < cnt A B i L) := by
          apply decide_eq_decide.2; constructor <;> intro h <;> omega
        rw [e2]

/-- What is left, field by field and bit by bit, is the same. -/
theorem rest_clr (A B : Nat → Int) (L : Nat) {w : Nat} (hw : w < 18446744073709551616) : rest A B w L = clr A B L w 64 := by
  apply Nat.eq_of_testBit_eq
  intro i
  rw [rest_bit A B hw, clr_bit A B L hw i 64 (Nat.le_refl _)]
  by_cases h : i < 64
  · congr 1
    by_cases g : cnt A B i L = 0
    · simp [g]
    · have : 0 < cnt A B i L := by omega
      simp [g, this, h]
  · rw [far_bit hw h]; simp

/-- The first k fields are all there, and no one shares a bit with those ahead of it. -/
def Ok (A B : Nat → Int) (k : Nat) : Prop := ∀ i, i < k → May (A i) (B i) ∧ un A B i &&& mk (A i) (B i) = 0

theorem ok_succ {A B : Nat → Int} {k : Nat} (h : Ok A B k) (h1 : May (A k) (B k)) (h2 : un A B k &&& mk (A k) (B k) = 0) : Ok A B (k + 1) := fun i hi => by
  by_cases e : i = k
  · subst e; exact ⟨h1, h2⟩
  · exact h i (by omega)

theorem cnt_of_ok {A B : Nat → Int} (j : Nat) : ∀ k, Ok A B k → cnt A B j k ≤ 1
  | 0, _ => by simp [cnt]
  | k + 1, h => by
    have ih := cnt_of_ok j k (fun i hi => h i (by omega))
    show cnt A B j k + (has (A k) (B k) j).toNat ≤ 1
    cases hh : has (A k) (B k) j with
    | false => simpa using ih
    | true =>
      have h0 := congrArg (fun n => n.testBit j) (h k (by omega)).2
      simp only [Nat.testBit_and, un_bit, mk_bit, hh, Nat.zero_testBit, Bool.and_true, decide_eq_false_iff_not] at h0
      have : cnt A B j k = 0 := by omega
      rw [this]; decide

theorem apart_iff (A B : Nat → Int) (L : Nat) : Ok A B L ↔ ∀ j, j < 64 → (∀ i, i < L → May (A i) (B i)) ∧ cnt A B j L ≤ 1 := by
  constructor
  · intro h j _
    exact ⟨fun i hi => (h i hi).1, cnt_of_ok j L h⟩
  · intro h i hi
    refine ⟨(h 0 (by omega)).1 i hi, ?_⟩
    apply Nat.eq_of_testBit_eq
    intro j
    rw [Nat.testBit_and, un_bit, mk_bit, Nat.zero_testBit]
    cases hh : has (A i) (B i) j with
    | false => simp
    | true =>
      have hj := has_lt hh
      have h1 := (h j hj).2
      have h2 := cnt_mono A B j (i + 1) (L - (i + 1))
      have h3 : i + 1 + (L - (i + 1)) = L := by omega
      rw [h3] at h2
      have h4 : cnt A B j (i + 1) = cnt A B j i + 1 := by show cnt A B j i + (has (A i) (B i) j).toNat = _; rw [hh]; rfl
      have : ¬ 0 < cnt A B j i := by omega
      simp [this]

end Go.Proofs.Ytebaipakjomenaa.Fld
