/- Plain numbers: a frame, its three words, and the frame that three words are. Nothing here speaks of a program. -/
import Derived.Test.YtebaipakjomenaaMathB
namespace Go.Proofs.Ytebaipakjomenaa.Fm
open Go.Proofs.Ytebaipakjomenaa

/-- A frame, its numbers at least 0. -/
structure Fr where
  kind : Nat
  client : Nat
  service : Nat
  slot : Nat
  gen : Nat
  call : Nat
  tr : Nat
  sure : Bool
  stream : Bool
  seq : Nat
  value : Nat

/-- A frame of these numbers may be. -/
def May (k c s t g r q : Int) : Prop := (1 ≤ k ∧ k ≤ 10) ∧ (0 ≤ c ∧ c ≤ 3) ∧ (0 ≤ s ∧ s ≤ 3) ∧ (0 ≤ t ∧ t ≤ 15) ∧ (0 ≤ g ∧ g ≤ 16777215) ∧ (0 ≤ r ∧ r ≤ 15) ∧ (0 ≤ q ∧ q ≤ 65535)
instance (k c s t g r q : Int) : Decidable (May k c s t g r q) := by unfold May; infer_instance

/-- Its numbers have room in their fields. -/
def Fr.Fits (f : Fr) : Prop := f.kind ≤ 15 ∧ f.client ≤ 15 ∧ f.service ≤ 15 ∧ f.slot ≤ 255 ∧ f.gen ≤ 16777215 ∧ f.tr ≤ 15 ∧ f.seq ≤ 65535 ∧ f.call ≤ 4294967295 ∧ f.value ≤ 4294967295
/-- It may be. -/
def Fr.Ok (f : Fr) : Prop := 1 ≤ f.kind ∧ f.kind ≤ 10 ∧ f.client ≤ 3 ∧ f.service ≤ 3 ∧ f.slot ≤ 15 ∧ f.gen ≤ 16777215 ∧ f.tr ≤ 15 ∧ f.seq ≤ 65535 ∧ f.call ≤ 4294967295 ∧ f.value ≤ 4294967295
theorem Fr.Ok.fits {f : Fr} (h : f.Ok) : f.Fits := by unfold Fr.Ok at h; unfold Fr.Fits; omega

def a1 (f : Fr) : Nat := Fld.put 0 0 4 f.kind
def a2 (f : Fr) : Nat := Fld.put (a1 f) 4 4 f.client
def a3 (f : Fr) : Nat := Fld.put (a2 f) 8 4 f.service
def a4 (f : Fr) : Nat := Fld.put (a3 f) 12 8 f.slot
def a5 (f : Fr) : Nat := Fld.put (a4 f) 20 4 f.tr
def a6 (f : Fr) : Nat := Fld.put (a5 f) 24 1 f.sure.toNat
def a7 (f : Fr) : Nat := Fld.put (a6 f) 25 1 f.stream.toNat
/-- A frame's words. -/
def w0 (f : Fr) : Nat := Fld.put (a7 f) 26 24 f.gen
def b1 (f : Fr) : Nat := Fld.put 0 0 32 f.call
def w1 (f : Fr) : Nat := Fld.put (b1 f) 32 32 f.value
def w2 (f : Fr) : Nat := Fld.put 0 0 16 f.seq

/-- None of them is more than a word. -/
theorem put_small (w a b n : Nat) (h : a + b ≤ 64) (hw : w < 18446744073709551616) : Fld.put w a b n < 18446744073709551616 := Fld.put_lt h hw
theorem a1_small (f : Fr) : a1 f < 18446744073709551616 := put_small _ _ _ _ (by omega) (by omega)
theorem a2_small (f : Fr) : a2 f < 18446744073709551616 := put_small _ _ _ _ (by omega) (a1_small f)
theorem a3_small (f : Fr) : a3 f < 18446744073709551616 := put_small _ _ _ _ (by omega) (a2_small f)
theorem a4_small (f : Fr) : a4 f < 18446744073709551616 := put_small _ _ _ _ (by omega) (a3_small f)
theorem a5_small (f : Fr) : a5 f < 18446744073709551616 := put_small _ _ _ _ (by omega) (a4_small f)
theorem a6_small (f : Fr) : a6 f < 18446744073709551616 := put_small _ _ _ _ (by omega) (a5_small f)
theorem a7_small (f : Fr) : a7 f < 18446744073709551616 := put_small _ _ _ _ (by omega) (a6_small f)
theorem w0_small (f : Fr) : w0 f < 18446744073709551616 := put_small _ _ _ _ (by omega) (a7_small f)
theorem b1_small (f : Fr) : b1 f < 18446744073709551616 := put_small _ _ _ _ (by omega) (by omega)
theorem w1_small (f : Fr) : w1 f < 18446744073709551616 := put_small _ _ _ _ (by omega) (b1_small f)
theorem w2_small (f : Fr) : w2 f < 18446744073709551616 := put_small _ _ _ _ (by omega) (by omega)

/-- A number above all bits that are there is laid beside them. -/
theorem put_add {w a b n : Nat} (h : a + b ≤ 64) (hw : w < 2 ^ a) (hn : n < 2 ^ b) : Fld.put w a b n = w + n * 2 ^ a := by
  have hw64 : w < 18446744073709551616 := Nat.lt_of_lt_of_le hw (Fld.pow_le (by omega))
  have hm : min n (Fld.most b) = n := by unfold Fld.most; omega
  have e : w + n * 2 ^ a = n * 2 ^ a ||| w := by rw [Nat.mul_comm, ← Nat.two_pow_add_eq_or_of_lt hw, Nat.add_comm]
  rw [e]
  apply Nat.eq_of_testBit_eq
  intro i
  rw [Fld.put_bit h hw64, hm, Nat.testBit_or, Nat.testBit_mul_two_pow]
  by_cases h1 : a ≤ i
  · have hwi : w.testBit i = false := Nat.testBit_lt_two_pow (Nat.lt_of_lt_of_le hw (Nat.pow_le_pow_right (by omega) h1))
    by_cases h2 : i < a + b
    · simp [h1, h2, hwi]
    · have h3 : n.testBit (i - a) = false := Nat.testBit_lt_two_pow (Nat.lt_of_lt_of_le hn (Nat.pow_le_pow_right (by omega) (by omega)))
      simp [h1, h2, hwi, h3]
  · simp [h1]

theorem toNat_le (b : Bool) : b.toNat ≤ 1 := Bool.toNat_le b

theorem w0_sum {f : Fr} (h : f.Fits) : w0 f = f.kind + f.client * 16 + f.service * 256 + f.slot * 4096 + f.tr * 1048576 + f.sure.toNat * 16777216 + f.stream.toNat * 33554432 + f.gen * 67108864 := by
  obtain ⟨h1, h2, h3, h4, h5, h6, h7, h8, h9⟩ := h
  have g1 := toNat_le f.sure
  have g2 := toNat_le f.stream
  have e1 : a1 f = f.kind := by
    have := @put_add 0 0 4 f.kind (by omega) (by omega) (by omega)
    unfold a1; omega
  have e2 : a2 f = f.kind + f.client * 16 := by
    have := @put_add (a1 f) 4 4 f.client (by omega) (by omega) (by omega)
    unfold a2; omega
  have e3 : a3 f = f.kind + f.client * 16 + f.service * 256 := by
    have := @put_add (a2 f) 8 4 f.service (by omega) (by omega) (by omega)
    unfold a3; omega
  have e4 : a4 f = f.kind + f.client * 16 + f.service * 256 + f.slot * 4096 := by
    have := @put_add (a3 f) 12 8 f.slot (by omega) (by omega) (by omega)
    unfold a4; omega
  have e5 : a5 f = f.kind + f.client * 16 + f.service * 256 + f.slot * 4096 + f.tr * 1048576 := by
    have := @put_add (a4 f) 20 4 f.tr (by omega) (by omega) (by omega)
    unfold a5; omega
  have e6 : a6 f = f.kind + f.client * 16 + f.service * 256 + f.slot * 4096 + f.tr * 1048576 + f.sure.toNat * 16777216 := by
    have := @put_add (a5 f) 24 1 f.sure.toNat (by omega) (by omega) (by omega)
    unfold a6; omega
  have e7 : a7 f = f.kind + f.client * 16 + f.service * 256 + f.slot * 4096 + f.tr * 1048576 + f.sure.toNat * 16777216 + f.stream.toNat * 33554432 := by
    have := @put_add (a6 f) 25 1 f.stream.toNat (by omega) (by omega) (by omega)
    unfold a7; omega
  have := @put_add (a7 f) 26 24 f.gen (by omega) (by omega) (by omega)
  unfold w0; omega

theorem w1_sum {f : Fr} (h : f.Fits) : w1 f = f.call + f.value * 4294967296 := by
  obtain ⟨h1, h2, h3, h4, h5, h6, h7, h8, h9⟩ := h
  have e1 : b1 f = f.call := by
    have := @put_add 0 0 32 f.call (by omega) (by omega) (by omega)
    unfold b1; omega
  have := @put_add (b1 f) 32 32 f.value (by omega) (by omega) (by omega)
  unfold w1; omega

theorem w2_sum {f : Fr} (h : f.Fits) : w2 f = f.seq := by
  obtain ⟨h1, h2, h3, h4, h5, h6, h7, h8, h9⟩ := h
  have := @put_add 0 0 16 f.seq (by omega) (by omega) (by omega)
  unfold w2; omega

/-- What three words' fields have. -/
def rd (x0 x1 x2 : Nat) : Fr where
  kind := Fld.get x0 0 4
  client := Fld.get x0 4 4
  service := Fld.get x0 8 4
  slot := Fld.get x0 12 8
  gen := Fld.get x0 26 24
  call := Fld.get x1 0 32
  tr := Fld.get x0 20 4
  sure := decide (Fld.get x0 24 1 = 1)
  stream := decide (Fld.get x0 25 1 = 1)
  seq := Fld.get x2 0 16
  value := Fld.get x1 32 32

theorem rd_fits (x0 x1 x2 : Nat) : (rd x0 x1 x2).Fits := by
  unfold Fr.Fits rd Fld.get
  dsimp only
  omega

theorem toNat_decide (n : Nat) (h : n ≤ 1) : (decide (n = 1)).toNat = n := by
  by_cases e : n = 1
  · simp [e]
  · have : n = 0 := by omega
    simp [this]

/-- Words' frame has the very words again, where no other bit is in them. -/
theorem w0_rd (x0 x1 x2 : Nat) : w0 (rd x0 x1 x2) = x0 % 1125899906842624 := by
  rw [w0_sum (rd_fits _ _ _)]
  have g1 := toNat_decide (Fld.get x0 24 1) (by unfold Fld.get; omega)
  have g2 := toNat_decide (Fld.get x0 25 1) (by unfold Fld.get; omega)
  unfold rd
  dsimp only
  rw [g1, g2]
  unfold Fld.get
  omega
theorem w1_rd (x0 x1 x2 : Nat) (h : x1 < 18446744073709551616) : w1 (rd x0 x1 x2) = x1 := by
  rw [w1_sum (rd_fits _ _ _)]
  unfold rd Fld.get
  dsimp only
  omega
theorem w2_rd (x0 x1 x2 : Nat) : w2 (rd x0 x1 x2) = x2 % 65536 := by
  rw [w2_sum (rd_fits _ _ _)]
  unfold rd Fld.get
  dsimp only
  omega

/-- A frame's words are that frame. -/
theorem rd_words {f : Fr} (h : f.Fits) : rd (w0 f) (w1 f) (w2 f) = f := by
  have e0 := w0_sum h
  have e1 := w1_sum h
  have e2 := w2_sum h
  obtain ⟨h1, h2, h3, h4, h5, h6, h7, h8, h9⟩ := h
  have g1 := toNat_le f.sure
  have g2 := toNat_le f.stream
  have s1 : decide (Fld.get (w0 f) 24 1 = 1) = f.sure := by
    have : Fld.get (w0 f) 24 1 = f.sure.toNat := by unfold Fld.get; omega
    rw [this]; cases f.sure <;> rfl
  have s2 : decide (Fld.get (w0 f) 25 1 = 1) = f.stream := by
    have : Fld.get (w0 f) 25 1 = f.stream.toNat := by unfold Fld.get; omega
    rw [this]; cases f.stream <;> rfl
  have t1 : Fld.get (w0 f) 0 4 = f.kind := by unfold Fld.get; omega
  have t2 : Fld.get (w0 f) 4 4 = f.client := by unfold Fld.get; omega
  have t3 : Fld.get (w0 f) 8 4 = f.service := by unfold Fld.get; omega
  have t4 : Fld.get (w0 f) 12 8 = f.slot := by unfold Fld.get; omega
  have t5 : Fld.get (w0 f) 26 24 = f.gen := by unfold Fld.get; omega
  have t6 : Fld.get (w1 f) 0 32 = f.call := by unfold Fld.get; omega
  have t7 : Fld.get (w0 f) 20 4 = f.tr := by unfold Fld.get; omega
  have t8 : Fld.get (w2 f) 0 16 = f.seq := by unfold Fld.get; omega
  have t9 : Fld.get (w1 f) 32 32 = f.value := by unfold Fld.get; omega
  unfold rd
  rw [s1, s2, t1, t2, t3, t4, t5, t6, t7, t8, t9]

theorem w0_lt {f : Fr} (h : f.Fits) : w0 f < 1125899906842624 := by
  have e0 := w0_sum h
  obtain ⟨h1, h2, h3, h4, h5, h6, h7, h8, h9⟩ := h
  have g1 := toNat_le f.sure
  have g2 := toNat_le f.stream
  omega
theorem w1_lt {f : Fr} (h : f.Fits) : w1 f < 18446744073709551616 := by
  have e0 := w1_sum h
  obtain ⟨h1, h2, h3, h4, h5, h6, h7, h8, h9⟩ := h
  omega
theorem w2_lt {f : Fr} (h : f.Fits) : w2 f < 65536 := by
  have e0 := w2_sum h
  obtain ⟨h1, h2, h3, h4, h5, h6, h7, h8, h9⟩ := h
  omega

/-- The fields of the three words, one behind the other: where they begin, how many bits they have. -/
def A0 : Nat → Int
  | 0 => 0 | 1 => 4 | 2 => 8 | 3 => 12 | 4 => 20 | 5 => 24 | 6 => 25 | _ => 26
def B0 : Nat → Int
  | 0 => 4 | 1 => 4 | 2 => 4 | 3 => 8 | 4 => 4 | 5 => 1 | 6 => 1 | _ => 24
def A1 : Nat → Int
  | 0 => 0 | _ => 32
def B1 : Nat → Int := fun _ => 32
def A2 : Nat → Int := fun _ => 0
def B2 : Nat → Int := fun _ => 16

/-- Fields that have just the first m bits leave nothing just if no other bit is there. -/
theorem rest_zero (A B : Nat → Int) (k m : Nat) (h : ∀ j, Fld.cnt A B j k = 0 ↔ m ≤ j) {x : Nat} (hx : x < 18446744073709551616) : Fld.rest A B x k = 0 ↔ x < 2 ^ m := by
  have hr := fun j => Fld.rest_bit A B hx j k
  constructor
  · intro e
    apply Nat.lt_pow_two_of_testBit
    intro i hi
    have := hr i
    rw [e, (h i).2 hi] at this
    simpa using this.symm
  · intro hl
    apply Nat.eq_of_testBit_eq
    intro i
    rw [hr, Nat.zero_testBit]
    by_cases hi : m ≤ i
    · rw [Nat.testBit_lt_two_pow (Nat.lt_of_lt_of_le hl (Nat.pow_le_pow_right (by omega) hi))]; rfl
    · have : Fld.cnt A B i k ≠ 0 := fun e => hi ((h i).1 e)
      simp [this]

theorem cnt_all (A B : Nat → Int) (k m : Nat) (hm : m ≤ 64) (h : ∀ j, j < 64 → (Fld.cnt A B j k = 0 ↔ m ≤ j)) (j : Nat) : Fld.cnt A B j k = 0 ↔ m ≤ j := by
  by_cases hj : j < 64
  · exact h j hj
  · rw [Fld.cnt_far A B j k (by omega)]; omega

theorem cnt0 (j : Nat) : Fld.cnt A0 B0 j 8 = 0 ↔ 50 ≤ j := cnt_all A0 B0 8 50 (by omega) (by decide) j
theorem cnt1 (j : Nat) : Fld.cnt A1 B1 j 2 = 0 ↔ 64 ≤ j := cnt_all A1 B1 2 64 (by omega) (by decide) j
theorem cnt2 (j : Nat) : Fld.cnt A2 B2 j 1 = 0 ↔ 16 ≤ j := cnt_all A2 B2 1 16 (by omega) (by decide) j

theorem rest0 {x : Nat} (hx : x < 18446744073709551616) : Fld.rest A0 B0 x 8 = 0 ↔ x < 1125899906842624 := rest_zero A0 B0 8 50 cnt0 hx
theorem rest1 {x : Nat} (hx : x < 18446744073709551616) : Fld.rest A1 B1 x 2 = 0 := (rest_zero A1 B1 2 64 cnt1 hx).2 (by rw [Fld.pow64]; exact hx)
theorem rest2 {x : Nat} (hx : x < 18446744073709551616) : Fld.rest A2 B2 x 1 = 0 ↔ x < 65536 := rest_zero A2 B2 1 16 cnt2 hx

end Go.Proofs.Ytebaipakjomenaa.Fm
