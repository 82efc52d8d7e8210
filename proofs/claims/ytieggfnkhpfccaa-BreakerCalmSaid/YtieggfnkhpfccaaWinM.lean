/- Plain counts: what happened in which bucket, what the last so many buckets hold, how they move on. Nothing here speaks of a program. -/
namespace Go.Proofs.Ytieggfnkhpfccaa.Wn

/-- How often it went so in a bucket. -/
def cnt : List (Int × Bool) → Int → Bool → Int
  | [], _, _ => 0
  | e :: r, b, v => (if e.1 = b ∧ e.2 = v then 1 else 0) + cnt r b v
/-- .. in a bucket above this one. -/
def above : List (Int × Bool) → Int → Bool → Int
  | [], _, _ => 0
  | e :: r, b, v => (if b < e.1 ∧ e.2 = v then 1 else 0) + above r b v
theorem cnt_append (v : Bool) (b : Int) (q : List (Int × Bool)) : ∀ p, cnt (p ++ q) b v = cnt p b v + cnt q b v
  | [] => by simp [cnt]
  | e :: r => by simp only [List.cons_append, cnt, cnt_append v b q r]; omega
theorem above_append (v : Bool) (b : Int) (q : List (Int × Bool)) : ∀ p, above (p ++ q) b v = above p b v + above q b v
  | [] => by simp [above]
  | e :: r => by simp only [List.cons_append, above, above_append v b q r]; omega
theorem cnt_none {b : Int} (v : Bool) : ∀ {ev : List (Int × Bool)}, (∀ e ∈ ev, e.1 < b) → cnt ev b v = 0
  | [], _ => rfl
  | e :: r, h => by
    have h1 := h e List.mem_cons_self
    have h2 := cnt_none (ev := r) v (fun x hx => h x (List.mem_cons_of_mem _ hx))
    simp only [cnt, h2]
    rw [if_neg (by omega)]
    rfl
theorem above_none {b : Int} (v : Bool) : ∀ {ev : List (Int × Bool)}, (∀ e ∈ ev, e.1 ≤ b) → above ev b v = 0
  | [], _ => rfl
  | e :: r, h => by
    have h1 := h e List.mem_cons_self
    have h2 := above_none (ev := r) v (fun x hx => h x (List.mem_cons_of_mem _ hx))
    simp only [above, h2]
    rw [if_neg (by omega)]
    rfl
theorem above_next (v : Bool) (b : Int) : ∀ ev, above ev (b - 1) v = above ev b v + cnt ev b v
  | [] => rfl
  | e :: r => by
    simp only [above, cnt, above_next v b r]
    by_cases hv : e.2 = v
    · rcases Int.lt_trichotomy b e.1 with h | h | h
      · rw [if_pos ⟨by omega, hv⟩, if_pos ⟨h, hv⟩, if_neg (by omega)]; omega
      · rw [if_pos ⟨by omega, hv⟩, if_neg (by omega), if_pos ⟨h.symm, hv⟩]; omega
      · rw [if_neg (by omega), if_neg (by omega), if_neg (by omega)]; omega
    · rw [if_neg (fun k => hv k.2), if_neg (fun k => hv k.2), if_neg (fun k => hv k.2)]; omega
theorem cnt_lo (v : Bool) (b : Int) : ∀ ev, 0 ≤ cnt ev b v
  | [] => Int.le_refl _
  | e :: r => by have := cnt_lo v b r; simp only [cnt]; split <;> omega
theorem cnt_hi (v : Bool) (b : Int) : ∀ ev, cnt ev b v ≤ (ev.length : Nat)
  | [] => Int.le_refl _
  | e :: r => by have := cnt_hi v b r; simp only [cnt, List.length_cons]; split <;> omega
theorem above_lo (v : Bool) (b : Int) : ∀ ev, 0 ≤ above ev b v
  | [] => Int.le_refl _
  | e :: r => by have := above_lo v b r; simp only [above]; split <;> omega
theorem above_hi (v : Bool) (b : Int) : ∀ ev, above ev b v ≤ (ev.length : Nat)
  | [] => Int.le_refl _
  | e :: r => by have := above_hi v b r; simp only [above, List.length_cons]; split <;> omega

/-- All of the first k. -/
def sumTo : Nat → (Nat → Int) → Int
  | 0, _ => 0
  | k + 1, X => sumTo k X + X k
theorem sumTo_lo {X : Nat → Int} : ∀ {k}, (∀ i, i < k → 0 ≤ X i ∧ X i ≤ 1000000) → 0 ≤ sumTo k X ∧ sumTo k X ≤ 1000000 * k
  | 0, _ => by simp [sumTo]
  | k + 1, h => by
    have := sumTo_lo (k := k) fun i hi => h i (by omega)
    have := h k (by omega)
    simp only [sumTo]
    omega
theorem sumTo_congr {X Y : Nat → Int} : ∀ {k}, (∀ i, i < k → X i = Y i) → sumTo k X = sumTo k Y
  | 0, _ => rfl
  | k + 1, h => by simp only [sumTo]; rw [sumTo_congr (k := k) fun i hi => h i (by omega), h k (by omega)]
/-- What the last n buckets hold. -/
theorem sum_above {ev : List (Int × Bool)} {last : Int} (v : Bool) (h : ∀ e ∈ ev, e.1 ≤ last) : ∀ n : Nat, sumTo n (fun i => cnt ev (last - i) v) = above ev (last - n) v
  | 0 => by simp only [sumTo]; rw [show last - ((0 : Nat) : Int) = last by omega, above_none v h]
  | n + 1 => by
    simp only [sumTo]
    rw [sum_above v h n, show last - ((n + 1 : Nat) : Int) = last - (n : Int) - 1 by omega, above_next]

/-- So many buckets go. -/
def shift (g : Nat) (X : Nat → Int) (i : Nat) : Int := if i < g then 0 else X (i - g)
def gone (n : Nat) (last b : Int) : Nat := (min (max last b - last) (n : Int)).toNat
theorem gone_le (n : Nat) (last b : Int) : gone n last b ≤ n := by unfold gone; omega
theorem gone_zero {last b : Int} (n : Nat) (h : b ≤ last) : gone n last b = 0 := by unfold gone; omega
theorem gone_pos {n : Nat} {last b : Int} (h : ¬b ≤ last) : ((gone n last b : Nat) : Int) = min (b - last) n := by unfold gone; omega
theorem shift_zero (X : Nat → Int) : shift 0 X = X := by funext i; simp [shift]
theorem shift_cnt {ev : List (Int × Bool)} {last : Int} (v : Bool) (h : ∀ e ∈ ev, e.1 ≤ last) (b : Int) {n i : Nat} (hi : i < n) :
    shift (gone n last b) (fun i => cnt ev (last - i) v) i = cnt ev (max last b - i) v := by
  unfold shift
  split
  · rename_i hg
    unfold gone at hg
    rw [cnt_none v (fun e he => by have := h e he; omega)]
  · rename_i hg
    unfold gone at hg ⊢
    dsimp only
    congr 1
    omega
/-- One more in the latest bucket. -/
def bump (X : Nat → Int) (i : Nat) : Int := if i = 0 then X 0 + 1 else X i
theorem bump_same (ev : List (Int × Bool)) (last : Int) (v : Bool) (i : Nat) : bump (fun i => cnt ev (last - i) v) i = cnt (ev ++ [(last, v)]) (last - i) v := by
  unfold bump
  rw [cnt_append]
  simp only [cnt]
  split
  · rename_i h; subst h
    rw [if_pos (by simp)]; omega
  · rw [if_neg (by omega)]; omega
theorem bump_other (ev : List (Int × Bool)) (last : Int) {v u : Bool} (hu : u ≠ v) (i : Nat) : cnt ev (last - i) v = cnt (ev ++ [(last, u)]) (last - i) v := by
  rw [cnt_append]
  simp only [cnt]
  rw [if_neg (fun k => hu k.2)]; omega
theorem more_le {ev : List (Int × Bool)} {last : Int} (h : ∀ e ∈ ev, e.1 ≤ last) (b : Int) (v : Bool) : ∀ e ∈ ev ++ [(max last b, v)], e.1 ≤ max last b := by
  intro e he
  rcases List.mem_append.1 he with he | he
  · have := h e he; omega
  · rw [List.mem_singleton.1 he]; exact Int.le_refl _
theorem max_le {ev : List (Int × Bool)} {last : Int} (h : ∀ e ∈ ev, e.1 ≤ last) (b : Int) : ∀ e ∈ ev, e.1 ≤ max last b := fun e he => by have := h e he; omega
/-- One more is looked at. -/
theorem above_take (v : Bool) (b : Int) {ev : List (Int × Bool)} {k : Nat} (h : k < ev.length) : above (ev.take (k + 1)) b v = above (ev.take k) b v + if b < ev[k].1 ∧ ev[k].2 = v then 1 else 0 := by
  rw [List.take_add_one, List.getElem?_eq_getElem h, above_append]
  simp [above]
end Go.Proofs.Ytieggfnkhpfccaa.Wn
