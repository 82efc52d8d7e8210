/- A heap of entries by a time and a number, as plain lists: what goes up, what goes down, and that the root is the least. -/
namespace Go.Proofs.Ytpognlidhppnaaa

/-- An entry: an alarm's five numbers, and its own. -/
structure En where
  t : Int
  c : Int
  s : Int
  g : Int
  x : Int
  n : Int
deriving Inhabited

namespace En
/-- The one comes ahead of the other. -/
def lt (a b : En) : Bool := decide (a.t < b.t ∨ (a.t = b.t ∧ a.n < b.n))
theorem lt_iff {a b : En} : lt a b = true ↔ (a.t < b.t ∨ (a.t = b.t ∧ a.n < b.n)) := by simp [lt]
theorem not_lt {a b : En} : lt a b = false ↔ ¬ (a.t < b.t ∨ (a.t = b.t ∧ a.n < b.n)) := by simp [lt]
theorem lt_irrefl (a : En) : lt a a = false := by rw [not_lt]; omega
theorem le_trans {a b c : En} (h : lt b a = false) (k : lt c b = false) : lt c a = false := by rw [not_lt] at *; omega
theorem lt_trans {a b c : En} (h : lt a b = true) (k : lt b c = true) : lt a c = true := by rw [lt_iff] at *; omega
theorem lt_le {a b : En} (h : lt a b = true) : lt b a = false := by rw [not_lt]; rw [lt_iff] at h; omega
end En

namespace Hp
/-- The i-th. -/
def e (q : List En) (i : Nat) : En := q.getD i default
/-- Two change their places. -/
def sw (q : List En) (i j : Nat) : List En := (q.set i (e q j)).set j (e q i)
/-- Of so many none comes ahead of the one above it. -/
def Heap (q : List En) (n : Nat) : Prop := ∀ k, 0 < k → k < n → En.lt (e q k) (e q ((k - 1) / 2)) = false

theorem e_in {q : List En} {i : Nat} (h : i < q.length) : e q i = q[i] := by simp [e, List.getD, h]
theorem e_get? {q : List En} {i : Nat} (h : i < q.length) : q[i]? = some (e q i) := by rw [e_in h]; simp [h]
theorem sw_length (q : List En) (i j : Nat) : (sw q i j).length = q.length := by simp [sw]
theorem e_sw {q : List En} {i j : Nat} (hi : i < q.length) (hj : j < q.length) (k : Nat) : e (sw q i j) k = if k = j then e q i else if k = i then e q j else e q k := by
  unfold sw
  simp only [e, List.getD, List.getElem?_set, List.length_set]
  by_cases h1 : j = k
  · subst h1; simp [hj]
  · rw [if_neg h1, if_neg (Ne.symm h1)]
    by_cases h2 : i = k
    · subst h2; simp [hi]
    · simp [h2, Ne.symm h2]
theorem e_append_left {q : List En} {a : En} {k : Nat} (h : k < q.length) : e (q ++ [a]) k = e q k := by simp [e, List.getD, List.getElem?_append_left h]
theorem e_append_last (q : List En) (a : En) : e (q ++ [a]) q.length = a := by simp [e, List.getD]
theorem e_take {q : List En} {n k : Nat} (h : k < n) : e (q.take n) k = e q k := by simp [e, List.getD, h]
theorem sw_perm {q : List En} {i j : Nat} (hi : i < q.length) (hj : j < q.length) : (sw q i j).Perm q := by
  unfold sw
  rw [e_in hi, e_in hj]
  exact List.set_set_perm hi hj

theorem Heap.take {q : List En} {n : Nat} (h : Heap q n) : Heap (q.take n) n := fun k h0 hk => by rw [e_take hk, e_take (by omega)]; exact h k h0 hk
theorem Heap.less {q : List En} {n m : Nat} (h : Heap q n) (hm : m ≤ n) : Heap q m := fun k h0 hk => h k h0 (by omega)
theorem heap_nil : Heap [] 0 := fun _ _ h => absurd h (Nat.not_lt_zero _)

/-- The root is the least. -/
theorem Heap.root {q : List En} {n : Nat} (h : Heap q n) : ∀ k, k < n → En.lt (e q k) (e q 0) = false := by
  intro k
  induction k using Nat.strongRecOn with
  | _ k ih =>
    intro hk
    by_cases h0 : k = 0
    · subst h0; exact En.lt_irrefl _
    · exact En.le_trans (ih ((k - 1) / 2) (by omega) (by omega)) (h k (by omega) hk)

/-- One goes up: it stands at j, all others as they must. -/
structure Up (q0 q : List En) (j : Nat) : Prop where
  perm : q.Perm q0
  lt : j < q.length
  rest : ∀ k, 0 < k → k < q.length → k ≠ j → En.lt (e q k) (e q ((k - 1) / 2)) = false
  kids : ∀ k, 0 < k → k < q.length → (k - 1) / 2 = j → 0 < j → En.lt (e q k) (e q ((j - 1) / 2)) = false

theorem Up.start {q : List En} {a : En} (h : Heap q q.length) : Up (q ++ [a]) (q ++ [a]) q.length :=
  ⟨List.Perm.refl _, by simp, fun k h0 hk hj => by
    have hl : k < q.length := by simp at hk; omega
    rw [e_append_left hl, e_append_left (by omega)]
    exact h k h0 hl, fun k h0 hk hj => by simp at hk; omega⟩
theorem Up.length {q0 q : List En} {j : Nat} (h : Up q0 q j) : q.length = q0.length := h.perm.length_eq
theorem Up.stop {q0 q : List En} {j : Nat} (h : Up q0 q j) (hs : j = 0 ∨ En.lt (e q j) (e q ((j - 1) / 2)) = false) : Heap q q.length := fun k h0 hk => by
  by_cases hj : k = j
  · subst hj
    rcases hs with hs | hs
    · omega
    · exact hs
  · exact h.rest k h0 hk hj
theorem Up.step {q0 q : List En} {j : Nat} (h : Up q0 q j) (h0 : 0 < j) (hs : En.lt (e q j) (e q ((j - 1) / 2)) = true) : Up q0 (sw q ((j - 1) / 2) j) ((j - 1) / 2) := by
  have hl := h.lt
  have hp : (j - 1) / 2 < q.length := by omega
  have hne : (j - 1) / 2 ≠ j := by omega
  refine ⟨(sw_perm hp hl).trans h.perm, by rw [sw_length]; exact hp, fun k k0 hk hkj => ?_, fun k k0 hk hkj hj0 => ?_⟩
  · rw [sw_length] at hk
    rw [e_sw hp hl, e_sw hp hl]
    by_cases c1 : k = j
    · subst c1
      rw [if_pos rfl, if_neg hne, if_pos rfl]
      exact En.lt_le hs
    · rw [if_neg c1, if_neg hkj]
      by_cases c2 : (k - 1) / 2 = j
      · rw [if_pos c2]
        exact h.kids k k0 hk c2 h0
      · rw [if_neg c2]
        by_cases c3 : (k - 1) / 2 = (j - 1) / 2
        · rw [if_pos c3]
          have := h.rest k k0 hk c1
          rw [c3] at this
          exact En.le_trans (En.lt_le hs) this
        · rw [if_neg c3]
          exact h.rest k k0 hk c1
  · rw [sw_length] at hk
    have r := h.rest ((j - 1) / 2) hj0 hp hne
    rw [e_sw hp hl, e_sw hp hl, if_neg (show ¬ ((j - 1) / 2 - 1) / 2 = j by omega), if_neg (show ¬ ((j - 1) / 2 - 1) / 2 = (j - 1) / 2 by omega)]
    by_cases c1 : k = j
    · subst c1
      rw [if_pos rfl]
      exact r
    · rw [if_neg c1, if_neg (by omega)]
      have := h.rest k k0 hk c1
      rw [hkj] at this
      exact En.le_trans r this

/-- One goes down among the first n: it stands at i, all others as they must. -/
structure Down (q0 q : List En) (n i : Nat) : Prop where
  perm : q.Perm q0
  most : n ≤ q.length
  far : ∀ k, n ≤ k → e q k = e q0 k
  rest : ∀ k, 0 < k → k < n → (k - 1) / 2 ≠ i → En.lt (e q k) (e q ((k - 1) / 2)) = false
  kids : ∀ k, 0 < k → k < n → (k - 1) / 2 = i → 0 < i → En.lt (e q k) (e q ((i - 1) / 2)) = false

theorem Down.length {q0 q : List En} {n i : Nat} (h : Down q0 q n i) : q.length = q0.length := h.perm.length_eq
/-- The child that comes first. -/
def kid (q : List En) (n i : Nat) : Nat := if 2 * i + 2 < n ∧ En.lt (e q (2 * i + 2)) (e q (2 * i + 1)) = true then 2 * i + 2 else 2 * i + 1
theorem kid_lt {q : List En} {n i : Nat} (h : 2 * i + 1 < n) : kid q n i < n ∧ 0 < kid q n i ∧ (kid q n i - 1) / 2 = i := by
  unfold kid; split <;> omega
theorem kid_le {q : List En} {n i k : Nat} (hk : k < n) (h0 : 0 < k) (hp : (k - 1) / 2 = i) : En.lt (e q k) (e q (kid q n i)) = false := by
  have : k = 2 * i + 1 ∨ k = 2 * i + 2 := by omega
  unfold kid
  by_cases h : 2 * i + 2 < n ∧ En.lt (e q (2 * i + 2)) (e q (2 * i + 1)) = true
  · rw [if_pos h]
    rcases this with rfl | rfl
    · exact En.lt_le h.2
    · exact En.lt_irrefl _
  · rw [if_neg h]
    rcases this with rfl | rfl
    · exact En.lt_irrefl _
    · by_cases hl : En.lt (e q (2 * i + 2)) (e q (2 * i + 1)) = true
      · exact absurd ⟨hk, hl⟩ h
      · simpa using hl
theorem Down.stop {q0 q : List En} {n i : Nat} (h : Down q0 q n i) (hs : n ≤ 2 * i + 1 ∨ En.lt (e q (kid q n i)) (e q i) = false) : Heap q n := fun k k0 hk => by
  by_cases hp : (k - 1) / 2 = i
  · rcases hs with hs | hs
    · omega
    · rw [hp]
      exact En.le_trans hs (kid_le hk k0 hp)
  · exact h.rest k k0 hk hp
theorem Down.step {q0 q : List En} {n i : Nat} (h : Down q0 q n i) (hn : 2 * i + 1 < n) (hs : En.lt (e q (kid q n i)) (e q i) = true) : Down q0 (sw q i (kid q n i)) n (kid q n i) := by
  obtain ⟨k1, k2, k3⟩ := kid_lt (q := q) hn
  have hkl : ∀ k, k < n → 0 < k → (k - 1) / 2 = i → En.lt (e q k) (e q (kid q n i)) = false := fun k => kid_le
  have hm := h.most
  generalize kid q n i = j at *
  have hi : i < q.length := by omega
  have hj : j < q.length := by omega
  have hij : i ≠ j := by omega
  refine ⟨(sw_perm hi hj).trans h.perm, by rw [sw_length]; exact hm, fun k hk => ?_, fun k k0 hk hp => ?_, fun k k0 hk hp j0 => ?_⟩
  · rw [e_sw hi hj, if_neg (by omega), if_neg (by omega)]
    exact h.far k hk
  · rw [e_sw hi hj, e_sw hi hj, if_neg hp]
    by_cases c1 : k = j
    · subst c1
      rw [if_pos rfl, if_pos k3]
      exact En.lt_le hs
    · rw [if_neg c1]
      by_cases c2 : k = i
      · subst c2
        rw [if_pos rfl, if_neg (by omega)]
        exact h.kids j k2 k1 k3 k0
      · rw [if_neg c2]
        by_cases c3 : (k - 1) / 2 = i
        · rw [if_pos c3]
          exact hkl k hk k0 c3
        · rw [if_neg c3]
          exact h.rest k k0 hk c3
  · have r := h.rest k k0 hk (by omega)
    rw [hp] at r
    rw [e_sw hi hj, e_sw hi hj, if_neg (by omega), if_neg (by omega), k3, if_neg hij, if_pos rfl]
    exact r

/-- The root goes to the end, what stood there goes down from the root. -/
theorem Down.start {q : List En} {n : Nat} (hl : q.length = n + 1) (h : Heap q q.length) : Down (sw q 0 n) (sw q 0 n) n 0 := by
  have h0 : 0 < q.length := by omega
  have hn : n < q.length := by omega
  refine ⟨List.Perm.refl _, by rw [sw_length]; omega, fun _ _ => rfl, fun k k0 hk hp => ?_, fun k k0 hk hp i0 => by omega⟩
  rw [e_sw h0 hn, e_sw h0 hn, if_neg (by omega), if_neg (by omega), if_neg (by omega), if_neg hp]
  exact h k k0 (by omega)

theorem split_last {q : List En} {n : Nat} (h : q.length = n + 1) : q = q.take n ++ [e q n] := by
  rw [e_in (by omega)]
  have := List.take_append_getElem (l := q) (i := n) (by omega)
  rw [this, List.take_of_length_le (by omega)]

/-- What is left when the root was taken. -/
theorem popped {q q1 : List En} {n : Nat} (hl : q.length = n + 1) {i : Nat} (h : Down (sw q 0 n) q1 n i) : q1.length = n + 1 ∧ e q1 n = e q 0 ∧ q.Perm (e q 0 :: q1.take n) := by
  have h0 : 0 < q.length := by omega
  have hn : n < q.length := by omega
  have l1 : q1.length = n + 1 := by rw [h.length, sw_length]; exact hl
  have e1 : e q1 n = e q 0 := by rw [h.far n (Nat.le_refl _), e_sw h0 hn, if_pos rfl]
  refine ⟨l1, e1, ?_⟩
  have p := h.perm.trans (sw_perm h0 hn)
  have sp := split_last l1
  rw [e1] at sp
  rw [sp] at p
  exact (p.symm.trans List.perm_append_comm)
end Hp
end Go.Proofs.Ytpognlidhppnaaa
