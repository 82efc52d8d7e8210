/- Parts of a world that lie apart: each is told by a predicate over a world and the blocks that are its own. What is done to one of them the others don't see. -/
import Derived.Test.YtpognlidhppnaaaUpn
namespace Go.Proofs.Ytpognlidhppnaaa
open Go.RowKit

/-- Something in memory: what the world must hold, where so many blocks are its own. -/
structure Part where
  p : World → (Nat → Prop) → Prop
  kept : ∀ {w w' : World} {F own : Nat → Prop}, p w F → (∀ k, F k → k < w.heap.size) → Rest own w w' → (∀ k, F k → ¬own k) → p w' F
namespace Part
/-- A block that holds just this. -/
def box (b : Nat) (o : Obj) : Part := ⟨fun w F => F b ∧ w.heap[b]? = some o, fun h _ hr hd => ⟨h.1, (hr.block _ (heap_lt h.2) (hd _ h.1)).trans h.2⟩⟩
/-- Something that a number, an address .. tells. -/
def ex {α : Type} (f : α → Part) : Part := ⟨fun w F => ∃ a, (f a).p w F, fun ⟨a, h⟩ hl hr hd => ⟨a, (f a).kept h hl hr hd⟩⟩
/-- A fact beside it. -/
def with_ (P : Prop) (q : Part) : Part := ⟨fun w F => P ∧ q.p w F, fun h hl hr hd => ⟨h.1, q.kept h.2 hl hr hd⟩⟩
/-- Several of them, apart. -/
def Stand (ps : List Part) (w : World) (Fs : Nat → Nat → Prop) : Prop := (∀ (i : Nat) (q : Part), ps[i]? = some q → q.p w (Fs i)) ∧ ∀ (i j k : Nat), Fs i k → Fs j k → i = j
def all (ps : List Part) : Part := ⟨fun w F => ∃ Fs : Nat → Nat → Prop, Stand ps w Fs ∧ ∀ i k, Fs i k → F k, fun ⟨Fs, ⟨h1, h2⟩, h3⟩ hl hr hd => ⟨Fs, ⟨fun i q e => q.kept (h1 i q e) (fun k hk => hl k (h3 i k hk)) hr (fun k hk => hd k (h3 i k hk)), h2⟩, h3⟩⟩
end Part

/-- Since the world w0 only blocks of G were written, and new ones laid; these parts lie there, apart, in such blocks. -/
structure Own (G : Nat → Prop) (w0 w : World) (l : List Part) : Prop where
  parts : ∃ Fs : Nat → Nat → Prop, Part.Stand l w Fs ∧ ∀ i k, Fs i k → k < w.heap.size ∧ (G k ∨ w0.heap.size ≤ k)
  rest : Rest G w0 w
/-- What stands there is laid there again. -/
theorem set_same {α : Type} {l : List α} {i : Nat} {q : α} (e : l[i]? = some q) : l.set i q = l := by
  apply List.ext_getElem?
  intro j
  rw [List.getElem?_set]
  by_cases hj : i = j
  · subst hj; rw [if_pos rfl, if_pos (List.getElem?_eq_some_iff.1 e).1, e]
  · rw [if_neg hj]
namespace Own
variable {G : Nat → Prop} {w0 w w' : World} {l r : List Part} {q q' : Part} {i : Nat}
theorem start (G : Nat → Prop) (w : World) : Own G w w [] := ⟨⟨fun _ _ => False, ⟨(fun _ _ e => by cases e), (fun _ _ _ h => h.elim)⟩, (fun _ _ h => h.elim)⟩, Rest.refl _ _⟩
theorem below (h : Own G w0 w l) (hg : ∀ k, ¬G k) : Below w0.heap.size w0 w := h.rest.below (Nat.le_refl _) (fun k hk => absurd hk (hg k))
theorem size (h : Own G w0 w l) : w0.heap.size ≤ w.heap.size := h.rest.size
/-- Nothing that was there is written. -/
theorem call (h : Own G w0 w l) (hr : Rest (fun _ => False) w w') : Own G w0 w' l := by
  obtain ⟨⟨Fs, ⟨h1, h2⟩, h3⟩, h4⟩ := h
  exact ⟨⟨Fs, ⟨fun i q e => q.kept (h1 i q e) (fun k hk => (h3 i k hk).1) hr (fun _ _ => id), h2⟩, fun i k hk => ⟨Nat.lt_of_lt_of_le (h3 i k hk).1 hr.size, (h3 i k hk).2⟩⟩, h4.trans hr (fun _ _ => id) (fun _ _ => False.elim)⟩
theorem past (h : Own G w0 w l) (hb : Below w.heap.size w w') : Own G w0 w' l := h.call (Rest.of_below hb)
theorem drew (h : Own G w0 w l) : Own G w0 w.drew l := h.call (Rest.drew _ _)
theorem drewN (h : Own G w0 w l) (n : Nat) : Own G w0 (w.drewN n) l := h.call (Rest.of_below ⟨rfl, rfl, rfl, Nat.le_refl _, fun _ _ => rfl⟩)
/-- One of them: what holds of it; and it is written, by stores or a call: the others are as they were. -/
theorem part (h : Own G w0 w l) (i : Nat) (e : l[i]? = some q) : ∃ F : Nat → Prop, q.p w F ∧ (∀ k, F k → k < w.heap.size) ∧ ∀ {w' : World} {q' : Part} {F' : Nat → Prop}, q'.p w' F' → Rest F w w' → (∀ k, F' k → F k ∨ (w.heap.size ≤ k ∧ k < w'.heap.size)) → Own G w0 w' (l.set i q') := by
  obtain ⟨⟨Fs, ⟨h1, h2⟩, h3⟩, h4⟩ := h
  have hi := (List.getElem?_eq_some_iff.1 e).1
  refine ⟨Fs i, h1 i q e, fun k hk => (h3 i k hk).1, fun {w' q' F'} hq hr hF => ?_⟩
  have hFl : ∀ k, F' k → k < w'.heap.size := fun k hk => by
    rcases hF k hk with x | x
    · exact Nat.lt_of_lt_of_le (h3 i k x).1 hr.size
    · exact x.2
  refine ⟨⟨fun j k => if j = i then F' k else Fs j k, ⟨fun j q2 e2 => ?_, fun a b k ha hb => ?_⟩, fun j k hk => ?_⟩, h4.trans hr (fun _ _ => id) (fun k hk x => (h3 i k x).2.resolve_right (by omega))⟩
  · by_cases hj : j = i
    · subst hj
      rw [List.getElem?_set_self hi] at e2
      cases e2
      simp only [if_true]
      exact hq
    · rw [List.getElem?_set_ne (Ne.symm hj)] at e2
      simp only [if_neg hj]
      exact q2.kept (h1 j q2 e2) (fun k hk => (h3 j k hk).1) hr (fun k hk x => hj (h2 j i k hk x))
  · have key : ∀ a b : Nat, a = i → b ≠ i → (F' k) → Fs b k → False := fun a b _ hb' x y => by
      rcases hF k x with x | x
      · exact hb' (h2 b i k y x)
      · have := (h3 b k y).1; omega
    by_cases ha' : a = i <;> by_cases hb' : b = i
    · rw [ha', hb']
    · simp only [ha', if_true, if_neg hb'] at ha hb; exact (key a b ha' hb' ha hb).elim
    · simp only [hb', if_true, if_neg ha'] at ha hb; exact (key b a hb' ha' hb ha).elim
    · simp only [if_neg ha', if_neg hb'] at ha hb; exact h2 a b k ha hb
  · by_cases hj : j = i
    · simp only [hj, if_true] at hk
      refine ⟨hFl k hk, ?_⟩
      rcases hF k hk with x | x
      · exact (h3 i k x).2
      · exact .inr (Nat.le_trans h4.size x.1)
    · simp only [if_neg hj] at hk
      exact ⟨Nat.lt_of_lt_of_le (h3 j k hk).1 hr.size, (h3 j k hk).2⟩
/-- One is told otherwise. -/
theorem say (h : Own G w0 w l) (i : Nat) (e : l[i]? = some q) (hq : ∀ F, q.p w F → q'.p w F) : Own G w0 w (l.set i q') := by
  obtain ⟨F, h1, h2, h3⟩ := h.part i e
  exact h3 (hq F h1) (Rest.refl _ _) (fun _ => .inl)
theorem box {b : Nat} {o : Obj} (h : Own G w0 w l) (i : Nat) (e : l[i]? = some (.box b o)) : w.heap[b]? = some o := by
  obtain ⟨F, h1, -⟩ := h.part i e
  exact h1.2
/-- A box is written. -/
theorem put {b : Nat} {o o' : Obj} (h : Own G w0 w l) (i : Nat) (e : l[i]? = some (.box b o)) (hr : Rest (fun k => k = b) w w') (hn : w'.heap[b]? = some o') : Own G w0 w' (l.set i (.box b o')) := by
  obtain ⟨F, h1, -, h3⟩ := h.part i e
  exact h3 (q' := .box b o') ⟨h1.1, hn⟩ (hr.mono fun k _ hk => hk ▸ h1.1) (fun _ => .inl)
theorem set {b j : Nat} {o o' : Obj} {v : Value} (h : Own G w0 w l) (i : Nat) (e : l[i]? = some (.box b o)) (hn : (w.setCell ⟨b, j, none⟩ v).heap[b]? = some o') : Own G w0 (w.setCell ⟨b, j, none⟩ v) (l.set i (.box b o')) :=
  h.put i e (Rest.setCell (own := fun k => k = b) _ _ _ rfl) hn
/-- One more is laid by a call that lays blocks of its own. -/
theorem made (h : Own G w0 w l) (hr : Rest (fun _ => False) w w') {F : Nat → Prop} (hq : q.p w' F) (hF : ∀ k, F k → w.heap.size ≤ k ∧ k < w'.heap.size) : Own G w0 w' (q :: l) := by
  have hs := h.size
  have hr' := (h.call hr).rest
  obtain ⟨⟨Gs, ⟨k1, k2⟩, k3⟩, -⟩ := h
  refine ⟨⟨fun j k => match j with | 0 => F k | j + 1 => Gs j k, ⟨fun j q2 e2 => ?_, fun a b k ha hb => ?_⟩, fun j k hk => ?_⟩, hr'⟩
  · match j with
    | 0 => cases e2; exact hq
    | j + 1 => exact q2.kept (k1 j q2 e2) (fun k hk => (k3 j k hk).1) hr (fun _ _ => id)
  · match a, b with
    | 0, 0 => rfl
    | 0, b + 1 => have := (hF k ha).1; have := (k3 b k hb).1; omega
    | a + 1, 0 => have := (hF k hb).1; have := (k3 a k ha).1; omega
    | a + 1, b + 1 => rw [k2 a b k ha hb]
  · match j with
    | 0 => exact ⟨(hF k hk).2, .inr (Nat.le_trans hs (hF k hk).1)⟩
    | j + 1 => exact ⟨Nat.lt_of_lt_of_le (k3 j k hk).1 hr.size, (k3 j k hk).2⟩
theorem lay (h : Own G w0 w l) (o : Obj) : Own G w0 (w.alloc o) (.box w.heap.size o :: l) :=
  h.made (F := fun k => k = w.heap.size) (q := .box w.heap.size o) (Rest.alloc _ _ _) ⟨rfl, heap_alloc_new _ _⟩ (fun k hk => by subst hk; exact ⟨Nat.le_refl _, lt_of_block (heap_alloc_new w o)⟩)
theorem lay2 (h : Own G w0 w l) (o p : Obj) : Own G w0 ((w.alloc o).alloc p) (.box (w.heap.size + 1) p :: .box w.heap.size o :: l) := by
  have := (h.lay o).lay p
  simpa using this
theorem lay3 (h : Own G w0 w l) (o p q : Obj) : Own G w0 (((w.alloc o).alloc p).alloc q) (.box (w.heap.size + 1 + 1) q :: .box (w.heap.size + 1) p :: .box w.heap.size o :: l) := by
  have := (h.lay2 o p).lay q
  simpa using this
/-- Some of them, in another order. -/
theorem some_ (h : Own G w0 w l) (s : Nat → Nat) (hs : ∀ i j, s i = s j → i = j) (hq : ∀ (j : Nat) (q : Part), r[j]? = some q → l[s j]? = some q) : Own G w0 w r := by
  obtain ⟨⟨Fs, ⟨h1, h2⟩, h3⟩, h4⟩ := h
  exact ⟨⟨fun j => Fs (s j), ⟨fun j q e => h1 _ q (hq j q e), fun a b k x y => hs a b (h2 _ _ k x y)⟩, fun j k hk => h3 _ k hk⟩, h4⟩
theorem tail (h : Own G w0 w (q :: l)) : Own G w0 w l := h.some_ (· + 1) (fun _ _ e => Nat.succ.inj e) (fun _ _ e => e)
/-- The i-th comes first. -/
theorem front (h : Own G w0 w l) (i : Nat) (e : l[i]? = some q) : Own G w0 w (q :: l.eraseIdx i) := by
  refine h.some_ (fun j => match j with | 0 => i | j + 1 => if j < i then j else j + 1) (fun a b e => ?_) (fun j q e2 => ?_)
  · match a, b with
    | 0, 0 => rfl
    | 0, b + 1 => dsimp only at e; split at e <;> omega
    | a + 1, 0 => dsimp only at e; split at e <;> omega
    | a + 1, b + 1 => dsimp only at e; split at e <;> split at e <;> omega
  · match j with
    | 0 => cases e2; exact e
    | j + 1 =>
      rw [List.getElem?_cons_succ, List.getElem?_eraseIdx] at e2
      dsimp only
      split <;> rename_i hj
      · rw [if_pos hj] at e2; exact e2
      · rw [if_neg hj] at e2; exact e2
/-- .. and goes back to its place. -/
theorem back (h : Own G w0 w (q' :: l.eraseIdx i)) (hi : i < l.length) : Own G w0 w (l.set i q') := by
  refine h.some_ (fun j => if j = i then 0 else if j < i then j + 1 else j) (fun a b e => ?_) (fun j q e2 => ?_)
  · split at e <;> split at e <;> (try split at e) <;> (try split at e) <;> omega
  · by_cases hj : j = i
    · subst hj
      rw [List.getElem?_set_self hi] at e2
      rw [if_pos rfl]; exact e2
    · rw [List.getElem?_set_ne (Ne.symm hj)] at e2
      rw [if_neg hj]
      by_cases hk : j < i
      · rw [if_pos hk, List.getElem?_cons_succ, List.getElem?_eraseIdx, if_pos hk]; exact e2
      · rw [if_neg hk]
        obtain ⟨m, rfl⟩ : ∃ m, j = m + 1 := ⟨j - 1, by omega⟩
        rw [List.getElem?_cons_succ, List.getElem?_eraseIdx, if_neg (by omega)]; exact e2
theorem swap (h : Own G w0 w (q :: q' :: l)) : Own G w0 w (q' :: q :: l) := h.front 1 rfl
/-- The i-th is forgotten. -/
theorem drop (h : Own G w0 w l) (i : Nat) (e : l[i]? = some q) : Own G w0 w (l.eraseIdx i) := (h.front i e).tail
/-- Several that stand as one, one by one; and back. -/
theorem open_all (h : Own G w0 w (.all r :: l)) : Own G w0 w (r ++ l) := by
  obtain ⟨⟨Fs, ⟨h1, h2⟩, h3⟩, h4⟩ := h
  obtain ⟨Gs, ⟨g1, g2⟩, g3⟩ := h1 0 _ rfl
  refine ⟨⟨fun j k => if j < r.length then Gs j k else Fs (j - r.length + 1) k, ⟨fun j q e => ?_, fun a b k ha hb => ?_⟩, fun j k hk => ?_⟩, h4⟩
  · by_cases hj : j < r.length
    · rw [List.getElem?_append_left hj] at e
      simp only [hj, if_true]
      exact g1 j q e
    · rw [List.getElem?_append_right (Nat.le_of_not_lt hj)] at e
      simp only [if_neg hj]
      exact h1 (j - r.length + 1) q e
  · by_cases ha' : a < r.length <;> by_cases hb' : b < r.length
    · simp only [ha', hb', if_true] at ha hb; exact g2 a b k ha hb
    · simp only [ha', if_true, if_neg hb'] at ha hb; have := h2 _ _ k (g3 a k ha) hb; omega
    · simp only [hb', if_true, if_neg ha'] at ha hb; have := h2 _ _ k (g3 b k hb) ha; omega
    · simp only [if_neg ha', if_neg hb'] at ha hb; have := h2 _ _ k ha hb; omega
  · by_cases hj : j < r.length
    · simp only [hj, if_true] at hk; exact h3 0 k (g3 j k hk)
    · simp only [if_neg hj] at hk; exact h3 _ k hk
theorem close_all (h : Own G w0 w (r ++ l)) : Own G w0 w (.all r :: l) := by
  obtain ⟨⟨Fs, ⟨h1, h2⟩, h3⟩, h4⟩ := h
  refine ⟨⟨fun j k => match j with | 0 => ∃ i, i < r.length ∧ Fs i k | j + 1 => Fs (r.length + j) k, ⟨fun j q e => ?_, fun a b k ha hb => ?_⟩, fun j k hk => ?_⟩, h4⟩
  · match j with
    | 0 =>
      cases e
      refine ⟨fun i k => i < r.length ∧ Fs i k, ⟨fun i q e => ?_, fun a b k ha hb => h2 a b k ha.2 hb.2⟩, fun i k hk => ⟨i, hk⟩⟩
      have hi := (List.getElem?_eq_some_iff.1 e).1
      have hp := h1 i q (by rw [List.getElem?_append_left hi]; exact e)
      have hF : (fun k => i < r.length ∧ Fs i k) = Fs i := by funext k; simp [hi]
      exact (congrArg (q.p w) hF).mpr hp
    | j + 1 => exact h1 (r.length + j) q (by rw [List.getElem?_append_right (Nat.le_add_right _ _), Nat.add_sub_cancel_left]; exact e)
  · match a, b with
    | 0, 0 => rfl
    | 0, b + 1 => obtain ⟨i, hi, hk⟩ := ha; have := h2 _ _ k hk hb; omega
    | a + 1, 0 => obtain ⟨i, hi, hk⟩ := hb; have := h2 _ _ k hk ha; omega
    | a + 1, b + 1 => have := h2 _ _ k ha hb; omega
  · match j with
    | 0 => obtain ⟨i, hi, hk⟩ := hk; exact h3 i k hk
    | j + 1 => exact h3 _ k hk
theorem open_ex {α : Type} {f : α → Part} (h : Own G w0 w (.ex f :: l)) : ∃ a, Own G w0 w (f a :: l) := by
  obtain ⟨F, ⟨a, h1⟩, -, h3⟩ := h.part 0 rfl
  exact ⟨a, h3 (q' := f a) h1 (Rest.refl _ _) (fun _ => .inl)⟩
theorem close_ex {α : Type} {f : α → Part} {a : α} (h : Own G w0 w (f a :: l)) : Own G w0 w (.ex f :: l) := h.say 0 rfl (fun _ h => ⟨a, h⟩)
theorem open_with {P : Prop} (h : Own G w0 w (.with_ P q :: l)) : P ∧ Own G w0 w (q :: l) := by
  obtain ⟨F, ⟨h0, h1⟩, -, h3⟩ := h.part 0 rfl
  exact ⟨h0, h3 (q' := q) h1 (Rest.refl _ _) (fun _ => .inl)⟩
theorem close_with {P : Prop} (hp : P) (h : Own G w0 w (q :: l)) : Own G w0 w (.with_ P q :: l) := h.say 0 rfl (fun _ h => ⟨hp, h⟩)
/-- One of them by itself: what is done to it there is done here. -/
theorem lift (h : Own G w0 w l) (i : Nat) (e : l[i]? = some q) : ∃ F, Own F w w [q] ∧ ∀ {w' : World} {q' : Part}, Own F w w' [q'] → Own G w0 w' (l.set i q') := by
  obtain ⟨F, h1, h2, h3⟩ := h.part i e
  refine ⟨F, ⟨⟨fun j k => j = 0 ∧ F k, ⟨fun j q2 e2 => ?_, fun a b k ha hb => by rw [ha.1, hb.1]⟩, fun j k hk => ⟨h2 k hk.2, .inl hk.2⟩⟩, Rest.refl _ _⟩, fun {w' q'} k => ?_⟩
  · match j with
    | 0 =>
      cases e2
      have hF : (fun k => (0 : Nat) = 0 ∧ F k) = F := by funext k; simp
      exact (congrArg (q.p w) hF).mpr h1
    | j + 1 => cases e2
  · obtain ⟨⟨Fs, ⟨k1, -⟩, k3⟩, k4⟩ := k
    exact h3 (k1 0 q' rfl) k4 (fun k hk => ((k3 0 k hk).2).imp id (fun x => ⟨x, (k3 0 k hk).1⟩))
/-- One of them and the one that stands first, by themselves: they become one. -/
theorem lift2 {b : Part} (h : Own G w0 w (b :: l)) (i : Nat) (e : l[i]? = some q) : ∃ F, Own F w w [q, b] ∧ ∀ {w' : World} {q' : Part}, Own F w w' [q'] → Own G w0 w' (l.set i q') := by
  have h2 : Own G w0 w (q :: b :: l.eraseIdx i) := h.front (i + 1) e
  obtain ⟨F, k1, k2⟩ := (close_all (r := [q, b]) h2).lift 0 rfl
  exact ⟨F, by simpa using k1.open_all, fun k => (k2 k).back (List.getElem?_eq_some_iff.1 e).1⟩
/-- One of them by itself: it becomes two, the second one comes first. -/
theorem split (h : Own G w0 w l) (i : Nat) (e : l[i]? = some q) : ∃ F, Own F w w [q] ∧ ∀ {w' : World} {q' b : Part}, Own F w w' [q', b] → Own G w0 w' (b :: l.set i q') := by
  have hi := (List.getElem?_eq_some_iff.1 e).1
  obtain ⟨F, k1, k2⟩ := h.lift i e
  refine ⟨F, k1, fun {w' q' b} k => ?_⟩
  have h1 := (k2 (close_all (r := [q', b]) (l := []) k)).front i (by rw [List.getElem?_set_self hi])
  rw [List.eraseIdx_set_eq] at h1
  have h2 : Own G w0 w' (q' :: (b :: l).eraseIdx (i + 1)) := h1.open_all
  exact h2.back (Nat.succ_lt_succ hi)
/-- What was made beside it since. -/
theorem join (h : Own G w0 w l) (k : Own (fun _ => False) w w' r) : Own G w0 w' (r ++ l) := by
  have hs := h.size
  have hr' := (h.call k.rest).rest
  obtain ⟨⟨Ks, ⟨k1, k2⟩, k3⟩, k4⟩ := k
  obtain ⟨⟨Fs, ⟨h1, h2⟩, h3⟩, -⟩ := h
  have hK : ∀ i k, Ks i k → w.heap.size ≤ k ∧ k < w'.heap.size := fun i k hk => ⟨(k3 i k hk).2.resolve_left (fun x => x), (k3 i k hk).1⟩
  refine ⟨⟨fun j k => if j < r.length then Ks j k else Fs (j - r.length) k, ⟨fun j q e => ?_, fun a b k ha hb => ?_⟩, fun j k hk => ?_⟩, hr'⟩
  · by_cases hj : j < r.length
    · rw [List.getElem?_append_left hj] at e
      simp only [hj, if_true]
      exact k1 j q e
    · rw [List.getElem?_append_right (Nat.le_of_not_lt hj)] at e
      simp only [if_neg hj]
      exact q.kept (h1 (j - r.length) q e) (fun k hk => (h3 _ k hk).1) k4 (fun _ _ => id)
  · by_cases ha' : a < r.length <;> by_cases hb' : b < r.length
    · simp only [ha', hb', if_true] at ha hb; exact k2 a b k ha hb
    · simp only [ha', if_true, if_neg hb'] at ha hb; have := (hK a k ha).1; have := (h3 _ k hb).1; omega
    · simp only [hb', if_true, if_neg ha'] at ha hb; have := (hK b k hb).1; have := (h3 _ k ha).1; omega
    · simp only [if_neg ha', if_neg hb'] at ha hb; have := h2 _ _ k ha hb; omega
  · by_cases hj : j < r.length
    · simp only [hj, if_true] at hk; exact ⟨(hK j k hk).2, .inr (Nat.le_trans hs (hK j k hk).1)⟩
    · simp only [if_neg hj] at hk; exact ⟨Nat.lt_of_lt_of_le (h3 _ k hk).1 k4.size, (h3 _ k hk).2⟩
/-- What stands behind is forgotten. -/
theorem drops (h : Own G w0 w (r ++ l)) : Own G w0 w r := h.some_ id (fun _ _ e => e) (fun j q e => by
  rw [id, List.getElem?_append_left (List.getElem?_eq_some_iff.1 e).1]; exact e)
theorem tails (h : Own G w0 w (r ++ l)) : Own G w0 w l := h.some_ (r.length + ·) (fun _ _ e => by omega) (fun j q e => by
  rw [List.getElem?_append_right (Nat.le_add_right _ _), Nat.add_sub_cancel_left]; exact e)
/-- In any other order. -/
theorem places {α : Type} {l r : List α} (hp : l.Perm r) : ∃ s : Nat → Nat, (∀ i j, s i = s j → i = j) ∧ ∀ (j : Nat) (q : α), r[j]? = some q → l[s j]? = some q := by
  induction hp with
  | nil => exact ⟨id, fun _ _ e => e, fun _ _ e => e⟩
  | cons x _ ih =>
    obtain ⟨s, h1, h2⟩ := ih
    refine ⟨fun j => match j with | 0 => 0 | j + 1 => s j + 1, fun a b e => ?_, fun j q e => ?_⟩
    · match a, b with
      | 0, 0 => rfl
      | 0, b + 1 => dsimp only at e; omega
      | a + 1, 0 => dsimp only at e; omega
      | a + 1, b + 1 => rw [h1 a b (by dsimp only at e; omega)]
    · match j with
      | 0 => exact e
      | j + 1 => exact h2 j q e
  | swap x y l =>
    refine ⟨fun j => match j with | 0 => 1 | 1 => 0 | j + 2 => j + 2, fun a b e => ?_, fun j q e => ?_⟩
    · match a, b with
      | 0, 0 => rfl
      | 1, 1 => rfl
      | 0, 1 => dsimp only at e; omega
      | 1, 0 => dsimp only at e; omega
      | 0, b + 2 => dsimp only at e; omega
      | 1, b + 2 => dsimp only at e; omega
      | a + 2, 0 => dsimp only at e; omega
      | a + 2, 1 => dsimp only at e; omega
      | a + 2, b + 2 => dsimp only at e; omega
    · match j with
      | 0 => exact e
      | 1 => exact e
      | j + 2 => exact e
  | trans _ _ ih1 ih2 =>
    obtain ⟨s, h1, h2⟩ := ih1
    obtain ⟨t, k1, k2⟩ := ih2
    exact ⟨fun j => s (t j), fun a b e => k1 _ _ (h1 _ _ e), fun j q e => h2 _ q (k2 j q e)⟩
theorem perm (h : Own G w0 w l) (hp : l.Perm r) : Own G w0 w r := by
  obtain ⟨s, h1, h2⟩ := places hp
  exact h.some_ s h1 h2
end Own
end Go.Proofs.Ytpognlidhppnaaa
