/- A wheel as plain lists: alarms in order, where one of a time lies, what is laid anew when the time goes on. -/
import Derived.Test.YtcjidobdbdfjlaaRfC
namespace Go.Proofs.Ytcjidobdbdfjlaa
open Go.RowKit Go.Sort

namespace Wh
/-- In order. -/
def Asc (l : List En) : Prop := l.Pairwise fun a b => a.t ≤ b.t
/-- Those of a time. -/
def at_ (t : Int) (l : List En) : List En := l.filter fun a => decide (a.t = t)
theorem at_cons (t : Int) (a : En) (l : List En) : at_ t (a :: l) = if a.t = t then a :: at_ t l else at_ t l := by
  unfold at_
  rw [List.filter_cons]
  by_cases h : a.t = t <;> simp [h]
theorem at_append (t : Int) (l m : List En) : at_ t (l ++ m) = at_ t l ++ at_ t m := by unfold at_; rw [List.filter_append]
theorem at_none {t : Int} {l : List En} (h : ∀ a ∈ l, a.t ≠ t) : at_ t l = [] := by
  unfold at_
  rw [List.filter_eq_nil_iff]
  intro a ha
  simpa using h a ha
theorem mem_at {t : Int} {l : List En} {a : En} : a ∈ at_ t l ↔ a ∈ l ∧ a.t = t := by unfold at_; simp
/-- A list in order is known by what it has of each time. -/
theorem asc_ext : ∀ {xs ys : List En}, Asc xs → Asc ys → (∀ t, at_ t xs = at_ t ys) → xs = ys
  | [], [], _, _, _ => rfl
  | [], y :: ys, _, _, h => by
    have := h y.t
    rw [at_cons, if_pos rfl] at this
    simp [at_] at this
  | x :: xs, [], _, _, h => by
    have := h x.t
    rw [at_cons, if_pos rfl] at this
    simp [at_] at this
  | x :: xs, y :: ys, hx, hy, h => by
    have hx' := List.pairwise_cons.1 hx
    have hy' := List.pairwise_cons.1 hy
    have h1 : x.t = y.t := by
      have a1 : x ∈ at_ x.t (y :: ys) := by rw [← h, mem_at]; exact ⟨List.mem_cons_self, rfl⟩
      have a2 : y ∈ at_ y.t (x :: xs) := by rw [h, mem_at]; exact ⟨List.mem_cons_self, rfl⟩
      have b1 : y.t ≤ x.t := by
        rcases List.mem_cons.1 (mem_at.1 a1).1 with e | e
        · rw [e]; exact Int.le_refl _
        · exact hy'.1 _ e
      have b2 : x.t ≤ y.t := by
        rcases List.mem_cons.1 (mem_at.1 a2).1 with e | e
        · rw [e]; exact Int.le_refl _
        · exact hx'.1 _ e
      omega
    have h2 := h x.t
    rw [at_cons, at_cons, if_pos rfl, if_pos h1.symm] at h2
    obtain ⟨rfl, h3⟩ := List.cons.inj h2
    rw [asc_ext hx'.2 hy'.2 (fun t => by
      by_cases e : x.t = t
      · subst e; exact h3
      · have := h t
        rw [at_cons, at_cons, if_neg e, if_neg e] at this
        exact this)]
theorem asc_filter {l : List En} (h : Asc l) (p : En → Bool) : Asc (l.filter p) := h.filter p
theorem at_filter (t : Int) (l : List En) (p : Int → Bool) : at_ t (l.filter fun a => p a.t) = if p t then at_ t l else [] := by
  unfold at_
  rw [List.filter_filter]
  by_cases hp : p t = true
  · rw [if_pos hp]
    apply List.filter_congr
    intro a _
    by_cases e : a.t = t
    · simp [e, hp]
    · simp [e]
  · rw [if_neg hp, List.filter_eq_nil_iff]
    intro a _
    by_cases e : a.t = t
    · simp [e, hp]
    · simp [e]

theorem put_mem {x a : En} : ∀ {l : List En}, a ∈ Rf.put x l ↔ a = x ∨ a ∈ l
  | [] => by simp [Rf.put]
  | b :: r => by
    unfold Rf.put
    split
    · simp
    · simp only [List.mem_cons, put_mem (l := r)]
      constructor
      · rintro (h | h | h)
        · exact .inr (.inl h)
        · exact .inl h
        · exact .inr (.inr h)
      · rintro (h | h | h)
        · exact .inr (.inl h)
        · exact .inl h
        · exact .inr (.inr h)
theorem asc_put (x : En) : ∀ {l : List En}, Asc l → Asc (Rf.put x l)
  | [], _ => by simp [Rf.put, Asc]
  | b :: r, h => by
    have h' := List.pairwise_cons.1 h
    unfold Rf.put
    split
    · rename_i hb
      refine List.pairwise_cons.2 ⟨fun a ha => ?_, h⟩
      rcases List.mem_cons.1 ha with rfl | ha
      · omega
      · have := h'.1 a ha; omega
    · rename_i hb
      refine List.pairwise_cons.2 ⟨fun a ha => ?_, asc_put x h'.2⟩
      rcases put_mem.1 ha with rfl | ha
      · omega
      · exact h'.1 a ha
theorem at_put (t : Int) (x : En) : ∀ {l : List En}, Asc l → at_ t (Rf.put x l) = if x.t = t then at_ t l ++ [x] else at_ t l
  | [], _ => by
    simp only [Rf.put, at_cons]
    by_cases e : x.t = t <;> simp [e, at_]
  | b :: r, h => by
    have h' := List.pairwise_cons.1 h
    unfold Rf.put
    split
    · rename_i hb
      rw [at_cons]
      by_cases e : x.t = t
      · rw [if_pos e, if_pos e, at_none (l := b :: r) (fun a ha => by
          rcases List.mem_cons.1 ha with rfl | ha
          · omega
          · have := h'.1 a ha; omega)]
        rfl
      · rw [if_neg e, if_neg e]
    · rename_i hb
      rw [at_cons, at_cons, at_put t x h'.2]
      by_cases e : x.t = t <;> by_cases e2 : b.t = t <;> simp [e, e2]
/-- Laid one behind the other. -/
def putAll (l : List En) (xs : List En) : List En := xs.foldl (fun l a => Rf.put a l) l
theorem asc_putAll : ∀ (xs : List En) {l : List En}, Asc l → Asc (putAll l xs)
  | [], _, h => h
  | a :: r, _, h => asc_putAll r (asc_put a h)
theorem at_putAll (t : Int) : ∀ (xs : List En) {l : List En}, Asc l → at_ t (putAll l xs) = at_ t l ++ at_ t xs
  | [], l, _ => by simp [putAll, at_]
  | a :: r, l, h => by
    have := at_putAll t r (asc_put a h)
    show at_ t (putAll (Rf.put a l) r) = _
    rw [this, at_put t a h, at_cons]
    by_cases e : a.t = t <;> simp [e]
theorem putAll_append (l xs ys : List En) : putAll l (xs ++ ys) = putAll (putAll l xs) ys := by unfold putAll; rw [List.foldl_append]
theorem putAll_length : ∀ (xs l : List En), (putAll l xs).length = l.length + xs.length
  | [], l => by simp [putAll]
  | a :: r, l => by
    show (putAll (Rf.put a l) r).length = _
    rw [putAll_length r, Rf.put_length, List.length_cons]
    omega

/-- What lies in a place, where those of a time lie as loc tells. -/
def spread (M : List En) (loc : Int → Nat) (q : Nat) : List En := M.filter fun a => decide (loc a.t = q)
theorem asc_spread {M : List En} (h : Asc M) (loc : Int → Nat) (q : Nat) : Asc (spread M loc q) := asc_filter h _
theorem at_spread (t : Int) (M : List En) (loc : Int → Nat) (q : Nat) : at_ t (spread M loc q) = if loc t = q then at_ t M else [] := by
  have := at_filter t M (fun x => decide (loc x = q))
  simp only [decide_eq_true_eq] at this
  exact this
theorem spread_le (M : List En) (loc : Int → Nat) (q : Nat) : (spread M loc q).length ≤ M.length := List.length_filter_le _ _
theorem spread_mem {M : List En} {loc : Int → Nat} {q : Nat} {a : En} : a ∈ spread M loc q ↔ a ∈ M ∧ loc a.t = q := by unfold spread; simp

/-- One more place. -/
def upd {α : Type} (F : Nat → α) (q : Nat) (x : α) : Nat → α := fun r => if r = q then x else F r
theorem upd_same {α : Type} (F : Nat → α) (q : Nat) (x : α) : upd F q x q = x := if_pos rfl
theorem upd_other {α : Type} {F : Nat → α} {q r : Nat} {x : α} (h : r ≠ q) : upd F q x r = F r := if_neg h

/-- One is laid. -/
theorem spread_put {M : List En} (h : Asc M) (loc : Int → Nat) (x : En) : spread (Rf.put x M) loc = upd (spread M loc) (loc x.t) (Rf.put x (spread M loc (loc x.t))) := by
  funext q
  by_cases e : q = loc x.t
  · subst e
    rw [upd_same]
    refine asc_ext (asc_spread (asc_put x h) _ _) (asc_put x (asc_spread h _ _)) (fun t => ?_)
    rw [at_spread, at_put t x (asc_spread h _ _), at_put t x h, at_spread]
    by_cases e2 : x.t = t
    · subst e2; simp
    · simp [e2]
  · rw [upd_other e]
    refine asc_ext (asc_spread (asc_put x h) _ _) (asc_spread h _ _) (fun t => ?_)
    rw [at_spread, at_put t x h, at_spread]
    by_cases e2 : x.t = t
    · subst e2
      have e' : ¬ loc x.t = q := fun h => e h.symm
      simp [e']
    · simp [e2]

/-- What is in a place is laid anew, so far. -/
def part (F : Nat → List En) (home : Int → Nat) (p : Nat) (ys : List En) (k : Nat) : Nat → List En := fun q => putAll (if q = p then [] else F q) ((ys.take k).filter fun a => decide (home a.t = q))
theorem part_zero (F : Nat → List En) (home : Int → Nat) (p : Nat) (ys : List En) : part F home p ys 0 = upd F p [] := by
  funext q
  simp [part, putAll, upd]
theorem part_next (F : Nat → List En) (home : Int → Nat) (p : Nat) {ys : List En} {k : Nat} (h : k < ys.length) : part F home p ys (k + 1) = upd (part F home p ys k) (home (Hp.e ys k).t) (Rf.put (Hp.e ys k) (part F home p ys k (home (Hp.e ys k).t))) := by
  funext q
  unfold part
  rw [Rf.take_next h, List.filter_append]
  by_cases e : q = home (Hp.e ys k).t
  · subst e
    rw [upd_same, putAll_append]
    simp [putAll]
  · rw [upd_other e, putAll_append]
    have : ¬ home (Hp.e ys k).t = q := fun h => e h.symm
    simp [putAll, this]
theorem part_asc {F : Nat → List En} (hF : ∀ q, Asc (F q)) (home : Int → Nat) (p : Nat) (ys : List En) (k q : Nat) : Asc (part F home p ys k q) := by
  unfold part
  refine asc_putAll _ ?_
  split
  · exact List.Pairwise.nil
  · exact hF q
theorem part_len (F : Nat → List En) (home : Int → Nat) (p : Nat) (ys : List En) (k q : Nat) : (part F home p ys k q).length ≤ (F q).length + ys.length := by
  unfold part
  rw [putAll_length]
  have h1 := List.length_filter_le (fun a : En => decide (home a.t = q)) (ys.take k)
  rw [List.length_take] at h1
  split
  · simp; omega
  · omega
/-- Behind all: those that lay there lie where they belong. -/
theorem part_end {M : List En} (h : Asc M) (loc home : Int → Nat) (p : Nat) : part (spread M loc) home p (spread M loc p) (spread M loc p).length = spread M (fun t => if loc t = p then home t else loc t) := by
  funext q
  unfold part
  rw [List.take_length]
  have hb : Asc (if q = p then [] else spread M loc q) := by
    split
    · exact List.Pairwise.nil
    · exact asc_spread h _ _
  refine asc_ext (asc_putAll _ hb) (asc_spread h _ _) (fun t => ?_)
  rw [at_putAll t _ hb, at_spread]
  have hf := at_filter t (spread M loc p) (fun x => decide (home x = q))
  simp only [decide_eq_true_eq] at hf
  rw [hf, at_spread]
  by_cases e1 : loc t = p
  · rw [if_pos e1, if_pos e1]
    have : at_ t (if q = p then [] else spread M loc q) = [] := by
      split
      · rfl
      · rename_i hq
        rw [at_spread, if_neg (fun e => hq (by rw [← e, e1]))]
    rw [this, List.nil_append]
  · rw [if_neg e1, if_neg e1]
    have : (if home t = q then ([] : List En) else []) = [] := by split <;> rfl
    rw [this, List.append_nil]
    split
    · rename_i hq
      subst hq
      rw [if_neg e1]; rfl
    · rw [at_spread]
theorem part_end' {M : List En} {loc loc' : Int → Nat} (h : ∀ t, (∃ a ∈ M, a.t = t) → loc t = loc' t) : spread M loc = spread M loc' := by
  funext q
  apply List.filter_congr
  intro a ha
  rw [h a.t ⟨a, ha, rfl⟩]

/-- Where one of a time lies: 0 what has come, then three rounds of 16 places, 49 what is farther off. -/
def home (now t : Int) : Nat :=
  if t ≤ now then 0 else if t / 16 = now / 16 then 1 + (t % 16).toNat else if t / 256 = now / 256 then 17 + (t / 16 % 16).toNat else if t / 4096 = now / 4096 then 33 + (t / 256 % 16).toNat else 49
theorem home_lt (now t : Int) : home now t < 50 := by unfold home; (repeat' split) <;> omega
theorem home_zero (now t : Int) : home now t = 0 ↔ t ≤ now := by unfold home; (repeat' split) <;> omega

/-- So many levels' rounds have passed: each of their places was laid anew, from the place that the time came to downward. -/
def passed (now was w : Int) (t : Int) (base : Nat) (n : Nat) : Prop := ∃ k : Nat, k < n ∧ home was t = base + ((now - k * w) / w % 16).toNat

/-- What would lie elsewhere by the new time lies in a place that is passed by. -/
theorem moved {was now t : Int} (_ : 0 ≤ was) (hn : was ≤ now) (_ht : 0 ≤ t) (hm : home was t ≠ home now t) :
    (∃ k : Nat, (k : Int) < min (now / 1 - was / 1) 16 ∧ home was t = 1 + ((now - k * 1) / 1 % 16).toNat) ∨ (∃ k : Nat, (k : Int) < min (now / 16 - was / 16) 16 ∧ home was t = 17 + ((now - k * 16) / 16 % 16).toNat) ∨
    (∃ k : Nat, (k : Int) < min (now / 256 - was / 256) 16 ∧ home was t = 33 + ((now - k * 256) / 256 % 16).toNat) ∨ (now / 4096 ≠ was / 4096 ∧ home was t = 49) := by
  unfold home at hm ⊢
  by_cases c1 : t ≤ was
  · rw [if_pos c1, if_pos (show t ≤ now by omega)] at hm
    exact absurd rfl hm
  · rw [if_neg c1] at hm ⊢
    by_cases c2 : t / 16 = was / 16
    · rw [if_pos c2] at hm ⊢
      have : t ≤ now := by
        by_cases c : t ≤ now
        · exact c
        · rw [if_neg c, if_pos (show t / 16 = now / 16 by omega)] at hm
          exact absurd rfl hm
      left
      refine ⟨((now - t) % 16).toNat, by omega, ?_⟩
      have e : (((now - t) % 16).toNat : Int) = (now - t) % 16 := by omega
      rw [e]
      omega
    · rw [if_neg c2] at hm ⊢
      by_cases c3 : t / 256 = was / 256
      · rw [if_pos c3] at hm ⊢
        have : t / 16 ≤ now / 16 := by
          by_cases c : t ≤ now
          · omega
          · rw [if_neg c] at hm
            by_cases d : t / 16 = now / 16
            · omega
            · rw [if_neg d, if_pos (show t / 256 = now / 256 by omega)] at hm
              exact absurd rfl hm
        right; left
        refine ⟨((now / 16 - t / 16) % 16).toNat, by omega, ?_⟩
        have e : (((now / 16 - t / 16) % 16).toNat : Int) = (now / 16 - t / 16) % 16 := by omega
        rw [e]
        omega
      · rw [if_neg c3] at hm ⊢
        by_cases c4 : t / 4096 = was / 4096
        · rw [if_pos c4] at hm ⊢
          have : t / 256 ≤ now / 256 := by
            by_cases c : t ≤ now
            · omega
            · rw [if_neg c] at hm
              by_cases d : t / 16 = now / 16
              · omega
              · rw [if_neg d] at hm
                by_cases d2 : t / 256 = now / 256
                · omega
                · rw [if_neg d2, if_pos (show t / 4096 = now / 4096 by omega)] at hm
                  exact absurd rfl hm
          right; right; left
          refine ⟨((now / 256 - t / 256) % 16).toNat, by omega, ?_⟩
          have e : (((now / 256 - t / 256) % 16).toNat : Int) = (now / 256 - t / 256) % 16 := by omega
          rw [e]
          omega
        · rw [if_neg c4] at hm ⊢
          right; right; right
          refine ⟨fun e => ?_, rfl⟩
          rw [if_neg (show ¬ t ≤ now by omega), if_neg (show ¬ t / 16 = now / 16 by omega), if_neg (show ¬ t / 256 = now / 256 by omega), if_neg (show ¬ t / 4096 = now / 4096 by omega)] at hm
          exact absurd rfl hm

/-- One is left out. -/
theorem asc_without (x : En) {M : List En} (h : Asc M) : Asc (Rf.without x M) := asc_filter h _
theorem spread_without (x : En) (M : List En) (loc : Int → Nat) (q : Nat) : spread (Rf.without x M) loc q = Rf.without x (spread M loc q) := by
  unfold spread Rf.without
  rw [List.filter_filter, List.filter_filter]
  apply List.filter_congr
  intro a _
  rw [Bool.and_comm]
/-- Each one is of another slot, or for something else. -/
def Alone (M : List En) : Prop := M.Pairwise fun a b => Rf.same a b = false
theorem same_symm (a b : En) : Rf.same a b = Rf.same b a := by
  unfold Rf.same
  rw [decide_eq_decide.2 (eq_comm (a := a.c)), decide_eq_decide.2 (eq_comm (a := a.s)), decide_eq_decide.2 (eq_comm (a := a.x))]
theorem same_iff {a b : En} : Rf.same a b = true ↔ a.c = b.c ∧ a.s = b.s ∧ a.x = b.x := by simp [Rf.same, and_assoc]
theorem Alone.filter {M : List En} (h : Alone M) (p : En → Bool) : Alone (M.filter p) := List.Pairwise.filter p h
theorem alone_put {x : En} : ∀ {M : List En}, Alone M → (∀ a ∈ M, Rf.same a x = false) → Alone (Rf.put x M)
  | [], _, _ => by simp [Rf.put, Alone]
  | b :: r, h, hx => by
    have h' := List.pairwise_cons.1 h
    unfold Rf.put
    split
    · refine List.pairwise_cons.2 ⟨fun a ha => ?_, h⟩
      rw [same_symm]
      exact hx a ha
    · refine List.pairwise_cons.2 ⟨fun a ha => ?_, alone_put h'.2 (fun a ha => hx a (List.mem_cons_of_mem _ ha))⟩
      rcases put_mem.1 ha with rfl | ha
      · exact hx b List.mem_cons_self
      · exact h'.1 a ha
/-- The first of the same, where it is. -/
def idx (x : En) (l : List En) : Nat := l.findIdx fun b => Rf.same b x
theorem without_none {x : En} {l : List En} (h : ∀ a ∈ l, Rf.same a x = false) : Rf.without x l = l := by
  unfold Rf.without
  rw [List.filter_eq_self]
  intro a ha
  simp [h a ha]
theorem without_at {x : En} : ∀ {l : List En} {i : Nat}, Alone l → i < l.length → Rf.same (Hp.e l i) x = true → Rf.without x l = l.take i ++ l.drop (i + 1)
  | [], _, _, h, _ => absurd h (Nat.not_lt_zero _)
  | b :: r, 0, h, _, hs => by
    have h' := List.pairwise_cons.1 h
    have hb : Rf.same b x = true := hs
    have : Rf.without x r = r := without_none (fun a ha => by
      have := h'.1 a ha
      cases hc : Rf.same a x
      · rfl
      · rw [same_iff] at hb hc
        rw [show Rf.same b a = true from same_iff.2 ⟨by omega, by omega, by omega⟩] at this
        exact absurd this (by decide))
    simp only [List.take_zero, List.nil_append, List.drop_succ_cons, List.drop_zero, Nat.zero_add]
    rw [show Rf.without x (b :: r) = Rf.without x r by simp [Rf.without, hb], this]
  | b :: r, i + 1, h, hi, hs => by
    have h' := List.pairwise_cons.1 h
    have hs' : Rf.same (Hp.e r i) x = true := hs
    have hi' : i < r.length := by simpa using hi
    have hb : Rf.same b x = false := by
      cases hc : Rf.same b x
      · rfl
      · have hm := h'.1 (Hp.e r i) (by rw [Hp.e_in hi']; exact List.getElem_mem hi')
        rw [same_iff] at hc hs'
        rw [show Rf.same b (Hp.e r i) = true from same_iff.2 ⟨by omega, by omega, by omega⟩] at hm
        exact absurd hm (by decide)
    have := without_at (x := x) h'.2 hi' hs'
    simp only [List.take_succ_cons, List.drop_succ_cons, List.cons_append]
    rw [show Rf.without x (b :: r) = b :: Rf.without x r by simp [Rf.without, hb], this]

/-- How many have come: what lies in the first place. -/
theorem come_spread (now : Int) : ∀ M : List En, (spread M (home now) 0).length = Rf.come now M
  | [] => rfl
  | a :: r => by
    have ih := come_spread now r
    unfold spread at ih ⊢
    rw [List.filter_cons]
    have h0 := home_zero now a.t
    by_cases h : a.t ≤ now
    · rw [if_pos (by simpa using h0.2 h)]
      simp only [List.length_cons, Rf.come, if_pos h, ih]
      omega
    · rw [if_neg (by simpa using fun e => h (h0.1 e))]
      simp only [Rf.come, if_neg h, ih]
      omega
/-- So many in the first so many places. -/
def total (F : Nat → List En) : Nat → Nat
  | 0 => 0
  | n + 1 => total F n + (F n).length
theorem total_spread (M : List En) (loc : Int → Nat) : ∀ n, total (spread M loc) n = (M.filter fun a => decide (loc a.t < n)).length
  | 0 => by
    rw [show (M.filter fun a => decide (loc a.t < 0)) = [] by rw [List.filter_eq_nil_iff]; intro a _; simp]
    rfl
  | n + 1 => by
    simp only [total, total_spread M loc n]
    induction M with
    | nil => rfl
    | cons a r ih =>
      unfold spread at ih ⊢
      rw [List.filter_cons, List.filter_cons, List.filter_cons]
      by_cases h1 : loc a.t < n
      · rw [if_pos (by simpa using h1), if_neg (by simp; omega), if_pos (by simp; omega)]
        simp only [List.length_cons]; omega
      · by_cases h2 : loc a.t = n
        · rw [if_neg (by simpa using h1), if_pos (by simpa using h2), if_pos (by simp; omega)]
          simp only [List.length_cons]; omega
        · rw [if_neg (by simpa using h1), if_neg (by simpa using h2), if_neg (by simp; omega)]
          exact ih
theorem total_all (M : List En) (now : Int) : total (spread M (home now)) 50 = M.length := by
  rw [total_spread]
  congr 1
  rw [List.filter_eq_self]
  intro a _
  simpa using home_lt now a.t
end Wh
end Go.Proofs.Ytcjidobdbdfjlaa
