/- Entries in the order of their laying: which is the first of the earliest, what is left behind it. -/
import Derived.Test.YtfjhknmpolhfeaaHpMath
namespace Go.Proofs.Ytfjhknmpolhfeaa
namespace Hp

theorem cut_perm {g : List En} {i : Nat} (hi : i < g.length) : g.Perm (e g i :: (g.take i ++ g.drop (i + 1))) := by
  have h : g = g.take i ++ g[i] :: g.drop (i + 1) := by rw [← List.drop_eq_getElem_cons hi]; exact (List.take_append_drop i g).symm
  rw [e_in hi]
  conv => lhs; rw [h]
  exact List.perm_middle

/-- The root is one of them, and none comes ahead of it. -/
theorem root_mem {q g : List En} (hp : q.Perm g) (hh : Heap q q.length) (h0 : q.length ≠ 0) : e q 0 ∈ g ∧ ∀ x, x ∈ g → En.lt x (e q 0) = false := by
  constructor
  · have h : e q 0 ∈ q := by rw [e_in (by omega)]; exact List.getElem_mem _
    exact hp.mem_iff.1 h
  · intro x hx
    have hx := hp.mem_iff.2 hx
    obtain ⟨i, hi, rfl⟩ := List.getElem_of_mem hx
    rw [← e_in hi]
    exact hh.root i hi
/-- What is left. -/
theorem left {q q' g : List En} {i : Nat} (hp : q.Perm g) (hq : q.Perm (e q 0 :: q')) (hi : i < g.length) (he : e g i = e q 0) : q'.Perm (g.take i ++ g.drop (i + 1)) := by
  have h1 := cut_perm hi
  rw [he] at h1
  exact List.Perm.cons_inv (hq.symm.trans (hp.trans h1))

/-- In the order of their laying, so many were laid, each at a time that comes. -/
structure Laid (n : Int) (g : List En) : Prop where
  n0 : 0 ≤ n
  ord : g.Pairwise (fun a b => a.n < b.n)
  lt : ∀ x, x ∈ g → x.n < n
  tm : ∀ x, x ∈ g → 0 ≤ x.t ∧ x.t < 1099511627776

theorem laid_nil : Laid 0 [] := ⟨Int.le_refl _, List.Pairwise.nil, fun _ h => by simp at h, fun _ h => by simp at h⟩
theorem Laid.put {n : Int} {g : List En} (h : Laid n g) (x : En) (hx : x.n = n) (h0 : 0 ≤ x.t) (h1 : x.t < 1099511627776) : Laid (n + 1) (g ++ [x]) := by
  refine ⟨by have := h.n0; omega, ?_, fun y hy => ?_, fun y hy => ?_⟩
  · rw [List.pairwise_append]
    exact ⟨h.ord, List.pairwise_singleton _ _, fun a ha b hb => by simp at hb; subst hb; rw [hx]; exact h.lt a ha⟩
  · rcases List.mem_append.1 hy with hy | hy
    · have := h.lt y hy; omega
    · simp at hy; subst hy; omega
  · rcases List.mem_append.1 hy with hy | hy
    · exact h.tm y hy
    · simp at hy; subst hy; exact ⟨h0, h1⟩
theorem cut_sub {g : List En} (i : Nat) : (g.take i ++ g.drop (i + 1)).Sublist g := by
  rw [← List.eraseIdx_eq_take_drop_succ]
  exact List.eraseIdx_sublist _ _
theorem Laid.cut {n : Int} {g : List En} (h : Laid n g) (i : Nat) : Laid n (g.take i ++ g.drop (i + 1)) :=
  ⟨h.n0, h.ord.sublist (cut_sub i), fun x hx => h.lt x ((cut_sub i).subset hx), fun x hx => h.tm x ((cut_sub i).subset hx)⟩

/-- The i-th is the first of the earliest. -/
def Best (g : List En) (i : Nat) : Prop := i < g.length ∧ (∀ k, k < g.length → (e g i).t ≤ (e g k).t) ∧ ∀ k, k < i → (e g i).t < (e g k).t
theorem Laid.later {n : Int} {g : List En} (h : Laid n g) {i j : Nat} (hij : i < j) (hj : j < g.length) : (e g i).n < (e g j).n := by
  rw [e_in hj, e_in (by omega)]
  exact (List.pairwise_iff_getElem.1 h.ord) i j _ _ hij
/-- It is the heap's root. -/
theorem Best.root {n : Int} {q g : List En} {i : Nat} (hb : Best g i) (hl : Laid n g) (hp : q.Perm g) (hh : Heap q q.length) : e g i = e q 0 := by
  obtain ⟨hi, hle, hlt⟩ := hb
  have hql : q.length ≠ 0 := by rw [hp.length_eq]; omega
  obtain ⟨hm, hr⟩ := root_mem hp hh hql
  obtain ⟨k, hk, hke⟩ := List.getElem_of_mem hm
  rw [← e_in hk] at hke
  have h1 := hr (e g i) (by rw [e_in hi]; exact List.getElem_mem _)
  rw [← hke] at h1 ⊢
  rw [En.not_lt] at h1
  have h2 := hle k hk
  rcases Nat.lt_trichotomy k i with hki | rfl | hki
  · have := hlt k hki; omega
  · rfl
  · have := hl.later hki hk; omega
end Hp
end Go.Proofs.Ytfjhknmpolhfeaa
