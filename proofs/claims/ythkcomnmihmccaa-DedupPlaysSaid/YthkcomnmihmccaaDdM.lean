/- What a law keeps of calls beside a cache: its own list of entries, and how they lie in memory (31 cells). -/
import Derived.Test.YthkcomnmihmccaaDdW
namespace Go.Proofs.Ythkcomnmihmccaa
open Go.RowKit Go.Sort
namespace Dd
/-- An entry: the frame by which a call was met first, and what is known of the call. -/
structure En where
  K : Int
  S : Int
  T : Int
  G : Int
  R : Int
  su : Bool
  st : Bool
  Q : Int
  V : Int
  x : Cl
def En.cells (e : En) : List Value := [.int .i64 e.K, .int .i64 e.x.c, .int .i64 e.S, .int .i64 e.T, .int .i64 e.G, .int .u32 e.x.k, .int .i64 e.R, .bool e.su, .bool e.st, .int .i64 e.Q, .int .u32 e.V, .bool (e.x.m 0), .bool (e.x.m 1), .bool (e.x.m 2), .bool (e.x.m 3), .bool (e.x.m 4), .bool (e.x.m 5), .bool (e.x.m 6), .bool (e.x.m 7), .bool (e.x.m 8), .bool (e.x.m 9), .bool (e.x.m 10), .bool (e.x.m 11), .bool (e.x.m 12), .bool (e.x.m 13), .bool (e.x.m 14), .bool (e.x.m 15), .int .i64 e.x.r, .bool e.x.d, .bool e.x.o, .int .u32 e.x.v]
def itmE : Itm En 31 := ⟨En.cells, fun _ => rfl, fun e u hu => by
  simp only [En.cells, List.mem_cons, List.not_mem_nil, or_false] at hu
  rcases hu with rfl | rfl | rfl | rfl | rfl | rfl | rfl | rfl | rfl | rfl | rfl | rfl | rfl | rfl | rfl | rfl | rfl | rfl | rfl | rfl | rfl | rfl | rfl | rfl | rfl | rfl | rfl | rfl | rfl | rfl | rfl <;> rfl⟩
theorem En.met (e : En) : ∀ t, t < 16 → e.cells[11 + t]? = some (.bool (e.x.m t)) := fun t h => by
  rcases (show t = 0 ∨ t = 1 ∨ t = 2 ∨ t = 3 ∨ t = 4 ∨ t = 5 ∨ t = 6 ∨ t = 7 ∨ t = 8 ∨ t = 9 ∨ t = 10 ∨ t = 11 ∨ t = 12 ∨ t = 13 ∨ t = 14 ∨ t = 15 by omega) with rfl | rfl | rfl | rfl | rfl | rfl | rfl | rfl | rfl | rfl | rfl | rfl | rfl | rfl | rfl | rfl <;> rfl
theorem En.tick (e : En) {t : Nat} (h : t < 16) : En.cells { e with x := e.x.tick t } = e.cells.set (11 + t) (.bool true) := by
  rcases (show t = 0 ∨ t = 1 ∨ t = 2 ∨ t = 3 ∨ t = 4 ∨ t = 5 ∨ t = 6 ∨ t = 7 ∨ t = 8 ∨ t = 9 ∨ t = 10 ∨ t = 11 ∨ t = 12 ∨ t = 13 ∨ t = 14 ∨ t = 15 by omega) with rfl | rfl | rfl | rfl | rfl | rfl | rfl | rfl | rfl | rfl | rfl | rfl | rfl | rfl | rfl | rfl <;> rfl

theorem split {α : Type} {q : List α} {i : Nat} {x : α} (h : q[i]? = some x) : ∃ A B, q = A ++ x :: B ∧ A.length = i := by
  obtain ⟨hi, rfl⟩ := List.getElem?_eq_some_iff.1 h
  refine ⟨q.take i, q.drop (i + 1), ?_, by rw [List.length_take]; omega⟩
  rw [← List.drop_eq_getElem_cons hi]
  exact (List.take_append_drop i q).symm
theorem set_mid {α : Type} (A B : List α) (x y : α) : (A ++ x :: B).set A.length y = A ++ y :: B := by
  rw [List.set_append]; simp
theorem perm_set {α : Type} {q p : List α} {i j : Nat} {x : α} (hp : q.Perm p) (hi : q[i]? = some x) (hj : p[j]? = some x) (y : α) : (q.set i y).Perm (p.set j y) := by
  obtain ⟨A, B, rfl, rfl⟩ := split hi
  obtain ⟨C, D, rfl, rfl⟩ := split hj
  rw [set_mid, set_mid]
  exact List.perm_middle.trans ((List.Perm.cons y (List.Perm.cons_inv ((List.perm_middle.symm.trans hp).trans List.perm_middle))).trans List.perm_middle.symm)
theorem perm_cut {q p : List Cl} {i j : Nat} {x y : Cl} (hp : q.Perm p) (hi : q[i]? = some x) (hj : p[j]? = some x) (hy : q[q.length - 1]? = some y) : (cut q i y).Perm (p.take j ++ p.drop (j + 1)) := by
  obtain ⟨C, D, rfl, rfl⟩ := split hj
  have e1 : (C ++ x :: D).take C.length ++ (C ++ x :: D).drop (C.length + 1) = C ++ D := by simp
  rw [e1]
  have hq : q = q.take (q.length - 1) ++ [y] := by
    obtain ⟨hl, hy2⟩ := List.getElem?_eq_some_iff.1 hy
    conv => lhs; rw [← List.take_append_drop (q.length - 1) q, List.drop_eq_getElem_cons hl, hy2]
    rw [List.drop_of_length_le (by omega)]
  generalize hE : q.take (q.length - 1) = E at hq
  have hEl : E.length = q.length - 1 := by rw [← hE, List.length_take]; omega
  have hc : cut q i y = ((E ++ [y]).set i y).take E.length := by
    show (q.set i y).take (q.length - 1) = _
    rw [← hEl]
    conv => lhs; rw [hq]
  rw [hc]
  rw [hq] at hi hp
  by_cases hie : i < E.length
  · obtain ⟨A, B, rfl, rfl⟩ := split (show E[i]? = some x by rw [List.getElem?_append_left hie] at hi; exact hi)
    have e2 : (A ++ x :: B ++ [y]).set A.length y = A ++ y :: B ++ [y] := by
      rw [List.append_assoc, List.cons_append, set_mid]; simp
    rw [e2, List.take_append_of_le_length (by simp), List.take_of_length_le (by simp)]
    have h2 : (A ++ B ++ [y]).Perm (C ++ D) := by
      refine List.Perm.cons_inv (a := x) ((?_ : List.Perm _ _).trans (hp.trans List.perm_middle))
      rw [List.append_assoc, List.append_assoc, List.cons_append]
      exact List.perm_middle.symm
    refine List.Perm.trans ?_ h2
    rw [List.append_assoc]
    exact List.Perm.append_left A (by simpa using (List.perm_append_comm (l₁ := [y]) (l₂ := B)))
  · obtain rfl : i = E.length := by
      have := (List.getElem?_eq_some_iff.1 hi).1
      simp at this
      omega
    have hxy : x = y := by
      rw [List.getElem?_append_right (Nat.le_refl _)] at hi
      simpa using hi.symm
    subst hxy
    rw [set_mid, List.take_append_of_le_length (Nat.le_refl _), List.take_of_length_le (Nat.le_refl _)]
    exact List.Perm.cons_inv (a := x) ((List.perm_append_comm (l₁ := [x]) (l₂ := E)).trans (hp.trans List.perm_middle))

/-- The law's own list tells what the cache holds: each call once; sure is what the call's number says; a sure one was begun once. -/
structure Rel (S : Int → Bool) (n : Nat) (q : List Cl) (m : List En) : Prop where
  perm : q.Perm (m.map En.x)
  keys : (m.map fun e => (e.x.c, e.x.k)).Nodup
  room : m.length ≤ n
  sure : ∀ e ∈ m, e.su = S e.x.k
  once : ∀ e ∈ m, e.su = true → e.x.r = 1
  und : ∀ e ∈ m, e.x.d = false → e.x.v = 0 ∧ e.x.o = false
theorem Rel.nil (S : Int → Bool) (n : Nat) : Rel S n [] [] := ⟨List.Perm.nil, List.nodup_nil, Nat.zero_le _, (fun _ h => by cases h), (fun _ h => by cases h), (fun _ h => by cases h)⟩
variable {S : Int → Bool} {n : Nat} {q : List Cl} {m : List En} {c k : Int}
theorem Rel.len (h : Rel S n q m) : q.length = m.length := by rw [h.perm.length_eq, List.length_map]
theorem Rel.non (h : Rel S n q m) (hn : ∀ (j : Nat) (e : En), m[j]? = some e → ¬e.x.is c k) : Non q c k := by
  intro j y hj hy
  obtain ⟨e, he, rfl⟩ := List.mem_map.1 (h.perm.mem_iff.1 (List.mem_of_getElem? hj))
  obtain ⟨i, hi⟩ := List.mem_iff_getElem?.1 he
  exact hn i e hi hy
theorem Rel.qkeys (h : Rel S n q m) : (q.map fun x => (x.c, x.k)).Nodup := by
  have := h.perm.map (fun x : Cl => (x.c, x.k))
  refine this.nodup_iff.2 ?_
  rw [List.map_map]
  exact h.keys
theorem Rel.find (h : Rel S n q m) {j : Nat} {e : En} (hj : m[j]? = some e) (he : e.x.is c k) : ∃ i, At q c k i e.x := by
  obtain ⟨i, hi⟩ := List.mem_iff_getElem?.1 (h.perm.mem_iff.2 (List.mem_map.2 ⟨e, List.mem_of_getElem? hj, rfl⟩))
  refine ⟨i, hi, he, fun a y ha hay hy => ?_⟩
  have hk := h.qkeys
  have h1 : (q.map fun x => (x.c, x.k))[a]? = some (c, k) := by rw [List.getElem?_map, hay]; simp [hy.1, hy.2]
  have h2 : (q.map fun x => (x.c, x.k))[i]? = some (c, k) := by rw [List.getElem?_map, hi]; simp [he.1, he.2]
  obtain ⟨l1, e1⟩ := List.getElem?_eq_some_iff.1 h1
  obtain ⟨l2, e2⟩ := List.getElem?_eq_some_iff.1 h2
  exact (List.pairwise_iff_getElem.1 hk) a i l1 l2 ha (e1.trans e2.symm)
theorem Rel.add (h : Rel S n q m) (hn : ∀ (j : Nat) (e : En), m[j]? = some e → ¬e.x.is c k) (hr : m.length < n) {e : En} {t : Nat} (hx : e.x = first c k t) (hs : e.su = S k) : Rel S n (q ++ [first c k t]) (m ++ [e]) := by
  have hc : e.x.c = c := by rw [hx]; rfl
  have hk : e.x.k = k := by rw [hx]; rfl
  refine ⟨?_, ?_, by simp; omega, fun x hm => ?_, fun x hm => ?_, fun x hm => ?_⟩
  · rw [List.map_append, ← hx]
    exact h.perm.append_right _
  · rw [List.map_append]
    refine List.nodup_append.2 ⟨h.keys, by simp, fun a ha b hb e2 => ?_⟩
    obtain ⟨y, hy, rfl⟩ := List.mem_map.1 ha
    obtain ⟨j, hj⟩ := List.mem_iff_getElem?.1 hy
    simp only [List.map_cons, List.map_nil, List.mem_singleton] at hb
    rw [hb, Prod.mk.injEq] at e2
    exact hn j y hj ⟨e2.1.trans hc, e2.2.trans hk⟩
  · rcases List.mem_append.1 hm with hm | hm
    · exact h.sure x hm
    · obtain rfl := List.mem_singleton.1 hm
      rw [hs, hk]
  · rcases List.mem_append.1 hm with hm | hm
    · exact h.once x hm
    · obtain rfl := List.mem_singleton.1 hm
      intro _
      rw [hx]; rfl
  · rcases List.mem_append.1 hm with hm | hm
    · exact h.und x hm
    · obtain rfl := List.mem_singleton.1 hm
      intro _
      rw [hx]; exact ⟨rfl, rfl⟩
theorem Rel.put (h : Rel S n q m) {i j : Nat} {e : En} (hi : q[i]? = some e.x) (hj : m[j]? = some e) (x' : Cl) (hc : x'.c = e.x.c) (hk : x'.k = e.x.k) (hr : e.su = true → x'.r = 1) (hu : x'.d = false → x'.v = 0 ∧ x'.o = false) : Rel S n (q.set i x') (m.set j { e with x := x' }) := by
  have hmj : (m.map En.x)[j]? = some e.x := by rw [List.getElem?_map, hj]; rfl
  have hin : ∀ y, y ∈ m.set j { e with x := x' } → y = { e with x := x' } ∨ y ∈ m := fun y hy => (List.mem_or_eq_of_mem_set hy).symm
  refine ⟨?_, ?_, by rw [List.length_set]; exact h.room, fun y hy => ?_, fun y hy => ?_, fun y hy => ?_⟩
  · rw [List.map_set]
    exact perm_set h.perm hi hmj x'
  · rw [List.map_set]
    have : (m.map fun e => (e.x.c, e.x.k)).set j (x'.c, x'.k) = m.map fun e => (e.x.c, e.x.k) := by
      apply List.ext_getElem?
      intro a
      rw [List.getElem?_set]
      split
      · rename_i ha
        subst ha
        rw [List.getElem?_map, hj, hc, hk]
        split
        · rfl
        · rename_i hlt
          exact absurd (by rw [List.length_map]; exact (List.getElem?_eq_some_iff.1 hj).1) hlt
      · rfl
    rw [this]
    exact h.keys
  · rcases hin y hy with rfl | hy
    · show e.su = S x'.k
      rw [hk]
      exact h.sure e (List.mem_of_getElem? hj)
    · exact h.sure y hy
  · rcases hin y hy with rfl | hy
    · exact hr
    · exact h.once y hy
  · rcases hin y hy with rfl | hy
    · exact hu
    · exact h.und y hy
theorem Rel.cut (h : Rel S n q m) {i j : Nat} {e : En} {y : Cl} (hi : q[i]? = some e.x) (hj : m[j]? = some e) (hy : q[q.length - 1]? = some y) : Rel S n (cut q i y) (m.take j ++ m.drop (j + 1)) := by
  have hsub : ∀ z, z ∈ m.take j ++ m.drop (j + 1) → z ∈ m := fun z hz => by
    rcases List.mem_append.1 hz with hz | hz
    · exact List.mem_of_mem_take hz
    · exact List.mem_of_mem_drop hz
  refine ⟨?_, ?_, ?_, fun z hz => h.sure z (hsub z hz), fun z hz => h.once z (hsub z hz), fun z hz => h.und z (hsub z hz)⟩
  · rw [List.map_append, List.map_take, List.map_drop]
    exact perm_cut h.perm hi (by rw [List.getElem?_map, hj]; rfl) hy
  · obtain ⟨A, B, rfl, rfl⟩ := split hj
    have e1 : (A ++ e :: B).take A.length ++ (A ++ e :: B).drop (A.length + 1) = A ++ B := by simp
    rw [e1]
    exact h.keys.sublist (List.Sublist.map _ (List.Sublist.append_left (List.sublist_cons_self _ _) _))
  · have := h.room
    rw [List.length_append, List.length_take, List.length_drop]
    omega
theorem Rel.again (h : Rel S n q m) {i j t : Nat} {e : En} (hi : q[i]? = some e.x) (hj : m[j]? = some e) (hk : e.x.k = k) : Rel S n (q.set i (Dd.again e.x t (S k))) (m.set j { e with x := Dd.again e.x t (S k) }) := by
  refine h.put hi hj _ (by unfold Dd.again; split <;> rfl) (by unfold Dd.again; split <;> rfl) (fun hs => ?_) (by unfold Dd.again; split <;> exact h.und e (List.mem_of_getElem? hj))
  have h1 := h.sure e (List.mem_of_getElem? hj)
  rw [hk] at h1
  rw [hs] at h1
  have h2 := h.once e (List.mem_of_getElem? hj) hs
  unfold Dd.again
  rw [← h1]
  exact h2
theorem Rel.done (h : Rel S n q m) {i j : Nat} {e : En} (ok : Bool) (v : Int) (hi : q[i]? = some e.x) (hj : m[j]? = some e) : Rel S n (q.set i (e.x.done ok v)) (m.set j { e with x := e.x.done ok v }) :=
  h.put hi hj _ rfl rfl (fun hs => h.once e (List.mem_of_getElem? hj) hs) (fun hd => by cases hd)
end Dd
end Go.Proofs.Ythkcomnmihmccaa
