/- A row behind a slice that may begin anywhere in its block: its head is taken off, its end grows; what else the world does leaves it. -/
import Derived.Test.YtpognlidhppnaaaRows
import Derived.WalkKit
import Derived.Below
import Derived.OneCell
import Derived.Lib.Hide
import Derived.ArgAppend
import Derived.Maps.AppendAt
namespace Go.Proofs.Ytpognlidhppnaaa
open Go.RowKit

/-- The values lie behind the slice, which is not nil, in a block from B on. -/
def Row (w : World) (B : Nat) (t : TypeId) (v : Value) (xs : List Value) : Prop :=
  ∃ g off cap cur, v = .slice (some ⟨g, off, none⟩) xs.length cap ∧ B ≤ g ∧ w.heap[g]? = some (.cells cur t (0, 0)) ∧ xs.length ≤ cap ∧ cap ≤ maxLen ∧ off + cap ≤ cur.size ∧ ∀ j u, xs[j]? = some u → cur[off + j]? = some u

/-- .. or it is nil, and there are none. -/
def Line (w : World) (B : Nat) (t : TypeId) (v : Value) (xs : List Value) : Prop := (v = .slice none 0 0 ∧ xs = []) ∨ Row w B t v xs

theorem Line.nil (w : World) (B : Nat) (t : TypeId) : Line w B t (.slice none 0 0) [] := .inl ⟨rfl, rfl⟩
theorem Row.line {w : World} {B : Nat} {t : TypeId} {v : Value} {xs : List Value} (h : Row w B t v xs) : Line w B t v xs := .inr h

theorem Row.owned {w : World} {B : Nat} {t : TypeId} {v : Value} {n : Nat} {xs : List Value} (h : w.ownsRow B t 1 v n xs) (hv : v ≠ .slice none 0 0) : Row w B t v xs := by
  obtain ⟨h1, h2⟩ := h
  have hn : xs.length = n := by simpa using h1
  rcases h2 with ⟨e, _⟩ | ⟨g, cap, cur, rfl, hb, hg, hnc, hcm, hcs, htake⟩
  · exact absurd e hv
  · refine ⟨g, 0, cap, cur, by rw [hn], hb, hg, by omega, hcm, by rw [hcs]; omega, fun j u hj => ?_⟩
    have hk : (cur.toList.take (n * 1))[j]? = some u := by rw [htake]; exact hj
    rw [List.getElem?_take] at hk
    split at hk
    · simpa using hk
    · cases hk
theorem Line.owned {w : World} {B : Nat} {t : TypeId} {v : Value} {n : Nat} {xs : List Value} (h : w.ownsRow B t 1 v n xs) : Line w B t v xs := by
  by_cases hv : v = .slice none 0 0
  · subst hv
    obtain ⟨h1, h2⟩ := h
    rcases h2 with ⟨_, rfl⟩ | ⟨g, cap, cur, e, _⟩
    · exact .inl ⟨rfl, List.eq_nil_of_length_eq_zero (by simpa using h1)⟩
    · cases e
  · exact .inr (Row.owned h hv)

theorem Row.lt {w : World} {B : Nat} {t : TypeId} {v : Value} {xs : List Value} (h : Row w B t v xs) {k : Nat} (hk : v.ownBlock = some k) : B ≤ k ∧ k < w.heap.size := by
  obtain ⟨g, off, cap, cur, rfl, hb, hg, -⟩ := h
  simp only [Value.ownBlock, Option.some.injEq] at hk
  subst hk
  exact ⟨hb, lt_of_block hg⟩
theorem Line.lt {w : World} {B : Nat} {t : TypeId} {v : Value} {xs : List Value} (h : Line w B t v xs) {k : Nat} (hk : v.ownBlock = some k) : B ≤ k ∧ k < w.heap.size := by
  rcases h with ⟨rfl, _⟩ | h
  · cases hk
  · exact h.lt hk

theorem Row.kept {w w' : World} {B : Nat} {t : TypeId} {v : Value} {xs : List Value} (h : Row w B t v xs) (hb : ∀ k, v.ownBlock = some k → w'.heap[k]? = w.heap[k]?) : Row w' B t v xs := by
  obtain ⟨g, off, cap, cur, rfl, h1, hg, r⟩ := h
  exact ⟨g, off, cap, cur, rfl, h1, (hb g rfl).trans hg, r⟩
theorem Line.kept {w w' : World} {B : Nat} {t : TypeId} {v : Value} {xs : List Value} (h : Line w B t v xs) (hb : ∀ k, v.ownBlock = some k → w'.heap[k]? = w.heap[k]?) : Line w' B t v xs := by
  rcases h with h | h
  · exact .inl h
  · exact .inr (h.kept hb)
theorem Row.lower {w : World} {B B' : Nat} {t : TypeId} {v : Value} {xs : List Value} (h : Row w B t v xs) (hB : B' ≤ B) : Row w B' t v xs := by
  obtain ⟨g, off, cap, cur, rfl, h1, r⟩ := h
  exact ⟨g, off, cap, cur, rfl, by omega, r⟩
theorem Line.lower {w : World} {B B' : Nat} {t : TypeId} {v : Value} {xs : List Value} (h : Line w B t v xs) (hB : B' ≤ B) : Line w B' t v xs := by
  rcases h with h | h
  · exact .inl h
  · exact .inr (h.lower hB)

/-- Its cells. -/
theorem Row.cells {w : World} {B : Nat} {t : TypeId} {v : Value} {xs : List Value} (h : Row w B t v xs) : ∃ g off cap, v = .slice (some ⟨g, off, none⟩) xs.length cap ∧ xs.length ≤ cap ∧ cap ≤ maxLen ∧ ∀ j u, xs[j]? = some u → w.cell? ⟨g, off + j, none⟩ = some u := by
  obtain ⟨g, off, cap, cur, rfl, h1, hg, hl, hm, hs, hc⟩ := h
  exact ⟨g, off, cap, rfl, hl, hm, fun j u hj => by rw [cell_of_row _ _ _ _ _ _ hg]; exact hc j u hj⟩
theorem Line.shape {w : World} {B : Nat} {t : TypeId} {v : Value} {xs : List Value} (h : Line w B t v xs) : ∃ a cap, v = .slice a xs.length cap := by
  rcases h with ⟨rfl, rfl⟩ | ⟨g, off, cap, cur, rfl, -⟩
  · exact ⟨none, 0, rfl⟩
  · exact ⟨_, cap, rfl⟩

/-- Its head is taken off. -/
theorem Row.tail {w : World} {B : Nat} {t : TypeId} {g off cap : Nat} {x : Value} {xs : List Value} (h : Row w B t (.slice (some ⟨g, off, none⟩) (xs.length + 1) cap) (x :: xs)) :
    Row w B t (sliced (some ⟨g, off, none⟩) 1 (xs.length + 1) cap 1) xs := by
  obtain ⟨g', off', cap', cur, e, h1, hg, hl, hm, hs, hc⟩ := h
  simp only [Value.slice.injEq, Option.some.injEq, Addr.mk.injEq, and_true] at e
  obtain ⟨⟨rfl, rfl⟩, _, rfl⟩ := e
  simp only [List.length_cons] at hl
  by_cases e1 : cap = 1
  · subst e1
    have hx : xs = [] := List.eq_nil_of_length_eq_zero (by omega)
    subst hx
    exact ⟨g, off, 0, cur, by simp [sliced], h1, hg, Nat.le_refl _, Nat.zero_le _, by omega, fun j u hj => by simp at hj⟩
  · refine ⟨g, off + 1, cap - 1, cur, by simp [sliced, e1, Addr.add], h1, hg, by omega, by omega, by omega, fun j u hj => ?_⟩
    have := hc (j + 1) u (by simpa using hj)
    rw [show off + 1 + j = off + (j + 1) by omega]
    exact this
theorem sliced_block (g off n cap s : Nat) (l : Nat) : (sliced (some ⟨g, off, none⟩) l n cap s).ownBlock = some g := by
  unfold sliced
  split
  · rfl
  · simp [Value.ownBlock, Addr.add]
    split <;> rfl

theorem heap_setCells (b : Nat) {t : TypeId} : ∀ (vs : List Value) (o : Nat) (w : World) (cur : Array Value), w.heap[b]? = some (.cells cur t (0, 0)) →
    ∃ cur', (w.setCells b o vs).heap[b]? = some (.cells cur' t (0, 0)) ∧ cur'.size = cur.size ∧ (∀ k, k < o → cur'[k]? = cur[k]?) ∧ ∀ j u, vs[j]? = some u → o + j < cur.size → cur'[o + j]? = some u
  | [], _, _, cur, h => ⟨cur, h, rfl, fun _ _ => rfl, fun j u hj => by simp at hj⟩
  | v :: r, o, w, cur, h => by
    obtain ⟨cur', h1, h2, h3, h4⟩ := heap_setCells b r (o + 1) (w.setCell ⟨b, o, none⟩ v) (cur.setIfInBounds o v) (heap_setCell_same w b o _ _ _ h)
    refine ⟨cur', h1, by simpa using h2, fun k hk => ?_, fun j u hj hlt => ?_⟩
    · rw [h3 k (by omega), Array.getElem?_setIfInBounds_ne (by omega)]
    · match j, hj with
      | 0, hj =>
        simp at hj
        subst hj
        rw [h3 (o + 0) (by omega)]
        simp at hlt
        simp [hlt]
      | j + 1, hj =>
        have := h4 j u (by simpa using hj) (by simp; omega)
        rw [show o + (j + 1) = o + 1 + j by omega]
        exact this
theorem grown_setCells (b : Nat) : ∀ (vs : List Value) (o : Nat) (w : World), w.grownBy (w.setCells b o vs) (some b)
  | [], _, w => ⟨rfl, rfl, rfl, Nat.le_refl _, fun _ _ _ => rfl⟩
  | v :: r, o, w => by
    have h1 : w.grownBy (w.setCell ⟨b, o, none⟩ v) (some b) := ⟨rfl, rfl, rfl, by simp [World.setCell], fun k _ hk => Below.heap_setCell _ _ _ _ (fun e => hk (by rw [e]))⟩
    exact h1.trans (grown_setCells b r (o + 1) _)
theorem grownBy_any {w w' : World} {row : Option Nat} (h : w.grownBy w' none) : w.grownBy w' row :=
  ⟨h.os, h.tape, h.output, h.size, fun k hk _ => h.block k hk (by simp)⟩

/-- Its end grows, where it lay or in a new block. -/
theorem wpList_append_row {P : Program} (w : World) {ops : Array Oper} {rest : List Oper} {o : Oper} {a : Act} {Q : Exit → Act → World → Prop} (hgd : o.guard = none) (s x : Operand) (t : TypeId)
    (ho : o.op = .call { callee := .builtin .append, args := #[s, x], argTypes := #[t, t] })
    (B : Nat) (e : TypeId) (i : TypeInfo) (z : Value) (bytes : Nat) (ht : P.underlying t = some (.slice e)) (hi : P.info? e = some i) (hz : i.zero = some z)
    (hsize : i.size = 1) (hby : i.bytes = bytes) (hzs : z.cells.size = 1)
    (v : Value) (xs : List Value) (hs : a.eval s = v) (hl : Row w B e v xs)
    (ad : Addr) (m c : Nat) (news : List Value) (hx : a.eval x = .slice (some ad) m c) (hn : news.length = m) (hnews : ∀ j u, news[j]? = some u → w.cell? (ad.add j) = some u) (h1 : ∀ u ∈ news, u.oneCell' = true)
    (h63 : xs.length + m ≤ maxLen) (hbytes : (xs.length + m) * bytes ≤ 140737488355328) (hB : B ≤ w.heap.size)
    (h : ∀ v' w', Row w' B e v' (xs ++ news) → w.grownBy w' v.ownBlock → (v'.ownBlock = v.ownBlock ∨ ∀ k, v'.ownBlock = some k → w.heap.size ≤ k) → wpList P ops Q rest (a.put o.dst v') w') :
    wpList P ops Q (o :: rest) a w := by
  obtain ⟨g, off, cap, cur, rfl, hb, hg, hlc, hcm, hcs, hc⟩ := hl
  refine wpList_append_arg w hgd s x t ho e i z 1 bytes ht hi hz hsize hby hzs (by decide) g off xs.length cap xs hs (by simp) (fun j u hj => by rw [cell_of_row _ _ _ _ _ _ hg]; exact hc j u hj)
    ad m c news hx (by simp [hn]) hnews h1 (fun hr j hj => ?_) h63 hbytes (fun hr => ?_) (fun hr v' w' hown hgr => ?_)
  · refine ⟨?_, frozen_of_row _ _ _ _ _ hg⟩
    rw [cell_of_row _ _ _ _ _ _ hg]
    simp
    omega
  · obtain ⟨cur', k1, k2, k3, k4⟩ := heap_setCells g (t := e) news (off + xs.length * 1) w cur hg
    refine h _ _ ⟨g, off, cap, cur', by simp [hn], hb, k1, by simp [hn]; exact hr, hcm, by omega, fun j u hj => ?_⟩ (grown_setCells g news _ w) (.inl rfl)
    rcases Nat.lt_or_ge j xs.length with hlt | hge
    · rw [List.getElem?_append_left hlt] at hj
      rw [k3 _ (by omega)]
      exact hc j u hj
    · rw [List.getElem?_append_right hge] at hj
      have hjn := (List.getElem?_eq_some_iff.1 hj).1
      have := k4 (j - xs.length) u hj (by omega)
      rw [show off + j = off + xs.length * 1 + (j - xs.length) by omega]
      exact this
  · rcases hown.2 with ⟨_, h0⟩ | ⟨g', cap', cur', rfl, hb', r⟩
    · omega
    · exact h _ _ ((Row.owned hown (by simp)).lower hB) (grownBy_any hgr) (.inr (fun k hk => by simp [Value.ownBlock] at hk; omega))

theorem wpList_append_line {P : Program} (w : World) {ops : Array Oper} {rest : List Oper} {o : Oper} {a : Act} {Q : Exit → Act → World → Prop} (hgd : o.guard = none) (s x : Operand) (t : TypeId)
    (ho : o.op = .call { callee := .builtin .append, args := #[s, x], argTypes := #[t, t] })
    (B : Nat) (e : TypeId) (i : TypeInfo) (z : Value) (bytes : Nat) (ht : P.underlying t = some (.slice e)) (hi : P.info? e = some i) (hz : i.zero = some z)
    (hsize : i.size = 1) (hby : i.bytes = bytes) (hzs : z.cells.size = 1)
    (v : Value) (xs : List Value) (hs : a.eval s = v) (hl : Line w B e v xs)
    (ad : Addr) (m c : Nat) (news : List Value) (hx : a.eval x = .slice (some ad) m c) (hn : news.length = m) (hnews : ∀ j u, news[j]? = some u → w.cell? (ad.add j) = some u) (h1 : ∀ u ∈ news, u.oneCell' = true)
    (h63 : xs.length + m ≤ maxLen) (hbytes : (xs.length + m) * bytes ≤ 140737488355328) (hB : B ≤ w.heap.size)
    (h : ∀ v' w', Line w' B e v' (xs ++ news) → w.grownBy w' v.ownBlock → (v'.ownBlock = v.ownBlock ∨ ∀ k, v'.ownBlock = some k → w.heap.size ≤ k) → wpList P ops Q rest (a.put o.dst v') w') :
    wpList P ops Q (o :: rest) a w := by
  rcases hl with ⟨rfl, rfl⟩ | hl
  · refine wpList_append_own_at w hgd s x t ho w.heap.size e i z 1 bytes ht hi hz hsize hby hzs (by decide) _ 0 [] hs (World.ownsRow_nil w w.heap.size e 1) ad m c news hx (by simp [hn]) hnews h1 (by simpa using h63) (by simpa using hbytes) (Nat.le_refl _) (fun v' w' hown hgr _ _ => ?_)
    refine h v' w' ((Line.owned hown).lower hB) (grownBy_any hgr) (.inr (fun k hk => ((Line.owned hown).lt hk).1))
  · exact wpList_append_row w hgd s x t ho B e i z bytes ht hi hz hsize hby hzs v xs hs hl ad m c news hx hn hnews h1 h63 hbytes hB (fun v' w' h2 h3 h4 => h v' w' h2.line h3 h4)

end Go.Proofs.Ytpognlidhppnaaa
