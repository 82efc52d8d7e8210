/- A row of items of several cells each behind a slice that may begin anywhere in its block: its head is taken off, its end grows. -/
import Derived.Test.YtpognlidhppnaaaLine
namespace Go.Proofs.Ytpognlidhppnaaa
open Go.RowKit

/-- n items of k cells each lie behind the slice ⟨g, off⟩, in a block from B on. -/
structure RowK (w : World) (B : Nat) (t : TypeId) (k g off n cap : Nat) (xs : List Value) : Prop where
  len : xs.length = n * k
  from_ : B ≤ g
  room : n ≤ cap
  most : cap ≤ maxLen
  block : ∃ cur, w.heap[g]? = some (.cells cur t (0, 0)) ∧ off + cap * k ≤ cur.size ∧ ∀ j u, xs[j]? = some u → cur[off + j]? = some u

namespace RowK
theorem lt {w : World} {B k g off n cap : Nat} {t : TypeId} {xs : List Value} (h : RowK w B t k g off n cap xs) : g < w.heap.size := by
  obtain ⟨cur, hg, _⟩ := h.block
  exact lt_of_block hg
theorem kept {w w' : World} {B k g off n cap : Nat} {t : TypeId} {xs : List Value} (h : RowK w B t k g off n cap xs) (hb : w'.heap[g]? = w.heap[g]?) : RowK w' B t k g off n cap xs := by
  obtain ⟨cur, hg, r⟩ := h.block
  exact { h with block := ⟨cur, hb.trans hg, r⟩ }
theorem lower {w : World} {B B' k g off n cap : Nat} {t : TypeId} {xs : List Value} (h : RowK w B t k g off n cap xs) (hB : B' ≤ B) : RowK w B' t k g off n cap xs := { h with from_ := Nat.le_trans hB h.from_ }
theorem cell {w : World} {B k g off n cap : Nat} {t : TypeId} {xs : List Value} (h : RowK w B t k g off n cap xs) {j : Nat} {u : Value} (hj : xs[j]? = some u) : w.cell? ⟨g, off + j, none⟩ = some u := by
  obtain ⟨cur, hg, _, hc⟩ := h.block
  exact cell_of_row _ _ _ _ _ _ hg |>.trans (hc j u hj)
/-- An empty one. -/
theorem nil (w : World) (B k : Nat) (t : TypeId) (hB : B ≤ w.heap.size) : RowK (w.alloc (.cells #[] t)) B t k w.heap.size 0 0 0 [] :=
  ⟨by simp, hB, Nat.le_refl _, Nat.zero_le _, #[], heap_alloc_new _ _, by simp, fun j u hj => by simp at hj⟩
/-- Its head is taken off. -/
theorem tail {w : World} {B k g off n cap : Nat} {t : TypeId} {xs : List Value} (h : RowK w B t k g off (n + 1) cap xs) :
    ∃ off', sliced (some ⟨g, off, none⟩) 1 (n + 1) cap k = .slice (some ⟨g, off', none⟩) n (cap - 1) ∧ RowK w B t k g off' n (cap - 1) (xs.drop k) := by
  obtain ⟨cur, hg, hs, hc⟩ := h.block
  have hr := h.room
  have hl := h.len
  rw [Nat.succ_mul] at hl
  by_cases e : cap = 1
  · obtain rfl : n = 0 := by omega
    exact ⟨off, by simp [sliced, e], by simp [hl], h.from_, Nat.zero_le _, by have := h.most; omega, cur, hg, by rw [e] at hs ⊢; simp; omega, fun j u hj => by
      rw [List.getElem?_drop] at hj
      have := (List.getElem?_eq_some_iff.1 hj).1
      omega⟩
  · refine ⟨off + k, by simp [sliced, e, Addr.add], by simp [hl], h.from_, by omega, by have := h.most; omega, cur, hg, ?_, fun j u hj => ?_⟩
    · obtain ⟨c, rfl⟩ : ∃ c, cap = c + 1 := ⟨cap - 1, by omega⟩
      rw [Nat.succ_mul] at hs
      simp only [Nat.add_sub_cancel]
      omega
    · rw [List.getElem?_drop] at hj
      rw [Nat.add_assoc]
      exact hc _ _ hj
theorem owned {w : World} {B k n : Nat} {t : TypeId} {v : Value} {xs : List Value} (h : w.ownsRow B t k v n xs) (hn : 0 < n) : ∃ g cap, v = .slice (some ⟨g, 0, none⟩) n cap ∧ RowK w B t k g 0 n cap xs := by
  obtain ⟨h1, h2⟩ := h
  rcases h2 with ⟨_, e⟩ | ⟨g, cap, cur, rfl, hb, hg, hnc, hcm, hcs, htake⟩
  · omega
  · refine ⟨g, cap, rfl, h1, hb, hnc, hcm, cur, hg, by rw [hcs]; omega, fun j u hj => ?_⟩
    have hk : (cur.toList.take (n * k))[j]? = some u := by rw [htake]; exact hj
    rw [List.getElem?_take] at hk
    split at hk
    · simpa using hk
    · cases hk
end RowK

/-- Its end grows, where it lay or in a new block. -/
theorem wpList_append_rowK {P : Program} (w : World) {ops : Array Oper} {rest : List Oper} {o : Oper} {a : Act} {Q : Exit → Act → World → Prop} (hgd : o.guard = none) (s x : Operand) (t : TypeId)
    (ho : o.op = .call { callee := .builtin .append, args := #[s, x], argTypes := #[t, t] })
    (B k : Nat) (e : TypeId) (i : TypeInfo) (z : Value) (bytes : Nat) (ht : P.underlying t = some (.slice e)) (hi : P.info? e = some i) (hz : i.zero = some z)
    (hsize : i.size = k) (hby : i.bytes = bytes) (hzs : z.cells.size = k) (hk : 0 < k)
    (g off n cap : Nat) (xs : List Value) (hs : a.eval s = .slice (some ⟨g, off, none⟩) n cap) (hl : RowK w B e k g off n cap xs)
    (ad : Addr) (m c : Nat) (news : List Value) (hx : a.eval x = .slice (some ad) m c) (hn : news.length = m * k) (_hm : 0 < m) (hnews : ∀ j u, news[j]? = some u → w.cell? (ad.add j) = some u) (h1 : ∀ u ∈ news, u.oneCell' = true)
    (h63 : n + m ≤ maxLen) (hbytes : (n + m) * bytes ≤ 140737488355328) (hB : B ≤ w.heap.size)
    (h : ∀ g' off' cap' w', RowK w' B e k g' off' (n + m) cap' (xs ++ news) → w.grownBy w' (some g) → (g' = g ∨ w.heap.size ≤ g') → wpList P ops Q rest (a.put o.dst (.slice (some ⟨g', off', none⟩) (n + m) cap')) w') :
    wpList P ops Q (o :: rest) a w := by
  obtain ⟨cur, hg, hcs, hc⟩ := hl.block
  have hll := hl.len
  refine wpList_append_arg w hgd s x t ho e i z k bytes ht hi hz hsize hby hzs hk g off n cap xs hs hll (fun j u hj => by rw [cell_of_row _ _ _ _ _ _ hg]; exact hc j u hj)
    ad m c news hx hn hnews h1 (fun hr j hj => ?_) h63 hbytes (fun hr => ?_) (fun hr v' w' hown hgr => ?_)
  · refine ⟨?_, frozen_of_row _ _ _ _ _ hg⟩
    rw [cell_of_row _ _ _ _ _ _ hg]
    have : (n + m) * k ≤ cap * k := Nat.mul_le_mul_right k hr
    rw [Nat.add_mul] at this
    simp
    omega
  · obtain ⟨cur', k1, k2, k3, k4⟩ := heap_setCells g (t := e) news (off + n * k) w cur hg
    have hmk : (n + m) * k ≤ cap * k := Nat.mul_le_mul_right k hr
    rw [Nat.add_mul] at hmk
    refine h _ _ _ _ ⟨by rw [List.length_append, hll, hn, Nat.add_mul], hl.from_, hr, hl.most, cur', k1, by omega, fun j u hj => ?_⟩ (grown_setCells g news _ w) (.inl rfl)
    rcases Nat.lt_or_ge j xs.length with hlt | hge
    · rw [List.getElem?_append_left hlt] at hj
      rw [k3 _ (by omega)]
      exact hc j u hj
    · rw [List.getElem?_append_right hge] at hj
      have hjn := (List.getElem?_eq_some_iff.1 hj).1
      have := k4 (j - xs.length) u hj (by omega)
      rw [show off + j = off + n * k + (j - xs.length) by omega]
      exact this
  · obtain ⟨g', cap', rfl, hrow⟩ := RowK.owned hown (by omega)
    exact h _ _ _ _ (hrow.lower hB) (grownBy_any hgr) (.inr hrow.from_)

end Go.Proofs.Ytpognlidhppnaaa
