/- Rows of items of k cells each, whatever the items are: an item's cells, one that is written, the last one left out, the first and the last ones. -/
import Derived.Test.YtpognlidhppnaaaEnRow
import Derived.Deep.MidRow
namespace Go.Proofs.Ytpognlidhppnaaa
open Go.RowKit Go.Sort

/-- How an item lies in memory: k cells. -/
structure Itm (α : Type) (k : Nat) where
  e : α → List Value
  len : ∀ a, (e a).length = k
  one : ∀ a, ∀ u ∈ e a, u.oneCell' = true

namespace Itm
variable {α : Type} {k : Nat} (E : Itm α k)
/-- The cells of items, one behind the other. -/
def flat : List α → List Value
  | [] => []
  | a :: r => E.e a ++ flat r
theorem flat_length : ∀ q : List α, (E.flat q).length = q.length * k
  | [] => by simp [flat]
  | a :: r => by rw [flat, List.length_append, E.len, flat_length r, List.length_cons, Nat.succ_mul, Nat.add_comm]
theorem flat_append : ∀ p q : List α, E.flat (p ++ q) = E.flat p ++ E.flat q
  | [], _ => rfl
  | b :: r, q => by rw [List.cons_append, flat, flat, flat_append r q, List.append_assoc]
theorem flat_one (a : α) : E.flat [a] = E.e a := by simp [flat]
theorem flat_at : ∀ (q : List α) (i c : Nat) (a : α), q[i]? = some a → c < k → (E.flat q)[i * k + c]? = (E.e a)[c]?
  | [], i, c, a, h, _ => by simp at h
  | b :: r, 0, c, a, h, hc => by
    obtain rfl : b = a := by simpa using h
    rw [flat, Nat.zero_mul, Nat.zero_add, List.getElem?_append_left (by rw [E.len]; exact hc)]
  | b :: r, i + 1, c, a, h, hc => by
    have := flat_at r i c a (by simpa using h) hc
    rw [flat, List.getElem?_append_right (by rw [E.len, Nat.succ_mul]; omega), E.len, show (i + 1) * k + c - k = i * k + c by rw [Nat.succ_mul]; omega]
    exact this
theorem flat_take : ∀ (q : List α) (n : Nat), E.flat (q.take n) = (E.flat q).take (n * k)
  | [], n => by simp [flat]
  | a :: r, 0 => by simp [flat]
  | a :: r, n + 1 => by
    have h1 : (E.e a).take ((n + 1) * k) = E.e a := List.take_of_length_le (by rw [E.len, Nat.succ_mul]; omega)
    rw [List.take_succ_cons, flat, flat, flat_take r n, List.take_append, E.len, show (n + 1) * k - k = n * k by rw [Nat.succ_mul]; omega, h1]
theorem flat_drop : ∀ (q : List α) (n : Nat), E.flat (q.drop n) = (E.flat q).drop (n * k)
  | [], n => by simp [flat]
  | a :: r, 0 => by simp [flat]
  | a :: r, n + 1 => by
    have h1 : (E.e a).drop ((n + 1) * k) = [] := List.drop_of_length_le (by rw [E.len, Nat.succ_mul]; omega)
    rw [List.drop_succ_cons, flat, flat_drop r n, List.drop_append, E.len, show (n + 1) * k - k = n * k by rw [Nat.succ_mul]; omega, h1, List.nil_append]
theorem flat_ones : ∀ (q : List α), ∀ u ∈ E.flat q, u.oneCell' = true
  | [], u, h => by simp [flat] at h
  | a :: r, u, h => by
    rcases List.mem_append.1 h with h | h
    · exact E.one a u h
    · exact flat_ones r u h

variable {w : World} {t : TypeId} {B g off n cap : Nat} {q : List α}
/-- An item's cells. -/
theorem cell (h : RowK w B t k g off n cap (E.flat q)) {i : Nat} {a : α} (hi : q[i]? = some a) (c : Nat) (hc : c < k) {u : Value} (hu : (E.e a)[c]? = some u) : w.cell? ⟨g, off + i * k + c, none⟩ = some u := by
  have := h.cell (j := i * k + c) (u := u) (by rw [E.flat_at _ _ _ _ hi hc]; exact hu)
  rw [← Nat.add_assoc] at this
  exact this
theorem free (h : RowK w B t k g off n cap (E.flat q)) (c : Nat) : w.frozen? ⟨g, c, none⟩ = false := by
  obtain ⟨cur, hg, -⟩ := h.block
  exact frozen_of_row _ _ _ _ _ hg
theorem range (h : RowK w B t k g off n cap (E.flat q)) {i : Nat} {a : α} (hi : q[i]? = some a) : w.rangeAt g (off + i * k) (E.e a) := fun j u hu =>
  E.cell h hi j (by have := (List.getElem?_eq_some_iff.1 hu).1; rw [E.len] at this; exact this) hu
theorem there (h : RowK w B t k g off n cap (E.flat q)) {i : Nat} {a : α} (hi : q[i]? = some a) : w.there g (off + i * k) k := fun j hj => by
  refine ⟨?_, E.free h _⟩
  obtain ⟨u, hu⟩ : ∃ u, (E.e a)[j]? = some u := ⟨(E.e a)[j]'(by rw [E.len]; exact hj), List.getElem?_eq_getElem _⟩
  rw [E.cell h hi j hj hu]
  rfl
/-- As many as there are. -/
theorem many (h : RowK w B t k g off n cap (E.flat q)) (hk : 0 < k) : q.length = n := by
  have := h.len
  rw [E.flat_length] at this
  exact Nat.eq_of_mul_eq_mul_right hk this
/-- One of an item's cells is written. -/
theorem put (h : RowK w B t k g off n cap (E.flat q)) {i : Nat} {a a' : α} (hi : q[i]? = some a) (c : Nat) (hc : c < k) {v : Value} (ha : E.e a' = (E.e a).set c v) : RowK (w.setCell ⟨g, off + i * k + c, none⟩ v) B t k g off n cap (E.flat (q.set i a')) := by
  obtain ⟨cur, hg, hs, hb⟩ := h.block
  have hil := (List.getElem?_eq_some_iff.1 hi).1
  have hl := h.len
  rw [E.flat_length] at hl
  refine ⟨by rw [E.flat_length, List.length_set]; exact hl, h.from_, h.room, h.most, _, heap_setCell_same _ _ _ _ _ v hg, by simpa using hs, fun x u hx => ?_⟩
  have hxl := (List.getElem?_eq_some_iff.1 hx).1
  rw [E.flat_length, List.length_set] at hxl
  have hk : 0 < k := by omega
  obtain ⟨y, d, hd, rfl⟩ : ∃ y d, d < k ∧ x = y * k + d := ⟨x / k, x % k, Nat.mod_lt _ hk, by rw [Nat.mul_comm]; exact (Nat.div_add_mod x k).symm⟩
  have hy : y < q.length := by
    rcases Nat.lt_or_ge y q.length with e | e
    · exact e
    · have := Nat.mul_le_mul_right k e; omega
  rw [Array.getElem?_setIfInBounds]
  by_cases e : y = i
  · subst e
    rw [E.flat_at _ _ _ a' (by rw [List.getElem?_set_self hil]) hd, ha, List.getElem?_set] at hx
    by_cases e2 : c = d
    · subst e2
      have := h.room
      have hm := Nat.mul_le_mul_right k this
      rw [if_pos (by omega), if_pos (by omega)]
      rw [if_pos rfl, E.len, if_pos hc] at hx
      exact hx
    · rw [if_neg e2] at hx
      rw [if_neg (by omega)]
      exact hb _ _ (by rw [E.flat_at _ _ _ a hi hd]; exact hx)
  · obtain ⟨b, hyb⟩ : ∃ b, q[y]? = some b := ⟨q[y], List.getElem?_eq_getElem hy⟩
    rw [E.flat_at _ _ _ b (by rw [List.getElem?_set_ne (Ne.symm e)]; exact hyb) hd] at hx
    rw [if_neg (fun e3 => e ?_)]
    · exact hb _ _ (by rw [E.flat_at _ _ _ b hyb hd]; exact hx)
    · rcases Nat.lt_trichotomy y i with e4 | e4 | e4
      · have := Nat.mul_le_mul_right k (Nat.succ_le_of_lt e4); rw [Nat.succ_mul] at this; omega
      · exact e4
      · have := Nat.mul_le_mul_right k (Nat.succ_le_of_lt e4); rw [Nat.succ_mul] at this; omega
/-- An item is written whole. -/
theorem over (h : RowK w B t k g off n cap (E.flat q)) {i : Nat} (hi : i < q.length) (a' : α) : RowK (w.setCells g (off + i * k) (E.e a')) B t k g off n cap (E.flat (q.set i a')) := by
  obtain ⟨cur, hg, hs, hb⟩ := h.block
  have hl := h.len
  rw [E.flat_length] at hl
  have hm := Nat.mul_le_mul_right k h.room
  have hm2 := Nat.mul_le_mul_right k (Nat.succ_le_of_lt hi)
  rw [Nat.succ_mul] at hm2
  obtain ⟨c1, k1, k2, k3⟩ := setCells_all g (t := t) (E.e a') (off + i * k) w cur hg (by rw [E.len]; omega)
  refine ⟨by rw [E.flat_length, List.length_set]; exact hl, h.from_, h.room, h.most, c1, k1, by omega, fun x u hx => ?_⟩
  have hxl := (List.getElem?_eq_some_iff.1 hx).1
  rw [E.flat_length, List.length_set] at hxl
  have hk : 0 < k := by
    rcases Nat.eq_zero_or_pos k with e | e
    · subst e; omega
    · exact e
  obtain ⟨y, d, hd, rfl⟩ : ∃ y d, d < k ∧ x = y * k + d := ⟨x / k, x % k, Nat.mod_lt _ hk, by rw [Nat.mul_comm]; exact (Nat.div_add_mod x k).symm⟩
  have hy : y < q.length := by
    rcases Nat.lt_or_ge y q.length with e | e
    · exact e
    · have := Nat.mul_le_mul_right k e; omega
  rw [k3, E.len]
  by_cases e : y = i
  · subst e
    rw [E.flat_at _ _ _ a' (by rw [List.getElem?_set_self hi]) hd] at hx
    rw [if_pos (by omega), show off + (y * k + d) - (off + y * k) = d by omega]
    exact hx
  · obtain ⟨b, hyb⟩ : ∃ b, q[y]? = some b := ⟨q[y], List.getElem?_eq_getElem hy⟩
    rw [E.flat_at _ _ _ b (by rw [List.getElem?_set_ne (Ne.symm e)]; exact hyb) hd] at hx
    rw [if_neg (fun e3 => e ?_)]
    · exact hb _ _ (by rw [E.flat_at _ _ _ b hyb hd]; exact hx)
    · rcases Nat.lt_trichotomy y i with e4 | e4 | e4
      · have := Nat.mul_le_mul_right k (Nat.succ_le_of_lt e4); rw [Nat.succ_mul] at this; omega
      · exact e4
      · have := Nat.mul_le_mul_right k (Nat.succ_le_of_lt e4); rw [Nat.succ_mul] at this; omega
/-- The last ones are left out. -/
theorem but (h : RowK w B t k g off n cap (E.flat q)) {m : Nat} (hm : m ≤ q.length) (hn : m ≤ n) : RowK w B t k g off m cap (E.flat (q.take m)) := by
  obtain ⟨cur, hg, hs, hc⟩ := h.block
  refine ⟨by rw [E.flat_length, List.length_take, Nat.min_eq_left hm], h.from_, Nat.le_trans hn h.room, h.most, cur, hg, hs, fun j u hj => ?_⟩
  rw [E.flat_take, List.getElem?_take] at hj
  split at hj
  · exact hc j u hj
  · cases hj
/-- The cells of all of them, of the first ones, of the last ones, of one in a block of its own. -/
theorem all (r : RowK w B t k g off n cap (E.flat q)) : ∀ j u, (E.flat q)[j]? = some u → w.cell? ((⟨g, off, none⟩ : Addr).add j) = some u := fun j u hu => by rw [Addr.add_lit]; exact r.cell hu
theorem first (r : RowK w B t k g off n cap (E.flat q)) (i : Nat) : ∀ j u, (E.flat (q.take i))[j]? = some u → w.cell? ((⟨g, off, none⟩ : Addr).add j) = some u := fun j u hu => by
  rw [E.flat_take, List.getElem?_take] at hu
  split at hu
  · exact E.all r j u hu
  · cases hu
theorem last (r : RowK w B t k g off n cap (E.flat q)) (i : Nat) : ∀ j u, (E.flat (q.drop i))[j]? = some u → w.cell? ((⟨g, off + i * k, none⟩ : Addr).add j) = some u := fun j u hu => by
  rw [E.flat_drop, List.getElem?_drop] at hu
  have := E.all r _ u hu
  rw [Addr.add_lit] at this ⊢
  rw [Nat.add_assoc]
  exact this
theorem box {b : Nat} {tt : TypeId} (a : α) (h : w.heap[b]? = some (.cells (E.e a).toArray tt (0, 0))) : ∀ j u, (E.flat [a])[j]? = some u → w.cell? ((⟨b, 0, none⟩ : Addr).add j) = some u := fun j u hu => by
  rw [Addr.add_lit, Nat.zero_add, cell_of_row _ _ _ _ _ _ h]
  rw [E.flat_one] at hu
  simpa using hu

/-- append of some: as a run. -/
theorem run_add {P : Program} {ts ty : TypeId} {i : TypeInfo} {z : Value} {bytes : Nat} (ht : P.underlying ts = some (.slice t)) (hi : P.info? t = some i) (hz : i.zero = some z) (hsize : i.size = k) (hby : i.bytes = bytes) (hzs : z.cells.size = k) (hk : 0 < k) (hbm : bytes ≤ 10000)
    (h : RowK w B t k g off n cap (E.flat q)) (hn : n ≤ 1000000) {m c : Nat} {ys : List α} (hl : ys.length = m) (hm : m ≤ 1000000) {ad : Addr} (hc : ∀ j u, (E.flat ys)[j]? = some u → w.cell? (ad.add j) = some u) (hB : B ≤ w.heap.size) :
    ∃ g' off' cap' w', (Builtin.append_ #[ts, ts] ty #[.slice (some ⟨g, off, none⟩) n cap, .slice (some ad) m c]).run P w = .ok (.slice (some ⟨g', off', none⟩) (n + m) cap') w' ∧ RowK w' B t k g' off' (n + m) cap' (E.flat (q ++ ys)) ∧ w.grownBy w' (some g) ∧ (g' = g ∨ w.heap.size ≤ g') := by
  have hb : (n + m) * bytes ≤ 2000000 * 10000 := Nat.mul_le_mul (by omega) hbm
  obtain ⟨g', off', cap', w', h1, h2, h3, h4⟩ := run_append_rowK (P := P) w ts ty B k t i z bytes ht hi hz hsize hby hzs hk g off n cap (E.flat q) h ad m c (E.flat ys) (by rw [E.flat_length, hl]) hc (E.flat_ones ys) (by unfold maxLen; omega) (by omega) hB
  exact ⟨g', off', cap', w', h1, by rw [E.flat_append]; exact h2, h3, h4⟩
end Itm
end Go.Proofs.Ytpognlidhppnaaa
