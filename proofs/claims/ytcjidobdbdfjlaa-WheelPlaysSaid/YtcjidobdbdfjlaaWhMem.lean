/- A wheel in memory: its block, and the rows of alarms behind its places. -/
import Derived.Test.YtcjidobdbdfjlaaWhMath
namespace Go.Proofs.Ytcjidobdbdfjlaa
open Go.RowKit Go.Sort

/-- The cells of alarms, one behind the other. -/
def flatA : List En → List Value
  | [] => []
  | a :: r => .int .i64 a.t :: .int .i64 a.c :: .int .i64 a.s :: .int .i64 a.g :: .int .i64 a.x :: flatA r
theorem flatA_length : ∀ q : List En, (flatA q).length = q.length * 5
  | [] => rfl
  | a :: r => by simp [flatA, flatA_length r]; omega
theorem flatA_append : ∀ p q : List En, flatA (p ++ q) = flatA p ++ flatA q
  | [], _ => rfl
  | b :: r, q => by simp [flatA, flatA_append r q]
theorem flatA_at : ∀ (q : List En) (i c : Nat), i < q.length → c < 5 → (flatA q)[i * 5 + c]? = (Hp.alarm (Hp.e q i))[c]?
  | [], i, c, h, _ => absurd h (Nat.not_lt_zero _)
  | a :: r, 0, c, _, hc => by
    match c, hc with
    | 0, _ => rfl
    | 1, _ => rfl
    | 2, _ => rfl
    | 3, _ => rfl
    | 4, _ => rfl
  | a :: r, i + 1, c, h, hc => by
    have := flatA_at r i c (by simpa using h) hc
    rw [show (i + 1) * 5 + c = i * 5 + c + 5 by omega]
    exact this
theorem flatA_one : ∀ (q : List En), ∀ u ∈ flatA q, u.oneCell' = true
  | [], u, h => by simp [flatA] at h
  | a :: r, u, h => by
    simp only [flatA, List.mem_cons] at h
    rcases h with rfl | rfl | rfl | rfl | rfl | h
    iterate 5 rfl
    exact flatA_one r u h
theorem flatA_take : ∀ (q : List En) (n : Nat), flatA (q.take n) = (flatA q).take (n * 5)
  | [], n => by simp [flatA]
  | a :: r, 0 => by simp [flatA]
  | a :: r, n + 1 => by
    rw [List.take_succ_cons, show (n + 1) * 5 = n * 5 + 1 + 1 + 1 + 1 + 1 by omega]
    simp only [flatA, List.take_succ_cons, flatA_take r n]
theorem flatA_drop : ∀ (q : List En) (n : Nat), flatA (q.drop n) = (flatA q).drop (n * 5)
  | [], n => by simp [flatA]
  | a :: r, 0 => by simp [flatA]
  | a :: r, n + 1 => by
    rw [List.drop_succ_cons, show (n + 1) * 5 = n * 5 + 1 + 1 + 1 + 1 + 1 by omega]
    simp only [flatA, List.drop_succ_cons, flatA_drop r n]

/-- Alarms behind a slice that may be nil. -/
def Az (w : World) (B : Nat) (v : Value) (l : List En) : Prop := (v = .slice none 0 0 ∧ l = []) ∨ ∃ g off c, v = .slice (some ⟨g, off, none⟩) l.length c ∧ RowK w B 30 5 g off l.length c (flatA l)
namespace Az
variable {w w' : World} {B : Nat} {v : Value} {l : List En}
theorem nil (w : World) (B : Nat) : Az w B (.slice none 0 0) [] := .inl ⟨rfl, rfl⟩
theorem lt (h : Az w B v l) {k : Nat} (hk : v.ownBlock = some k) : B ≤ k ∧ k < w.heap.size := by
  rcases h with ⟨rfl, _⟩ | ⟨g, off, c, rfl, h⟩
  · cases hk
  · simp only [Value.ownBlock, Option.some.injEq] at hk
    subst hk
    exact ⟨h.from_, h.lt⟩
theorem kept (h : Az w B v l) (hb : ∀ k, v.ownBlock = some k → w'.heap[k]? = w.heap[k]?) : Az w' B v l := by
  rcases h with h | ⟨g, off, c, rfl, h⟩
  · exact .inl h
  · exact .inr ⟨g, off, c, rfl, h.kept (hb g rfl)⟩
theorem past {own : Nat → Prop} (h : Az w B v l) (hr : Rest own w w') (ho : ∀ k, v.ownBlock = some k → ¬ own k) : Az w' B v l := h.kept fun k hk => hr.block k (h.lt hk).2 (ho k hk)
theorem lower {B' : Nat} (h : Az w B v l) (hB : B' ≤ B) : Az w B' v l := by
  rcases h with h | ⟨g, off, c, rfl, h⟩
  · exact .inl h
  · exact .inr ⟨g, off, c, rfl, h.lower hB⟩
theorem shape (h : Az w B v l) : ∃ a c, v = .slice a l.length c := by
  rcases h with ⟨rfl, rfl⟩ | ⟨g, off, c, rfl, -⟩
  · exact ⟨none, 0, rfl⟩
  · exact ⟨_, c, rfl⟩
theorem some_ (h : Az w B v l) (h0 : 0 < l.length) : ∃ g off c, v = .slice (some ⟨g, off, none⟩) l.length c ∧ RowK w B 30 5 g off l.length c (flatA l) := by
  rcases h with ⟨-, rfl⟩ | h
  · exact absurd h0 (Nat.lt_irrefl _)
  · exact h
end Az
/-- An alarm's five cells in a row. -/
theorem RowK.al {w : World} {B g off cap : Nat} {t : TypeId} {q : List En} (h : RowK w B t 5 g off q.length cap (flatA q)) {i : Nat} (hi : i < q.length) :
    w.cell? ⟨g, off + i * 5, none⟩ = some (.int .i64 (Hp.e q i).t) ∧ w.cell? ⟨g, off + i * 5 + 1, none⟩ = some (.int .i64 (Hp.e q i).c) ∧ w.cell? ⟨g, off + i * 5 + 2, none⟩ = some (.int .i64 (Hp.e q i).s) ∧ w.cell? ⟨g, off + i * 5 + 3, none⟩ = some (.int .i64 (Hp.e q i).g) ∧ w.cell? ⟨g, off + i * 5 + 4, none⟩ = some (.int .i64 (Hp.e q i).x) := by
  have hh := fun c (hc : c < 5) (u : Value) (hu : (Hp.alarm (Hp.e q i))[c]? = some u) => h.cell (j := i * 5 + c) (u := u) (by rw [flatA_at _ _ _ hi hc]; exact hu)
  refine ⟨?_, ?_, ?_, ?_, ?_⟩
  · have := hh 0 (by omega) _ rfl; simpa using this
  · have := hh 1 (by omega) _ rfl; rw [← Nat.add_assoc] at this; exact this
  · have := hh 2 (by omega) _ rfl; rw [← Nat.add_assoc] at this; exact this
  · have := hh 3 (by omega) _ rfl; rw [← Nat.add_assoc] at this; exact this
  · have := hh 4 (by omega) _ rfl; rw [← Nat.add_assoc] at this; exact this

/-- A wheel's cells: its time, then its places. -/
def cellsW (now : Int) (V : Nat → Value) : Array Value := (Value.int .i64 now :: (List.range 50).map V).toArray
theorem cellsW_size (now : Int) (V : Nat → Value) : (cellsW now V).size = 51 := by simp [cellsW]
theorem cellsW_zero (now : Int) (V : Nat → Value) : (cellsW now V)[0]? = some (.int .i64 now) := by simp [cellsW]
theorem cellsW_at (now : Int) (V : Nat → Value) {q : Nat} (h : q < 50) : (cellsW now V)[q + 1]? = some (V q) := by simp [cellsW, h]
theorem cellsW_set (now : Int) (V : Nat → Value) (q : Nat) (v : Value) : (cellsW now V).setIfInBounds (q + 1) v = cellsW now (Wh.upd V q v) := by
  unfold cellsW
  rw [List.setIfInBounds_toArray]
  congr 1
  rw [List.set_cons_succ]
  congr 1
  apply List.ext_getElem?
  intro j
  rw [List.getElem?_set]
  by_cases hj : q = j
  · subst hj; by_cases hi : q < 50 <;> simp [hi, Wh.upd]
  · rw [if_neg hj]
    by_cases hjn : j < 50
    · simp [hjn, Wh.upd, Ne.symm hj]
    · simp [hjn]
theorem cellsW_now (now t : Int) (V : Nat → Value) : (cellsW now V).setIfInBounds 0 (.int .i64 t) = cellsW t V := by
  unfold cellsW
  rw [List.setIfInBounds_toArray]
  rfl

/-- A wheel at P, made from block B on: what its places' cells are, what lies behind them; one's own blocks K beside it. -/
structure Whl (B : Nat) (w : World) (P : Nat) (now : Int) (F : Nat → List En) (V : Nat → Value) (K : List Nat) : Prop where
  from_ : B ≤ P
  block : w.heap[P]? = some (.cells (cellsW now V) 57 (0, 0))
  rows : ∀ q, q < 50 → Az w B (V q) (F q)
  apart : ∀ q r, q < 50 → r < 50 → q ≠ r → ∀ k, (V q).ownBlock = some k → (V r).ownBlock ≠ some k
  off : ∀ q, q < 50 → (V q).ownBlock ≠ some P
  own : ∀ k, k ∈ K → k < w.heap.size ∧ k ≠ P ∧ ∀ q, q < 50 → (V q).ownBlock ≠ some k

/-- One's own blocks are as they were. -/
def Same (K : List Nat) (w w' : World) : Prop := w.heap.size ≤ w'.heap.size ∧ ∀ k, k ∈ K → w'.heap[k]? = w.heap[k]?
theorem Same.refl (K : List Nat) (w : World) : Same K w w := ⟨Nat.le_refl _, fun _ _ => rfl⟩
theorem Same.trans {K : List Nat} {a b c : World} (h : Same K a b) (k : Same K b c) : Same K a c := ⟨Nat.le_trans h.1 k.1, fun i hi => (k.2 i hi).trans (h.2 i hi)⟩
theorem Same.less {K K' : List Nat} {a b : World} (h : Same K a b) (hs : ∀ k, k ∈ K' → k ∈ K) : Same K' a b := ⟨h.1, fun k hk => h.2 k (hs k hk)⟩

namespace Whl
variable {B P : Nat} {w w' : World} {now : Int} {F : Nat → List En} {V : Nat → Value} {K : List Nat}
theorem lt (h : Whl B w P now F V K) : P < w.heap.size := lt_of_block h.block
theorem cell0 (h : Whl B w P now F V K) : w.cell? ⟨P, 0, none⟩ = some (.int .i64 now) := by rw [cell_of_row _ _ _ _ _ _ h.block]; exact cellsW_zero _ _
theorem frozen (h : Whl B w P now F V K) (o : Nat) : w.frozen? ⟨P, o, none⟩ = false := frozen_of_row _ _ _ _ _ h.block
theorem cell (h : Whl B w P now F V K) {q : Nat} (hq : q < 50) : w.cell? ⟨P, q + 1, none⟩ = some (V q) := by rw [cell_of_row _ _ _ _ _ _ h.block]; exact cellsW_at _ _ hq
/-- Own blocks were written, others laid. -/
theorem wrote {own : Nat → Prop} (h : Whl B w P now F V K) (hr : Rest own w w') (ho : ∀ k, own k → k ∈ K) : Whl B w' P now F V K :=
  ⟨h.from_, (hr.block _ h.lt (fun o => (h.own _ (ho _ o)).2.1 rfl)).trans h.block, fun q hq => (h.rows q hq).past hr (fun _ hk o => (h.own _ (ho _ o)).2.2 q hq hk), h.apart, h.off,
   fun k hk => ⟨Nat.lt_of_lt_of_le (h.own k hk).1 hr.size, (h.own k hk).2⟩⟩
theorem past (h : Whl B w P now F V K) (hr : Rest (fun _ => False) w w') : Whl B w' P now F V K := h.wrote hr (fun _ => False.elim)
/-- One more block of one's own. -/
theorem more (h : Whl B w P now F V K) {b : Nat} (h1 : b < w.heap.size) (h2 : b ≠ P) (h3 : ∀ q, q < 50 → (V q).ownBlock ≠ some b) : Whl B w P now F V (b :: K) :=
  ⟨h.from_, h.block, h.rows, h.apart, h.off, fun k hk => by
    rcases List.mem_cons.1 hk with rfl | hk
    · exact ⟨h1, h2, h3⟩
    · exact h.own k hk⟩
/-- .. that was laid since. -/
theorem fresh (h : Whl B w P now F V K) (hr : Rest (fun _ => False) w w') {b : Nat} (h1 : w.heap.size ≤ b) (h2 : b < w'.heap.size) : Whl B w' P now F V (b :: K) :=
  (h.past hr).more h2 (fun e => by have := h.lt; omega) (fun q hq e => by have := ((h.rows q hq).lt e).2; omega)
theorem drop (h : Whl B w P now F V K) {K' : List Nat} (hs : ∀ k, k ∈ K' → k ∈ K) : Whl B w P now F V K' := { h with own := fun k hk => h.own k (hs k hk) }
/-- A place has another row: its block was written, and its cell. -/
theorem turned {q : Nat} {v : Value} {l : List En} (h : Whl B w P now F V K) (hq : q < 50) (hr : Rest (fun k => k = P ∨ (V q).ownBlock = some k) w w') (hb : w'.heap[P]? = some (.cells (cellsW now (Wh.upd V q v)) 57 (0, 0)))
    (ha : Az w' B v l) (ho : ∀ k, v.ownBlock = some k → (V q).ownBlock = some k ∨ w.heap.size ≤ k) : Whl B w' P now (Wh.upd F q l) (Wh.upd V q v) K ∧ Same K w w' := by
  have hold : ∀ r, r < 50 → r ≠ q → ∀ k, (V r).ownBlock = some k → v.ownBlock ≠ some k := fun r hr0 hrq k hk e => by
    rcases ho k e with o | o
    · exact h.apart q r hq hr0 (fun e => hrq e.symm) k o hk
    · have := ((h.rows r hr0).lt hk).2; omega
  refine ⟨⟨h.from_, hb, fun r hr0 => ?_, fun r s hr0 hs0 hrs k hk => ?_, fun r hr0 => ?_, fun k hk => ?_⟩, hr.size, fun k hk => hr.block k (h.own k hk).1 (fun o => ?_)⟩
  · by_cases e : r = q
    · subst e; rw [Wh.upd_same, Wh.upd_same]; exact ha
    · rw [Wh.upd_other e, Wh.upd_other e]
      exact (h.rows r hr0).past hr (fun k hk o => by
        rcases o with rfl | o
        · exact h.off r hr0 hk
        · exact h.apart q r hq hr0 (fun e' => e e'.symm) k o hk)
  · by_cases e1 : r = q
    · subst e1
      rw [Wh.upd_same] at hk
      rw [Wh.upd_other (fun e => hrs e.symm)]
      exact fun e => hold s hs0 (fun e => hrs e.symm) k e hk
    · rw [Wh.upd_other e1] at hk
      by_cases e2 : s = q
      · subst e2; rw [Wh.upd_same]; exact hold r hr0 e1 k hk
      · rw [Wh.upd_other e2]; exact h.apart r s hr0 hs0 hrs k hk
  · by_cases e : r = q
    · subst e
      rw [Wh.upd_same]
      intro e
      rcases ho P e with o | o
      · exact h.off r hq o
      · have := h.lt; omega
    · rw [Wh.upd_other e]; exact h.off r hr0
  · obtain ⟨k1, k2, k3⟩ := h.own k hk
    refine ⟨Nat.lt_of_lt_of_le k1 hr.size, k2, fun r hr0 => ?_⟩
    by_cases e : r = q
    · subst e
      rw [Wh.upd_same]
      intro e
      rcases ho k e with o | o
      · exact k3 r hq o
      · omega
    · rw [Wh.upd_other e]; exact k3 r hr0
  · rcases o with o | o
    · exact (h.own k hk).2.1 o
    · exact (h.own k hk).2.2 q hq o
end Whl
end Go.Proofs.Ytcjidobdbdfjlaa
