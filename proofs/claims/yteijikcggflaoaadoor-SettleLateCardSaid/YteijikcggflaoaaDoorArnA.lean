/- What an arena is in memory: its struct, its words, its marks, and the list of what was touched; what a store into one of them leaves. -/
import Derived.Test.YteijikcggflaoaaDoorRest
namespace Go.Proofs.YteijikcggflaoaaDoor
open Go.RowKit

/-- What an arena has: its words, what was touched in this step, in order, and how often others were. -/
structure Ar where
  cs : List Nat
  td : List Nat
  st : Nat

/-- Where it lies: its struct, its words, its marks; the row of what was touched, if there is one. -/
structure Spot where
  P : Nat
  C : Nat
  M : Nat
  T : Option Nat

def wordCells (l : List Nat) : Array Value := (l.map fun (x : Nat) => Value.int .u64 (x : Int)).toArray

/-- The block is one of the arena's. -/
def Spot.has (s : Spot) (k : Nat) : Prop := k = s.P ∨ k = s.C ∨ k = s.M ∨ s.T = some k

structure HasAr (w : World) (B : Nat) (s : Spot) (a : Ar) (tv : Value) : Prop where
  hP : w.heap[s.P]? = some (.cells #[.slice (some ⟨s.C, 0, none⟩) a.cs.length a.cs.length, .slice (some ⟨s.M, 0, none⟩) a.cs.length a.cs.length, tv, .int .i64 (a.st : Int)] 44 (0, 0))
  hC : w.heap[s.C]? = some (.cells (wordCells a.cs) 22 (0, 0))
  hM : w.heap[s.M]? = some (.cells (markCells a.cs.length a.td) 4 (0, 0))
  hT : w.ownsRow B 3 1 tv a.td.length (numCells a.td)
  eT : s.T = tv.ownBlock
  dPC : s.P ≠ s.C
  dPM : s.P ≠ s.M
  dCM : s.C ≠ s.M
  dPT : s.T ≠ some s.P
  dCT : s.T ≠ some s.C
  dMT : s.T ≠ some s.M
  bP : B ≤ s.P
  bC : B ≤ s.C
  bM : B ≤ s.M
  nd : a.td.Nodup
  lt : ∀ i, i ∈ a.td → i < a.cs.length
  wb : ∀ i, i < a.cs.length → a.cs.getD i 0 < 18446744073709551616
  n0 : 0 < a.cs.length
  n1 : a.cs.length ≤ 16384
  sb : a.st ≤ 4611686018427387904

/-- The world bears such an arena, from block B on. -/
def Arena (w : World) (B : Nat) (s : Spot) (a : Ar) : Prop := ∃ tv, HasAr w B s a tv

theorem HasAr.from {w : World} {B : Nat} {s : Spot} {a : Ar} {tv : Value} (h : HasAr w B s a tv) : ∀ k, s.has k → B ≤ k := by
  intro k hk
  rcases hk with rfl | rfl | rfl | e
  · exact h.bP
  · exact h.bC
  · exact h.bM
  · exact (h.hT.lt k (h.eT ▸ e)).1
theorem Arena.from {w : World} {B : Nat} {s : Spot} {a : Ar} (h : Arena w B s a) : ∀ k, s.has k → B ≤ k := by
  obtain ⟨tv, h⟩ := h; exact h.from
theorem HasAr.old {w : World} {B : Nat} {s : Spot} {a : Ar} {tv : Value} (h : HasAr w B s a tv) : ∀ k, s.has k → k < w.heap.size := by
  intro k hk
  rcases hk with rfl | rfl | rfl | e
  · exact lt_of_block h.hP
  · exact lt_of_block h.hC
  · exact lt_of_block h.hM
  · exact (h.hT.lt k (h.eT ▸ e)).2
theorem Arena.old {w : World} {B : Nat} {s : Spot} {a : Ar} (h : Arena w B s a) : ∀ k, s.has k → k < w.heap.size := by
  obtain ⟨tv, h⟩ := h; exact h.old
theorem Arena.size {w : World} {B : Nat} {s : Spot} {a : Ar} (h : Arena w B s a) : B < w.heap.size := by
  have := h.from s.P (.inl rfl); have := h.old s.P (.inl rfl); omega

/-- What all else does to the world leaves the arena. -/
theorem Arena.kept {w w' : World} {B : Nat} {s : Spot} {a : Ar} {own : Nat → Prop} (h : Arena w B s a) (hr : Rest own w w') (hd : ∀ k, s.has k → ¬ own k) : Arena w' B s a := by
  obtain ⟨tv, h⟩ := h
  have hb : ∀ k, s.has k → w'.heap[k]? = w.heap[k]? := fun k hk => hr.block k (h.old k hk) (hd k hk)
  refine ⟨tv, { h with hP := (hb _ (.inl rfl)).trans h.hP, hC := (hb _ (.inr (.inl rfl))).trans h.hC, hM := (hb _ (.inr (.inr (.inl rfl)))).trans h.hM, hT := ?_ }⟩
  obtain ⟨h1, h2⟩ := h.hT
  refine ⟨h1, ?_⟩
  rcases h2 with h2 | ⟨g, cap, cur, e, h3, h4, r⟩
  · exact .inl h2
  · refine .inr ⟨g, cap, cur, e, h3, ?_, r⟩
    rw [hb g (.inr (.inr (.inr (by rw [h.eT, e]; rfl))))]
    exact h4
theorem Arena.alloc {w : World} {B : Nat} {s : Spot} {a : Ar} (h : Arena w B s a) (o : Obj) : Arena (w.alloc o) B s a := h.kept (Rest.alloc (fun _ => False) w o) (fun _ _ => id)
theorem Arena.drew {w : World} {B : Nat} {s : Spot} {a : Ar} (h : Arena w B s a) : Arena w.drew B s a := h.kept (Rest.drew (fun _ => False) w) (fun _ _ => id)
theorem Arena.setCell {w : World} {B : Nat} {s : Spot} {a : Ar} (h : Arena w B s a) (p : Addr) (u : Value) (hp : ¬ s.has p.block) : Arena (w.setCell p u) B s a :=
  h.kept (Rest.setCell (own := fun k => k = p.block) w p u rfl) (fun _ hk e => hp (e ▸ hk))
theorem Arena.lower {w : World} {B B' : Nat} {s : Spot} {a : Ar} (h : Arena w B s a) (hB : B' ≤ B) : Arena w B' s a := by
  obtain ⟨tv, h⟩ := h
  refine ⟨tv, { h with hT := ?_, bP := by have := h.bP; omega, bC := by have := h.bC; omega, bM := by have := h.bM; omega }⟩
  obtain ⟨h1, h2⟩ := h.hT
  refine ⟨h1, ?_⟩
  rcases h2 with h2 | ⟨g, cap, cur, e, h3, r⟩
  · exact .inl h2
  · exact .inr ⟨g, cap, cur, e, by omega, r⟩

theorem wordCells_at (l : List Nat) (i : Nat) (h : i < l.length) : (wordCells l)[i]? = some (.int .u64 ((l.getD i 0 : Nat) : Int)) := by
  simp [wordCells, List.getD, h]
theorem wordCells_set (l : List Nat) (i x : Nat) : (wordCells l).setIfInBounds i (.int .u64 (x : Int)) = wordCells (l.set i x) := by
  simp [wordCells, List.map_set]
def Ar.touch (a : Ar) (i : Nat) : Ar := if i ∈ a.td then a else { a with td := a.td ++ [i] }
def Ar.stray (a : Ar) : Ar := { a with st := a.st + 1 }
def Ar.put (a : Ar) (i x : Nat) : Ar := { a with cs := a.cs.set i x }
def Ar.begin (a : Ar) : Ar := { a with td := [], st := 0 }
/-- A new one. -/
def Ar.new (n : Nat) : Ar := ⟨List.replicate n 0, [], 0⟩

/-- The two stores: a word, a count. -/
theorem HasAr.stores {w : World} {B : Nat} {s : Spot} {a : Ar} {tv : Value} (h : HasAr w B s a tv) (i x : Nat) (hx : x < 18446744073709551616) :
    HasAr (w.setCell ⟨s.C, i, none⟩ (.int .u64 (x : Int))) B s (a.put i x) tv ∧ Rest s.has w (w.setCell ⟨s.C, i, none⟩ (.int .u64 (x : Int))) := by
  refine ⟨?_, Rest.setCell _ _ _ (.inr (.inl rfl))⟩
  have hl : (a.put i x).cs.length = a.cs.length := by simp [Ar.put]
  exact {
    h with
    hP := by rw [heap_setCell_other _ _ _ _ h.dPC, hl]; exact h.hP
    hC := by rw [heap_setCell_same w s.C i _ _ _ h.hC, wordCells_set]; rfl
    hM := by rw [heap_setCell_other _ _ _ _ (Ne.symm h.dCM), hl]; exact h.hM
    hT := ownsRow_setCell_other h.hT (by rw [← h.eT]; exact h.dCT) _
    lt := fun j hj => by rw [hl]; exact h.lt j hj
    wb := fun j hj => by
      rw [hl] at hj
      have hb := h.wb j hj
      by_cases e : i = j
      · subst e; simp [Ar.put, List.getD, hj]; exact hx
      · simp only [Ar.put, List.getD, List.getElem?_set, if_neg e]; exact hb
    n0 := by rw [hl]; exact h.n0
    n1 := by rw [hl]; exact h.n1 }

theorem HasAr.counts {w : World} {B : Nat} {s : Spot} {a : Ar} {tv : Value} (h : HasAr w B s a tv) (n : Nat) (hn : n ≤ 4611686018427387904) :
    HasAr (w.setCell ⟨s.P, 3, none⟩ (.int .i64 (n : Int))) B s { a with st := n } tv ∧ Rest s.has w (w.setCell ⟨s.P, 3, none⟩ (.int .i64 (n : Int))) := by
  refine ⟨?_, Rest.setCell _ _ _ (.inl rfl)⟩
  exact {
    h with
    hP := by rw [heap_setCell_same w s.P 3 _ _ _ h.hP]; rfl
    hC := by rw [heap_setCell_other _ _ _ _ (Ne.symm h.dPC)]; exact h.hC
    hM := by rw [heap_setCell_other _ _ _ _ (Ne.symm h.dPM)]; exact h.hM
    hT := ownsRow_setCell_other h.hT (by rw [← h.eT]; exact h.dPT) _
    sb := hn }

/-- Its cells. -/
theorem HasAr.cells {w : World} {B : Nat} {s : Spot} {a : Ar} {tv : Value} (h : HasAr w B s a tv) :
    w.cell? ⟨s.P, 0, none⟩ = some (.slice (some ⟨s.C, 0, none⟩) a.cs.length a.cs.length) ∧ w.cell? ⟨s.P, 1, none⟩ = some (.slice (some ⟨s.M, 0, none⟩) a.cs.length a.cs.length) ∧
    w.cell? ⟨s.P, 2, none⟩ = some tv ∧ w.cell? ⟨s.P, 3, none⟩ = some (.int .i64 (a.st : Int)) ∧
    (∀ i, i < a.cs.length → w.cell? ⟨s.C, i, none⟩ = some (.int .u64 ((a.cs.getD i 0 : Nat) : Int))) ∧ (∀ i, i < a.cs.length → w.cell? ⟨s.M, i, none⟩ = some (.bool (a.td.contains i))) := by
  refine ⟨?_, ?_, ?_, ?_, ?_, ?_⟩
  · rw [cell_of_row _ _ _ _ _ _ h.hP]; rfl
  · rw [cell_of_row _ _ _ _ _ _ h.hP]; rfl
  · rw [cell_of_row _ _ _ _ _ _ h.hP]; rfl
  · rw [cell_of_row _ _ _ _ _ _ h.hP]; rfl
  · intro i hi; rw [cell_of_row _ _ _ _ _ _ h.hC]; exact wordCells_at _ _ hi
  · intro i hi; rw [cell_of_row _ _ _ _ _ _ h.hM]; exact markCells_at _ _ _ hi
theorem HasAr.free {w : World} {B : Nat} {s : Spot} {a : Ar} {tv : Value} (h : HasAr w B s a tv) :
    (∀ i, w.frozen? ⟨s.P, i, none⟩ = false) ∧ (∀ i, w.frozen? ⟨s.C, i, none⟩ = false) ∧ (∀ i, w.frozen? ⟨s.M, i, none⟩ = false) :=
  ⟨fun _ => frozen_of_row _ _ _ _ _ h.hP, fun _ => frozen_of_row _ _ _ _ _ h.hC, fun _ => frozen_of_row _ _ _ _ _ h.hM⟩

end Go.Proofs.YteijikcggflaoaaDoor
