/- What all else in the world is behind a call: all blocks but those named are as they were; rows of marks and of numbers. -/
import Derived.Test.YtpognlidhppnaaaLine
namespace Go.Proofs.Ytpognlidhppnaaa
open Go.RowKit

def markCells (n : Nat) (td : List Nat) : Array Value := ((List.range n).map fun i => Value.bool (td.contains i)).toArray
def numCells (l : List Nat) : List Value := l.map fun (i : Nat) => Value.int .i64 (i : Int)

/-- All blocks that were there, but those named, are as they were. -/
structure Rest (own : Nat → Prop) (w w' : World) : Prop where
  os : w'.os = w.os
  tape : w'.tape = w.tape
  output : w'.output = w.output
  size : w.heap.size ≤ w'.heap.size
  block : ∀ k, k < w.heap.size → ¬ own k → w'.heap[k]? = w.heap[k]?

theorem Rest.refl (own : Nat → Prop) (w : World) : Rest own w w := ⟨rfl, rfl, rfl, Nat.le_refl _, fun _ _ _ => rfl⟩
theorem Rest.trans {o1 o2 o3 : Nat → Prop} {a b c : World} (h : Rest o1 a b) (k : Rest o2 b c) (m1 : ∀ i, i < a.heap.size → o1 i → o3 i) (m2 : ∀ i, i < a.heap.size → o2 i → o3 i) : Rest o3 a c :=
  ⟨k.os.trans h.os, k.tape.trans h.tape, k.output.trans h.output, Nat.le_trans h.size k.size,
   fun i hi hn => (k.block i (Nat.lt_of_lt_of_le hi h.size) (fun x => hn (m2 i hi x))).trans (h.block i hi (fun x => hn (m1 i hi x)))⟩
theorem Rest.mono {o1 o2 : Nat → Prop} {a b : World} (h : Rest o1 a b) (m : ∀ i, i < a.heap.size → o1 i → o2 i) : Rest o2 a b :=
  ⟨h.os, h.tape, h.output, h.size, fun i hi hn => h.block i hi (fun x => hn (m i hi x))⟩
theorem Rest.alloc (own : Nat → Prop) (w : World) (o : Obj) : Rest own w (w.alloc o) := ⟨rfl, rfl, rfl, by simp, fun k hk _ => Below.heap_alloc _ _ _ hk⟩
theorem Rest.drew (own : Nat → Prop) (w : World) : Rest own w w.drew := ⟨rfl, rfl, rfl, Nat.le_refl _, fun _ _ _ => rfl⟩
theorem Rest.setCell {own : Nat → Prop} (w : World) (p : Addr) (u : Value) (h : own p.block) : Rest own w (w.setCell p u) :=
  ⟨rfl, rfl, rfl, by simp [World.setCell], fun k _ hn => Below.heap_setCell _ _ _ _ (fun e => hn (e ▸ h))⟩
theorem Rest.grown {own : Nat → Prop} {w w' : World} {row : Option Nat} (hg : w.grownBy w' row) (h : ∀ k, row = some k → own k) : Rest own w w' :=
  ⟨hg.os, hg.tape, hg.output, hg.size, fun k hk hn => hg.block k hk (fun e => hn (h k e.symm))⟩
theorem Rest.below {own : Nat → Prop} {w w' : World} (h : Rest own w w') {B : Nat} (hB : B ≤ w.heap.size) (m : ∀ k, own k → B ≤ k) : Below B w w' :=
  ⟨h.os, h.tape, h.output, h.size, fun k hk => h.block k (by omega) (fun x => by have := m k x; omega)⟩
theorem Rest.of_below {w w' : World} {own : Nat → Prop} (h : Below w.heap.size w w') : Rest own w w' := ⟨h.os, h.tape, h.output, h.size, fun k hk _ => h.block k hk⟩

/-- A row is as it was, where nothing of it was named. -/
theorem Row.rest {own : Nat → Prop} {w w' : World} {B : Nat} {t : TypeId} {v : Value} {xs : List Value} (h : Row w B t v xs) (hr : Rest own w w') (hd : ∀ k, v.ownBlock = some k → ¬ own k) : Row w' B t v xs :=
  h.kept fun k hk => hr.block k (h.lt hk).2 (hd k hk)
theorem Line.rest {own : Nat → Prop} {w w' : World} {B : Nat} {t : TypeId} {v : Value} {xs : List Value} (h : Line w B t v xs) (hr : Rest own w w') (hd : ∀ k, v.ownBlock = some k → ¬ own k) : Line w' B t v xs :=
  h.kept fun k hk => hr.block k (h.lt hk).2 (hd k hk)

/-- Different numbers below n are no more than n. -/
theorem few {n : Nat} : ∀ {l : List Nat}, l.Nodup → (∀ i, i ∈ l → i < n) → l.length ≤ n := by
  induction n with
  | zero =>
    intro l _ h
    match l with
    | [] => simp
    | x :: l => exact absurd (h x (by simp)) (Nat.not_lt_zero _)
  | succ n ih =>
    intro l hl h
    have h1 := ih (l := l.erase n) (hl.erase n) (fun i hi => by
      have hm := (List.Nodup.mem_erase_iff hl).1 hi
      have := h i hm.2
      have := hm.1
      omega)
    have h2 : (l.erase n).length = if n ∈ l then l.length - 1 else l.length := by rw [List.length_erase]
    split at h2 <;> omega

theorem markCells_at (n : Nat) (td : List Nat) (i : Nat) (h : i < n) : (markCells n td)[i]? = some (.bool (td.contains i)) := by
  simp [markCells, h]
theorem markCells_set (n : Nat) (td : List Nat) (i : Nat) : (markCells n td).setIfInBounds i (.bool true) = markCells n (td ++ [i]) := by
  unfold markCells
  rw [List.setIfInBounds_toArray]
  congr 1
  apply List.ext_getElem?
  intro j
  rw [List.getElem?_set]
  by_cases hj : i = j
  · subst hj; by_cases hi : i < n <;> simp [hi]
  · rw [if_neg hj]
    by_cases hjn : j < n
    · simp [hjn, Ne.symm hj]
    · simp [hjn]
theorem markCells_clear (n : Nat) (i : Nat) (td : List Nat) (h : i ∉ td) : (markCells n (i :: td)).setIfInBounds i (.bool false) = markCells n td := by
  unfold markCells
  rw [List.setIfInBounds_toArray]
  congr 1
  apply List.ext_getElem?
  intro j
  rw [List.getElem?_set]
  by_cases hj : i = j
  · subst hj; by_cases hi : i < n <;> simp [hi, h]
  · rw [if_neg hj]
    by_cases hjn : j < n
    · simp [hjn, Ne.symm hj]
    · simp [hjn]

theorem made_one (v : Value) (n : Nat) (h : v.cells = #[v]) : madeCells v.cells n = (List.replicate n v).toArray := by
  unfold madeCells
  rw [h]
  apply Array.ext
  · simp
  · intro i h1 h2
    simp [Nat.mod_one]

theorem retb {a b : Bool} (h : a = b) : Ending.returned (.bool a) = .returned (.bool b) := by rw [h]
theorem reti {k : IntKind} {a b : Int} (h : a = b) : Ending.returned (.int k a) = .returned (.int k b) := by rw [h]

theorem numCells_append (l m : List Nat) : numCells (l ++ m) = numCells l ++ numCells m := by simp [numCells]
theorem numCells_length (l : List Nat) : (numCells l).length = l.length := by simp [numCells]
theorem numCells_at (l : List Nat) (j : Nat) (h : j < l.length) : (numCells l)[j]? = some (.int .i64 ((l.getD j 0 : Nat) : Int)) := by simp [numCells, List.getD, h]
theorem numCells_one {l : List Nat} : ∀ u ∈ numCells l, u.oneCell' = true := by
  intro u hu; simp only [numCells, List.mem_map] at hu; obtain ⟨x, _, rfl⟩ := hu; rfl

end Go.Proofs.Ytpognlidhppnaaa
