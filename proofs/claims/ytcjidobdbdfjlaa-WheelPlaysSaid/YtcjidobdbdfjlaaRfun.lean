/- A range over a method value with its receiver bound: the loop's own book, its rounds, its two ends. Of no program. -/
import Derived.RangeFuncFrom
import Derived.RangeFuncLeaves
import Derived.Below
namespace Go.Proofs.Ytcjidobdbdfjlaa
open Go Go.RowKit

/-- Besides the blocks that the loop keeps for itself, from B on, all stands as it stood. -/
structure Book (B : Nat) (W W' : World) : Prop where
  os : W'.os = W.os
  tape : W'.tape = W.tape
  output : W'.output = W.output
  size : W.heap.size ≤ W'.heap.size
  block : ∀ k o, W.heap[k]? = some o → k < B ∨ o.isCells = true → W'.heap[k]? = some o
theorem Book.alloc (B : Nat) (W : World) (o : Obj) : Book B W (W.alloc o) := ⟨rfl, rfl, rfl, by simp, fun k _ h _ => (Below.heap_alloc _ _ _ (Array.getElem?_eq_some_iff.1 h).1).trans h⟩
theorem Book.put {B : Nat} {W : World} {l : Nat} {o : Obj} (hl : W.heap[l]? = some o) (hB : B ≤ l) (ho : o.isCells = false) (o' : Obj) : Book B W (W.putObj l o') := by
  have hg := grownBy_putObj' W l o'
  refine ⟨hg.os, hg.tape, hg.output, hg.size, fun k p hk hp => ?_⟩
  have hne : k ≠ l := fun e => by
    subst e
    rw [hl] at hk
    obtain rfl := Option.some.inj hk
    rcases hp with hp | hp
    · omega
    · rw [ho] at hp; cases hp
  exact (World.putObj_heap_other hne).trans hk
theorem Book.trans {B : Nat} {X Y Z : World} (h : Book B X Y) (k : Book B Y Z) : Book B X Z :=
  ⟨k.os.trans h.os, k.tape.trans h.tape, k.output.trans h.output, Nat.le_trans h.size k.size, fun i o hi ho => k.block i o (h.block i o hi ho) ho⟩

/-- How a round's body may end: it goes on, or the function returns. -/
def bodyEnd {α : Type} (I Ix : List α → World → Prop) (xs : List α) (W : World) : Exit → Act → World → Prop
  | .normal, _, W' => KeepsOthers W W' ∧ I xs W'
  | .ret, _, W' => KeepsOthers W W' ∧ Ix xs W'
  | _, _, _ => False

variable {F : Fence} {n : Nat} {P : Program}

/-- What such an iterator promises: it calls for a round at each of its things in turn, and ends when a round says no more. -/
def Iter {α : Type} (F : Fence) (n : Nat) (P : Program) (gf : Nat) (bs : Array Value) (encs : α → Array Value) (S : List α → Prop) (N : Nat) : Prop :=
  ∀ (l : Nat) (J Jx : List α → World → Prop) (W : World),
    (∀ pre x W1, J pre W1 → pre.length < N → YieldAt F (n - 1) P l (encs x) W1 fun e W' => (e = .returned (.bool true) ∧ J (pre ++ [x]) W') ∨ (e = .returned (.bool false) ∧ Jx (pre ++ [x]) W')) →
    J [] W → CallsIn F n P gf (bs ++ #[.func (.yield l) #[] #[]]) W fun e W' => (∃ v, e = .returned v) ∧ ((∃ xs, S xs ∧ J xs W') ∨ ∃ pre, Jx pre W')

theorem range_bound {α : Type} {g : Operand} {ps : Array Tmp} {assign body : Code} {Q : Exit → Act → World → Prop} {a : Act} {w : World}
    (hro : F.round = none) (h1 : 1 ≤ n) {gf : Nat} {bs : Array Value} (hg : a.eval g = .func (.func gf) bs #[]) (hFg : F.fn gf) (eg : ∀ args w, (callFunc gf args).run P w = .ok (.enter gf args) w)
    {encs : α → Array Value} {S : List α → Prop} {N : Nat} (hit : Iter F (n - 1) P gf bs encs S N) (hps : ∀ x, (encs x).size = ps.size)
    (I Ix : List α → World → Prop) (hI : ∀ s W W', Book w.heap.size W W' → I s W → I s W') (hIx : ∀ s W W', Book w.heap.size W W' → Ix s W → Ix s W') (h0 : I [] w) (a₁ : α → Act)
    (hassign : ∀ (l : Nat) (x : α) (W : World) (K : Act → World → Prop), K (a₁ x) W →
      assign.wpIn (F.inRound l) (n - 1 - 1) P (Exit.then K (fun _ _ _ => False)) { tmps := (ps.zip (encs x)).foldl (fun t (p, v) => t.setIfInBounds p v) a.tmps, defers := [] } W)
    (hbody : ∀ (l : Nat) (pre : List α) (x : α) (W : World), I pre W → pre.length < N → body.wpIn (F.inRound l) (n - 1 - 1) P (bodyEnd I Ix (pre ++ [x]) W) (a₁ x) W)
    (hdone : ∀ (D : Nat) (xs : List α) (W : World), w.heap.size ≤ D → S xs → I xs W → W.heap[D]? = some (.deferred (some [])) → Q .normal { a with defers := { target := .collected D, args := #[] } :: a.defers } W)
    (hstop : ∀ (D : Nat) (pre : List α) (W : World), w.heap.size ≤ D → Ix pre W → W.heap[D]? = some (.deferred (some [])) → Code.ret.wpIn F n P Q { a with defers := { target := .collected D, args := #[] } :: a.defers } W) :
    (Code.rangeFunc g ps assign body).wpIn F n P Q a w := by
  refine wpIn_rangeFunc fun fn hfn => ?_
  rw [hro]
  -- the loop's record, in each of its states
  let R : LoopState → Option Code → Obj := fun st pe => .loop { state := st, pending := pe, fn, tmps := a.tmps, params := ps, assign, body, defers := w.heap.size }
  obtain ⟨W1, hW1⟩ : ∃ W1, (w.alloc (.deferred (some []))).alloc (R .ready none) = W1 := ⟨_, rfl⟩
  have sz : (w.alloc (.deferred (some []))).heap.size = w.heap.size + 1 := by simp
  have loop1 : W1.heap[w.heap.size + 1]? = some (R .ready none) := by
    have := heap_alloc_new (w.alloc (.deferred (some []))) (R .ready none)
    rwa [sz, hW1] at this
  have mark1 : W1.heap[w.heap.size]? = some (.deferred (some [])) := by
    rw [← hW1]; exact (Below.heap_alloc _ _ _ (by omega)).trans (heap_alloc_new _ _)
  have book1 : Book w.heap.size w W1 := by rw [← hW1]; exact (Book.alloc _ _ _).trans (Book.alloc _ _ _)
  refine ⟨w.heap.size + 1, [{ target := .collected w.heap.size, args := #[] }], W1, { target := .fn (.func gf) #[], args := bs ++ #[.func (.yield (w.heap.size + 1)) #[] #[]] }, W1, gf, bs ++ #[.func (.yield (w.heap.size + 1)) #[] #[]], W1, ?_, ?_, ?_, ?_, fun _ => h1, ?_⟩
  · rw [← hW1]; exact run_enterLoop_outer _ _ _ _ _
  · simp only [resolve, hg]
    simp [go_sem]
  · intro f' hf'
    simp [Target.leads] at hf'
    subst hf'
    exact hFg
  · simp [invoke, go_sem, eg]
  · refine (hit (w.heap.size + 1)
      (fun pre W => I pre W ∧ W.heap[w.heap.size + 1]? = some (R .ready none) ∧ W.heap[w.heap.size]? = some (.deferred (some [])))
      (fun pre W => Ix pre W ∧ W.heap[w.heap.size + 1]? = some (R .done (some .ret)) ∧ W.heap[w.heap.size]? = some (.deferred (some []))) W1 ?_ ⟨hI _ _ _ book1 h0, loop1, mark1⟩).mono ?_
    · rintro pre x W ⟨hi, hl, hk⟩ hlen
      have lt := (Array.getElem?_eq_some_iff.1 hl).1
      refine ⟨fn, _, assign, body, run_yield hl (hps x), roundIn_of_wpIn hfn (hassign _ x W _ ⟨_, run_beginRound hl rfl, ?_⟩)⟩
      have l2 : (W.putObj (w.heap.size + 1) (R .busy none)).heap[w.heap.size + 1]? = some (R .busy none) := World.putObj_heap_same lt
      have k2 : (W.putObj (w.heap.size + 1) (R .busy none)).heap[w.heap.size]? = some (.deferred (some [])) := (World.putObj_heap_other (by omega)).trans hk
      refine wpIn_mono (hbody _ pre x _ (hI _ _ _ (Book.put hl (by omega) rfl _) hi) hlen) ?_
      rintro e a3 W3 he
      -- what the round's end writes into the record
      have fin : ∀ (j : Option Code), KeepsOthers (W.putObj (w.heap.size + 1) (R .busy none)) W3 → ∃ st, st = (if j.isNone then LoopState.ready else .done) ∧ (Instr.endRound (w.heap.size + 1) j).run P W3 = .ok (.bool j.isNone) (W3.putObj (w.heap.size + 1) (R st j)) ∧ Book w.heap.size W3 (W3.putObj (w.heap.size + 1) (R st j)) ∧
          (W3.putObj (w.heap.size + 1) (R st j)).heap[w.heap.size + 1]? = some (R st j) ∧ (W3.putObj (w.heap.size + 1) (R st j)).heap[w.heap.size]? = some (.deferred (some [])) := fun j hk3 => by
        have l3 := hk3.same _ _ l2 rfl
        exact ⟨_, rfl, run_endRound j l3, Book.put l3 (by omega) rfl _, World.putObj_heap_same (Array.getElem?_eq_some_iff.1 l3).1, (World.putObj_heap_other (by omega)).trans (hk3.same _ _ k2 rfl)⟩
      cases e with
      | normal =>
        obtain ⟨_, rfl, hr, hb, hl4, hk4⟩ := fin none he.1
        exact ⟨_, _, hr, .inl ⟨rfl, hI _ _ _ hb he.2, hl4, hk4⟩⟩
      | ret =>
        obtain ⟨_, rfl, hr, hb, hl4, hk4⟩ := fin (some .ret) he.1
        exact ⟨_, _, hr, .inr ⟨rfl, hIx _ _ _ hb he.2, hl4, hk4⟩⟩
      | exit id => exact he.elim
      | goto t => exact he.elim
      | panic c => exact he.elim
      | outgrown => exact he.elim
    · rintro e W2 ⟨⟨v, rfl⟩, (⟨xs, hS, hi, hl, hk⟩ | ⟨pre, hi, hl, hk⟩)⟩
      · exact ⟨none, _, run_endLoop hl (by simp), hdone _ xs _ (Nat.le_refl _) hS (hI _ _ _ (Book.put hl (by omega) rfl _) hi) ((World.putObj_heap_other (by omega)).trans hk)⟩
      · exact ⟨some .ret, _, run_endLoop hl (by simp), hstop _ pre _ (Nat.le_refl _) (hIx _ _ _ (Book.put hl (by omega) rfl _) hi) ((World.putObj_heap_other (by omega)).trans hk)⟩
end Go.Proofs.Ytcjidobdbdfjlaa
