/- The ending of a slot's turn as plain numbers, what a step comes to whatever it stands at; and an arena beside the blocks of a law's own. -/
import Derived.Test.YteijikcggflaoaaDoorStlB
import Derived.Test.YteijikcggflaoaaDoorArnD
namespace Go.Proofs.YteijikcggflaoaaDoor
open Go.RowKit

/-- The ending of a turn: the slot's cell, the turn, how many there may be; what comes next, the word. -/
structure Stl where
  i : Nat
  g : Int
  m : Int
  k : Nat
  x : Nat

namespace Stl
def cells (d : Stl) : Array Value := #[.int .i64 d.i, .int .i64 d.g, .int .i64 d.m, .int .i64 d.k, .int .u64 d.x]
def val (d : Stl) : Value := .agg d.cells
def end_ (d : Stl) : Nat := Slt.word (Slt.gen d.x) (if min d.m 16777215 ≤ ((Slt.gen d.x : Nat) : Int) then 3 else 0)
/-- One step. -/
def step (d : Stl) (a : Ar) : Stl × Ar :=
  if d.k = 0 then (if ((Slt.gen (a.cs.getD d.i 0) : Nat) : Int) = d.g ∧ Slt.Live (a.cs.getD d.i 0) then { d with k := 1, x := a.cs.getD d.i 0 } else { d with k := 3 }, a.touch d.i)
  else if d.k = 1 then (if a.cs.getD d.i 0 = d.x then ({ d with k := 2, x := d.end_ }, (a.touch d.i).put d.i d.end_) else ({ d with k := 0, x := 0 }, a.touch d.i))
  else (d, a)
/-- What every task is like. -/
structure Good (d : Stl) (a : Ar) : Prop where
  hi : d.i < a.cs.length
  hx : d.x < 18446744073709551616
  hl : d.k = 1 → Slt.Live d.x

theorem end_lt (d : Stl) : d.end_ < 18446744073709551616 := by
  unfold end_
  have := Slt.gen_le d.x
  refine Slt.word_small (by omega) ?_
  split <;> omega
theorem step_idle {d : Stl} {a : Ar} (h : 2 ≤ d.k) : d.step a = (d, a) := by
  unfold step
  rw [if_neg (by omega), if_neg (by omega)]
theorem step_stale {d : Stl} {a : Ar} (h : d.k = 0) (h2 : ¬ (((Slt.gen (a.cs.getD d.i 0) : Nat) : Int) = d.g ∧ Slt.Live (a.cs.getD d.i 0))) : d.step a = ({ d with k := 3 }, a.touch d.i) := by
  unfold step
  rw [if_pos h, if_neg h2]
theorem step_live {d : Stl} {a : Ar} (h : d.k = 0) (h2 : ((Slt.gen (a.cs.getD d.i 0) : Nat) : Int) = d.g ∧ Slt.Live (a.cs.getD d.i 0)) : d.step a = ({ d with k := 1, x := a.cs.getD d.i 0 }, a.touch d.i) := by
  unfold step
  rw [if_pos h, if_pos h2]
theorem step_won {d : Stl} {a : Ar} (h : d.k = 1) (h2 : a.cs.getD d.i 0 = d.x) : d.step a = ({ d with k := 2, x := d.end_ }, (a.touch d.i).put d.i d.end_) := by
  unfold step
  rw [if_neg (by omega), if_pos h, if_pos h2]
theorem step_lost {d : Stl} {a : Ar} (h : d.k = 1) (h2 : a.cs.getD d.i 0 ≠ d.x) : d.step a = ({ d with k := 0, x := 0 }, a.touch d.i) := by
  unfold step
  rw [if_neg (by omega), if_pos h, if_neg h2]
end Stl

/-- Step. -/
theorem lstep_any {w0 : World} {s : Spot} {a : Ar} (d : Stl) (hd : d.Good a) (w : World) (hA : Arena w w0.heap.size s a) (hL : SLay w0) (h0 : Below w0.heap.size w0 w) (hw : a.cs.getD d.i 0 < 18446744073709551616) :
    Calls Tryd.prog 8 #[d.val, .pointer (some ⟨s.P, 0, none⟩)] w fun e w' => e = .returned (d.step a).1.val ∧ Now w w' w0.heap.size s (d.step a).2 := by
  obtain ⟨hi, hx, hl⟩ := hd
  obtain ⟨i, g, m, k, x⟩ := d
  simp only at hi hx hl hw
  show Calls Tryd.prog 8 #[.agg #[.int .i64 i, .int .i64 g, .int .i64 m, .int .i64 k, .int .u64 x], .pointer (some ⟨s.P, 0, none⟩)] w _
  by_cases k0 : k = 0
  · subst k0
    by_cases h : ((Slt.gen (a.cs.getD i 0) : Nat) : Int) = g ∧ Slt.Live (a.cs.getD i 0)
    · rw [Stl.step_live (d := ⟨i, g, m, 0, x⟩) rfl h]
      exact lstep_live i g m x _ w hA hL h0 hi rfl hw h
    · rw [Stl.step_stale (d := ⟨i, g, m, 0, x⟩) rfl h]
      exact lstep_stale i g m x _ w hA hL h0 hi rfl hw h
  by_cases k1 : k = 1
  · subst k1
    by_cases h : a.cs.getD i 0 = x
    · rw [Stl.step_won (d := ⟨i, g, m, 1, x⟩) rfl h]
      exact lstep_won i g m x _ w hA hL h0 hi h hx (hl rfl) rfl (Stl.end_lt ⟨i, g, m, 1, x⟩)
    · rw [Stl.step_lost (d := ⟨i, g, m, 1, x⟩) rfl h]
      exact lstep_lost i g m x _ w hA hL h0 hi h hx (hl rfl) rfl
  rw [Stl.step_idle (d := ⟨i, g, m, k, x⟩) (show 2 ≤ k by omega)]
  refine (lstep_done i g m k x _ (by omega) w).mono ?_
  rintro e w' ⟨rfl, hb⟩
  exact ⟨rfl, (Now.same hA).behind hb⟩

namespace Stl
theorem Good.step {d : Stl} {a : Ar} (h : d.Good a) (hw : a.cs.getD d.i 0 < 18446744073709551616) : (d.step a).1.Good (d.step a).2 := by
  obtain ⟨hi, hx, hl⟩ := h
  have hlen : (a.touch d.i).cs.length = a.cs.length := by rw [Ar.touch_cs]
  by_cases k0 : d.k = 0
  · by_cases h2 : ((Slt.gen (a.cs.getD d.i 0) : Nat) : Int) = d.g ∧ Slt.Live (a.cs.getD d.i 0)
    · rw [step_live k0 h2]
      exact ⟨by show d.i < (a.touch d.i).cs.length; omega, hw, fun _ => h2.2⟩
    · rw [step_stale k0 h2]
      exact ⟨by show d.i < (a.touch d.i).cs.length; omega, hx, fun e => by simp at e⟩
  by_cases k1 : d.k = 1
  · by_cases h2 : a.cs.getD d.i 0 = d.x
    · rw [step_won k1 h2]
      exact ⟨by show d.i < ((a.touch d.i).put d.i d.end_).cs.length; simp [Ar.put]; omega, end_lt d, fun e => by simp at e⟩
    · rw [step_lost k1 h2]
      exact ⟨by show d.i < (a.touch d.i).cs.length; omega, by show 0 < 18446744073709551616; decide, fun e => by simp at e⟩
  rw [step_idle (by omega)]
  exact ⟨hi, hx, hl⟩
/-- Steps, one behind the other. -/
def run (p : Stl × Ar) : Nat → Stl × Ar
  | 0 => p
  | n + 1 => (run p n).1.step (run p n).2
theorem run_succ {p : Stl × Ar} {n : Nat} {d d' : Stl} {a a' : Ar} (h : run p n = (d, a)) (hs : d.step a = (d', a')) : run p (n + 1) = (d', a') := by
  show (run p n).1.step (run p n).2 = _
  rw [h]; exact hs
end Stl

/-- An arena that was made since the world w, and blocks of the law's own beside it. -/
structure St (w wk : World) (P : Nat) (a : Ar) (K : List (Nat × Obj)) : Prop where
  low : Below w.heap.size w wk
  ar : ∃ s : Spot, s.P = P ∧ Arena wk w.heap.size s a ∧ ∀ p ∈ K, ¬ s.has p.1
  own : ∀ p ∈ K, w.heap.size ≤ p.1 ∧ wk.heap[p.1]? = some p.2

namespace St
variable {w wk wn : World} {P : Nat} {a a' : Ar} {K : List (Nat × Obj)}
theorem lay (h : St w wk P a K) (hL : SLay w) : SLay wk := hL.kept h.low
theorem word (h : St w wk P a K) (i : Nat) : a.cs.getD i 0 < 18446744073709551616 := by
  obtain ⟨s, _, hA, _⟩ := h.ar
  obtain ⟨tv, hA⟩ := hA
  by_cases hi : i < a.cs.length
  · exact hA.wb i hi
  · simp [List.getD, List.getElem?_eq_none (by omega : a.cs.length ≤ i)]
theorem size (h : St w wk P a K) {p : Nat × Obj} (hp : p ∈ K) : p.1 < wk.heap.size := by
  have := (h.own p hp).2
  exact (Array.getElem?_eq_some_iff.1 this).1
/-- A call that lays its own blocks alone. -/
theorem below (h : St w wk P a K) (hb : Below wk.heap.size wk wn) : St w wn P a K := by
  obtain ⟨s, hP, hA, hK⟩ := h.ar
  exact ⟨h.low.trans (hb.mono h.low.size), ⟨s, hP, hA.kept (Rest.of_below (own := fun _ => False) hb) (fun _ _ => id), hK⟩, fun p hp => ⟨(h.own p hp).1, (hb.block _ (h.size hp)).trans (h.own p hp).2⟩⟩
theorem drew (h : St w wk P a K) : St w wk.drew P a K := h.below ((Below.refl _ _).drew)
/-- One that does something to the arena. -/
theorem arena (h : St w wk P a K) : ∃ s : Spot, s.P = P ∧ Arena wk w.heap.size s a ∧ ∀ (wn : World) (a' : Ar), Now wk wn w.heap.size s a' → St w wn P a' K := by
  obtain ⟨s, hP, hA, hK⟩ := h.ar
  refine ⟨s, hP, hA, fun wn a' hn => ?_⟩
  have hl := hn.below hA
  obtain ⟨T, hT, hA', hR⟩ := hn
  refine ⟨h.low.trans hl, ⟨{ s with T := T }, hP, hA', fun p hp hx => ?_⟩, fun p hp => ⟨(h.own p hp).1, (hR.block _ (h.size hp) (hK p hp)).trans (h.own p hp).2⟩⟩
  rcases hx with e | e | e | e
  · exact hK p hp (.inl e)
  · exact hK p hp (.inr (.inl e))
  · exact hK p hp (.inr (.inr (.inl e)))
  · rcases hT with g | g
    · exact hK p hp (.inr (.inr (.inr (g ▸ e))))
    · have := g _ e; have := h.size hp; omega
/-- One more block. -/
theorem add (h : St w wk P a K) (o : Obj) : St w (wk.alloc o) P a ((wk.heap.size, o) :: K) := by
  have h1 : St w (wk.alloc o) P a K := h.below (below_box wk o)
  obtain ⟨s, hP, hA, hK⟩ := h.ar
  refine ⟨h1.low, ⟨s, hP, hA.alloc o, fun p hp => ?_⟩, fun p hp => ?_⟩
  · rcases List.mem_cons.1 hp with rfl | hp
    · intro hx; have := hA.old _ hx; simp only at this; omega
    · exact hK p hp
  · rcases List.mem_cons.1 hp with rfl | hp
    · exact ⟨h.low.size, heap_alloc_new _ _⟩
    · exact h1.own p hp
/-- The first one's cells are written. -/
theorem set {b : Nat} {X : Obj} (h : St w wk P a ((b, X) :: K)) (hn : ∀ p ∈ K, p.1 ≠ b) {Y : Obj} (hR : Rest (fun k => k = b) wk wn) (hY : wn.heap[b]? = some Y) : St w wn P a ((b, Y) :: K) := by
  obtain ⟨s, hP, hA, hK⟩ := h.ar
  have hb := h.own _ (List.mem_cons_self ..)
  have hs : ¬ s.has b := hK _ (List.mem_cons_self ..)
  refine ⟨h.low.trans ?_, ⟨s, hP, hA.kept hR (fun k hk e => hs (e ▸ hk)), fun p hp => ?_⟩, fun p hp => ?_⟩
  · exact ⟨hR.os, hR.tape, hR.output, hR.size, fun k hk => by
      by_cases e : k < wk.heap.size
      · exact hR.block k e (by have := hb.1; simp only at this; omega)
      · have := h.low.size; omega⟩
  · rcases List.mem_cons.1 hp with rfl | hp
    · exact hs
    · exact hK p (List.mem_cons_of_mem _ hp)
  · rcases List.mem_cons.1 hp with rfl | hp
    · exact ⟨hb.1, hY⟩
    · have := h.own p (List.mem_cons_of_mem _ hp)
      exact ⟨this.1, (hR.block _ (h.size (List.mem_cons_of_mem _ hp)) (hn p hp)).trans this.2⟩
theorem turn {p q : Nat × Obj} (h : St w wk P a [p, q]) : St w wk P a [q, p] := by
  have hm : ∀ r, r ∈ [q, p] → r ∈ [p, q] := fun r hr => by
    simp only [List.mem_cons, List.not_mem_nil, or_false] at hr ⊢
    exact hr.symm
  obtain ⟨s, hP, hA, hK⟩ := h.ar
  exact ⟨h.low, ⟨s, hP, hA, fun r hr => hK r (hm r hr)⟩, fun r hr => h.own r (hm r hr)⟩
/-- A task in the first one. -/
theorem task {b : Nat} {d d' : Stl} (h : St w wk P a ((b, .cells d.cells 27 (0, 0)) :: K)) (hn : ∀ p ∈ K, p.1 ≠ b) (e : wn = (((((wk.setCell ⟨b, 0, none⟩ (.int .i64 d'.i)).setCell ⟨b, 1, none⟩ (.int .i64 d'.g)).setCell ⟨b, 2, none⟩ (.int .i64 d'.m)).setCell ⟨b, 3, none⟩ (.int .i64 d'.k)).setCell ⟨b, 4, none⟩ (.int .u64 d'.x))) :
    St w wn P a ((b, .cells d'.cells 27 (0, 0)) :: K) := by
  subst e
  exact h.set hn (five_rest rfl) (five_laid (h.own _ (List.mem_cons_self ..)).2)
theorem task_cells {b : Nat} {d : Stl} (h : St w wk P a ((b, .cells d.cells 27 (0, 0)) :: K)) :
    wk.cell? ⟨b, 0, none⟩ = some (.int .i64 d.i) ∧ wk.cell? ⟨b, 1, none⟩ = some (.int .i64 d.g) ∧ wk.cell? ⟨b, 2, none⟩ = some (.int .i64 d.m) ∧ wk.cell? ⟨b, 3, none⟩ = some (.int .i64 d.k) ∧ wk.cell? ⟨b, 4, none⟩ = some (.int .u64 d.x) :=
  five_cells (h.own _ (List.mem_cons_self ..)).2
theorem task_free {b : Nat} {d : Stl} (h : St w wk P a ((b, .cells d.cells 27 (0, 0)) :: K)) :
    wk.frozen? ⟨b, 0, none⟩ = false ∧ wk.frozen? ⟨b, 1, none⟩ = false ∧ wk.frozen? ⟨b, 2, none⟩ = false ∧ wk.frozen? ⟨b, 3, none⟩ = false ∧ wk.frozen? ⟨b, 4, none⟩ = false :=
  five_free (h.own _ (List.mem_cons_self ..)).2
/-- A step. -/
theorem step (h : St w wk P a K) (hL : SLay w) (d : Stl) (hd : d.Good a) :
    Calls Tryd.prog 8 #[d.val, .pointer (some ⟨P, 0, none⟩)] wk fun e w' => e = .returned (d.step a).1.val ∧ St w w' P (d.step a).2 K := by
  have hw := h.word d.i
  have h0 := h.low
  obtain ⟨s, rfl, hA, hN⟩ := h.arena
  refine (lstep_any d hd wk hA hL h0 hw).mono ?_
  rintro e w' ⟨rfl, hNow⟩
  exact ⟨rfl, hN _ _ hNow⟩
/-- .. told whole. -/
theorem step5 (h : St w wk P a K) (hL : SLay w) (i : Nat) (g m : Int) (k x i' : Nat) (g' m' : Int) (k' x' : Nat) (a' : Ar) (hd : Stl.Good ⟨i, g, m, k, x⟩ a) (he : Stl.step ⟨i, g, m, k, x⟩ a = (⟨i', g', m', k', x'⟩, a')) :
    Calls Tryd.prog 8 #[.agg #[.int .i64 i, .int .i64 g, .int .i64 m, .int .i64 k, .int .u64 x], .pointer (some ⟨P, 0, none⟩)] wk fun e w' => e = .returned (.agg #[.int .i64 i', .int .i64 g', .int .i64 m', .int .i64 k', .int .u64 x']) ∧ St w w' P a' K := by
  refine (h.step hL ⟨i, g, m, k, x⟩ hd).mono ?_
  rw [he]
  exact fun e w' h => h
theorem write (h : St w wk P a K) (i x : Nat) (hi : i < a.cs.length) (hx : x < 18446744073709551616) :
    Calls Tryd.prog 6 #[.pointer (some ⟨P, 0, none⟩), .int .i64 (i : Int), .int .u64 (x : Int)] wk fun e w' => e = .returned (.tuple #[]) ∧ St w w' P ((a.touch i).put i x) K := by
  obtain ⟨s, rfl, hA, hN⟩ := h.arena
  refine (write_in i x wk hA hi hx).mono ?_
  rintro e w' ⟨rfl, hNow⟩
  exact ⟨rfl, hN _ _ hNow⟩
theorem look (h : St w wk P a K) (i : Nat) (hi : i < a.cs.length) :
    Calls Tryd.prog 12 #[.pointer (some ⟨P, 0, none⟩), .int .i64 (i : Int)] wk fun e w' => e = .returned (.int .u64 (a.cs.getD i 0 : Nat)) ∧ wk = w' := by
  obtain ⟨s, rfl, hA, -⟩ := h.arena
  exact look_any i wk hA hi
theorem fresh {e : Ending} {n : Nat} (h : Fresh w wk n e) : ∃ P, e = .returned (.pointer (some ⟨P, 0, none⟩)) ∧ St w wk P (Ar.new n) [] := by
  obtain ⟨s, rfl, hA, hR⟩ := h
  exact ⟨s.P, rfl, ⟨hR.os, hR.tape, hR.output, hR.size, fun k hk => hR.block k hk id⟩, ⟨s, rfl, hA, fun p hp => by cases hp⟩, fun p hp => by cases hp⟩
end St

end Go.Proofs.YteijikcggflaoaaDoor
