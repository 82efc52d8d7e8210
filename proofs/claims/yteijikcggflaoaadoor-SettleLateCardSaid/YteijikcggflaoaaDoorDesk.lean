/- A call that keeps two blocks of its own beside an arena: what it was handed in by value, and its answer; both are there behind all that is done to the arena. -/
import Derived.Test.YteijikcggflaoaaDoorNows
namespace Go.Proofs.YteijikcggflaoaaDoor
open Go.RowKit

/-- Behind what was done to an arena, and to blocks that were laid ahead of that, beside it. -/
theorem Now.close {w wb wk wn : World} {B : Nat} {s : Spot} {a0 a : Ar} (h0 : Arena w B s a0) (hb : Below w.heap.size w wb) (h : Now wb wk B s a) (hr : Rest (fun k => w.heap.size ≤ k ∧ k < wb.heap.size) wk wn) : Now w wn B s a := by
  obtain ⟨T, hT, hA, hR⟩ := h
  have hs := hb.size
  refine ⟨T, ?_, hA.kept hr ?_, ((Rest.of_below (own := fun _ => False) hb).trans hR (o3 := s.has) (fun _ _ x => x.elim) (fun _ _ x => x)).trans hr (fun _ _ x => x) (fun i hi x => absurd x.1 (by omega))⟩
  · rcases hT with e | e
    · exact .inl e
    · exact .inr (fun k hk => by have := e k hk; omega)
  · rintro k hk ⟨g1, g2⟩
    have hold : ∀ j, s.has j → j < w.heap.size := h0.old
    rcases hk with rfl | rfl | rfl | e
    · have := hold s.P (.inl rfl); simp only at g1; omega
    · have := hold s.C (.inr (.inl rfl)); simp only at g1; omega
    · have := hold s.M (.inr (.inr (.inl rfl))); simp only at g1; omega
    · rcases hT with e2 | e2
      · have := hold k (.inr (.inr (.inr (e2 ▸ e)))); omega
      · have := e2 k e; omega

/-- Two blocks that were laid in the world w, the arena behind them. -/
structure Desk (w wk : World) (B : Nat) (s : Spot) (a : Ar) (X Z : Obj) : Prop where
  box : wk.heap[w.heap.size]? = some X
  res : wk.heap[w.heap.size + 1]? = some Z
  old : ∃ a0, Arena w B s a0
  now : ∃ wb, wb.heap.size = w.heap.size + 2 ∧ Below w.heap.size w wb ∧ Now wb wk B s a

theorem Desk.start {w wk : World} {B : Nat} {s : Spot} {a : Ar} {X Z : Obj} (h : Arena w B s a) (hb : Below ((w.alloc X).alloc Z).heap.size ((w.alloc X).alloc Z) wk) : Desk w wk B s a X Z := by
  refine ⟨?_, ?_, ⟨a, h⟩, (w.alloc X).alloc Z, by simp, (below_box w X).alloc (by simp) Z, Now.behind (Now.same ((h.alloc X).alloc Z)) hb⟩
  · rw [hb.block _ (by simp; omega), Below.heap_alloc _ _ _ (by simp)]; exact heap_alloc_new w X
  · rw [hb.block _ (by simp)]
    have := heap_alloc_new (w.alloc X) Z
    rwa [show (w.alloc X).heap.size = w.heap.size + 1 by simp] at this

theorem Desk.lt {w wk : World} {B : Nat} {s : Spot} {a : Ar} {X Z : Obj} (h : Desk w wk B s a X Z) : w.heap.size + 2 ≤ wk.heap.size := by
  obtain ⟨wb, h1, _, h3⟩ := h.now
  have := h3.size; omega
/-- Another one's call that lays his own blocks alone. -/
theorem Desk.below {w wk wn : World} {B : Nat} {s : Spot} {a : Ar} {X Z : Obj} (h : Desk w wk B s a X Z) (hb : Below wk.heap.size wk wn) : Desk w wn B s a X Z := by
  have hl := h.lt
  obtain ⟨wb, h1, h2, h3⟩ := h.now
  exact ⟨(hb.block _ (by omega)).trans h.box, (hb.block _ (by omega)).trans h.res, h.old, wb, h1, h2, h3.behind hb⟩
theorem Desk.drew {w wk : World} {B : Nat} {s : Spot} {a : Ar} {X Z : Obj} (h : Desk w wk B s a X Z) : Desk w wk.drew B s a X Z :=
  h.below ((Below.refl _ _).drew)
/-- .. that does something to the arena. -/
theorem Desk.call {w wk wn : World} {B : Nat} {s : Spot} {a a' : Ar} {X Z : Obj} (h : Desk w wk B s a X Z) (hc : ∀ T, Arena wk B { s with T := T } a → Now wk wn B { s with T := T } a') : Desk w wn B s a' X Z := by
  have hl := h.lt
  obtain ⟨wb, h1, h2, h3⟩ := h.now
  obtain ⟨a0, h0⟩ := h.old
  obtain ⟨T, hT, hA, hR⟩ := h3
  obtain ⟨T2, _, _, hR2⟩ := hc T hA
  have hno : ∀ k, w.heap.size ≤ k → k < w.heap.size + 2 → ¬ ({ s with T := T } : Spot).has k := by
    intro k g1 g2 hk
    rcases hk with rfl | rfl | rfl | e
    · have := h0.old s.P (.inl rfl); simp only at g1; omega
    · have := h0.old s.C (.inr (.inl rfl)); simp only at g1; omega
    · have := h0.old s.M (.inr (.inr (.inl rfl))); simp only at g1; omega
    · rcases hT with e2 | e2
      · have := h0.old k (.inr (.inr (.inr (e2 ▸ e)))); omega
      · have := e2 k e; omega
  exact ⟨(hR2.block _ (by omega) (hno _ (by omega) (by omega))).trans h.box, (hR2.block _ (by omega) (hno _ (by omega) (by omega))).trans h.res, ⟨a0, h0⟩, wb, h1, h2, Now.call ⟨T, hT, hA, hR⟩ (fun T' hA' => hc T' hA')⟩
theorem Desk.arena {w wk : World} {B : Nat} {s : Spot} {a : Ar} {X Z : Obj} (h : Desk w wk B s a X Z) : ∃ T, Arena wk B { s with T := T } a ∧ ∀ (wn : World) (a' : Ar), Now wk wn B { s with T := T } a' → Desk w wn B s a' X Z := by
  have hl := h.lt
  obtain ⟨wb, h1, h2, h3⟩ := h.now
  obtain ⟨a0, h0⟩ := h.old
  obtain ⟨T, hT, hA, hR⟩ := h3
  refine ⟨T, hA, fun wn a' hn => ?_⟩
  have hn2 := hn
  obtain ⟨T2, _, _, hR2⟩ := hn
  have hno : ∀ k, w.heap.size ≤ k → k < w.heap.size + 2 → ¬ ({ s with T := T } : Spot).has k := by
    intro k g1 g2 hk
    rcases hk with rfl | rfl | rfl | e
    · have := h0.old s.P (.inl rfl); simp only at g1; omega
    · have := h0.old s.C (.inr (.inl rfl)); simp only at g1; omega
    · have := h0.old s.M (.inr (.inr (.inl rfl))); simp only at g1; omega
    · rcases hT with e2 | e2
      · have := h0.old k (.inr (.inr (.inr (e2 ▸ e)))); omega
      · have := e2 k e; omega
  exact ⟨(hR2.block _ (by omega) (hno _ (by omega) (by omega))).trans h.box, (hR2.block _ (by omega) (hno _ (by omega) (by omega))).trans h.res, ⟨a0, h0⟩, wb, h1, h2, Now.step hT hR hn2⟩
/-- A cell of what was handed in is written. -/
theorem Desk.set {w wk : World} {B : Nat} {s : Spot} {a : Ar} {Z : Obj} {cs cs' : Array Value} {t : TypeId} (h : Desk w wk B s a (.cells cs t (0, 0)) Z) (i : Nat) (v : Value) (e : cs.setIfInBounds i v = cs') : Desk w (wk.setCell ⟨w.heap.size, i, none⟩ v) B s a (.cells cs' t (0, 0)) Z := by
  obtain ⟨wb, h1, h2, h3⟩ := h.now
  obtain ⟨a0, h0⟩ := h.old
  refine ⟨by rw [heap_setCell_same _ _ _ _ _ _ h.box, e], by rw [heap_setCell_other _ _ _ _ (by simp)]; exact h.res, ⟨a0, h0⟩, wb.setCell ⟨w.heap.size, i, none⟩ v, by simp [World.setCell, h1], h2.setCell (Nat.le_refl _) v, ?_⟩
  obtain ⟨T, hT, hA, hR⟩ := h3
  have hno : ∀ k, k = w.heap.size → ¬ ({ s with T := T } : Spot).has k := by
    intro k g hk
    rcases hk with rfl | rfl | rfl | e
    · have := h0.old s.P (.inl rfl); simp only at g; omega
    · have := h0.old s.C (.inr (.inl rfl)); simp only at g; omega
    · have := h0.old s.M (.inr (.inr (.inl rfl))); simp only at g; omega
    · rcases hT with e2 | e2
      · have := h0.old k (.inr (.inr (.inr (e2 ▸ e)))); omega
      · have := e2 k e; omega
  refine ⟨T, ?_, hA.setCell _ _ (hno _ rfl), ?_⟩
  · rcases hT with e2 | e2
    · exact .inl e2
    · exact .inr (fun k hk => by have := e2 k hk; simpa [World.setCell] using this)
  · refine ⟨hR.os, hR.tape, hR.output, by have := hR.size; simpa [World.setCell] using this, fun k hk hn => ?_⟩
    have hk' : k < wb.heap.size := by simpa [World.setCell] using hk
    have hb := hR.block k hk' hn
    by_cases ek : k = w.heap.size
    · subst ek
      have hx := h.box
      rw [heap_setCell_same _ _ _ _ _ _ hx, heap_setCell_same _ _ _ _ _ _ (hb.symm.trans hx)]
    · rw [heap_setCell_other _ _ _ _ ek, heap_setCell_other _ _ _ _ ek]; exact hb
/-- A cell of the answer is written. -/
theorem Desk.setR {w wk : World} {B : Nat} {s : Spot} {a : Ar} {X : Obj} {cs cs' : Array Value} {t : TypeId} (h : Desk w wk B s a X (.cells cs t (0, 0))) (i : Nat) (v : Value) (e : cs.setIfInBounds i v = cs') : Desk w (wk.setCell ⟨w.heap.size + 1, i, none⟩ v) B s a X (.cells cs' t (0, 0)) := by
  obtain ⟨wb, h1, h2, h3⟩ := h.now
  obtain ⟨a0, h0⟩ := h.old
  refine ⟨by rw [heap_setCell_other _ _ _ _ (by simp)]; exact h.box, by rw [heap_setCell_same _ _ _ _ _ _ h.res, e], ⟨a0, h0⟩, wb.setCell ⟨w.heap.size + 1, i, none⟩ v, by simp [World.setCell, h1], h2.setCell (Nat.le_succ _) v, ?_⟩
  obtain ⟨T, hT, hA, hR⟩ := h3
  have hno : ∀ k, k = w.heap.size + 1 → ¬ ({ s with T := T } : Spot).has k := by
    intro k g hk
    rcases hk with rfl | rfl | rfl | e
    · have := h0.old s.P (.inl rfl); simp only at g; omega
    · have := h0.old s.C (.inr (.inl rfl)); simp only at g; omega
    · have := h0.old s.M (.inr (.inr (.inl rfl))); simp only at g; omega
    · rcases hT with e2 | e2
      · have := h0.old k (.inr (.inr (.inr (e2 ▸ e)))); omega
      · have := e2 k e; omega
  refine ⟨T, ?_, hA.setCell _ _ (hno _ rfl), ?_⟩
  · rcases hT with e2 | e2
    · exact .inl e2
    · exact .inr (fun k hk => by have := e2 k hk; simpa [World.setCell] using this)
  · refine ⟨hR.os, hR.tape, hR.output, by have := hR.size; simpa [World.setCell] using this, fun k hk hn => ?_⟩
    have hk' : k < wb.heap.size := by simpa [World.setCell] using hk
    have hb := hR.block k hk' hn
    by_cases ek : k = w.heap.size + 1
    · subst ek
      have hx := h.res
      rw [heap_setCell_same _ _ _ _ _ _ hx, heap_setCell_same _ _ _ _ _ _ (hb.symm.trans hx)]
    · rw [heap_setCell_other _ _ _ _ ek, heap_setCell_other _ _ _ _ ek]; exact hb
/-- Nine cells of the answer are written. -/
theorem Desk.nineR {w wk : World} {B : Nat} {s : Spot} {a : Ar} {X : Obj} {t : TypeId} {d0 d1 d2 d3 d4 d5 d6 d7 d8 c0 c1 c2 c3 c4 c5 c6 c7 c8 : Value} (h : Desk w wk B s a X (.cells #[d0, d1, d2, d3, d4, d5, d6, d7, d8] t (0, 0))) :
    Desk w (((((((((wk.setCell ⟨w.heap.size + 1, 0, none⟩ c0).setCell ⟨w.heap.size + 1, 1, none⟩ c1).setCell ⟨w.heap.size + 1, 2, none⟩ c2).setCell ⟨w.heap.size + 1, 3, none⟩ c3).setCell ⟨w.heap.size + 1, 4, none⟩ c4).setCell ⟨w.heap.size + 1, 5, none⟩ c5).setCell ⟨w.heap.size + 1, 6, none⟩ c6).setCell ⟨w.heap.size + 1, 7, none⟩ c7).setCell ⟨w.heap.size + 1, 8, none⟩ c8) B s a X (.cells #[c0, c1, c2, c3, c4, c5, c6, c7, c8] t (0, 0)) := by
  have e0 := h.setR 0 c0 (cs' := #[c0, d1, d2, d3, d4, d5, d6, d7, d8]) rfl
  have e1 := e0.setR 1 c1 (cs' := #[c0, c1, d2, d3, d4, d5, d6, d7, d8]) rfl
  have e2 := e1.setR 2 c2 (cs' := #[c0, c1, c2, d3, d4, d5, d6, d7, d8]) rfl
  have e3 := e2.setR 3 c3 (cs' := #[c0, c1, c2, c3, d4, d5, d6, d7, d8]) rfl
  have e4 := e3.setR 4 c4 (cs' := #[c0, c1, c2, c3, c4, d5, d6, d7, d8]) rfl
  have e5 := e4.setR 5 c5 (cs' := #[c0, c1, c2, c3, c4, c5, d6, d7, d8]) rfl
  have e6 := e5.setR 6 c6 (cs' := #[c0, c1, c2, c3, c4, c5, c6, d7, d8]) rfl
  have e7 := e6.setR 7 c7 (cs' := #[c0, c1, c2, c3, c4, c5, c6, c7, d8]) rfl
  exact e7.setR 8 c8 rfl
/-- The answer is written: what stands behind the call. -/
theorem Desk.done {w wk wn : World} {B : Nat} {s : Spot} {a : Ar} {X Z : Obj} (h : Desk w wk B s a X Z) (hr : Rest (fun k => k = w.heap.size + 1) wk wn) : Now w wn B s a := by
  obtain ⟨wb, h1, h2, h3⟩ := h.now
  obtain ⟨a0, h0⟩ := h.old
  exact Now.close h0 h2 h3 (hr.mono (fun i _ x => by omega))

end Go.Proofs.YteijikcggflaoaaDoor
