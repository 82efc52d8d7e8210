/- Blocks of one's own, in a list: one is written by a call, one more is laid by a call, small ones are written cell by cell. -/
import Derived.Test.YtpognlidhppnaaaHeld
import Derived.Test.YtpognlidhppnaaaRest
namespace Go.Proofs.Ytpognlidhppnaaa
open Go.RowKit

/-- The first of one's own blocks is written by a call that leaves all others. -/
theorem Held.rest {w wx wy : World} {l : List (Nat × Obj)} {b : Nat} {o o' : Obj} (h : Held w wx ((b, o) :: l)) (hr : Rest (fun k => k = b) wx wy) (hn : wy.heap[b]? = some o') : Held w wy ((b, o') :: l) := by
  have ha := List.nodup_cons.1 (show (b :: l.map Prod.fst).Nodup from h.apart)
  have hb := hr.below (B := w.heap.size) h.below.size (fun k hk => by have := h.old 0 rfl; omega)
  refine ⟨h.below.trans hb, fun p hp => ?_, h.apart⟩
  rcases List.mem_cons.1 hp with rfl | hp
  · exact ⟨(h.own (b, o) List.mem_cons_self).1, hn⟩
  · have hx := h.own p (List.mem_cons_of_mem _ hp)
    exact ⟨hx.1, (hr.block p.1 (heap_lt hx.2) (fun e => ha.1 (e ▸ List.mem_map.2 ⟨p, hp, rfl⟩))).trans hx.2⟩

/-- One more is laid by a call that lays blocks of its own. -/
theorem Held.made {w wx wy : World} {l : List (Nat × Obj)} {b : Nat} {o : Obj} (h : Held w wx l) (hb : Below wx.heap.size wx wy) (hn : wy.heap[b]? = some o) (hs : wx.heap.size ≤ b) : Held w wy ((b, o) :: l) := by
  have hc := h.call hb
  refine ⟨hc.below, fun p hp => ?_, ?_⟩
  · rcases List.mem_cons.1 hp with rfl | hp
    · exact ⟨Nat.le_trans h.below.size hs, hn⟩
    · exact hc.own p hp
  · refine List.nodup_cons.2 ⟨fun hm => ?_, h.apart⟩
    obtain ⟨p, hp, he⟩ := List.mem_map.1 hm
    have := heap_lt (h.own p hp).2
    omega

/-- What a call wrote was none of one's own blocks, and none of what was there. -/
theorem Held.past {w wx wy : World} {l : List (Nat × Obj)} {own : Nat → Prop} (h : Held w wx l) (hr : Rest own wx wy) (hl : ∀ p ∈ l, ¬own p.1) (ho : ∀ k, own k → w.heap.size ≤ k) : Held w wy l :=
  ⟨h.below.trans (hr.below h.below.size ho), fun p hp => ⟨(h.own p hp).1, (hr.block p.1 (heap_lt (h.own p hp).2) (hl p hp)).trans (h.own p hp).2⟩, h.apart⟩
/-- Two cells of a block. -/
theorem two_cells {w : World} {B : Nat} {t : TypeId} {c0 c1 : Value} (h : w.heap[B]? = some (.cells #[c0, c1] t (0, 0))) : w.cell? ⟨B, 0, none⟩ = some c0 ∧ w.cell? ⟨B, 1, none⟩ = some c1 :=
  ⟨cell_of_row _ _ _ _ _ _ h, cell_of_row _ _ _ _ _ _ h⟩
/-- A block of two cells is written. -/
theorem Held.two {w wx : World} {l : List (Nat × Obj)} {b : Nat} {t : TypeId} {c0 c1 : Value} (h : Held w wx ((b, .cells #[c0, c1] t (0, 0)) :: l)) (x y : Value) :
    Held w ((wx.setCell ⟨b, 0, none⟩ x).setCell ⟨b, 1, none⟩ y) ((b, .cells #[x, y] t (0, 0)) :: l) :=
  h.put ((h.below.setCell (h.old 0 rfl) _).setCell (h.old 0 rfl) _) (heap_setCell_same _ _ 1 _ _ _ (heap_setCell_same _ _ 0 _ _ _ (h.get 0 rfl))) (fun _ hk => (heap_setCell_other _ _ _ _ hk).trans (heap_setCell_other _ _ _ _ hk))

theorem Held.one {w wx : World} {l : List (Nat × Obj)} {b : Nat} {t : TypeId} {c0 c1 : Value} (h : Held w wx ((b, .cells #[c0, c1] t (0, 0)) :: l)) (x : Value) :
    Held w (wx.setCell ⟨b, 0, none⟩ x) ((b, .cells #[x, c1] t (0, 0)) :: l) :=
  h.put (h.below.setCell (h.old 0 rfl) _) (heap_setCell_same _ _ 0 _ _ _ (h.get 0 rfl)) (fun _ hk => heap_setCell_other _ _ _ _ hk)
theorem Held.one1 {w wx : World} {l : List (Nat × Obj)} {b : Nat} {t : TypeId} {c0 c1 : Value} (h : Held w wx ((b, .cells #[c0, c1] t (0, 0)) :: l)) (x : Value) :
    Held w (wx.setCell ⟨b, 1, none⟩ x) ((b, .cells #[c0, x] t (0, 0)) :: l) :=
  h.put (h.below.setCell (h.old 0 rfl) _) (heap_setCell_same _ _ 1 _ _ _ (h.get 0 rfl)) (fun _ hk => heap_setCell_other _ _ _ _ hk)
/-- The second one is forgotten. -/
theorem Held.but {w wx : World} {l : List (Nat × Obj)} {p q : Nat × Obj} (h : Held w wx (p :: q :: l)) : Held w wx (p :: l) :=
  ⟨h.below, fun r hr => h.own r (by
    rcases List.mem_cons.1 hr with e | e
    · rw [e]; exact List.mem_cons_self
    · exact List.mem_cons_of_mem _ (List.mem_cons_of_mem _ e)),
    by have := h.apart; simp only [List.map_cons, List.nodup_cons, List.mem_cons, not_or] at this ⊢; exact ⟨this.1.2, this.2.2⟩⟩

end Go.Proofs.Ytpognlidhppnaaa
