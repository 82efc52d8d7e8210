/- Blocks that were laid since a world, in a list: what a call of one who lays blocks of his own leaves of them, a new one, one that is written. -/
import Derived.Test.YtpognlidhppnaaaKeep
namespace Go.Proofs.Ytpognlidhppnaaa
open Go.RowKit

/-- Since the world w these blocks were laid, and hold these; all that was there then is as it was. -/
structure Held (w wx : World) (l : List (Nat × Obj)) : Prop where
  below : Below w.heap.size w wx
  own : ∀ p ∈ l, w.heap.size ≤ p.1 ∧ wx.heap[p.1]? = some p.2
  apart : (l.map Prod.fst).Nodup

theorem Held.start (w : World) : Held w w [] := ⟨Below.refl _ _, (fun _ h => by cases h), List.nodup_nil⟩
theorem Held.get {w wx : World} {l : List (Nat × Obj)} (h : Held w wx l) (i : Nat) {b : Nat} {o : Obj} (e : l[i]? = some (b, o)) : wx.heap[b]? = some o :=
  (h.own (b, o) (List.mem_of_getElem? e)).2
theorem Held.old {w wx : World} {l : List (Nat × Obj)} (h : Held w wx l) (i : Nat) {b : Nat} {o : Obj} (e : l[i]? = some (b, o)) : w.heap.size ≤ b :=
  (h.own (b, o) (List.mem_of_getElem? e)).1
theorem Held.lay {w wx : World} {l : List (Nat × Obj)} (h : Held w wx l) (o : Obj) : Held w (wx.alloc o) ((wx.heap.size, o) :: l) := by
  refine ⟨on h.below (below_box wx o), fun p hp => ?_, ?_⟩
  · rcases List.mem_cons.1 hp with rfl | hp
    · exact ⟨h.below.size, heap_alloc_new wx o⟩
    · exact ⟨(h.own p hp).1, keep1 (h.own p hp).2 o⟩
  · refine List.nodup_cons.2 ⟨fun hm => ?_, h.apart⟩
    obtain ⟨p, hp, he⟩ := List.mem_map.1 hm
    have := heap_lt (h.own p hp).2
    omega
theorem Held.call {w wx wy : World} {l : List (Nat × Obj)} (h : Held w wx l) (hb : Below wx.heap.size wx wy) : Held w wy l :=
  ⟨on h.below hb, fun p hp => ⟨(h.own p hp).1, keep (h.own p hp).2 hb⟩, h.apart⟩
theorem Held.drew {w wx : World} {l : List (Nat × Obj)} (h : Held w wx l) : Held w wx.drew l := h.call (Below.refl _ _).drew
/-- One is forgotten. -/
theorem Held.tail {w wx : World} {l : List (Nat × Obj)} {p : Nat × Obj} (h : Held w wx (p :: l)) : Held w wx l :=
  ⟨h.below, fun q hq => h.own q (List.mem_cons_of_mem _ hq), (List.nodup_cons.1 (by simpa using h.apart)).2⟩
/-- The first two in the other order. -/
theorem Held.swap {w wx : World} {l : List (Nat × Obj)} {p q : Nat × Obj} (h : Held w wx (p :: q :: l)) : Held w wx (q :: p :: l) :=
  ⟨h.below, fun r hr => h.own r (by simp only [List.mem_cons] at hr ⊢; rcases hr with h | h | h <;> simp [h]), (List.Perm.swap q.1 p.1 (l.map Prod.fst)).nodup_iff.1 h.apart |> fun k => by simpa using k⟩
/-- The first one is written: what is written touches no other. -/
theorem Held.put {w wx wy : World} {l : List (Nat × Obj)} {b : Nat} {o o' : Obj} (h : Held w wx ((b, o) :: l)) (hb : Below w.heap.size w wy) (hn : wy.heap[b]? = some o') (ho : ∀ k, k ≠ b → wy.heap[k]? = wx.heap[k]?) : Held w wy ((b, o') :: l) := by
  have ha := List.nodup_cons.1 (show (b :: l.map Prod.fst).Nodup from h.apart)
  refine ⟨hb, fun p hp => ?_, h.apart⟩
  rcases List.mem_cons.1 hp with rfl | hp
  · exact ⟨(h.own (b, o) List.mem_cons_self).1, hn⟩
  · have hx := h.own p (List.mem_cons_of_mem _ hp)
    exact ⟨hx.1, (ho p.1 (fun e => ha.1 (e ▸ List.mem_map.2 ⟨p, hp, rfl⟩))).trans hx.2⟩
/-- An alarm, a frame is written over the first one. -/
theorem Held.alarm {w wx : World} {l : List (Nat × Obj)} {b : Nat} {t : TypeId} {c0 c1 c2 c3 c4 d0 d1 d2 d3 d4 : Value} (h : Held w wx ((b, .cells #[d0, d1, d2, d3, d4] t (0, 0)) :: l)) :
    Held w (((((wx.setCell ⟨b, 0, none⟩ c0).setCell ⟨b, 1, none⟩ c1).setCell ⟨b, 2, none⟩ c2).setCell ⟨b, 3, none⟩ c3).setCell ⟨b, 4, none⟩ c4) ((b, .cells #[c0, c1, c2, c3, c4] t (0, 0)) :: l) :=
  h.put (alarm_below h.below (h.old 0 rfl)) (alarm_laid (h.get 0 rfl)) (fun _ hk => alarm_other hk)
theorem Held.frame {w wx : World} {l : List (Nat × Obj)} {b : Nat} {t : TypeId} {c0 c1 c2 c3 c4 c5 c6 c7 c8 c9 c10 d0 d1 d2 d3 d4 d5 d6 d7 d8 d9 d10 : Value} (h : Held w wx ((b, .cells #[d0, d1, d2, d3, d4, d5, d6, d7, d8, d9, d10] t (0, 0)) :: l)) :
    Held w (((((((((((wx.setCell ⟨b, 0, none⟩ c0).setCell ⟨b, 1, none⟩ c1).setCell ⟨b, 2, none⟩ c2).setCell ⟨b, 3, none⟩ c3).setCell ⟨b, 4, none⟩ c4).setCell ⟨b, 5, none⟩ c5).setCell ⟨b, 6, none⟩ c6).setCell ⟨b, 7, none⟩ c7).setCell ⟨b, 8, none⟩ c8).setCell ⟨b, 9, none⟩ c9).setCell ⟨b, 10, none⟩ c10) ((b, .cells #[c0, c1, c2, c3, c4, c5, c6, c7, c8, c9, c10] t (0, 0)) :: l) :=
  h.put (frame_below h.below (h.old 0 rfl)) (frame_laid rfl (h.get 0 rfl)) (fun _ hk => frame_other hk)
end Go.Proofs.Ytpognlidhppnaaa
