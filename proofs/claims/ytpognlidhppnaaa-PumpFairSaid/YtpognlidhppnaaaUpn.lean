/- Some blocks of a world are written, and others laid: all other blocks are as they were. Those that count stand in a list. -/
import Derived.Test.YtpognlidhppnaaaHeldB
namespace Go.Proofs.Ytpognlidhppnaaa
open Go.RowKit

/-- Since the world w only blocks of 'own' were written, and new ones laid; of these and those the list tells some. -/
structure Upon (own : Nat → Prop) (w wx : World) (l : List (Nat × Obj)) : Prop where
  rest : Rest own w wx
  own : ∀ p ∈ l, (own p.1 ∨ w.heap.size ≤ p.1) ∧ wx.heap[p.1]? = some p.2
  apart : (l.map Prod.fst).Nodup
namespace Upon
variable {own : Nat → Prop} {w wx wy : World} {l : List (Nat × Obj)}
theorem start (own : Nat → Prop) (w : World) : Upon own w w [] := ⟨Rest.refl _ _, (fun _ h => by cases h), List.nodup_nil⟩
theorem one {b : Nat} {o : Obj} (h : w.heap[b]? = some o) (ho : own b) : Upon own w w [(b, o)] := by
  refine ⟨Rest.refl _ _, fun p hp => ?_, by simp⟩
  obtain rfl : p = (b, o) := by simpa using hp
  exact ⟨.inl ho, h⟩
theorem two {b c : Nat} {o p : Obj} (h : w.heap[b]? = some o) (k : w.heap[c]? = some p) (ho : own b) (hp : own c) (hn : b ≠ c) : Upon own w w [(b, o), (c, p)] := by
  refine ⟨Rest.refl _ _, fun q hq => ?_, by simpa using hn⟩
  simp only [List.mem_cons, List.not_mem_nil, or_false] at hq
  rcases hq with rfl | rfl
  · exact ⟨.inl ho, h⟩
  · exact ⟨.inl hp, k⟩
theorem get (h : Upon own w wx l) (i : Nat) {b : Nat} {o : Obj} (e : l[i]? = some (b, o)) : wx.heap[b]? = some o := (h.own (b, o) (List.mem_of_getElem? e)).2
theorem of (h : Upon own w wx l) (i : Nat) {b : Nat} {o : Obj} (e : l[i]? = some (b, o)) : own b ∨ w.heap.size ≤ b := (h.own (b, o) (List.mem_of_getElem? e)).1
theorem call (h : Upon own w wx l) (hb : Below wx.heap.size wx wy) : Upon own w wy l :=
  ⟨h.rest.trans (Rest.of_below (own := fun _ => False) hb) (fun _ _ => id) (fun _ _ h => h.elim), fun p hp => ⟨(h.own p hp).1, keep (h.own p hp).2 hb⟩, h.apart⟩
theorem drew (h : Upon own w wx l) : Upon own w wx.drew l := h.call (Below.refl _ _).drew
theorem drewN (h : Upon own w wx l) (n : Nat) : Upon own w (wx.drewN n) l := h.call ⟨rfl, rfl, rfl, Nat.le_refl _, fun _ _ => rfl⟩
theorem lay (h : Upon own w wx l) (o : Obj) : Upon own w (wx.alloc o) ((wx.heap.size, o) :: l) := by
  have hc := h.call (below_box wx o)
  refine ⟨hc.rest, fun p hp => ?_, ?_⟩
  · rcases List.mem_cons.1 hp with rfl | hp
    · exact ⟨.inr h.rest.size, heap_alloc_new wx o⟩
    · exact hc.own p hp
  · refine List.nodup_cons.2 ⟨fun hm => ?_, h.apart⟩
    obtain ⟨p, hp, he⟩ := List.mem_map.1 hm
    have := heap_lt (h.own p hp).2
    omega
/-- One more is laid by a call that lays blocks of its own. -/
theorem made (h : Upon own w wx l) (hb : Below wx.heap.size wx wy) {b : Nat} {o : Obj} (hn : wy.heap[b]? = some o) (hs : wx.heap.size ≤ b) : Upon own w wy ((b, o) :: l) := by
  have hc := h.call hb
  refine ⟨hc.rest, fun p hp => ?_, ?_⟩
  · rcases List.mem_cons.1 hp with rfl | hp
    · exact ⟨.inr (Nat.le_trans h.rest.size hs), hn⟩
    · exact hc.own p hp
  · refine List.nodup_cons.2 ⟨fun hm => ?_, h.apart⟩
    obtain ⟨p, hp, he⟩ := List.mem_map.1 hm
    have := heap_lt (h.own p hp).2
    omega
theorem tail {p : Nat × Obj} (h : Upon own w wx (p :: l)) : Upon own w wx l :=
  ⟨h.rest, fun q hq => h.own q (List.mem_cons_of_mem _ hq), (List.nodup_cons.1 (by simpa using h.apart)).2⟩
theorem swap {p q : Nat × Obj} (h : Upon own w wx (p :: q :: l)) : Upon own w wx (q :: p :: l) :=
  ⟨h.rest, fun r hr => h.own r (by simp only [List.mem_cons] at hr ⊢; rcases hr with h | h | h <;> simp [h]), (List.Perm.swap q.1 p.1 (l.map Prod.fst)).nodup_iff.1 h.apart |> fun k => by simpa using k⟩
theorem perm {l' : List (Nat × Obj)} (h : Upon own w wx l) (hp : l.Perm l') : Upon own w wx l' :=
  ⟨h.rest, fun p hq => h.own p (hp.mem_iff.2 hq), (hp.map _).nodup_iff.1 h.apart⟩
/-- The third one comes first. -/
theorem turn {p q r : Nat × Obj} (h : Upon own w wx (p :: q :: r :: l)) : Upon own w wx (r :: p :: q :: l) := h.perm (List.perm_middle (l₁ := [p, q]) (a := r) (l₂ := l))
/-- The first one is written, by stores or by a call, all others are as they were. -/
theorem put {b : Nat} {o o' : Obj} (h : Upon own w wx ((b, o) :: l)) (hr : Rest (fun k => k = b) wx wy) (hn : wy.heap[b]? = some o') : Upon own w wy ((b, o') :: l) := by
  have ha := List.nodup_cons.1 (show (b :: l.map Prod.fst).Nodup from h.apart)
  have hb := h.of 0 rfl
  refine ⟨h.rest.trans hr (fun _ _ => id) (fun i hi e => ?_), fun p hp => ?_, h.apart⟩
  · subst e
    rcases hb with hb | hb
    · exact hb
    · omega
  · rcases List.mem_cons.1 hp with rfl | hp
    · exact ⟨hb, hn⟩
    · have hx := h.own p (List.mem_cons_of_mem _ hp)
      exact ⟨hx.1, (hr.block p.1 (heap_lt hx.2) (fun e => ha.1 (e ▸ List.mem_map.2 ⟨p, hp, rfl⟩))).trans hx.2⟩
theorem set {b i : Nat} {o o' : Obj} {v : Value} (h : Upon own w wx ((b, o) :: l)) (hn : (wx.setCell ⟨b, i, none⟩ v).heap[b]? = some o') : Upon own w (wx.setCell ⟨b, i, none⟩ v) ((b, o') :: l) :=
  h.put (Rest.setCell (own := fun k => k = b) wx _ _ rfl) hn
/-- .. the second one. -/
theorem put1 {p : Nat × Obj} {b : Nat} {o o' : Obj} (h : Upon own w wx (p :: (b, o) :: l)) (hr : Rest (fun k => k = b) wx wy) (hn : wy.heap[b]? = some o') : Upon own w wy (p :: (b, o') :: l) := (h.swap.put hr hn).swap
/-- The first two are written by a call. -/
theorem put2 {b c : Nat} {o o' p p' : Obj} (h : Upon own w wx ((b, o) :: (c, p) :: l)) (hr : Rest (fun k => k = b ∨ k = c) wx wy) (hn : wy.heap[b]? = some o') (hm : wy.heap[c]? = some p') : Upon own w wy ((b, o') :: (c, p') :: l) := by
  have ha := List.nodup_cons.1 (show (b :: c :: l.map Prod.fst).Nodup from h.apart)
  have hc := List.nodup_cons.1 ha.2
  have h0 := h.of 0 rfl
  have h1 := h.of 1 rfl
  refine ⟨h.rest.trans hr (fun _ _ => id) (fun i hi e => ?_), fun q hq => ?_, h.apart⟩
  · rcases e with rfl | rfl
    · exact h0.resolve_right (by omega)
    · exact h1.resolve_right (by omega)
  · rcases List.mem_cons.1 hq with rfl | hq
    · exact ⟨h0, hn⟩
    rcases List.mem_cons.1 hq with rfl | hq
    · exact ⟨h1, hm⟩
    · have hx := h.own q (List.mem_cons_of_mem _ (List.mem_cons_of_mem _ hq))
      have hi : q.1 ∈ l.map Prod.fst := List.mem_map.2 ⟨q, hq, rfl⟩
      refine ⟨hx.1, (hr.block q.1 (heap_lt hx.2) (fun e => ?_)).trans hx.2⟩
      rcases e with e | e
      · exact ha.1 (List.mem_cons_of_mem _ (e ▸ hi))
      · exact hc.1 (e ▸ hi)
theorem below (h : Upon own w wx l) (ho : ∀ k, ¬own k) : Below w.heap.size w wx := h.rest.below (Nat.le_refl _) (fun k hk => absurd hk (ho k))
theorem lay2 (h : Upon own w w l) (o p : Obj) : Upon own w ((w.alloc o).alloc p) ((w.heap.size + 1, p) :: (w.heap.size, o) :: l) := by
  have := (h.lay o).lay p
  simpa using this
theorem lay3 (h : Upon own w w l) (o p q : Obj) : Upon own w (((w.alloc o).alloc p).alloc q) ((w.heap.size + 1 + 1, q) :: (w.heap.size + 1, p) :: (w.heap.size, o) :: l) := by
  have := (h.lay2 o p).lay q
  simpa using this
theorem lay4 (h : Upon own w w l) (o p q r : Obj) : Upon own w ((((w.alloc o).alloc p).alloc q).alloc r) ((w.heap.size + 1 + 1 + 1, r) :: (w.heap.size + 1 + 1, q) :: (w.heap.size + 1, p) :: (w.heap.size, o) :: l) := by
  have := (h.lay3 o p q).lay r
  simpa using this
end Upon
end Go.Proofs.Ytpognlidhppnaaa
