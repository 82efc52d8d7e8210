/- A cache that was made since a world, beside blocks of one's own of which each holds what it is told to hold; the calls that write it. -/
import Derived.Test.YthkcomnmihmccaaDdF
namespace Go.Proofs.Ythkcomnmihmccaa
open Go.RowKit Go.Sort

/-- A row of items in a block. -/
def RowO (t : TypeId) (k off n cap : Nat) (xs : List Value) (o : Obj) : Prop := xs.length = n * k ∧ n ≤ cap ∧ cap ≤ maxLen ∧ ∃ cur, o = .cells cur t (0, 0) ∧ off + cap * k ≤ cur.size ∧ ∀ j u, xs[j]? = some u → cur[off + j]? = some u
theorem RowO.row {w : World} {t : TypeId} {B k g off n cap : Nat} {xs : List Value} {o : Obj} (h : RowO t k off n cap xs o) (hg : w.heap[g]? = some o) (hB : B ≤ g) : RowK w B t k g off n cap xs := by
  obtain ⟨h1, h2, h3, cur, rfl, h4, h5⟩ := h
  exact ⟨h1, hB, h2, h3, cur, hg, h4, h5⟩
theorem RowK.obj {w : World} {t : TypeId} {B k g off n cap : Nat} {xs : List Value} (h : RowK w B t k g off n cap xs) : ∃ o, w.heap[g]? = some o ∧ RowO t k off n cap xs o := by
  obtain ⟨cur, hg, h1, h2⟩ := h.block
  exact ⟨_, hg, h.len, h.room, h.most, cur, rfl, h1, h2⟩
/-- A block that holds just this. -/
def Is (o : Obj) : Obj → Prop := fun x => x = o

structure Dw (w0 w : World) (P : Nat) (n : Int) (q : List Dd.Cl) (l : List (Nat × (Obj → Prop))) : Prop where
  dc : ∃ L, Dc w P n q L ∧ (∀ j, L = some j → w0.heap.size ≤ j) ∧ ∀ p ∈ l, L ≠ some p.1 ∧ p.1 ≠ P
  from_ : w0.heap.size ≤ P
  rest : Rest (fun _ => False) w0 w
  own : ∀ p ∈ l, w0.heap.size ≤ p.1 ∧ ∃ o, w.heap[p.1]? = some o ∧ p.2 o
  apart : (l.map Prod.fst).Nodup
namespace Dw
variable {w0 w w' : World} {P : Nat} {n : Int} {q q' : List Dd.Cl} {l : List (Nat × (Obj → Prop))} {b : Nat} {o o' : Obj} {p p' : Obj → Prop}
theorem get (h : Dw w0 w P n q l) (i : Nat) (e : l[i]? = some (b, Is o)) : w.heap[b]? = some o := by
  obtain ⟨-, o', h1, h2⟩ := h.own (b, Is o) (List.mem_of_getElem? e)
  rw [show o' = o from h2] at h1
  exact h1
theorem old (h : Dw w0 w P n q l) (i : Nat) (e : l[i]? = some (b, p)) : w0.heap.size ≤ b := (h.own (b, p) (List.mem_of_getElem? e)).1
theorem row (h : Dw w0 w P n q l) (i : Nat) {t : TypeId} {k off m cap : Nat} {xs : List Value} (e : l[i]? = some (b, RowO t k off m cap xs)) : RowK w w0.heap.size t k b off m cap xs := by
  obtain ⟨h0, o, h1, h2⟩ := h.own _ (List.mem_of_getElem? e)
  exact h2.row h1 h0
theorem call (h : Dw w0 w P n q l) (hr : Rest (fun _ => False) w w') : Dw w0 w' P n q l := by
  obtain ⟨L, hc, h1, h2⟩ := h.dc
  refine ⟨⟨L, hc.kept hr (fun x => x) (fun _ _ x => x), h1, h2⟩, h.from_, h.rest.trans (o3 := fun _ => False) hr (fun _ _ => id) (fun _ _ => id), fun p hp => ?_, h.apart⟩
  obtain ⟨k0, o, k1, k2⟩ := h.own p hp
  exact ⟨k0, o, (hr.block _ (heap_lt k1) (fun x => x)).trans k1, k2⟩
theorem below (h : Dw w0 w P n q l) (hb : Below w.heap.size w w') : Dw w0 w' P n q l := h.call (Rest.of_below hb)
theorem drew (h : Dw w0 w P n q l) : Dw w0 w.drew P n q l := h.call (Rest.drew _ _)
theorem drewN (h : Dw w0 w P n q l) (m : Nat) : Dw w0 (w.drewN m) P n q l := h.call (Rest.drewN _ _ _)
/-- One more is laid. -/
theorem made (h : Dw w0 w P n q l) (hr : Rest (fun _ => False) w w') (hb : w.heap.size ≤ b) (hn : w'.heap[b]? = some o) (hp : p o) : Dw w0 w' P n q ((b, p) :: l) := by
  have hc := h.call hr
  obtain ⟨L, hd, h1, h2⟩ := h.dc
  refine ⟨⟨L, hd.kept hr (fun x => x) (fun _ _ x => x), h1, fun x hx => ?_⟩, h.from_, hc.rest, fun x hx => ?_, ?_⟩
  · rcases List.mem_cons.1 hx with rfl | hx
    · exact ⟨fun e => by have := (hd.row e).1; dsimp only at this; omega, fun e => by have := hd.lt; dsimp only at e; omega⟩
    · exact h2 x hx
  · rcases List.mem_cons.1 hx with rfl | hx
    · exact ⟨Nat.le_trans h.rest.size hb, o, hn, hp⟩
    · exact hc.own x hx
  · refine List.nodup_cons.2 ⟨fun hm => ?_, h.apart⟩
    obtain ⟨x, hx, he⟩ := List.mem_map.1 hm
    obtain ⟨-, o, k1, -⟩ := h.own x hx
    have := heap_lt k1
    dsimp only at he
    omega
theorem lay (h : Dw w0 w P n q l) (o : Obj) : Dw w0 (w.alloc o) P n q ((w.heap.size, Is o) :: l) := h.made (Rest.alloc _ _ _) (Nat.le_refl _) (heap_alloc_new _ _) rfl
theorem perm {l' : List (Nat × (Obj → Prop))} (h : Dw w0 w P n q l) (hp : l.Perm l') : Dw w0 w P n q l' := by
  obtain ⟨L, hd, h1, h2⟩ := h.dc
  exact ⟨⟨L, hd, h1, fun x hx => h2 x (hp.mem_iff.2 hx)⟩, h.from_, h.rest, fun x hx => h.own x (hp.mem_iff.2 hx), (hp.map _).nodup_iff.1 h.apart⟩
theorem tail {x : Nat × (Obj → Prop)} (h : Dw w0 w P n q (x :: l)) : Dw w0 w P n q l := by
  obtain ⟨L, hd, h1, h2⟩ := h.dc
  exact ⟨⟨L, hd, h1, fun y hy => h2 y (List.mem_cons_of_mem _ hy)⟩, h.from_, h.rest, fun y hy => h.own y (List.mem_cons_of_mem _ hy), (List.nodup_cons.1 (by simpa using h.apart)).2⟩
theorem swap {x y : Nat × (Obj → Prop)} (h : Dw w0 w P n q (x :: y :: l)) : Dw w0 w P n q (y :: x :: l) := h.perm (List.Perm.swap _ _ _)
/-- The second one is forgotten. -/
theorem but {x y : Nat × (Obj → Prop)} (h : Dw w0 w P n q (x :: y :: l)) : Dw w0 w P n q (x :: l) := h.swap.tail
theorem ne {x y : Nat × (Obj → Prop)} (h : Dw w0 w P n q (x :: y :: l)) : x.1 ≠ y.1 := by
  have := h.apart
  simp only [List.map_cons, List.nodup_cons, List.mem_cons, not_or] at this
  exact this.1.1
/-- The first one is written. -/
theorem put (h : Dw w0 w P n q ((b, p) :: l)) (hr : Rest (fun k => k = b) w w') (hn : w'.heap[b]? = some o) (hp : p' o) : Dw w0 w' P n q ((b, p') :: l) := by
  have ha := List.nodup_cons.1 (show (b :: l.map Prod.fst).Nodup from h.apart)
  obtain ⟨L, hd, h1, h2⟩ := h.dc
  have hb := h2 (b, p) List.mem_cons_self
  have ho := (h.own (b, p) List.mem_cons_self).1
  refine ⟨⟨L, hd.kept hr (fun e => hb.2 e.symm) (fun g hg e => hb.1 (by rw [hg, e])), h1, fun x hx => ?_⟩, h.from_, h.rest.trans (o3 := fun _ => False) hr (fun _ _ => id) (fun i hi e => by subst e; omega), fun x hx => ?_, h.apart⟩
  · rcases List.mem_cons.1 hx with rfl | hx
    · exact hb
    · exact h2 x (List.mem_cons_of_mem _ hx)
  · rcases List.mem_cons.1 hx with rfl | hx
    · exact ⟨ho, o, hn, hp⟩
    · obtain ⟨k0, o, k1, k2⟩ := h.own x (List.mem_cons_of_mem _ hx)
      exact ⟨k0, o, (hr.block _ (heap_lt k1) (fun e => ha.1 (e ▸ List.mem_map.2 ⟨x, hx, rfl⟩))).trans k1, k2⟩
theorem set {i : Nat} {v : Value} (h : Dw w0 w P n q ((b, p) :: l)) (hn : (w.setCell ⟨b, i, none⟩ v).heap[b]? = some o) : Dw w0 (w.setCell ⟨b, i, none⟩ v) P n q ((b, Is o) :: l) := h.put (Rest.setCell (own := fun k => k = b) _ _ _ rfl) hn rfl
/-- A call of it is behind that wrote it. -/
theorem wrote (h : Dw w0 w P n q l) {L L' : Option Nat} (hd : Dc w P n q L) (h1 : ∀ j, L = some j → w0.heap.size ≤ j) (h2 : ∀ p ∈ l, L ≠ some p.1 ∧ p.1 ≠ P) (hd' : Dc w' P n q' L') (hL : L' = L ∨ ∀ j, L' = some j → w.heap.size ≤ j) (hr : Rest (fun k => k = P ∨ L = some k) w w') : Dw w0 w' P n q' l := by
  refine ⟨⟨L', hd', fun j hj => ?_, fun x hx => ⟨fun e => ?_, (h2 x hx).2⟩⟩, h.from_, h.rest.trans (o3 := fun _ => False) hr (fun _ _ => id) (fun i hi e => ?_), fun x hx => ?_, h.apart⟩
  · rcases hL with rfl | hL
    · exact h1 j hj
    · exact Nat.le_trans h.rest.size (hL j hj)
  · rcases hL with rfl | hL
    · exact (h2 x hx).1 e
    · have := hL _ e
      obtain ⟨-, o, k1, -⟩ := h.own x hx
      have := heap_lt k1
      omega
  · rcases e with e | e
    · have := h.from_; omega
    · have := h1 _ e; omega
  · obtain ⟨k0, o, k1, k2⟩ := h.own x hx
    refine ⟨k0, o, (hr.block _ (heap_lt k1) (fun e => ?_)).trans k1, k2⟩
    rcases e with e | e
    · exact (h2 x hx).2 e
    · exact (h2 x hx).1 e
end Dw

section
variable {w0 : World} {P T i : Nat} {n : Int} {Q : List Dd.Cl} {l : List (Nat × (Obj → Prop))} {x y : Dd.Cl} {k c s t g a q v : Int} {su st : Bool}
/-- Made. -/
theorem dw_new (r : Int) (w : World) : Calls Try.prog 5 #[.int .i64 r] w fun e w' => e = .returned (.pointer (some ⟨w.heap.size, 0, none⟩)) ∧ Dw w w' w.heap.size (Dd.room r) [] [] := by
  refine (dnew_any r w).mono ?_
  rintro e w' ⟨rfl, h1, h2⟩
  exact ⟨rfl, ⟨none, h1, (fun _ e => by cases e), (fun _ e => by cases e)⟩, Nat.le_refl _, Rest.of_below h2, (fun _ e => by cases e), List.nodup_nil⟩
theorem dw_len (w : World) (h : Dw w0 w P n Q l) : Calls Try.prog 10 #[.pointer (some ⟨P, 0, none⟩)] w fun e w' => e = .returned (.int .i64 (Q.length : Int)) ∧ w = w' := by
  obtain ⟨L, hd, -⟩ := h.dc
  exact dlen_any w hd
theorem dw_full (hT : T < 16) (hQ : Q.length ≤ 1000) (hz : Dd.Non Q c a) (hn : n ≤ (Q.length : Int)) (w : World) (h : Dw w0 w P n Q l) : Calls Try.prog 6 #[.pointer (some ⟨P, 0, none⟩), .agg #[.int .i64 k, .int .i64 c, .int .i64 s, .int .i64 t, .int .i64 g, .int .u32 a, .int .i64 (T : Int), .bool su, .bool st, .int .i64 q, .int .u32 v]] w fun e w' => e = .returned (.int .i64 4) ∧ Dw w0 w' P n Q l := by
  obtain ⟨L, hd, h1, h2⟩ := h.dc
  refine (dmeet_full k c s t g a q v su st hT (by omega) hz hn w hd).mono ?_
  rintro e w' ⟨rfl, hb⟩
  exact ⟨rfl, h.below hb⟩
theorem dw_fresh (hT : T < 16) (hQ : Q.length ≤ 1000) (hz : Dd.Non Q c a) (hn : (Q.length : Int) < n) (w : World) (h : Dw w0 w P n Q l) : Calls Try.prog 6 #[.pointer (some ⟨P, 0, none⟩), .agg #[.int .i64 k, .int .i64 c, .int .i64 s, .int .i64 t, .int .i64 g, .int .u32 a, .int .i64 (T : Int), .bool su, .bool st, .int .i64 q, .int .u32 v]] w fun e w' => e = .returned (.int .i64 0) ∧ Dw w0 w' P n (Q ++ [Dd.first c a T]) l := by
  obtain ⟨L, hd, h1, h2⟩ := h.dc
  refine (dmeet_new k c s t g a q v su st hT hQ hz hn w hd).mono ?_
  rintro e w' ⟨rfl, L', hd', hL, hr⟩
  exact ⟨rfl, h.wrote hd h1 h2 hd' hL hr⟩
theorem dw_seen (hT : T < 16) (hQ : Q.length ≤ 1000) (hz : Dd.At Q c a i x) (hm : x.m T = true) (w : World) (h : Dw w0 w P n Q l) : Calls Try.prog 6 #[.pointer (some ⟨P, 0, none⟩), .agg #[.int .i64 k, .int .i64 c, .int .i64 s, .int .i64 t, .int .i64 g, .int .u32 a, .int .i64 (T : Int), .bool su, .bool st, .int .i64 q, .int .u32 v]] w fun e w' => e = .returned (.int .i64 1) ∧ Dw w0 w' P n Q l := by
  obtain ⟨L, hd, h1, h2⟩ := h.dc
  refine (dmeet_seen k c s t g a q v su st hT (by omega) hz hm w hd).mono ?_
  rintro e w' ⟨rfl, hb⟩
  exact ⟨rfl, h.below hb⟩
/-- One that is there, by a try that was not met. -/
def Dd.code (su d : Bool) : Int := if su then (if d then 3 else 2) else 0
def Dd.again (x : Cl) (T : Nat) (su : Bool) : Cl := if su then x.tick T else (x.tick T).run
theorem dw_again (hT : T < 16) (hQ : Q.length ≤ 1000) (hz : Dd.At Q c a i x) (hm : x.m T = false) (w : World) (h : Dw w0 w P n Q l) : Calls Try.prog 6 #[.pointer (some ⟨P, 0, none⟩), .agg #[.int .i64 k, .int .i64 c, .int .i64 s, .int .i64 t, .int .i64 g, .int .u32 a, .int .i64 (T : Int), .bool su, .bool st, .int .i64 q, .int .u32 v]] w fun e w' => e = .returned (.int .i64 (Dd.code su x.d)) ∧ Dw w0 w' P n (Q.set i (Dd.again x T su)) l := by
  obtain ⟨L, hd, h1, h2⟩ := h.dc
  cases su with
  | false =>
    refine (dmeet_fresh k c s t g a q v st hT (by omega) hz hm w hd).mono ?_
    rintro e w' ⟨rfl, hd', hr⟩
    exact ⟨rfl, h.wrote hd h1 h2 hd' (.inl rfl) (hr.mono fun _ _ => .inr)⟩
  | true =>
    cases hx : x.d with
    | false =>
      refine (dmeet_wait k c s t g a q v st hT (by omega) hz hm hx w hd).mono ?_
      rintro e w' ⟨rfl, hd', hr⟩
      exact ⟨rfl, h.wrote hd h1 h2 hd' (.inl rfl) (hr.mono fun _ _ => .inr)⟩
    | true =>
      refine (dmeet_again k c s t g a q v st hT (by omega) hz hm hx w hd).mono ?_
      rintro e w' ⟨rfl, hd', hr⟩
      exact ⟨rfl, h.wrote hd h1 h2 hd' (.inl rfl) (hr.mono fun _ _ => .inr)⟩
variable {r : Int} {ok : Bool} {V : Int}
theorem dw_done (hQ : Q.length ≤ 1000) (hz : Dd.At Q c a i x) (hx : x.d = false) (w : World) (h : Dw w0 w P n Q l) : Calls Try.prog 7 #[.pointer (some ⟨P, 0, none⟩), .agg #[.int .i64 k, .int .i64 c, .int .i64 s, .int .i64 t, .int .i64 g, .int .u32 a, .int .i64 r, .bool su, .bool st, .int .i64 q, .int .u32 v], .bool ok, .int .u32 V] w fun e w' => e = .returned (.tuple #[]) ∧ Dw w0 w' P n (Q.set i (x.done ok V)) l := by
  obtain ⟨L, hd, h1, h2⟩ := h.dc
  refine (ddone_yes k c s t g a r q v su st ok V (by omega) hz hx w hd).mono ?_
  rintro e w' ⟨rfl, hd', hr⟩
  exact ⟨rfl, h.wrote hd h1 h2 hd' (.inl rfl) (hr.mono fun _ _ => .inr)⟩
theorem dw_done_old (hQ : Q.length ≤ 1000) (hz : Dd.At Q c a i x) (hx : x.d = true) (w : World) (h : Dw w0 w P n Q l) : Calls Try.prog 7 #[.pointer (some ⟨P, 0, none⟩), .agg #[.int .i64 k, .int .i64 c, .int .i64 s, .int .i64 t, .int .i64 g, .int .u32 a, .int .i64 r, .bool su, .bool st, .int .i64 q, .int .u32 v], .bool ok, .int .u32 V] w fun e w' => e = .returned (.tuple #[]) ∧ Dw w0 w' P n Q l := by
  obtain ⟨L, hd, h1, h2⟩ := h.dc
  refine (ddone_old k c s t g a r q v su st ok V (by omega) hz hx w hd).mono ?_
  rintro e w' ⟨rfl, hb⟩
  exact ⟨rfl, h.below hb⟩
theorem dw_done_no (hQ : Q.length ≤ 1000) (hz : Dd.Non Q c a) (w : World) (h : Dw w0 w P n Q l) : Calls Try.prog 7 #[.pointer (some ⟨P, 0, none⟩), .agg #[.int .i64 k, .int .i64 c, .int .i64 s, .int .i64 t, .int .i64 g, .int .u32 a, .int .i64 r, .bool su, .bool st, .int .i64 q, .int .u32 v], .bool ok, .int .u32 V] w fun e w' => e = .returned (.tuple #[]) ∧ Dw w0 w' P n Q l := by
  obtain ⟨L, hd, h1, h2⟩ := h.dc
  refine (ddone_no k c s t g a r q v su st ok V (by omega) hz w hd).mono ?_
  rintro e w' ⟨rfl, hb⟩
  exact ⟨rfl, h.below hb⟩
theorem dw_ack (hQ : Q.length ≤ 1000) (hz : Dd.At Q c a i x) (hy : Q[Q.length - 1]? = some y) (w : World) (h : Dw w0 w P n Q l) : Calls Try.prog 8 #[.pointer (some ⟨P, 0, none⟩), .agg #[.int .i64 k, .int .i64 c, .int .i64 s, .int .i64 t, .int .i64 g, .int .u32 a, .int .i64 r, .bool su, .bool st, .int .i64 q, .int .u32 v]] w fun e w' => e = .returned (.bool true) ∧ Dw w0 w' P n (Dd.cut Q i y) l := by
  obtain ⟨L, hd, h1, h2⟩ := h.dc
  refine (dack_yes k c s t g a r q v su st (by omega) hz hy w hd).mono ?_
  rintro e w' ⟨rfl, hd', hr⟩
  exact ⟨rfl, h.wrote hd h1 h2 hd' (.inl rfl) hr⟩
theorem dw_ack_no (hQ : Q.length ≤ 1000) (hz : Dd.Non Q c a) (w : World) (h : Dw w0 w P n Q l) : Calls Try.prog 8 #[.pointer (some ⟨P, 0, none⟩), .agg #[.int .i64 k, .int .i64 c, .int .i64 s, .int .i64 t, .int .i64 g, .int .u32 a, .int .i64 r, .bool su, .bool st, .int .i64 q, .int .u32 v]] w fun e w' => e = .returned (.bool false) ∧ Dw w0 w' P n Q l := by
  obtain ⟨L, hd, h1, h2⟩ := h.dc
  refine (dack_no k c s t g a r q v su st (by omega) hz w hd).mono ?_
  rintro e w' ⟨rfl, hb⟩
  exact ⟨rfl, h.below hb⟩
theorem dw_value (hQ : Q.length ≤ 1000) (hz : Dd.At Q c a i x) (w : World) (h : Dw w0 w P n Q l) : Calls Try.prog 9 #[.pointer (some ⟨P, 0, none⟩), .agg #[.int .i64 k, .int .i64 c, .int .i64 s, .int .i64 t, .int .i64 g, .int .u32 a, .int .i64 r, .bool su, .bool st, .int .i64 q, .int .u32 v]] w fun e w' => e = .returned (.tuple #[.int .u32 x.v, .bool x.o, .bool x.d]) ∧ Below w.heap.size w w' := by
  obtain ⟨L, hd, h1, h2⟩ := h.dc
  exact dvalue_yes k c s t g a r q v su st (by omega) hz w hd
theorem dw_value_no (hQ : Q.length ≤ 1000) (hz : Dd.Non Q c a) (w : World) (h : Dw w0 w P n Q l) : Calls Try.prog 9 #[.pointer (some ⟨P, 0, none⟩), .agg #[.int .i64 k, .int .i64 c, .int .i64 s, .int .i64 t, .int .i64 g, .int .u32 a, .int .i64 r, .bool su, .bool st, .int .i64 q, .int .u32 v]] w fun e w' => e = .returned (.tuple #[.int .u32 0, .bool false, .bool false]) ∧ Below w.heap.size w w' := by
  obtain ⟨L, hd, h1, h2⟩ := h.dc
  exact dvalue_no k c s t g a r q v su st (by omega) hz w hd
theorem dw_runs (hQ : Q.length ≤ 1000) (hz : Dd.At Q c a i x) (w : World) (h : Dw w0 w P n Q l) : Calls Try.prog 11 #[.pointer (some ⟨P, 0, none⟩), .agg #[.int .i64 k, .int .i64 c, .int .i64 s, .int .i64 t, .int .i64 g, .int .u32 a, .int .i64 r, .bool su, .bool st, .int .i64 q, .int .u32 v]] w fun e w' => e = .returned (.int .i64 x.r) ∧ Below w.heap.size w w' := by
  obtain ⟨L, hd, h1, h2⟩ := h.dc
  exact druns_yes k c s t g a r q v su st (by omega) hz w hd
end
end Go.Proofs.Ythkcomnmihmccaa
