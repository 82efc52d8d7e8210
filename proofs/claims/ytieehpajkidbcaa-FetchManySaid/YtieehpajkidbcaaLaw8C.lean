/- An arena beside blocks of one's own, a ring in which nothing is under way, and what alone sends and fetches do to it. -/
import Derived.Test.YtieehpajkidbcaaLaw8R
import Derived.Test.YtieehpajkidbcaaOrder8
import Derived.Test.YtieehpajkidbcaaRowK
import Derived.Test.YtieehpajkidbcaaOdd
namespace Go.Proofs.Ytieehpajkidbcaa
open Go.RowKit
attribute [local go_sem ↓] Go.wp_at_zero Go.wp_at_succ

/-- An arena beside blocks of one's own, both laid since the world w. -/
structure Side (w wr : World) (s : Spot) (a : Ar) (own : Nat → Prop) : Prop where
  ar : ∃ T, Arena wr w.heap.size { s with T := T } a ∧ ∀ k, own k → ¬ ({ s with T := T } : Spot).has k
  old : ∀ k, own k → k < wr.heap.size
  from_ : ∀ k, own k → w.heap.size ≤ k
  below : Below w.heap.size w wr

/-- What a call that does something to the arena leaves. -/
theorem Side.call {w wr : World} {s : Spot} {a : Ar} {own : Nat → Prop} (h : Side w wr s a own) :
    ∃ T, Arena wr w.heap.size { s with T := T } a ∧ ∀ (wn : World) (an : Ar), Now wr wn w.heap.size { s with T := T } an → Side w wn s an own ∧ ∀ k, own k → wn.heap[k]? = wr.heap[k]? := by
  obtain ⟨T, hA, hd⟩ := h.ar
  refine ⟨T, hA, fun wn an hN => ?_⟩
  have hB := Now.below hA hN
  obtain ⟨T2, hT, hA2, hR⟩ := hN
  refine ⟨⟨⟨T2, hA2, fun k hk => ?_⟩, fun k hk => Nat.lt_of_lt_of_le (h.old k hk) hR.size, h.from_, h.below.trans hB⟩, fun k hk => hR.block k (h.old k hk) (hd k hk)⟩
  rintro (e | e | e | e)
  · exact hd _ hk (.inl e)
  · exact hd _ hk (.inr (.inl e))
  · exact hd _ hk (.inr (.inr (.inl e)))
  · rcases hT with e2 | e2
    · exact hd k hk (.inr (.inr (.inr (e2 ▸ e))))
    · have := e2 k e; have := h.old k hk; omega
/-- Own blocks are written, others are laid. -/
theorem Side.rest {w wr wn : World} {s : Spot} {a : Ar} {own own2 o : Nat → Prop} (h : Side w wr s a own) (hr : Rest o wr wn) (ho : ∀ k, o k → own k) (hn : ∀ k, own2 k → own k ∨ wr.heap.size ≤ k) (hl : ∀ k, own2 k → k < wn.heap.size) : Side w wn s a own2 := by
  obtain ⟨T, hA, hd⟩ := h.ar
  refine ⟨⟨T, hA.kept hr (fun k hk ho' => hd k (ho k ho') hk), fun k hk hh => ?_⟩, hl, fun k hk => ?_, h.below.trans (hr.below h.below.size (fun k hk => h.from_ k (ho k hk)))⟩
  · rcases hn k hk with e | e
    · exact hd k e hh
    · have := hA.old k hh; omega
  · rcases hn k hk with e | e
    · exact h.from_ k e
    · have := h.below.size; omega
theorem Side.behind {w wr wn : World} {s : Spot} {a : Ar} {own : Nat → Prop} (h : Side w wr s a own) (hb : Below wr.heap.size wr wn) : Side w wn s a own :=
  h.rest (o := fun _ => False) (Rest.of_below hb) (fun _ x => x.elim) (fun _ x => .inl x) (fun k hk => Nat.lt_of_lt_of_le (h.old k hk) hb.size)
/-- An arena that was begun behind a first block. -/
theorem Side.start {w w1 : World} {s : Spot} {a : Ar} {o : Obj} (hA : Arena w1 (w.alloc o).heap.size s a) (hR : Rest (fun _ => False) (w.alloc o) w1) : Side w w1 s a (fun k => k = w.heap.size) ∧ w1.heap[w.heap.size]? = some o := by
  have hB := hR.below (Nat.le_refl _) (fun k hk => hk.elim)
  have hs : (w.alloc o).heap.size = w.heap.size + 1 := by simp
  have := hB.size
  refine ⟨⟨⟨s.T, hA.lower (by omega), fun k e hk => by have := hA.from k hk; omega⟩, fun k e => by omega, fun k e => by omega, (below_box w o).trans (hB.mono (by omega))⟩, ?_⟩
  rw [hB.block _ (by omega)]; exact heap_alloc_new w o

/-- Three cells of each. -/
def flat3 : List (Nat × Nat × Nat) → List Value
  | [] => []
  | q :: r => .int .u64 q.1 :: .int .u64 q.2.1 :: .int .u64 q.2.2 :: flat3 r
theorem flat3_append (q : Nat × Nat × Nat) : ∀ l, flat3 (l ++ [q]) = flat3 l ++ [.int .u64 q.1, .int .u64 q.2.1, .int .u64 q.2.2]
  | [] => rfl
  | p :: r => by show _ :: _ :: _ :: flat3 (r ++ [q]) = _; rw [flat3_append q r]; rfl

/-- The ring's box, frames' words that wait, and the arena. -/
structure Ord (w wr : World) (s : Spot) (n : Nat) (a : Ar) (g off cap : Nat) (ws : List (Nat × Nat × Nat)) (ex : Nat → Prop) : Prop where
  side : Side w wr s a (fun k => k = w.heap.size ∨ k = g ∨ ex k)
  ring : wr.heap[w.heap.size]? = some (.cells #[.int .i64 1, .int .i64 n] 26 (0, 0))
  row : RowK wr (w.heap.size + 1) 34 3 g off ws.length cap (flat3 ws)
  apart : ∀ k, ex k → k ≠ w.heap.size ∧ k ≠ g

theorem Ord.start {w w2 : World} {s : Spot} {n : Nat} {a : Ar} (hS : Side w w2 s a (fun k => k = w.heap.size)) (hr : w2.heap[w.heap.size]? = some (.cells #[.int .i64 1, .int .i64 n] 26 (0, 0))) :
    Ord w (w2.alloc (.cells #[] 34)) s n a w2.heap.size 0 0 [] (fun _ => False) := by
  have h0 := hS.old _ rfl
  refine ⟨hS.rest (o := fun _ => False) (own2 := fun k => k = w.heap.size ∨ k = w2.heap.size ∨ False) (Rest.alloc _ _ _) (fun _ x => x.elim) (fun k hk => ?_) (fun k hk => ?_), by rw [Below.heap_alloc _ _ _ h0]; exact hr, RowK.nil w2 _ 3 _ (by omega), fun _ x => x.elim⟩
  · rcases hk with e | e | e
    · exact .inl e
    · exact .inr (by omega)
    · exact e.elim
  · rcases hk with e | e | e
    · simp; omega
    · simp; omega
    · exact e.elim

namespace Ord
variable {w wr wn : World} {s : Spot} {n : Nat} {a : Ar} {g off cap : Nat} {ws : List (Nat × Nat × Nat)} {ex : Nat → Prop}
theorem behind (h : Ord w wr s n a g off cap ws ex) (hb : Below wr.heap.size wr wn) : Ord w wn s n a g off cap ws ex :=
  ⟨h.side.behind hb, (hb.block _ (h.side.old _ (.inl rfl))).trans h.ring, h.row.kept (hb.block _ h.row.lt), h.apart⟩
theorem call (h : Ord w wr s n a g off cap ws ex) :
    ∃ T, Arena wr w.heap.size { s with T := T } a ∧ ∀ (wn : World) (an : Ar), Now wr wn w.heap.size { s with T := T } an → Ord w wn s n an g off cap ws ex ∧ ∀ k, ex k → wn.heap[k]? = wr.heap[k]? := by
  obtain ⟨T, hA, hN⟩ := h.side.call
  refine ⟨T, hA, fun wn an hn => ?_⟩
  obtain ⟨k1, k2⟩ := hN wn an hn
  exact ⟨⟨k1, (k2 _ (.inl rfl)).trans h.ring, h.row.kept (k2 _ (.inr (.inl rfl))), h.apart⟩, fun k hk => k2 k (.inr (.inr hk))⟩
/-- A block more. -/
theorem extra (h : Ord w wr s n a g off cap ws ex) (hb : Below wr.heap.size wr wn) {k : Nat} (h1 : wr.heap.size ≤ k) (h2 : k < wn.heap.size) : Ord w wn s n a g off cap ws (fun i => i = k) := by
  have hw := h.side.old _ (.inl rfl)
  have hg := h.row.lt
  have hs := hb.size
  refine ⟨h.side.rest (o := fun _ => False) (Rest.of_below hb) (fun _ x => x.elim) (fun i hi => ?_) (fun i hi => ?_), (hb.block _ hw).trans h.ring, h.row.kept (hb.block _ hg), fun i hi => by omega⟩
  · rcases hi with e | e | e
    · exact .inl (.inl e)
    · exact .inl (.inr (.inl e))
    · exact .inr (by omega)
  · rcases hi with e | e | e <;> omega
/-- .. is written. -/
theorem write {k : Nat} (h : Ord w wr s n a g off cap ws (fun i => i = k)) (hr : Rest (fun i => i = k) wr wn) : Ord w wn s n a g off cap ws (fun i => i = k) := by
  obtain ⟨q1, q2⟩ := h.apart k rfl
  have hs := hr.size
  exact ⟨h.side.rest hr (fun _ hi => .inr (.inr hi)) (fun _ hi => .inl hi) (fun i hi => Nat.lt_of_lt_of_le (h.side.old i hi) hs), (hr.block _ (h.side.old _ (.inl rfl)) (fun e => q1 e.symm)).trans h.ring, h.row.kept (hr.block _ h.row.lt (fun e => q2 e.symm)), h.apart⟩
/-- .. is nobody's any more. -/
theorem less (h : Ord w wr s n a g off cap ws ex) : Ord w wr s n a g off cap ws (fun _ => False) :=
  ⟨h.side.rest (o := fun _ => False) (Rest.refl _ _) (fun _ x => x.elim) (fun _ hi => .inl (hi.elim .inl (fun q => .inr (q.elim .inl (fun x => x.elim))))) (fun i hi => h.side.old i (hi.elim .inl (fun q => .inr (q.elim .inl (fun x => x.elim))))), h.ring, h.row, fun _ x => x.elim⟩
theorem cells (h : Ord w wr s n a g off cap ws ex) : wr.cell? ⟨w.heap.size, 0, none⟩ = some (.int .i64 1) ∧ wr.cell? ⟨w.heap.size, 1, none⟩ = some (.int .i64 n) :=
  ⟨cell_of_row _ _ _ _ _ _ h.ring, cell_of_row _ _ _ _ _ _ h.ring⟩
theorem below (h : Ord w wr s n a g off cap ws ex) : Below w.heap.size w wr := h.side.below
/-- The first of those that wait. -/
theorem head {q : Nat × Nat × Nat} {r : List (Nat × Nat × Nat)} (h : Ord w wr s n a g off cap (q :: r) ex) : wr.cell? ⟨g, off, none⟩ = some (.int .u64 q.1) ∧ wr.cell? ⟨g, off + 1, none⟩ = some (.int .u64 q.2.1) ∧ wr.cell? ⟨g, off + 2, none⟩ = some (.int .u64 q.2.2) :=
  ⟨h.row.cell (j := 0) rfl, h.row.cell (j := 1) rfl, h.row.cell (j := 2) rfl⟩
theorem cut {q : Nat × Nat × Nat} {r : List (Nat × Nat × Nat)} (h : Ord w wr s n a g off cap (q :: r) ex) : ∃ off', sliced (some ⟨g, off, none⟩) 1 (r.length + 1) cap 3 = .slice (some ⟨g, off', none⟩) r.length (cap - 1) ∧ Ord w wr s n a g off' (cap - 1) r ex := by
  obtain ⟨off', e, hr⟩ := h.row.tail
  exact ⟨off', e, h.side, h.ring, hr, h.apart⟩
theorem push (h : Ord w wr s n a g off cap ws (fun _ => False)) (hgr : wr.grownBy wn (some g)) {g' off' cap' : Nat} {q : Nat × Nat × Nat} (hrow : RowK wn (w.heap.size + 1) 34 3 g' off' (ws.length + 1) cap' (flat3 ws ++ [.int .u64 q.1, .int .u64 q.2.1, .int .u64 q.2.2])) (hw : g' = g ∨ wr.heap.size ≤ g') :
    Ord w wn s n a g' off' cap' (ws ++ [q]) (fun _ => False) := by
  have hr : Rest (fun k => k = g) wr wn := Rest.grown hgr (fun k e => by injection e with e; exact e.symm)
  have h0 := h.side.old _ (.inl rfl)
  have hg := h.row.from_
  have hs := hr.size
  refine ⟨h.side.rest hr (fun _ hi => .inr (.inl hi)) (fun i hi => ?_) (fun i hi => ?_), (hr.block _ h0 (fun e => by omega)).trans h.ring, by rw [flat3_append, List.length_append]; exact hrow, fun _ x => x.elim⟩
  · rcases hi with e | e | e
    · exact .inl (.inl e)
    · rcases hw with e2 | e2
      · exact .inl (.inr (.inl (e.trans e2)))
      · exact .inr (by omega)
    · exact e.elim
  · rcases hi with e | e | e
    · omega
    · have := hrow.lt; omega
    · exact e.elim
end Ord

namespace Rg
/-- A ring from cell 1 on in which nothing is under way. -/
def Calm (n : Nat) (cs : List Nat) (H T : Nat) (W : Nat → Nat × Nat × Nat) : Prop := Inv 1 n cs H T (fun _ => 0) W 0 (fun _ => ⟨0, 0, 0, 0, 0, false, 0, 0, 0⟩)
theorem Calm.start {n : Nat} (hn : n = 2 ∨ n = 4) (cs : List Nat) (hl : 2 + 4 * n ≤ cs.length) (W : Nat → Nat × Nat × Nat) : Calm n (laid 1 cs n) 0 0 W :=
  Inv.start (by unfold Ok; omega) cs (by omega) _ W _ (fun i hi => absurd hi (Nat.not_lt_zero _))
/-- A frame was sent, or there was no room. -/
def Sent8 (n H T : Nat) (W : Nat → Nat × Nat × Nat) (x y z k : Nat) (cs : List Nat) : Prop :=
  (k = 5 ∧ T < H + n ∧ Calm n cs H (T + 1) (fun τ => if τ = T then (x, y, z) else W τ)) ∨ (k = 6 ∧ H + n ≤ T ∧ Calm n cs H T W)
end Rg

theorem run_ord {B : Nat} {s : Spot} {a : Ar} {n H T : Nat} {W : Nat → Nat × Nat × Nat} (h : Rg.Calm n a.cs H T W) (h64 : T + 1 < 18446744073709551616) (x y z : Nat) (hx : x < 18446744073709551616) (hy : y < 18446744073709551616) (hz : z < 18446744073709551616) (w : World) (hA : Arena w B s a) :
    Calls Try.prog 9 #[.pointer (some ⟨s.P, 0, none⟩), .agg #[.int .i64 1, .int .i64 n, .int .u64 x, .int .u64 y, .int .u64 z, .bool false, .int .u64 0, .int .i64 0, .int .i64 0]] w fun e w' => ∃ (K t k j : Nat) (a' : Ar), e = .returned (.tuple #[.agg #[.int .i64 1, .int .i64 n, .int .u64 x, .int .u64 y, .int .u64 z, .bool false, .int .u64 t, .int .i64 k, .int .i64 j], .int .i64 K]) ∧ Now w w' B s a' ∧ Rg.Sent8 n H T W x y z k a'.cs := by
  have hg : Snd.Good ⟨1, n, x, y, z, false, 0, 0, 0⟩ a := ⟨h.ok, h.len, hx, hy, hz, by show 0 < 18446744073709551616; decide, fun _ => by show 0 < 3; decide⟩
  by_cases hT : T < H + n
  · obtain ⟨a', hr, hk, hi⟩ := Rg.Inv.run_put h hT h64 x y z
    refine (run_any ⟨1, n, x, y, z, false, 0, 0, 0⟩ hg 7 (by decide) hk (.inl (by rw [hr])) w hA).mono ?_
    rintro e w' ⟨rfl, hN⟩
    rw [hr] at hN ⊢
    exact ⟨7, T, 5, 3, a', rfl, hN, .inl ⟨rfl, hT, hi⟩⟩
  · obtain ⟨a', hr, hk, hi⟩ := Rg.Inv.run_full h (by omega) x y z
    refine (run_any ⟨1, n, x, y, z, false, 0, 0, 0⟩ hg 2 (by decide) hk (.inr (by rw [hr])) w hA).mono ?_
    rintro e w' ⟨rfl, hN⟩
    rw [hr] at hN ⊢
    exact ⟨2, T, 6, 0, a', rfl, hN, .inr ⟨rfl, by omega, hi⟩⟩

/-- The first is fetched. -/
theorem frun_first {B : Nat} {s : Spot} {a : Ar} {n H T : Nat} {W : Nat → Nat × Nat × Nat} (h : Rg.Calm n a.cs H T W) (hHT : H < T) (h64 : H + n < 18446744073709551616) (w : World) (hA : Arena w B s a) :
    Calls Try.prog 12 #[.pointer (some ⟨s.P, 0, none⟩), .agg #[.int .i64 1, .int .i64 n, .int .u64 H, .int .i64 0, .int .i64 0, .int .u64 0, .int .u64 0, .int .u64 0]] w fun e w' => e = .returned (.tuple #[.agg #[.int .i64 1, .int .i64 n, .int .u64 H, .int .i64 3, .int .i64 3, .int .u64 (W H).1, .int .u64 (W H).2.1, .int .u64 (W H).2.2], .int .i64 5]) ∧ ∃ a', Now w w' B s a' ∧ Rg.Calm n a'.cs (H + 1) T W := by
  have hp := h.ok.pos
  have hg : Ftc.Good ⟨1, n, H, 0, 0, 0, 0, 0⟩ a := ⟨h.ok, h.len, by show H < 18446744073709551616; omega, fun _ => by show 0 < 3; decide⟩
  obtain ⟨hv, hw⟩ := Rg.Inv.whole h (Nat.le_refl _) hHT
  have hnx : Rg.next H = H + 1 := Rg.next_small (by omega)
  have hov : Rg.over n H = H + n := Nat.mod_eq_of_lt h64
  obtain ⟨a', hr, hcs, hk⟩ := Ftc.run_there 1 n H a (by rw [hnx]; exact hv)
  rw [show a.cs.getD (Rg.stand 1 n H + 1) 0 = (W H).1 from hw 0 (by omega), show a.cs.getD (Rg.stand 1 n H + 1 + 1) 0 = (W H).2.1 from hw 1 (by omega), show a.cs.getD (Rg.stand 1 n H + 1 + 2) 0 = (W H).2.2 from hw 2 (by omega)] at hr
  refine (frun_any ⟨1, n, H, 0, 0, 0, 0, 0⟩ hg 5 (by decide) hk (.inl (by rw [hr])) w hA).mono ?_
  rintro e w' ⟨rfl, hN⟩
  rw [hr] at hN ⊢
  refine ⟨rfl, a', hN, ?_⟩
  rw [hcs, hov]
  exact Rg.Inv.back h hv
/-- There is none. -/
theorem frun_empty {B : Nat} {s : Spot} {a : Ar} {n H : Nat} {W : Nat → Nat × Nat × Nat} (h : Rg.Calm n a.cs H H W) (h64 : H + n < 18446744073709551616) (w : World) (hA : Arena w B s a) :
    Calls Try.prog 12 #[.pointer (some ⟨s.P, 0, none⟩), .agg #[.int .i64 1, .int .i64 n, .int .u64 H, .int .i64 0, .int .i64 0, .int .u64 0, .int .u64 0, .int .u64 0]] w fun e w' => e = .returned (.tuple #[.agg #[.int .i64 1, .int .i64 n, .int .u64 H, .int .i64 4, .int .i64 0, .int .u64 0, .int .u64 0, .int .u64 0], .int .i64 1]) ∧ ∃ a', Now w w' B s a' ∧ Rg.Calm n a'.cs H H W := by
  have hp := h.ok.pos
  have hg : Ftc.Good ⟨1, n, H, 0, 0, 0, 0, 0⟩ a := ⟨h.ok, h.len, by show H < 18446744073709551616; omega, fun _ => by show 0 < 3; decide⟩
  have hv := h.free H (Nat.le_refl _) (by omega)
  have hnx : Rg.next H = H + 1 := Rg.next_small (by omega)
  obtain ⟨a', hr, hcs, hk⟩ := Ftc.run_none 1 n H a (by rw [hnx, hv]; omega)
  refine (frun_any ⟨1, n, H, 0, 0, 0, 0, 0⟩ hg 1 (by decide) hk (.inr (by rw [hr])) w hA).mono ?_
  rintro e w' ⟨rfl, hN⟩
  rw [hr] at hN ⊢
  refine ⟨rfl, a', hN, ?_⟩
  rw [hcs]
  exact h

theorem ftdone_got (b p t j x y z : Int) (w : World) : Calls Try.prog 14 #[.agg #[.int .i64 b, .int .i64 p, .int .u64 t, .int .i64 3, .int .i64 j, .int .u64 x, .int .u64 y, .int .u64 z]] w fun e w' => e = .returned (.tuple #[.int .i64 0, .bool true]) ∧ Below w.heap.size w w' := ftdone_any b p t 3 j x y z w
theorem ftbegun_got (b p t j x y z : Int) (w : World) : Calls Try.prog 15 #[.agg #[.int .i64 b, .int .i64 p, .int .u64 t, .int .i64 3, .int .i64 j, .int .u64 x, .int .u64 y, .int .u64 z]] w fun e w' => e = .returned (.bool true) ∧ Below w.heap.size w w' := ftbegun_any b p t 3 j x y z w
theorem ftdone_none (b p t j x y z : Int) (w : World) : Calls Try.prog 14 #[.agg #[.int .i64 b, .int .i64 p, .int .u64 t, .int .i64 4, .int .i64 j, .int .u64 x, .int .u64 y, .int .u64 z]] w fun e w' => e = .returned (.tuple #[.int .i64 4, .bool true]) ∧ Below w.heap.size w w' := ftdone_any b p t 4 j x y z w
theorem ftbegun_none (b p t j x y z : Int) (w : World) : Calls Try.prog 15 #[.agg #[.int .i64 b, .int .i64 p, .int .u64 t, .int .i64 4, .int .i64 j, .int .u64 x, .int .u64 y, .int .u64 z]] w fun e w' => e = .returned (.bool false) ∧ Below w.heap.size w w' := ftbegun_any b p t 4 j x y z w
theorem ftwords_none (b p t j x y z : Int) (w : World) : Calls Try.prog 16 #[.agg #[.int .i64 b, .int .i64 p, .int .u64 t, .int .i64 4, .int .i64 j, .int .u64 x, .int .u64 y, .int .u64 z]] w fun e w' => e = .returned (.agg #[.int .u64 0, .int .u64 0, .int .u64 0]) ∧ Below w.heap.size w w' := ftwords_no b p t 4 j x y z (by decide) w
theorem sdone_five (b p x y z t j : Int) (l : Bool) (w : World) : Calls Try.prog 11 #[.agg #[.int .i64 b, .int .i64 p, .int .u64 x, .int .u64 y, .int .u64 z, .bool l, .int .u64 t, .int .i64 5, .int .i64 j]] w fun e w' => e = .returned (.tuple #[.int .i64 0, .bool true]) ∧ Below w.heap.size w w' := sdone_any b p x y z t 5 j l w
theorem sdone_six (b p x y z t j : Int) (l : Bool) (w : World) : Calls Try.prog 11 #[.agg #[.int .i64 b, .int .i64 p, .int .u64 x, .int .u64 y, .int .u64 z, .bool l, .int .u64 t, .int .i64 6, .int .i64 j]] w fun e w' => e = .returned (.tuple #[.int .i64 3, .bool true]) ∧ Below w.heap.size w w' := sdone_any b p x y z t 6 j l w

end Go.Proofs.Ytieehpajkidbcaa
