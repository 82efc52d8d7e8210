/- Tasks of many who send in one block, and beside them who fetches, and what was sent and seen. -/
import Derived.Test.YtieehpajkidbcaaLaw8C
import Derived.Test.YtieehpajkidbcaaItems
import Derived.Test.YtieehpajkidbcaaGame8
namespace Go.Proofs.Ytieehpajkidbcaa
open Go.RowKit

/-- A sending's cells. -/
def Snd.cell (d : Snd) : Nat → Value
  | 0 => .int .i64 d.b
  | 1 => .int .i64 d.p
  | 2 => .int .u64 d.x
  | 3 => .int .u64 d.y
  | 4 => .int .u64 d.z
  | 5 => .bool d.l
  | 6 => .int .u64 d.t
  | 7 => .int .i64 d.k
  | _ => .int .i64 d.j

theorem tasks_cells {w : World} {g K i : Nat} {S : Nat → Snd} (h : Items w g K 9 36 (fun i j => (S i).cell j)) (hi : i < K) {d : Snd} (hd : S i = d) :
    w.cell? ⟨g, i * 9, none⟩ = some (.int .i64 d.b) ∧ w.cell? ⟨g, i * 9 + 1, none⟩ = some (.int .i64 d.p) ∧ w.cell? ⟨g, i * 9 + 2, none⟩ = some (.int .u64 d.x) ∧ w.cell? ⟨g, i * 9 + 3, none⟩ = some (.int .u64 d.y) ∧ w.cell? ⟨g, i * 9 + 4, none⟩ = some (.int .u64 d.z) ∧ w.cell? ⟨g, i * 9 + 5, none⟩ = some (.bool d.l) ∧ w.cell? ⟨g, i * 9 + 6, none⟩ = some (.int .u64 d.t) ∧ w.cell? ⟨g, i * 9 + 7, none⟩ = some (.int .i64 d.k) ∧ w.cell? ⟨g, i * 9 + 8, none⟩ = some (.int .i64 d.j) := by
  subst hd
  exact ⟨h.cell hi (j := 0) (by decide), h.cell hi (j := 1) (by decide), h.cell hi (j := 2) (by decide), h.cell hi (j := 3) (by decide), h.cell hi (j := 4) (by decide), h.cell hi (j := 5) (by decide), h.cell hi (j := 6) (by decide), h.cell hi (j := 7) (by decide), h.cell hi (j := 8) (by decide)⟩
theorem tasks_free {w : World} {g K i : Nat} {S : Nat → Snd} (h : Items w g K 9 36 (fun i j => (S i).cell j)) :
    w.frozen? ⟨g, i * 9, none⟩ = false ∧ w.frozen? ⟨g, i * 9 + 1, none⟩ = false ∧ w.frozen? ⟨g, i * 9 + 2, none⟩ = false ∧ w.frozen? ⟨g, i * 9 + 3, none⟩ = false ∧ w.frozen? ⟨g, i * 9 + 4, none⟩ = false ∧ w.frozen? ⟨g, i * 9 + 5, none⟩ = false ∧ w.frozen? ⟨g, i * 9 + 6, none⟩ = false ∧ w.frozen? ⟨g, i * 9 + 7, none⟩ = false ∧ w.frozen? ⟨g, i * 9 + 8, none⟩ = false :=
  ⟨h.free _, h.free _, h.free _, h.free _, h.free _, h.free _, h.free _, h.free _, h.free _⟩
theorem tasks_set {w : World} {g K i : Nat} {S : Nat → Snd} (h : Items w g K 9 36 (fun i j => (S i).cell j)) (hi : i < K) (d : Snd) :
    Items ((((((((((w.setCell ⟨g, i * 9, none⟩ (.int .i64 d.b)).setCell ⟨g, i * 9 + 1, none⟩ (.int .i64 d.p)).setCell ⟨g, i * 9 + 2, none⟩ (.int .u64 d.x)).setCell ⟨g, i * 9 + 3, none⟩ (.int .u64 d.y)).setCell ⟨g, i * 9 + 4, none⟩ (.int .u64 d.z)).setCell ⟨g, i * 9 + 5, none⟩ (.bool d.l)).setCell ⟨g, i * 9 + 6, none⟩ (.int .u64 d.t)).setCell ⟨g, i * 9 + 7, none⟩ (.int .i64 d.k)).setCell ⟨g, i * 9 + 8, none⟩ (.int .i64 d.j))) g K 9 36 (fun m j => (if m = i then d else S m).cell j) := by
  have e0 := h.set1 hi (j := 0) (by decide) (.int .i64 d.b)
  have e1 := e0.set1 hi (j := 1) (by decide) (.int .i64 d.p)
  have e2 := e1.set1 hi (j := 2) (by decide) (.int .u64 d.x)
  have e3 := e2.set1 hi (j := 3) (by decide) (.int .u64 d.y)
  have e4 := e3.set1 hi (j := 4) (by decide) (.int .u64 d.z)
  have e5 := e4.set1 hi (j := 5) (by decide) (.bool d.l)
  have e6 := e5.set1 hi (j := 6) (by decide) (.int .u64 d.t)
  have e7 := e6.set1 hi (j := 7) (by decide) (.int .i64 d.k)
  have e8 := e7.set1 hi (j := 8) (by decide) (.int .i64 d.j)
  refine e8.congr (fun a b _ hb => ?_)
  by_cases e : a = i
  · subst e
    simp only [true_and, if_true]
    obtain rfl | rfl | rfl | rfl | rfl | rfl | rfl | rfl | rfl : b = 0 ∨ b = 1 ∨ b = 2 ∨ b = 3 ∨ b = 4 ∨ b = 5 ∨ b = 6 ∨ b = 7 ∨ b = 8 := by omega
    all_goals rfl
  · simp only [e, false_and, if_false]
theorem tasks_rest {w : World} {g i : Nat} {own : Nat → Prop} (hg : own g) (d : Snd) :
    Rest own w ((((((((((w.setCell ⟨g, i * 9, none⟩ (.int .i64 d.b)).setCell ⟨g, i * 9 + 1, none⟩ (.int .i64 d.p)).setCell ⟨g, i * 9 + 2, none⟩ (.int .u64 d.x)).setCell ⟨g, i * 9 + 3, none⟩ (.int .u64 d.y)).setCell ⟨g, i * 9 + 4, none⟩ (.int .u64 d.z)).setCell ⟨g, i * 9 + 5, none⟩ (.bool d.l)).setCell ⟨g, i * 9 + 6, none⟩ (.int .u64 d.t)).setCell ⟨g, i * 9 + 7, none⟩ (.int .i64 d.k)).setCell ⟨g, i * 9 + 8, none⟩ (.int .i64 d.j))) := by
  have s : ∀ (w : World) (p : Addr) (v : Value), own p.block → Rest own w (w.setCell p v) := fun w p v hp => Rest.setCell _ _ _ hp
  have t : ∀ {a b c : World}, Rest own a b → Rest own b c → Rest own a c := fun h k => h.trans k (fun _ _ x => x) (fun _ _ x => x)
  exact t (t (t (t (t (t (t (t (s _ _ _ hg) (s _ _ _ hg)) (s _ _ _ hg)) (s _ _ _ hg)) (s _ _ _ hg)) (s _ _ _ hg)) (s _ _ _ hg)) (s _ _ _ hg)) (s _ _ _ hg)

theorem ints_cell {w : World} {g K i : Nat} {f : Nat → Nat} (h : Items w g K 1 3 (fun i _ => .int .i64 (f i : Nat))) (hi : i < K) : w.cell? ⟨g, i, none⟩ = some (.int .i64 (f i : Nat)) := by
  have := h.cell hi (j := 0) (by decide)
  rwa [Nat.mul_one, Nat.add_zero] at this
theorem ints_set {w : World} {g K i : Nat} {f : Nat → Nat} (h : Items w g K 1 3 (fun i _ => .int .i64 (f i : Nat))) (hi : i < K) (v : Nat) : Items (w.setCell ⟨g, i, none⟩ (.int .i64 v)) g K 1 3 (fun m _ => .int .i64 ((if m = i then v else f m : Nat) : Int)) := by
  have := h.set1 hi (j := 0) (by decide) (.int .i64 (v : Int))
  rw [Nat.mul_one, Nat.add_zero] at this
  refine this.congr (fun a b _ hb => ?_)
  obtain rfl : b = 0 := by omega
  by_cases e : a = i
  · simp [e]
  · simp [e]

/-- All of the law's own blocks beside the arena. -/
structure Mny (w wr : World) (s : Spot) (K : Nat) (a : Ar) (gt gs ge gu : Nat) (S : Nat → Snd) (sent seen : Nat → Nat) (u : Ftc) : Prop where
  side : Side w wr s a (fun i => i = w.heap.size ∨ i = gt ∨ i = gs ∨ i = ge ∨ i = gu)
  ring : wr.heap[w.heap.size]? = some (.cells #[.int .i64 0, .int .i64 2] 26 (0, 0))
  tasks : Items wr gt K 9 36 (fun i j => (S i).cell j)
  sents : Items wr gs K 1 3 (fun i _ => .int .i64 (sent i : Nat))
  seens : Items wr ge K 1 3 (fun i _ => .int .i64 (seen i : Nat))
  task : wr.heap[gu]? = some (.cells #[.int .i64 u.b, .int .i64 u.p, .int .u64 u.t, .int .i64 u.k, .int .i64 u.j, .int .u64 u.x, .int .u64 u.y, .int .u64 u.z] 43 (0, 0))
  n0 : gt ≠ w.heap.size ∧ gs ≠ w.heap.size ∧ ge ≠ w.heap.size ∧ gu ≠ w.heap.size
  n1 : gt ≠ gs ∧ gt ≠ ge ∧ gt ≠ gu ∧ gs ≠ ge ∧ gs ≠ gu ∧ ge ≠ gu

namespace Mny
variable {w wr wn : World} {s : Spot} {K : Nat} {a : Ar} {gt gs ge gu : Nat} {S : Nat → Snd} {sent seen : Nat → Nat} {u : Ftc}
theorem behind (h : Mny w wr s K a gt gs ge gu S sent seen u) (hb : Below wr.heap.size wr wn) : Mny w wn s K a gt gs ge gu S sent seen u :=
  ⟨h.side.behind hb, (hb.block _ (lt_of_block h.ring)).trans h.ring, h.tasks.kept (hb.block _ h.tasks.lt), h.sents.kept (hb.block _ h.sents.lt), h.seens.kept (hb.block _ h.seens.lt), (hb.block _ (lt_of_block h.task)).trans h.task, h.n0, h.n1⟩
theorem call (h : Mny w wr s K a gt gs ge gu S sent seen u) :
    ∃ T, Arena wr w.heap.size { s with T := T } a ∧ ∀ (wn : World) (an : Ar), Now wr wn w.heap.size { s with T := T } an → Mny w wn s K an gt gs ge gu S sent seen u := by
  obtain ⟨T, hA, hN⟩ := h.side.call
  refine ⟨T, hA, fun wn an hn => ?_⟩
  obtain ⟨k1, k2⟩ := hN wn an hn
  exact ⟨k1, (k2 _ (.inl rfl)).trans h.ring, h.tasks.kept (k2 _ (.inr (.inl rfl))), h.sents.kept (k2 _ (.inr (.inr (.inl rfl)))), h.seens.kept (k2 _ (.inr (.inr (.inr (.inl rfl))))), (k2 _ (.inr (.inr (.inr (.inr rfl))))).trans h.task, h.n0, h.n1⟩
theorem setT (h : Mny w wr s K a gt gs ge gu S sent seen u) (hr : Rest (fun i => i = gt) wr wn) {S' : Nat → Snd} (hi : Items wn gt K 9 36 (fun i j => (S' i).cell j)) : Mny w wn s K a gt gs ge gu S' sent seen u := by
  obtain ⟨a1, a2, a3, a4⟩ := h.n0
  obtain ⟨b1, b2, b3, b4, b5, b6⟩ := h.n1
  have k : ∀ i, i < wr.heap.size → i ≠ gt → wn.heap[i]? = wr.heap[i]? := fun i h1 h2 => hr.block i h1 h2
  exact ⟨h.side.rest hr (fun _ e => .inr (.inl e)) (fun _ e => .inl e) (fun i e => Nat.lt_of_lt_of_le (h.side.old i e) hr.size), (k _ (lt_of_block h.ring) (Ne.symm a1)).trans h.ring, hi, h.sents.kept (k _ h.sents.lt (Ne.symm b1)), h.seens.kept (k _ h.seens.lt (Ne.symm b2)), (k _ (lt_of_block h.task) (Ne.symm b3)).trans h.task, h.n0, h.n1⟩
theorem setS (h : Mny w wr s K a gt gs ge gu S sent seen u) (hr : Rest (fun i => i = gs) wr wn) {f : Nat → Nat} (hi : Items wn gs K 1 3 (fun i _ => .int .i64 (f i : Nat))) : Mny w wn s K a gt gs ge gu S f seen u := by
  obtain ⟨a1, a2, a3, a4⟩ := h.n0
  obtain ⟨b1, b2, b3, b4, b5, b6⟩ := h.n1
  have k : ∀ i, i < wr.heap.size → i ≠ gs → wn.heap[i]? = wr.heap[i]? := fun i h1 h2 => hr.block i h1 h2
  exact ⟨h.side.rest hr (fun _ e => .inr (.inr (.inl e))) (fun _ e => .inl e) (fun i e => Nat.lt_of_lt_of_le (h.side.old i e) hr.size), (k _ (lt_of_block h.ring) (Ne.symm a2)).trans h.ring, h.tasks.kept (k _ h.tasks.lt b1), hi, h.seens.kept (k _ h.seens.lt (Ne.symm b4)), (k _ (lt_of_block h.task) (Ne.symm b5)).trans h.task, h.n0, h.n1⟩
theorem setE (h : Mny w wr s K a gt gs ge gu S sent seen u) (hr : Rest (fun i => i = ge) wr wn) {f : Nat → Nat} (hi : Items wn ge K 1 3 (fun i _ => .int .i64 (f i : Nat))) : Mny w wn s K a gt gs ge gu S sent f u := by
  obtain ⟨a1, a2, a3, a4⟩ := h.n0
  obtain ⟨b1, b2, b3, b4, b5, b6⟩ := h.n1
  have k : ∀ i, i < wr.heap.size → i ≠ ge → wn.heap[i]? = wr.heap[i]? := fun i h1 h2 => hr.block i h1 h2
  exact ⟨h.side.rest hr (fun _ e => .inr (.inr (.inr (.inl e)))) (fun _ e => .inl e) (fun i e => Nat.lt_of_lt_of_le (h.side.old i e) hr.size), (k _ (lt_of_block h.ring) (Ne.symm a3)).trans h.ring, h.tasks.kept (k _ h.tasks.lt b2), h.sents.kept (k _ h.sents.lt b4), hi, (k _ (lt_of_block h.task) (Ne.symm b6)).trans h.task, h.n0, h.n1⟩
theorem setU (h : Mny w wr s K a gt gs ge gu S sent seen u) (hr : Rest (fun i => i = gu) wr wn) {v : Ftc} (hi : wn.heap[gu]? = some (.cells #[.int .i64 v.b, .int .i64 v.p, .int .u64 v.t, .int .i64 v.k, .int .i64 v.j, .int .u64 v.x, .int .u64 v.y, .int .u64 v.z] 43 (0, 0))) : Mny w wn s K a gt gs ge gu S sent seen v := by
  obtain ⟨a1, a2, a3, a4⟩ := h.n0
  obtain ⟨b1, b2, b3, b4, b5, b6⟩ := h.n1
  have k : ∀ i, i < wr.heap.size → i ≠ gu → wn.heap[i]? = wr.heap[i]? := fun i h1 h2 => hr.block i h1 h2
  exact ⟨h.side.rest hr (fun _ e => .inr (.inr (.inr (.inr e)))) (fun _ e => .inl e) (fun i e => Nat.lt_of_lt_of_le (h.side.old i e) hr.size), (k _ (lt_of_block h.ring) (Ne.symm a4)).trans h.ring, h.tasks.kept (k _ h.tasks.lt b3), h.sents.kept (k _ h.sents.lt b5), h.seens.kept (k _ h.seens.lt b6), hi, h.n0, h.n1⟩
theorem cells (h : Mny w wr s K a gt gs ge gu S sent seen u) : wr.cell? ⟨w.heap.size, 0, none⟩ = some (.int .i64 0) ∧ wr.cell? ⟨w.heap.size, 1, none⟩ = some (.int .i64 2) :=
  ⟨cell_of_row _ _ _ _ _ _ h.ring, cell_of_row _ _ _ _ _ _ h.ring⟩
theorem below (h : Mny w wr s K a gt gs ge gu S sent seen u) : Below w.heap.size w wr := h.side.below
theorem same (h : Mny w wr s K a gt gs ge gu S sent seen u) {S' : Nat → Snd} {sent' seen' : Nat → Nat} (e1 : ∀ m, m < K → S m = S' m) (e2 : ∀ m, m < K → sent m = sent' m) (e3 : ∀ m, m < K → seen m = seen' m) : Mny w wr s K a gt gs ge gu S' sent' seen' u :=
  { h with
    tasks := h.tasks.congr (fun i j hi _ => by rw [e1 i hi])
    sents := h.sents.congr (fun i _ hi _ => by rw [e2 i hi])
    seens := h.seens.congr (fun i _ hi _ => by rw [e3 i hi]) }
theorem putT (h : Mny w wr s K a gt gs ge gu S sent seen u) {i : Nat} (hi : i < K) (d : Snd) : Mny w (((((((((wr.setCell ⟨gt, i * 9, none⟩ (.int .i64 d.b)).setCell ⟨gt, i * 9 + 1, none⟩ (.int .i64 d.p)).setCell ⟨gt, i * 9 + 2, none⟩ (.int .u64 d.x)).setCell ⟨gt, i * 9 + 3, none⟩ (.int .u64 d.y)).setCell ⟨gt, i * 9 + 4, none⟩ (.int .u64 d.z)).setCell ⟨gt, i * 9 + 5, none⟩ (.bool d.l)).setCell ⟨gt, i * 9 + 6, none⟩ (.int .u64 d.t)).setCell ⟨gt, i * 9 + 7, none⟩ (.int .i64 d.k)).setCell ⟨gt, i * 9 + 8, none⟩ (.int .i64 d.j)) s K a gt gs ge gu (fun m => if m = i then d else S m) sent seen u :=
  h.setT (tasks_rest (own := fun k => k = gt) rfl d) (tasks_set h.tasks hi d)
theorem putS (h : Mny w wr s K a gt gs ge gu S sent seen u) {i : Nat} (hi : i < K) (v : Nat) : Mny w (wr.setCell ⟨gs, i, none⟩ (.int .i64 v)) s K a gt gs ge gu S (fun m => if m = i then v else sent m) seen u :=
  h.setS (Rest.setCell _ _ _ rfl) (ints_set h.sents hi v)
theorem putE (h : Mny w wr s K a gt gs ge gu S sent seen u) {i : Nat} (hi : i < K) (v : Nat) : Mny w (wr.setCell ⟨ge, i, none⟩ (.int .i64 v)) s K a gt gs ge gu S sent (fun m => if m = i then v else seen m) u :=
  h.setE (Rest.setCell _ _ _ rfl) (ints_set h.seens hi v)
theorem putU (h : Mny w wr s K a gt gs ge gu S sent seen u) (v : Ftc) : Mny w ((((((((wr.setCell ⟨gu, 0, none⟩ (.int .i64 v.b)).setCell ⟨gu, 1, none⟩ (.int .i64 v.p)).setCell ⟨gu, 2, none⟩ (.int .u64 v.t)).setCell ⟨gu, 3, none⟩ (.int .i64 v.k)).setCell ⟨gu, 4, none⟩ (.int .i64 v.j)).setCell ⟨gu, 5, none⟩ (.int .u64 v.x)).setCell ⟨gu, 6, none⟩ (.int .u64 v.y)).setCell ⟨gu, 7, none⟩ (.int .u64 v.z)) s K a gt gs ge gu S sent seen v :=
  h.setU (eight_rest (own := fun k => k = gu) rfl) (eight_laid h.task)
theorem new3 (h : Mny w wr s K a gt gs ge gu S sent seen u) {m c : Nat} (hm : m < K) (hc : sent m = c) : wr.cell? ⟨w.heap.size, 0, none⟩ = some (.int .i64 0) ∧ wr.cell? ⟨w.heap.size, 1, none⟩ = some (.int .i64 2) ∧ wr.cell? ⟨gs, m, none⟩ = some (.int .i64 (c : Nat)) :=
  ⟨h.cells.1, h.cells.2, by subst hc; exact ints_cell h.sents hm⟩
end Mny

/-- A frame's words in a block, and how many of its sender's came. -/
theorem seen4 {w : World} {o : Obj} {f y z ge d : Nat} {x : World} (h : (w.alloc o).heap[w.heap.size]? = some (.cells #[.int .u64 (f : Nat), .int .u64 (y : Nat), .int .u64 (z : Nat)] 34 (0, 0))) (hc : x.cell? ⟨ge, f, none⟩ = some (.int .i64 (d : Nat))) (hd : y = d) (hx : x = (w.alloc o).drew := by rfl) :
    x.cell? ⟨w.heap.size, 0, none⟩ = some (.int .u64 (f : Nat)) ∧ x.cell? ⟨w.heap.size, 1, none⟩ = some (.int .u64 (y : Nat)) ∧ x.cell? ⟨w.heap.size, 2, none⟩ = some (.int .u64 (z : Nat)) ∧ x.cell? ⟨ge, f, none⟩ = some (.int .i64 (y : Nat)) := by
  subst hx hd
  have h' : (w.alloc o).drew.heap[w.heap.size]? = _ := h
  exact ⟨cell_of_row _ _ _ _ _ _ h', cell_of_row _ _ _ _ _ _ h', cell_of_row _ _ _ _ _ _ h', hc⟩

end Go.Proofs.Ytieehpajkidbcaa
