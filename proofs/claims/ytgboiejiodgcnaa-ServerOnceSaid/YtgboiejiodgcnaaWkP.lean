/- WkA, WkB, WkC, WkD, WkE: several texts in one. -/
import Derived.Test.YtgboiejiodgcnaaItmK
import Derived.Test.YtgboiejiodgcnaaMid
import Derived.Test.YtgboiejiodgcnaaBaseB
import Derived.Test.YtgboiejiodgcnaaHnA
import Derived.Test.YtgboiejiodgcnaaCrA
import Derived.RegionTactic
import Derived.BigRegion
import Derived.BigQuiet
import Derived.Deep.RegionWith
import Derived.Deep.DeepCutAuto
/- A worker in memory: frames as plain numbers, its block of sixteen cells, the row of what waits; whole blocks written in their middle. The contracts of New, Load, Room, Left. -/
namespace Go.Proofs.Ytgboiejiodgcnaa
open Go.RowKit Go.Sort

/-- Cells are stored one behind the other into a block: what it is then. -/
theorem heap_setCells_list {w : World} {b o : Nat} {t : TypeId} {cs vs : List Value} (h : w.heap[b]? = some (.cells cs.toArray t (0, 0))) (hs : o + vs.length ≤ cs.length) : (w.setCells b o vs).heap[b]? = some (.cells (cs.take o ++ vs ++ cs.drop (o + vs.length)).toArray t (0, 0)) := by
  obtain ⟨c1, k1, k2, k3⟩ := setCells_all b vs o w cs.toArray h (by simpa using hs)
  rw [k1]
  congr 2
  apply Array.ext_getElem?
  intro k
  rw [k3 k]
  simp only [List.getElem?_toArray]
  have hto : (cs.take o).length = o := by rw [List.length_take]; omega
  by_cases e1 : o ≤ k ∧ k < o + vs.length
  · rw [if_pos e1, List.append_assoc, List.getElem?_append_right (by omega), hto, List.getElem?_append_left (by omega)]
  · rw [if_neg e1, List.append_assoc]
    by_cases e2 : k < o
    · rw [List.getElem?_append_left (by omega), List.getElem?_take_of_lt e2]
    · rw [List.getElem?_append_right (by omega), hto, List.getElem?_append_right (by omega), List.getElem?_drop]
      congr 1
      omega
theorem Rest.cells {own : Nat → Prop} (w : World) (b o : Nat) (vs : List Value) (h : own b) : Rest own w (w.setCells b o vs) := Rest.grown (grown_setCells b vs o w) (fun k hk => by cases hk; exact h)

namespace Wk
/-- A frame as plain numbers. -/
structure Fr where
  k : Int
  c : Int
  s : Int
  t : Int
  g : Int
  a : Int
  r : Int
  su : Bool
  st : Bool
  q : Int
  v : Int
def Fr.cells (f : Fr) : List Value := [.int .i64 f.k, .int .i64 f.c, .int .i64 f.s, .int .i64 f.t, .int .i64 f.g, .int .u32 f.a, .int .i64 f.r, .bool f.su, .bool f.st, .int .i64 f.q, .int .u32 f.v]
def zero : Fr := ⟨0, 0, 0, 0, 0, 0, 0, false, false, 0, 0⟩
/-- What answers it. -/
def Fr.ans (f : Fr) (k q v : Int) : Fr := ⟨k, f.c, f.s, f.t, f.g, f.a, f.r, f.su, f.st, q, v⟩
def fitm : Itm Fr 11 := ⟨Fr.cells, fun _ => rfl, fun a u hu => by
  simp only [Fr.cells, List.mem_cons, List.not_mem_nil, or_false] at hu
  rcases hu with rfl | rfl | rfl | rfl | rfl | rfl | rfl | rfl | rfl | rfl | rfl <;> rfl⟩
/-- A worker: how many may wait, what waits, does it do something, what, how many chunks it may send and sent. -/
structure Wo where
  m : Int
  q : List Fr
  b : Bool
  j : Fr
  l : Int
  n : Int
def Wo.cells (o : Wo) (a : Option Addr) (c : Nat) : List Value := [.int .i64 o.m, .slice a o.q.length c, .bool o.b, .int .i64 o.j.k, .int .i64 o.j.c, .int .i64 o.j.s, .int .i64 o.j.t, .int .i64 o.j.g, .int .u32 o.j.a, .int .i64 o.j.r, .bool o.j.su, .bool o.j.st, .int .i64 o.j.q, .int .u32 o.j.v, .int .i64 o.l, .int .i64 o.n]
theorem Wo.one (o : Wo) (a : Option Addr) (c : Nat) : ∀ u ∈ o.cells a c, u.oneCell' = true := by
  intro u hu
  simp only [Wo.cells, List.mem_cons, List.not_mem_nil, or_false] at hu
  rcases hu with rfl | rfl | rfl | rfl | rfl | rfl | rfl | rfl | rfl | rfl | rfl | rfl | rfl | rfl | rfl | rfl <;> rfl
/-- How many it has. -/
def Wo.load (o : Wo) : Int := (o.q.length : Int) + if o.b then 1 else 0
/-- One that was just made. -/
def new (m : Int) : Wo := ⟨m, [], false, zero, 0, 0⟩
def Wo.rest (o : Wo) : Wo := { o with b := false, j := zero, l := 0, n := 0 }
/-- What answers when it is done, and the state behind it. -/
def Wo.fin (o : Wo) (s : Int) : Fr := if o.j.st then o.j.ans 4 o.n 0 else if Hn.ok o.j.q then o.j.ans 2 0 (Hn.val o.j.q o.j.v s) else o.j.ans 7 0 1
def Wo.stt (o : Wo) (s : Int) : Int := if o.j.st then s else if Hn.ok o.j.q then Hn.st o.j.q o.j.v s else s
def room (n : Int) : Int := max 0 (min n 8)
end Wk

/-- A worker at P; L: the row of what waits, where there is one. -/
def Wd (w : World) (P : Nat) (o : Wk.Wo) (L : Option Nat) : Prop := ∃ a c, w.heap[P]? = some (.cells (o.cells a c).toArray 68 (0, 0)) ∧
  ((L = none ∧ a = none ∧ c = 0 ∧ o.q = []) ∨ ∃ g off, L = some g ∧ a = some ⟨g, off, none⟩ ∧ g ≠ P ∧ RowK w 0 29 11 g off o.q.length c (Wk.fitm.flat o.q))
namespace Wd
variable {w w' : World} {P : Nat} {o o' : Wk.Wo} {L : Option Nat}
theorem shape (h : Wd w P o L) : ∃ a c, w.heap[P]? = some (.cells (o.cells a c).toArray 68 (0, 0)) := by
  obtain ⟨a, c, h, -⟩ := h
  exact ⟨a, c, h⟩
theorem lt (h : Wd w P o L) : P < w.heap.size := by
  obtain ⟨a, c, h, -⟩ := h
  exact lt_of_block h
theorem row (h : Wd w P o L) {g : Nat} (e : L = some g) : g < w.heap.size ∧ g ≠ P := by
  obtain ⟨a, c, -, ⟨e2, -⟩ | ⟨g2, off, e2, -, hn, hr⟩⟩ := h
  · rw [e] at e2; cases e2
  · rw [e] at e2; cases e2; exact ⟨hr.lt, hn⟩
theorem kept {own : Nat → Prop} (h : Wd w P o L) (hr : Rest own w w') (hp : ¬own P) (hl : ∀ g, L = some g → ¬own g) : Wd w' P o L := by
  obtain ⟨a, c, hb, h⟩ := h
  refine ⟨a, c, (hr.block _ (lt_of_block hb) hp).trans hb, ?_⟩
  rcases h with h | ⟨g, off, e, ea, hn, hR⟩
  · exact .inl h
  · exact .inr ⟨g, off, e, ea, hn, hR.kept (hr.block _ hR.lt (hl g e))⟩
theorem call (h : Wd w P o L) (hb : Below w.heap.size w w') : Wd w' P o L := h.kept (Rest.of_below (own := fun _ => False) hb) (fun x => x) (fun _ _ x => x)
theorem drew (h : Wd w P o L) : Wd w.drew P o L := h.call (Below.refl _ _).drew
theorem drewN (h : Wd w P o L) (n : Nat) : Wd (w.drewN n) P o L := h.call ⟨rfl, rfl, rfl, Nat.le_refl _, fun _ _ => rfl⟩
/-- Its block is written, what waits stays where it is. -/
theorem over (h : Wd w P o L) (hr : Rest (fun k => k = P) w w') (hq : o'.q = o.q) (hb : ∀ a c, w.heap[P]? = some (.cells (o.cells a c).toArray 68 (0, 0)) → w'.heap[P]? = some (.cells (o'.cells a c).toArray 68 (0, 0))) : Wd w' P o' L := by
  obtain ⟨a, c, hP, h⟩ := h
  refine ⟨a, c, hb a c hP, ?_⟩
  rw [hq]
  rcases h with h | ⟨g, off, e, ea, hn, hR⟩
  · exact .inl h
  · exact .inr ⟨g, off, e, ea, hn, hR.kept (hr.block _ hR.lt hn)⟩
end Wd
/-- Its sixteen cells. -/
theorem wk_cells {w : World} {P : Nat} {o : Wk.Wo} {a : Option Addr} {c : Nat} {t : TypeId} (h : w.heap[P]? = some (.cells (o.cells a c).toArray t (0, 0))) :
    w.cell? ⟨P, 0, none⟩ = some (.int .i64 o.m) ∧ w.cell? ⟨P, 1, none⟩ = some (.slice a o.q.length c) ∧ w.cell? ⟨P, 2, none⟩ = some (.bool o.b) ∧ w.cell? ⟨P, 14, none⟩ = some (.int .i64 o.l) ∧ w.cell? ⟨P, 15, none⟩ = some (.int .i64 o.n) :=
  ⟨cell_of_row _ _ _ _ _ _ h, cell_of_row _ _ _ _ _ _ h, cell_of_row _ _ _ _ _ _ h, cell_of_row _ _ _ _ _ _ h, cell_of_row _ _ _ _ _ _ h⟩
theorem wk_job {w : World} {P : Nat} {o : Wk.Wo} {a : Option Addr} {c : Nat} {t : TypeId} (h : w.heap[P]? = some (.cells (o.cells a c).toArray t (0, 0))) : w.cell? ⟨P, 3, none⟩ = some (.int .i64 o.j.k) ∧ w.cell? ⟨P, 4, none⟩ = some (.int .i64 o.j.c) ∧ w.cell? ⟨P, 5, none⟩ = some (.int .i64 o.j.s) ∧ w.cell? ⟨P, 6, none⟩ = some (.int .i64 o.j.t) ∧ w.cell? ⟨P, 7, none⟩ = some (.int .i64 o.j.g) ∧ w.cell? ⟨P, 8, none⟩ = some (.int .u32 o.j.a) ∧ w.cell? ⟨P, 9, none⟩ = some (.int .i64 o.j.r) ∧ w.cell? ⟨P, 10, none⟩ = some (.bool o.j.su) ∧ w.cell? ⟨P, 11, none⟩ = some (.bool o.j.st) ∧ w.cell? ⟨P, 12, none⟩ = some (.int .i64 o.j.q) ∧ w.cell? ⟨P, 13, none⟩ = some (.int .u32 o.j.v) :=
  ⟨cell_of_row _ _ _ _ _ _ h, cell_of_row _ _ _ _ _ _ h, cell_of_row _ _ _ _ _ _ h, cell_of_row _ _ _ _ _ _ h, cell_of_row _ _ _ _ _ _ h, cell_of_row _ _ _ _ _ _ h, cell_of_row _ _ _ _ _ _ h, cell_of_row _ _ _ _ _ _ h, cell_of_row _ _ _ _ _ _ h, cell_of_row _ _ _ _ _ _ h, cell_of_row _ _ _ _ _ _ h⟩
/-- What it does lies there, as a range. -/
theorem wk_range {w : World} {P : Nat} {o : Wk.Wo} {a : Option Addr} {c : Nat} {t : TypeId} (h : w.heap[P]? = some (.cells (o.cells a c).toArray t (0, 0))) : w.rangeAt P 3 o.j.cells := fun j v hv => by
  have hj : j < 11 := (List.getElem?_eq_some_iff.1 hv).1
  rw [cell_of_row _ _ _ _ _ _ h]
  rcases (show j = 0 ∨ j = 1 ∨ j = 2 ∨ j = 3 ∨ j = 4 ∨ j = 5 ∨ j = 6 ∨ j = 7 ∨ j = 8 ∨ j = 9 ∨ j = 10 by omega) with rfl | rfl | rfl | rfl | rfl | rfl | rfl | rfl | rfl | rfl | rfl <;> exact hv
theorem wk_there {w : World} {P : Nat} {o : Wk.Wo} {a : Option Addr} {c : Nat} {t : TypeId} (h : w.heap[P]? = some (.cells (o.cells a c).toArray t (0, 0))) {i k : Nat} (hk : i + k ≤ 16) : w.there P i k := fun j hj => by
  refine ⟨?_, frozen_of_row _ _ _ _ _ h⟩
  rw [cell_of_row _ _ _ _ _ _ h]
  simp [Wk.Wo.cells]
  omega

theorem Try.bigFrame : Big Try.prog 29 11 := Big.of (b := 80) Try.underlying29 rfl (by kernel_rfl) (by decide)
/-- New. -/
theorem wknew_any (n : Int) (w : World) : Calls Try.prog 18 #[.int .i64 n] w fun e w' => e = .returned (.pointer (some ⟨w.heap.size, 0, none⟩)) ∧ w' = w.alloc (.cells ((Wk.new (Wk.room n)).cells none 0).toArray 68) := by
  have h1 : (if (8 : Int) < n then 8 else n) = min n 8 := by omega
  have h2 : (if n < (8 : Int) then n else 8) = min n 8 := by omega
  have h3 : (if (0 : Int) < min n 8 then min n 8 else 0) = max 0 (min n 8) := by omega
  have h4 : (if min n 8 < (0 : Int) then 0 else min n 8) = max 0 (min n 8) := by omega
  go_enter Try.func18, Try.ntmps18
  go_wp2
  go_ret
  exact ⟨rfl, rfl⟩
theorem wknew_wd (n : Int) (w : World) : Calls Try.prog 18 #[.int .i64 n] w fun e w' => e = .returned (.pointer (some ⟨w.heap.size, 0, none⟩)) ∧ Wd w' w.heap.size (Wk.new (Wk.room n)) none ∧ Below w.heap.size w w' := by
  refine (wknew_any n w).mono ?_
  rintro e w' ⟨rfl, rfl⟩
  exact ⟨rfl, ⟨none, 0, heap_alloc_new _ _, .inl ⟨rfl, rfl, rfl, rfl⟩⟩, below_box _ _⟩
/-- Load. -/
theorem wkload_nil (w : World) : Calls Try.prog 29 #[.pointer none] w fun e w' => e = .returned (.int .i64 0) ∧ w = w' := by
  go_enter Try.func29, Try.ntmps29
  go_wp2
  go_ret
  exact ⟨rfl, rfl⟩
theorem wkload_any {P : Nat} {o : Wk.Wo} {L : Option Nat} (hq : o.q.length ≤ 1000000) (w : World) (h : Wd w P o L) : Calls Try.prog 29 #[.pointer (some ⟨P, 0, none⟩)] w fun e w' => e = .returned (.int .i64 o.load) ∧ w = w' := by
  obtain ⟨a, c, hP⟩ := h.shape
  obtain ⟨p0, p1, p2, p3, p4⟩ := wk_cells hP
  have hw : IntKind.i64.wrap ((o.q.length : Int) + 1) = (o.q.length : Int) + 1 := by rw [IntKind.wrap_i64]; omega
  cases hb : o.b with
  | true =>
    rw [show o.load = (o.q.length : Int) + 1 by simp [Wk.Wo.load, hb]]
    rw [hb] at p2
    go_enter Try.func29, Try.ntmps29
    go_wp2
    go_ret
    exact ⟨rfl, rfl⟩
  | false =>
    rw [show o.load = (o.q.length : Int) by simp [Wk.Wo.load, hb]]
    rw [hb] at p2
    go_enter Try.func29, Try.ntmps29
    go_wp2
    go_ret
    exact ⟨rfl, rfl⟩
/-- Room. -/
theorem wkroom_nil (w : World) : Calls Try.prog 56 #[.pointer none] w fun e w' => e = .returned (.int .i64 0) ∧ w = w' := by
  go_enter Try.func56, Try.ntmps56
  go_wp2
  go_ret
  exact ⟨rfl, rfl⟩
theorem wkroom_any {P : Nat} {o : Wk.Wo} {L : Option Nat} {m : Int} (hm : IntKind.i64.wrap (o.m + 1) = m) (w : World) (h : Wd w P o L) : Calls Try.prog 56 #[.pointer (some ⟨P, 0, none⟩)] w fun e w' => e = .returned (.int .i64 m) ∧ w = w' := by
  obtain ⟨a, c, hP⟩ := h.shape
  obtain ⟨p0, p1, p2, p3, p4⟩ := wk_cells hP
  go_enter Try.func56, Try.ntmps56
  go_wp2
  go_ret
  exact ⟨rfl, rfl⟩
end Go.Proofs.Ytgboiejiodgcnaa

/- The contracts of a worker's small calls: of, rest, answer, failure, done, chunk, Job. -/
namespace Go.Proofs.Ytgboiejiodgcnaa
open Go.RowKit Go.Sort

theorem wk_rest {w : World} {P : Nat} {o : Wk.Wo} {L : Option Nat} (h : Wd w P o L) : Wd (w.setCells P 2 (.bool false :: (Wk.zero.cells ++ [.int .i64 0, .int .i64 0]))) P o.rest L ∧ Rest (fun k => k = P) w (w.setCells P 2 (.bool false :: (Wk.zero.cells ++ [.int .i64 0, .int .i64 0]))) :=
  ⟨h.over (Rest.cells _ _ _ _ rfl) rfl (fun _ _ h => (heap_setCells_list h (Nat.le_refl _)).trans rfl), Rest.cells _ _ _ _ rfl⟩
/-- rest. -/
theorem wkrest_any {P : Nat} {o : Wk.Wo} {L : Option Nat} (w : World) (h : Wd w P o L) : Calls Try.prog 45 #[.pointer (some ⟨P, 0, none⟩)] w fun e w' => e = .returned (.tuple #[]) ∧ Wd w' P o.rest L ∧ Rest (fun k => k = P) w w' := by
  obtain ⟨a, c, hP⟩ := h.shape
  obtain ⟨p0, p1, p2, p14, p15⟩ := wk_cells hP
  obtain ⟨p3, p4, p5, p6, p7, p8, p9, p10, p11, p12, p13⟩ := wk_job hP
  have fz := fun i => frozen_of_row _ _ i _ _ hP
  have HW := Lib.hid h
  clear h hP
  go_enter Try.func45, Try.ntmps45
  go_wp2_with fail
  go_end0
  exact ⟨rfl, wk_rest HW.out⟩

theorem Try.sizeTurn : (Try.prog.info? 75).map (·.size) = some 4 := by kernel_rfl
/-- of. -/
theorem wkof_any (f : Wk.Fr) (w : World) : Calls Try.prog 43 #[.agg #[.int .i64 f.k, .int .i64 f.c, .int .i64 f.s, .int .i64 f.t, .int .i64 f.g, .int .u32 f.a, .int .i64 f.r, .bool f.su, .bool f.st, .int .i64 f.q, .int .u32 f.v]] w fun e w' => e = .returned (.agg #[.int .i64 f.c, .int .i64 f.t, .int .i64 f.g, .int .u32 f.a]) ∧ Below w.heap.size w w' := by
  have H := ((Upon.start (fun _ => False) w).lay (.cells #[.int .i64 f.k, .int .i64 f.c, .int .i64 f.s, .int .i64 f.t, .int .i64 f.g, .int .u32 f.a, .int .i64 f.r, .bool f.su, .bool f.st, .int .i64 f.q, .int .u32 f.v] 29)).lay (.cells #[.int .i64 f.c, .int .i64 f.t, .int .i64 f.g, .int .u32 f.a] 75)
  go_enter Try.func43, Try.ntmps43
  go_wp2
  have hl := (Upon.start (fun _ => False) w).lay2 (.cells #[.int .i64 f.k, .int .i64 f.c, .int .i64 f.s, .int .i64 f.t, .int .i64 f.g, .int .u32 f.a, .int .i64 f.r, .bool f.su, .bool f.st, .int .i64 f.q, .int .u32 f.v] 29) (.cells #[.int .i64 f.c, .int .i64 f.t, .int .i64 f.g, .int .u32 f.a] 75) |>.get 0 rfl
  exact bodyPost_ret (results_cell_row Try.results43 _ _ (w.heap.size + 1) 75 _ (0, 0) _ rfl hl Try.underlying75 rfl Try.sizeTurn) rfl ⟨rfl, H.below (fun _ => id)⟩

/-- A frame's block is written over, whole, or in three of its cells. -/
theorem fr_over {w : World} {b : Nat} {cs : List Value} {t : TypeId} (f : Wk.Fr) (h : w.heap[b]? = some (.cells cs.toArray t (0, 0))) (hl : cs.length = 11) : (w.setCells b 0 f.cells).heap[b]? = some (.cells f.cells.toArray t (0, 0)) := by
  refine (heap_setCells_list h (by rw [hl]; exact Nat.le_refl _)).trans ?_
  rw [List.take_zero, List.nil_append, List.drop_of_length_le (by rw [hl]; exact Nat.le_refl _), List.append_nil]
theorem ans_laid {w : World} {b : Nat} {t : TypeId} {f : Wk.Fr} (h : w.heap[b]? = some (.cells f.cells.toArray t (0, 0))) (k q v : Int) : (((w.setCell ⟨b, 0, none⟩ (.int .i64 k)).setCell ⟨b, 9, none⟩ (.int .i64 q)).setCell ⟨b, 10, none⟩ (.int .u32 v)).heap[b]? = some (.cells (f.ans k q v).cells.toArray t (0, 0)) :=
  heap_setCell_same _ _ 10 _ _ _ (heap_setCell_same _ _ 9 _ _ _ (heap_setCell_same _ _ 0 _ _ _ h))
theorem ans_rest (w : World) (b : Nat) (k q v : Value) : Rest (fun i => i = b) w (((w.setCell ⟨b, 0, none⟩ k).setCell ⟨b, 9, none⟩ q).setCell ⟨b, 10, none⟩ v) := by
  have hh := fun (u : World) (i : Nat) (v : Value) => Rest.setCell (own := fun k => k = b) u ⟨b, i, none⟩ v rfl
  exact ((hh _ _ _).trans (hh _ _ _) (fun _ _ => id) (fun _ _ => id)).trans (o3 := fun k => k = b) (hh _ _ _) (fun _ _ => id) (fun _ _ => id)
/-- answer. -/
theorem wkanswer_any {P : Nat} {o : Wk.Wo} {L : Option Nat} (k q v : Int) (w : World) (h : Wd w P o L) : Calls Try.prog 62 #[.pointer (some ⟨P, 0, none⟩), .int .i64 k, .int .i64 q, .int .u32 v] w fun e w' => e = .returned (.agg #[.int .i64 k, .int .i64 o.j.c, .int .i64 o.j.s, .int .i64 o.j.t, .int .i64 o.j.g, .int .u32 o.j.a, .int .i64 o.j.r, .bool o.j.su, .bool o.j.st, .int .i64 q, .int .u32 v]) ∧ Below w.heap.size w w' := by
  have H := Lib.hid ((Upon.start (fun _ => False) w).lay (.cells #[.int .i64 0, .int .i64 0, .int .i64 0, .int .i64 0, .int .i64 0, .int .u32 0, .int .i64 0, .bool false, .bool false, .int .i64 0, .int .u32 0] 29))
  have HW := Lib.hid (h.call (H.out.below (fun _ => id)))
  clear h
  go_enter Try.func62, Try.ntmps62
  go_upto_region 1 with fail
  generalize w.alloc _ = w1 at HW H ⊢
  generalize w.heap.size = bA at H ⊢
  obtain ⟨a, c, hP⟩ := HW.out.shape
  obtain ⟨p3, p4, p5, p6, p7, p8, p9, p10, p11, p12, p13⟩ := wk_job hP
  go_upto_region 2 with fail
  have H2 := Lib.hid (H.out.lay (.cells #[.int .i64 o.j.k, .int .i64 o.j.c, .int .i64 o.j.s, .int .i64 o.j.t, .int .i64 o.j.g, .int .u32 o.j.a, .int .i64 o.j.r, .bool o.j.su, .bool o.j.st, .int .i64 o.j.q, .int .u32 o.j.v] 29))
  clear p3 p4 p5 p6 p7 p8 p9 p10 p11 p12 p13 hP H HW
  generalize w1.alloc _ = w2 at H2 ⊢
  generalize w1.heap.size = bB at H2 ⊢
  obtain ⟨f0, f1, f2, f3, f4, f5, f6, f7, f8, f9, f10⟩ := frame_cells (H2.out.get 0 rfl)
  have fz := fun i => frozen_of_row _ _ i _ _ (H2.out.get 0 rfl)
  go_upto_region 3 with fail
  have H3 := Lib.hid (H2.out.put (ans_rest w2 bB (.int .i64 k) (.int .i64 q) (.int .u32 v)) (ans_laid (H2.out.get 0 rfl) k q v))
  clear f0 f1 f2 f3 f4 f5 f6 f7 f8 f9 f10 fz H2
  generalize ((w2.setCell _ _).setCell _ _).setCell _ _ = w3 at H3 ⊢
  obtain ⟨f0, f1, f2, f3, f4, f5, f6, f7, f8, f9, f10⟩ := frame_cells (H3.out.get 0 rfl)
  obtain ⟨g0, g1, g2, g3, g4, g5, g6, g7, g8, g9, g10⟩ := frame_cells (H3.out.get 1 rfl)
  have fz := fun i => frozen_of_row _ _ i _ _ (H3.out.get 1 rfl)
  go_wp2_with fail
  have hA := fr_over (o.j.ans k q v) (H3.out.get 1 rfl) rfl
  have H4 := H3.out.swap.put (Rest.cells w3 bA 0 (o.j.ans k q v).cells rfl) hA
  exact bodyPost_ret (results_cell_row Try.results62 _ _ bA 29 _ (0, 0) _ rfl hA Try.underlying29 rfl Try.bigFrame.size) rfl ⟨rfl, H4.below (fun _ => id)⟩
/-- failure. -/
theorem wkfailure_any {P : Nat} {o : Wk.Wo} {L : Option Nat} (w : World) (h : Wd w P o L) : Calls Try.prog 51 #[.pointer (some ⟨P, 0, none⟩)] w fun e w' => e = .returned (.agg #[.int .i64 7, .int .i64 o.j.c, .int .i64 o.j.s, .int .i64 o.j.t, .int .i64 o.j.g, .int .u32 o.j.a, .int .i64 o.j.r, .bool o.j.su, .bool o.j.st, .int .i64 0, .int .u32 1]) ∧ Below w.heap.size w w' := by
  have H := Lib.hid ((Upon.start (fun _ => False) w).lay (.cells #[.int .i64 0, .int .i64 0, .int .i64 0, .int .i64 0, .int .i64 0, .int .u32 0, .int .i64 0, .bool false, .bool false, .int .i64 0, .int .u32 0] 29))
  have HW := Lib.hid (h.call (H.out.below (fun _ => id)))
  clear h
  go_enter Try.func51, Try.ntmps51
  go_upto_region 1 with fail
  generalize w.alloc _ = w1 at HW H ⊢
  generalize w.heap.size = bA at H ⊢
  go_wp2_with fail
  refine (wkanswer_any 7 0 1 w1 HW.out).mono ?_
  rintro e w2 ⟨rfl, hb⟩
  have H2 := Lib.hid (H.out.call hb)
  clear hb H HW
  obtain ⟨g0, g1, g2, g3, g4, g5, g6, g7, g8, g9, g10⟩ := frame_cells (H2.out.get 0 rfl)
  have fz := fun i => frozen_of_row _ _ i _ _ (H2.out.get 0 rfl)
  go_wp2_with fail
  have hA := fr_over (o.j.ans 7 0 1) (H2.out.get 0 rfl) rfl
  have H4 := H2.out.put (Rest.cells w2 bA 0 (o.j.ans 7 0 1).cells rfl) hA
  exact bodyPost_ret (results_cell_row Try.results51 _ _ bA 29 _ (0, 0) _ rfl hA Try.underlying29 rfl Try.bigFrame.size) rfl ⟨rfl, H4.below (fun _ => id)⟩
end Go.Proofs.Ytgboiejiodgcnaa

/- The contracts of a worker's done, chunk (where it may send none) and Job. -/
namespace Go.Proofs.Ytgboiejiodgcnaa
open Go.RowKit Go.Sort

set_option maxHeartbeats 1000000 in
/-- done. -/
theorem wkdone_any {P : Nat} {o : Wk.Wo} {L : Option Nat} (s : Int) (w : World) (h : Wd w P o L) : Calls Try.prog 52 #[.pointer (some ⟨P, 0, none⟩), .int .u32 s] w fun e w' => e = .returned (.tuple #[.agg #[.int .i64 ((o.fin s)).k, .int .i64 ((o.fin s)).c, .int .i64 ((o.fin s)).s, .int .i64 ((o.fin s)).t, .int .i64 ((o.fin s)).g, .int .u32 ((o.fin s)).a, .int .i64 ((o.fin s)).r, .bool ((o.fin s)).su, .bool ((o.fin s)).st, .int .i64 ((o.fin s)).q, .int .u32 ((o.fin s)).v], .int .u32 (o.stt s)]) ∧ Below w.heap.size w w' := by
  have H := Lib.hid ((Upon.start (fun _ => False) w).lay (.cells #[.int .i64 0, .int .i64 0, .int .i64 0, .int .i64 0, .int .i64 0, .int .u32 0, .int .i64 0, .bool false, .bool false, .int .i64 0, .int .u32 0] 29))
  have HW := Lib.hid (h.call (H.out.below (fun _ => id)))
  clear h
  cases hst : o.j.st with
  | true =>
    have e1 : o.fin s = o.j.ans 4 o.n 0 := by simp only [Wk.Wo.fin, hst, if_true]
    have e2 : o.stt s = s := by simp only [Wk.Wo.stt, hst, if_true]
    rw [e1, e2]
    clear e1 e2
    go_enter Try.func52, Try.ntmps52
    go_upto_region 1 with fail
    generalize w.alloc _ = w1 at HW H ⊢
    generalize w.heap.size = bA at H ⊢
    obtain ⟨a, c, hP⟩ := HW.out.shape
    obtain ⟨p0, p1, p2, p14, p15⟩ := wk_cells hP
    have p11 := (wk_job hP).2.2.2.2.2.2.2.2.1
    rw [hst] at p11
    clear hst
    go_wp2_with fail
    refine (crsent_any (L := o.l) (S := o.n) w1).mono ?_
    rintro e w2 ⟨rfl, hb⟩
    dsimp only
    have H2 := Lib.hid (H.out.call hb)
    have HW2 := Lib.hid (HW.out.call hb)
    clear hb H HW p0 p1 p2 p14 p15 p11 hP
    go_wp2_with fail
    refine (wkanswer_any 4 o.n 0 w2 HW2.out).mono ?_
    rintro e w3 ⟨rfl, hb⟩
    dsimp only
    have H3 := Lib.hid (H2.out.call hb)
    clear hb H2 HW2
    obtain ⟨g0, g1, g2, g3, g4, g5, g6, g7, g8, g9, g10⟩ := frame_cells (H3.out.get 0 rfl)
    have fz := fun i => frozen_of_row _ _ i _ _ (H3.out.get 0 rfl)
    go_wp2_with fail
    have hA := fr_over (o.j.ans 4 o.n 0) (H3.out.get 0 rfl) rfl
    have H4 := H3.out.put (Rest.cells w3 bA 0 (o.j.ans 4 o.n 0).cells rfl) hA
    exact bodyPost_ret (results_row_tmp Try.results52 _ _ bA 29 _ (0, 0) _ rfl hA Try.underlying29 rfl Try.bigFrame.size) rfl ⟨rfl, H4.below (fun _ => id)⟩
  | false =>
    cases hok : Hn.ok o.j.q with
    | true =>
      have e1 : o.fin s = o.j.ans 2 0 (Hn.val o.j.q o.j.v s) := by simp only [Wk.Wo.fin, hst, hok, if_true, if_false, Bool.false_eq_true]
      have e2 : o.stt s = Hn.st o.j.q o.j.v s := by simp only [Wk.Wo.stt, hst, hok, if_true, if_false, Bool.false_eq_true]
      rw [e1, e2]
      clear e1 e2
      have hR := fun w => hnrun_any o.j.q o.j.v s w
      rw [hok] at hR
      generalize Hn.val o.j.q o.j.v s = x at hR ⊢
      generalize Hn.st o.j.q o.j.v s = y at hR ⊢
      clear hok
      go_enter Try.func52, Try.ntmps52
      go_upto_region 1 with fail
      generalize w.alloc _ = w1 at HW H ⊢
      generalize w.heap.size = bA at H ⊢
      obtain ⟨a, c, hP⟩ := HW.out.shape
      obtain ⟨p3, p4, p5, p6, p7, p8, p9, p10, p11, p12, p13⟩ := wk_job hP
      rw [hst] at p11
      clear hst hP
      go_upto_region 3 with fail
      go_quiet (first | (go_at_call 64; exact Calls.quiet_of_same ((hR _).mono (fun _ _ h => And.intro h.1 h.2.symm))) | fail)
      have H2 := Lib.hid (H.out.drewN nq)
      have HW2 := Lib.hid (HW.out.drewN nq)
      clear H HW p3 p4 p5 p6 p7 p8 p9 p10 p11 p12 p13 hR
      generalize w1.drewN nq = w2 at H2 HW2 ⊢
      go_wp2_with fail
      refine (wkanswer_any 2 0 x w2 HW2.out).mono ?_
      rintro e w3 ⟨rfl, hb⟩
      dsimp only
      have H3 := Lib.hid (H2.out.call hb)
      clear hb H2 HW2
      obtain ⟨g0, g1, g2, g3, g4, g5, g6, g7, g8, g9, g10⟩ := frame_cells (H3.out.get 0 rfl)
      have fz := fun i => frozen_of_row _ _ i _ _ (H3.out.get 0 rfl)
      go_wp2_with fail
      have hA := fr_over (o.j.ans 2 0 x) (H3.out.get 0 rfl) rfl
      have H4 := H3.out.put (Rest.cells w3 bA 0 (o.j.ans 2 0 x).cells rfl) hA
      exact bodyPost_ret (results_row_tmp Try.results52 _ _ bA 29 _ (0, 0) _ rfl hA Try.underlying29 rfl Try.bigFrame.size) rfl ⟨rfl, H4.below (fun _ => id)⟩
    | false =>
      have e1 : o.fin s = o.j.ans 7 0 1 := by simp only [Wk.Wo.fin, hst, hok, if_false, Bool.false_eq_true]
      have e2 : o.stt s = s := by simp only [Wk.Wo.stt, hst, hok, if_false, Bool.false_eq_true]
      rw [e1, e2]
      clear e1 e2
      have hR := fun w => hnrun_any o.j.q o.j.v s w
      rw [hok] at hR
      generalize Hn.val o.j.q o.j.v s = x at hR ⊢
      generalize Hn.st o.j.q o.j.v s = y at hR ⊢
      clear hok
      go_enter Try.func52, Try.ntmps52
      go_upto_region 1 with fail
      generalize w.alloc _ = w1 at HW H ⊢
      generalize w.heap.size = bA at H ⊢
      obtain ⟨a, c, hP⟩ := HW.out.shape
      obtain ⟨p3, p4, p5, p6, p7, p8, p9, p10, p11, p12, p13⟩ := wk_job hP
      rw [hst] at p11
      clear hst hP
      go_upto_region 3 with fail
      go_quiet (first | (go_at_call 64; exact Calls.quiet_of_same ((hR _).mono (fun _ _ h => And.intro h.1 h.2.symm))) | fail)
      have H2 := Lib.hid (H.out.drewN nq)
      have HW2 := Lib.hid (HW.out.drewN nq)
      clear H HW p3 p4 p5 p6 p7 p8 p9 p10 p11 p12 p13 hR
      generalize w1.drewN nq = w2 at H2 HW2 ⊢
      go_wp2_with fail
      refine (wkfailure_any w2 HW2.out).mono ?_
      rintro e w3 ⟨rfl, hb⟩
      dsimp only
      have H3 := Lib.hid (H2.out.call hb)
      clear hb H2 HW2
      obtain ⟨g0, g1, g2, g3, g4, g5, g6, g7, g8, g9, g10⟩ := frame_cells (H3.out.get 0 rfl)
      have fz := fun i => frozen_of_row _ _ i _ _ (H3.out.get 0 rfl)
      go_wp2_with fail
      have hA := fr_over (o.j.ans 7 0 1) (H3.out.get 0 rfl) rfl
      have H4 := H3.out.put (Rest.cells w3 bA 0 (o.j.ans 7 0 1).cells rfl) hA
      exact bodyPost_ret (results_row_tmp Try.results52 _ _ bA 29 _ (0, 0) _ rfl hA Try.underlying29 rfl Try.bigFrame.size) rfl ⟨rfl, H4.below (fun _ => id)⟩
end Go.Proofs.Ytgboiejiodgcnaa

/- The contracts of a worker's Job and chunk. -/
namespace Go.Proofs.Ytgboiejiodgcnaa
open Go.RowKit Go.Sort

/-- Its block alone is written by what one calls: one's own blocks are as they were. -/
theorem Upon.wrote {P : Nat} {w wx wy : World} {l : List (Nat × Obj)} (h : Upon (fun k => k = P) w wx l) (hr : Rest (fun k => k = P) wx wy) (hl : ∀ p ∈ l, p.1 ≠ P) : Upon (fun k => k = P) w wy l :=
  ⟨h.rest.trans hr (fun _ _ => id) (fun _ _ => id), fun p hp => ⟨(h.own p hp).1, (hr.block _ (heap_lt (h.own p hp).2) (hl p hp)).trans (h.own p hp).2⟩, h.apart⟩
/-- Its block is written, and one knows what it was. -/
theorem Wd.anew {w w' : World} {P : Nat} {o o' : Wk.Wo} {L : Option Nat} {a : Option Addr} {c : Nat} (h : Wd w P o L) (hP : w.heap[P]? = some (.cells (o.cells a c).toArray 68 (0, 0))) (hr : Rest (fun k => k = P) w w') (hq : o'.q = o.q) (hn : w'.heap[P]? = some (.cells (o'.cells a c).toArray 68 (0, 0))) : Wd w' P o' L :=
  h.over hr hq fun a' c' h' => by
    rw [hP] at h'
    have : a = a' ∧ c = c' := by simpa [Wk.Wo.cells] using h'
    obtain ⟨rfl, rfl⟩ := this
    exact hn

/-- Job. -/
theorem wkjob_nil (w : World) : Calls Try.prog 20 #[.pointer none] w fun e w' => e = .returned (.tuple #[.agg #[.int .i64 0, .int .i64 0, .int .i64 0, .int .i64 0, .int .i64 0, .int .u32 0, .int .i64 0, .bool false, .bool false, .int .i64 0, .int .u32 0], .bool false]) ∧ Below w.heap.size w w' := by
  have H := Lib.hid ((Upon.start (fun _ => False) w).lay (.cells #[.int .i64 0, .int .i64 0, .int .i64 0, .int .i64 0, .int .i64 0, .int .u32 0, .int .i64 0, .bool false, .bool false, .int .i64 0, .int .u32 0] 29))
  go_enter Try.func20, Try.ntmps20
  go_upto_region 1 with fail
  generalize w.alloc _ = w1 at H ⊢
  generalize w.heap.size = bA at H ⊢
  obtain ⟨g0, g1, g2, g3, g4, g5, g6, g7, g8, g9, g10⟩ := frame_cells (H.out.get 0 rfl)
  have fz := fun i => frozen_of_row _ _ i _ _ (H.out.get 0 rfl)
  go_wp2_with fail
  have hA := fr_over Wk.zero (H.out.get 0 rfl) rfl
  have H4 := H.out.put (Rest.cells w1 bA 0 Wk.zero.cells rfl) hA
  exact bodyPost_ret (results_row_tmp Try.results20 _ _ bA 29 _ (0, 0) _ rfl hA Try.underlying29 rfl Try.bigFrame.size) rfl ⟨rfl, H4.below (fun _ => id)⟩
set_option maxRecDepth 10000 in
set_option maxHeartbeats 1000000 in
theorem wkjob_any {P : Nat} {o : Wk.Wo} {L : Option Nat} (w : World) (h : Wd w P o L) : Calls Try.prog 20 #[.pointer (some ⟨P, 0, none⟩)] w fun e w' => e = .returned (.tuple #[.agg #[.int .i64 o.j.k, .int .i64 o.j.c, .int .i64 o.j.s, .int .i64 o.j.t, .int .i64 o.j.g, .int .u32 o.j.a, .int .i64 o.j.r, .bool o.j.su, .bool o.j.st, .int .i64 o.j.q, .int .u32 o.j.v], .bool o.b]) ∧ Below w.heap.size w w' := by
  have H := Lib.hid ((Upon.start (fun _ => False) w).lay (.cells #[.int .i64 0, .int .i64 0, .int .i64 0, .int .i64 0, .int .i64 0, .int .u32 0, .int .i64 0, .bool false, .bool false, .int .i64 0, .int .u32 0] 29))
  have HW := Lib.hid (h.call (H.out.below (fun _ => id)))
  have hPA := Lib.hid (Nat.ne_of_lt h.lt)
  clear h
  go_enter Try.func20, Try.ntmps20
  go_upto_region 1 with fail
  generalize w.alloc _ = w1 at HW H ⊢
  generalize w.heap.size = bA at H hPA ⊢
  obtain ⟨a, c, hP⟩ := HW.out.shape
  go_wp2_with fail
  refine wp_region_held_drew (S := fun w' => w'.heap[P]? = some (.cells (o.cells a c).toArray 68 (0, 0))) (by kernel_rfl) hP (fun hHeld => ?_)
  have H2 := Lib.hid H.out.drew
  clear H HW hP
  generalize w1.drew = w2 at H2 hHeld ⊢
  refine wpAnyH_yield 0 (.pointer (some ⟨P, 0, none⟩)) rfl (by kernel_rfl) (by kernel_rfl) (by kernel_rfl) (fun d _ _ _ h => by cases d <;> exact h) (by rfl) (by assumption) (fun _ _ => by go_simp) ?_
  simp only [Act.put, List.setIfInBounds_toArray, List.set_cons_zero, List.set_cons_succ]
  refine wpAnyH_yield 1 (.pointer (some ⟨P, 0, none⟩)) rfl (by kernel_rfl) (by kernel_rfl) (by kernel_rfl) (fun d _ _ _ h => by cases d <;> exact h) (by rfl) (by assumption) (fun _ _ => by go_simp) ?_
  simp only [Act.put, List.setIfInBounds_toArray, List.set_cons_zero, List.set_cons_succ]
  refine wpAnyH_yield 2 (.pointer (some ⟨P, 3, none⟩)) rfl (by kernel_rfl) (by kernel_rfl) (by kernel_rfl) (fun d _ _ _ h => by cases d <;> exact h) (by rfl) (by assumption) (fun _ _ => by go_simp) ?_
  simp only [Act.put, List.setIfInBounds_toArray, List.set_cons_zero, List.set_cons_succ]
  refine wpAnyH_yield 3 (.agg o.j.cells.toArray) rfl (by kernel_rfl) (by kernel_rfl) (by kernel_rfl) (fun d _ _ _ h => by cases d <;> exact h) (by rfl) (by assumption) (fun _ hSw => exec_load_mid Try.bigFrame (.tmp 9) rfl rfl rfl (wk_range hSw)) ?_
  simp only [Act.put, List.setIfInBounds_toArray, List.set_cons_zero, List.set_cons_succ]
  refine wpAnyH_yield 4 (.pointer (some ⟨P, 0, none⟩)) rfl (by kernel_rfl) (by kernel_rfl) (by kernel_rfl) (fun d _ _ _ h => by cases d <;> exact h) (by rfl) (by assumption) (fun _ _ => by go_simp) ?_
  simp only [Act.put, List.setIfInBounds_toArray, List.set_cons_zero, List.set_cons_succ]
  refine wpAnyH_yield 5 (.pointer (some ⟨P, 0, none⟩)) rfl (by kernel_rfl) (by kernel_rfl) (by kernel_rfl) (fun d _ _ _ h => by cases d <;> exact h) (by rfl) (by assumption) (fun _ _ => by go_simp) ?_
  simp only [Act.put, List.setIfInBounds_toArray, List.set_cons_zero, List.set_cons_succ]
  refine wpAnyH_yield 6 (.pointer (some ⟨P, 2, none⟩)) rfl (by kernel_rfl) (by kernel_rfl) (by kernel_rfl) (fun d _ _ _ h => by cases d <;> exact h) (by rfl) (by assumption) (fun _ _ => by go_simp) ?_
  simp only [Act.put, List.setIfInBounds_toArray, List.set_cons_zero, List.set_cons_succ]
  refine wpAnyH_yield 7 (.bool o.b) rfl (by kernel_rfl) (by kernel_rfl) (by kernel_rfl) (fun d _ _ _ h => by cases d <;> exact h) (by rfl) (by assumption) (fun _ hSw => by have p2 := (wk_cells hSw).2.2.1; go_simp) ?_
  simp only [Act.put, List.setIfInBounds_toArray, List.set_cons_zero, List.set_cons_succ]
  have hA := fr_over o.j (H2.out.get 0 rfl) rfl
  have hth : w2.there bA 0 11 := there_of_box (cs := Wk.zero.cells) (H2.out.get 0 rfl) rfl
  have hR := Rest.cells (own := fun k => k = bA) w2 bA 0 o.j.cells rfl
  have H4 := Lib.hid (H2.out.put hR hA)
  have hS := (hR.block P (lt_of_block hHeld) hPA.out).trans hHeld
  refine wpAnyH_ready (rs := [8]) (by kernel_rfl) (by simp) (AllReadyH.cons rfl (fun K hK => ?_) AllReadyH.nil)
  refine step_store_mid Try.bigFrame rfl (.tmp 2) (.tmp 10) rfl rfl rfl rfl (Wk.fitm.one o.j) hth ?_
  refine hK.out _ _ (hS) (fun hHeld => ?_)
  clear hK K
  try simp only [Act.put, List.setIfInBounds_toArray]
  clear hS hth hR H2
  generalize w2.setCells _ _ _ = w3 at H4 hA hHeld ⊢
  refine wpAnyH_yield 9 (.bool o.b) rfl (by kernel_rfl) (by kernel_rfl) (by kernel_rfl) (fun d _ _ _ h => by cases d <;> exact h) (by rfl) (by assumption) (fun _ _ => by go_simp) ?_
  simp only [Act.put]
  refine wpAnyH_done (by kernel_rfl) ?_ _
  clear hHeld
  have HA := Lib.hid hA
  clear hA
  go_wp2_with fail
  exact bodyPost_ret (results_row_tmp Try.results20 _ _ bA 29 _ (0, 0) _ rfl HA.out Try.underlying29 rfl Try.bigFrame.size) rfl ⟨rfl, H4.out.below (fun _ => id)⟩

/-- chunk, where it may send none. -/
theorem wkchunk_no {P : Nat} {o : Wk.Wo} {L : Option Nat} (hc : 65535 ≤ o.n ∨ o.l = 0) (w : World) (h : Wd w P o L) : Calls Try.prog 53 #[.pointer (some ⟨P, 0, none⟩)] w fun e w' => e = .returned (.tuple #[.agg #[.int .i64 0, .int .i64 0, .int .i64 0, .int .i64 0, .int .i64 0, .int .u32 0, .int .i64 0, .bool false, .bool false, .int .i64 0, .int .u32 0], .bool false]) ∧ Below w.heap.size w w' := by
  have H := Lib.hid ((Upon.start (fun _ => False) w).lay (.cells #[.int .i64 0, .int .i64 0, .int .i64 0, .int .i64 0, .int .i64 0, .int .u32 0, .int .i64 0, .bool false, .bool false, .int .i64 0, .int .u32 0] 29))
  have HW := Lib.hid (h.call (H.out.below (fun _ => id)))
  clear h
  by_cases hn : 65535 ≤ o.n
  · have hd : decide ((65535 : Int) ≤ o.n) = true := decide_eq_true hn
    clear hc
    go_enter Try.func53, Try.ntmps53
    go_upto_region 1 with fail
    generalize w.alloc _ = w1 at HW H ⊢
    generalize w.heap.size = bA at H ⊢
    obtain ⟨a, c, hP⟩ := HW.out.shape
    obtain ⟨p0, p1, p2, p14, p15⟩ := wk_cells hP
    clear hP
    go_wp2_with fail
    refine (crsent_any (L := o.l) (S := o.n) w1).mono ?_
    rintro e w2 ⟨rfl, hb⟩
    dsimp only
    have H2 := Lib.hid (H.out.call hb)
    clear hb H HW p0 p1 p2 p14 p15
    obtain ⟨g0, g1, g2, g3, g4, g5, g6, g7, g8, g9, g10⟩ := frame_cells (H2.out.get 0 rfl)
    have fz := fun i => frozen_of_row _ _ i _ _ (H2.out.get 0 rfl)
    go_wp2_with fail
    have hA := fr_over Wk.zero (H2.out.get 0 rfl) rfl
    have H4 := H2.out.put (Rest.cells w2 bA 0 Wk.zero.cells rfl) hA
    exact bodyPost_ret (results_row_tmp Try.results53 _ _ bA 29 _ (0, 0) _ rfl hA Try.underlying29 rfl Try.bigFrame.size) rfl ⟨rfl, H4.below (fun _ => id)⟩
  · have hd : decide ((65535 : Int) ≤ o.n) = false := decide_eq_false hn
    have hl : o.l = 0 := by omega
    clear hc
    go_enter Try.func53, Try.ntmps53
    go_upto_region 1 with fail
    generalize w.alloc _ = w1 at HW H ⊢
    generalize w.heap.size = bA at H ⊢
    obtain ⟨a, c, hP⟩ := HW.out.shape
    obtain ⟨p0, p1, p2, p14, p15⟩ := wk_cells hP
    rw [hl] at p14
    clear hP
    go_wp2_with fail
    refine (crsent_any (L := 0) (S := o.n) w1).mono ?_
    rintro e w2 ⟨rfl, hb⟩
    dsimp only
    have H2 := Lib.hid (H.out.call hb)
    have HW2 := Lib.hid (HW.out.call hb)
    clear hb H HW p0 p1 p2 p14 p15
    obtain ⟨a, c, hP⟩ := HW2.out.shape
    obtain ⟨p0, p1, p2, p14, p15⟩ := wk_cells hP
    rw [hl] at p14
    clear hP
    go_wp2_with fail
    refine (crsend_no o.n w2).mono ?_
    rintro e w3 ⟨rfl, hb⟩
    dsimp only
    have H3 := Lib.hid (H2.out.call hb)
    clear hb H2 HW2 p0 p1 p2 p14 p15
    go_upto_region 4 with fail
    have H4 := Lib.hid (H3.out.lay (.cells #[.int .i64 0, .int .i64 o.n] 66))
    generalize w3.alloc _ = w4 at H4 ⊢
    generalize w3.heap.size = bS at H4 ⊢
    clear H3
    obtain ⟨g0, g1, g2, g3, g4, g5, g6, g7, g8, g9, g10⟩ := frame_cells (H4.out.get 1 rfl)
    have fz := fun i => frozen_of_row _ _ i _ _ (H4.out.get 1 rfl)
    go_wp2_with fail
    have hA := fr_over Wk.zero (H4.out.get 1 rfl) rfl
    have H5 := H4.out.put1 (Rest.cells w4 bA 0 Wk.zero.cells rfl) hA
    exact bodyPost_ret (results_row_tmp Try.results53 _ _ bA 29 _ (0, 0) _ rfl hA Try.underlying29 rfl Try.bigFrame.size) rfl ⟨rfl, H5.below (fun _ => id)⟩
end Go.Proofs.Ytgboiejiodgcnaa

/- The contracts of a worker's Step: what its handler does. -/
namespace Go.Proofs.Ytgboiejiodgcnaa
open Go.RowKit Go.Sort
set_option maxHeartbeats 1000000 in
/-- Of none, or of one that does nothing. -/
theorem wkstep_nil (out s : Int) (w : World) : Calls Try.prog 33 #[.pointer none, .int .i64 out, .int .u32 s] w fun e w' => e = .returned (.tuple #[.agg #[.int .i64 0, .int .i64 0, .int .i64 0, .int .i64 0, .int .i64 0, .int .u32 0, .int .i64 0, .bool false, .bool false, .int .i64 0, .int .u32 0], .int .u32 0, .bool false]) ∧ Below w.heap.size w w' := by
  have H := Lib.hid ((Upon.start (fun _ => False) w).lay (.cells #[.int .i64 0, .int .i64 0, .int .i64 0, .int .i64 0, .int .i64 0, .int .u32 0, .int .i64 0, .bool false, .bool false, .int .i64 0, .int .u32 0] 29))
  go_enter Try.func33, Try.ntmps33
  go_upto_region 1 with fail
  generalize w.alloc _ = w1 at H ⊢
  generalize w.heap.size = bA at H ⊢
  obtain ⟨g0, g1, g2, g3, g4, g5, g6, g7, g8, g9, g10⟩ := frame_cells (H.out.get 0 rfl)
  have fz := fun i => frozen_of_row _ _ i _ _ (H.out.get 0 rfl)
  go_wp2_with fail
  have hA := fr_over Wk.zero (H.out.get 0 rfl) rfl
  have H4 := H.out.put (Rest.cells w1 bA 0 Wk.zero.cells rfl) hA
  exact bodyPost_ret (results_row_tmp2 Try.results33 _ _ bA 29 _ (0, 0) _ rfl hA Try.underlying29 rfl Try.bigFrame.size) rfl ⟨rfl, H4.below (fun _ => id)⟩
set_option maxHeartbeats 1000000 in
theorem wkstep_idle {P : Nat} {o : Wk.Wo} {L : Option Nat} (hb : o.b = false) (out s : Int) (w : World) (h : Wd w P o L) : Calls Try.prog 33 #[.pointer (some ⟨P, 0, none⟩), .int .i64 out, .int .u32 s] w fun e w' => e = .returned (.tuple #[.agg #[.int .i64 0, .int .i64 0, .int .i64 0, .int .i64 0, .int .i64 0, .int .u32 0, .int .i64 0, .bool false, .bool false, .int .i64 0, .int .u32 0], .int .u32 0, .bool false]) ∧ Below w.heap.size w w' := by
  have H := Lib.hid ((Upon.start (fun _ => False) w).lay (.cells #[.int .i64 0, .int .i64 0, .int .i64 0, .int .i64 0, .int .i64 0, .int .u32 0, .int .i64 0, .bool false, .bool false, .int .i64 0, .int .u32 0] 29))
  have HW := Lib.hid (h.call (H.out.below (fun _ => id)))
  clear h
  go_enter Try.func33, Try.ntmps33
  go_upto_region 1 with fail
  generalize w.alloc _ = w1 at HW H ⊢
  generalize w.heap.size = bA at H ⊢
  obtain ⟨a, c, hP⟩ := HW.out.shape
  obtain ⟨p0, p1, p2, p14, p15⟩ := wk_cells hP
  rw [hb] at p2
  clear hP
  obtain ⟨g0, g1, g2, g3, g4, g5, g6, g7, g8, g9, g10⟩ := frame_cells (H.out.get 0 rfl)
  have fz := fun i => frozen_of_row _ _ i _ _ (H.out.get 0 rfl)
  go_wp2_with fail
  have hA := fr_over Wk.zero (H.out.get 0 rfl) rfl
  have H4 := H.out.put (Rest.cells w1 bA 0 Wk.zero.cells rfl) hA
  exact bodyPost_ret (results_row_tmp2 Try.results33 _ _ bA 29 _ (0, 0) _ rfl hA Try.underlying29 rfl Try.bigFrame.size) rfl ⟨rfl, H4.below (fun _ => id)⟩
set_option maxHeartbeats 1000000 in
/-- Its handler does nothing. -/
theorem wkstep_else {out s : Int} {P : Nat} {o : Wk.Wo} {L : Option Nat} (hb : o.b = true) (h1 : out ≠ 1) (h2 : out ≠ 2) (h3 : out ≠ 3) (w : World) (h : Wd w P o L) : Calls Try.prog 33 #[.pointer (some ⟨P, 0, none⟩), .int .i64 out, .int .u32 s] w fun e w' => e = .returned (.tuple #[.agg #[.int .i64 0, .int .i64 0, .int .i64 0, .int .i64 0, .int .i64 0, .int .u32 0, .int .i64 0, .bool false, .bool false, .int .i64 0, .int .u32 0], .int .u32 0, .bool false]) ∧ Below w.heap.size w w' := by
  have H := Lib.hid ((Upon.start (fun _ => False) w).lay (.cells #[.int .i64 0, .int .i64 0, .int .i64 0, .int .i64 0, .int .i64 0, .int .u32 0, .int .i64 0, .bool false, .bool false, .int .i64 0, .int .u32 0] 29))
  have HW := Lib.hid (h.call (H.out.below (fun _ => id)))
  clear h
  go_enter Try.func33, Try.ntmps33
  go_upto_region 1 with fail
  generalize w.alloc _ = w1 at HW H ⊢
  generalize w.heap.size = bA at H ⊢
  obtain ⟨a, c, hP⟩ := HW.out.shape
  obtain ⟨p0, p1, p2, p14, p15⟩ := wk_cells hP
  rw [hb] at p2
  clear hP
  have d1 : decide (out = 1) = false := decide_eq_false h1
  have d2 : decide (out = 2) = false := decide_eq_false h2
  have d3 : decide (out = 3) = false := decide_eq_false h3
  obtain ⟨g0, g1, g2, g3, g4, g5, g6, g7, g8, g9, g10⟩ := frame_cells (H.out.get 0 rfl)
  have fz := fun i => frozen_of_row _ _ i _ _ (H.out.get 0 rfl)
  go_wp2_with fail
  have hA := fr_over Wk.zero (H.out.get 0 rfl) rfl
  have H4 := H.out.put (Rest.cells w1 bA 0 Wk.zero.cells rfl) hA
  exact bodyPost_ret (results_row_tmp2 Try.results33 _ _ bA 29 _ (0, 0) _ rfl hA Try.underlying29 rfl Try.bigFrame.size) rfl ⟨rfl, H4.below (fun _ => id)⟩
set_option maxHeartbeats 1000000 in
/-- A chunk that it may not send. -/
theorem wkstep_nochunk {P : Nat} {o : Wk.Wo} {L : Option Nat} (hb : o.b = true) (hc : 65535 ≤ o.n ∨ o.l = 0) (s : Int) (w : World) (h : Wd w P o L) : Calls Try.prog 33 #[.pointer (some ⟨P, 0, none⟩), .int .i64 3, .int .u32 s] w fun e w' => e = .returned (.tuple #[.agg #[.int .i64 0, .int .i64 0, .int .i64 0, .int .i64 0, .int .i64 0, .int .u32 0, .int .i64 0, .bool false, .bool false, .int .i64 0, .int .u32 0], .int .u32 0, .bool false]) ∧ Below w.heap.size w w' := by
  have H := Lib.hid ((Upon.start (fun _ => False) w).lay (.cells #[.int .i64 0, .int .i64 0, .int .i64 0, .int .i64 0, .int .i64 0, .int .u32 0, .int .i64 0, .bool false, .bool false, .int .i64 0, .int .u32 0] 29))
  have HW := Lib.hid (h.call (H.out.below (fun _ => id)))
  clear h
  go_enter Try.func33, Try.ntmps33
  go_upto_region 1 with fail
  generalize w.alloc _ = w1 at HW H ⊢
  generalize w.heap.size = bA at H ⊢
  obtain ⟨a, c, hP⟩ := HW.out.shape
  obtain ⟨p0, p1, p2, p14, p15⟩ := wk_cells hP
  rw [hb] at p2
  clear hP
  go_wp2_with fail
  refine (wkchunk_no hc w1 HW.out).mono ?_
  rintro e w2 ⟨rfl, hb⟩
  dsimp only
  have H2 := Lib.hid (H.out.call hb)
  clear hb H HW p0 p1 p2 p14 p15
  go_upto_region 14 with fail
  have H3 := Lib.hid (H2.out.lay (.cells #[.int .i64 0, .int .i64 0, .int .i64 0, .int .i64 0, .int .i64 0, .int .u32 0, .int .i64 0, .bool false, .bool false, .int .i64 0, .int .u32 0] 29))
  generalize w2.alloc _ = w3 at H3 ⊢
  generalize w2.heap.size = bF at H3 ⊢
  clear H2
  obtain ⟨g0, g1, g2, g3, g4, g5, g6, g7, g8, g9, g10⟩ := frame_cells (H3.out.get 1 rfl)
  have fz := fun i => frozen_of_row _ _ i _ _ (H3.out.get 1 rfl)
  go_wp2_with fail
  have hA := fr_over Wk.zero (H3.out.get 1 rfl) rfl
  have H4 := H3.out.put1 (Rest.cells w3 bA 0 Wk.zero.cells rfl) hA
  exact bodyPost_ret (results_row_tmp2 Try.results33 _ _ bA 29 _ (0, 0) _ rfl hA Try.underlying29 rfl Try.bigFrame.size) rfl ⟨rfl, H4.below (fun _ => id)⟩
set_option maxHeartbeats 1000000 in
/-- It fails. -/
theorem wkstep_fail {P : Nat} {o : Wk.Wo} {L : Option Nat} (hb : o.b = true) (s : Int) (w : World) (h : Wd w P o L) : Calls Try.prog 33 #[.pointer (some ⟨P, 0, none⟩), .int .i64 2, .int .u32 s] w fun e w' => e = .returned (.tuple #[.agg #[.int .i64 7, .int .i64 o.j.c, .int .i64 o.j.s, .int .i64 o.j.t, .int .i64 o.j.g, .int .u32 o.j.a, .int .i64 o.j.r, .bool o.j.su, .bool o.j.st, .int .i64 0, .int .u32 1], .int .u32 (s), .bool true]) ∧ Wd w' P o.rest L ∧ Rest (fun k => k = P) w w' := by
  have H := Lib.hid ((Upon.start (fun k => k = P) w).lay (.cells #[.int .i64 0, .int .i64 0, .int .i64 0, .int .i64 0, .int .i64 0, .int .u32 0, .int .i64 0, .bool false, .bool false, .int .i64 0, .int .u32 0] 29))
  have HW := Lib.hid (h.call (below_box w (.cells #[.int .i64 0, .int .i64 0, .int .i64 0, .int .i64 0, .int .i64 0, .int .u32 0, .int .i64 0, .bool false, .bool false, .int .i64 0, .int .u32 0] 29)))
  have hPA := Lib.hid (Nat.ne_of_lt h.lt)
  have hLA : Hid (∀ g, L = some g → g ≠ w.heap.size) := Lib.hid fun g e => Nat.ne_of_lt (h.row e).1
  clear h
  go_enter Try.func33, Try.ntmps33
  go_upto_region 1 with fail
  generalize w.alloc _ = w1 at HW H ⊢
  generalize w.heap.size = bA at H hPA hLA ⊢
  obtain ⟨a, c, hP⟩ := HW.out.shape
  obtain ⟨p0, p1, p2, p14, p15⟩ := wk_cells hP
  rw [hb] at p2
  clear hP
  go_wp2_with fail
  refine (wkfailure_any w1 HW.out).mono ?_
  rintro e w2 ⟨rfl, hb⟩
  dsimp only
  have H2 := Lib.hid (H.out.call hb)
  have HW2 := Lib.hid (HW.out.call hb)
  clear hb H HW p0 p1 p2 p14 p15
  go_upto_region 6 with fail
  have H3 := Lib.hid (H2.out.lay (.cells #[.int .i64 7, .int .i64 o.j.c, .int .i64 o.j.s, .int .i64 o.j.t, .int .i64 o.j.g, .int .u32 o.j.a, .int .i64 o.j.r, .bool o.j.su, .bool o.j.st, .int .i64 0, .int .u32 1] 29))
  have HW3 := Lib.hid (HW2.out.call (below_box w2 (.cells #[.int .i64 7, .int .i64 o.j.c, .int .i64 o.j.s, .int .i64 o.j.t, .int .i64 o.j.g, .int .u32 o.j.a, .int .i64 o.j.r, .bool o.j.su, .bool o.j.st, .int .i64 0, .int .u32 1] 29)))
  have hPF := Lib.hid (Nat.ne_of_lt HW2.out.lt)
  generalize w2.alloc _ = w3 at H3 HW3 ⊢
  generalize w2.heap.size = bF at H3 hPF ⊢
  clear H2 HW2
  go_wp2_with fail
  refine (wkrest_any w3 HW3.out).mono ?_
  rintro e w4 ⟨rfl, hw4, hr4⟩
  dsimp only
  have H4 := Lib.hid (H3.out.wrote hr4 (fun p hp => by simp only [List.mem_cons, List.not_mem_nil, or_false] at hp; rcases hp with rfl | rfl <;> first | exact Ne.symm hPF.out | exact Ne.symm hPA.out))
  have HW4 := Lib.hid hw4
  clear hw4 hr4 H3 HW3
  obtain ⟨f0, f1, f2, f3, f4, f5, f6, f7, f8, f9, f10⟩ := frame_cells (H4.out.get 0 rfl)
  obtain ⟨g0, g1, g2, g3, g4, g5, g6, g7, g8, g9, g10⟩ := frame_cells (H4.out.get 1 rfl)
  have fz := fun i => frozen_of_row _ _ i _ _ (H4.out.get 1 rfl)
  go_wp2_with fail
  have hA := fr_over (o.j.ans 7 0 1) (H4.out.get 1 rfl) rfl
  have hRA := Rest.cells (own := fun k => k = bA) w4 bA 0 (o.j.ans 7 0 1).cells rfl
  have H5 := H4.out.put1 hRA hA
  exact bodyPost_ret (results_row_tmp2 Try.results33 _ _ bA 29 _ (0, 0) _ rfl hA Try.underlying29 rfl Try.bigFrame.size) rfl ⟨rfl, HW4.out.kept hRA hPA.out hLA.out, H5.rest⟩
set_option maxHeartbeats 1000000 in
/-- It is done. -/
theorem wkstep_done {P : Nat} {o : Wk.Wo} {L : Option Nat} (hb : o.b = true) (s : Int) (w : World) (h : Wd w P o L) : Calls Try.prog 33 #[.pointer (some ⟨P, 0, none⟩), .int .i64 1, .int .u32 s] w fun e w' => e = .returned (.tuple #[.agg #[.int .i64 ((o.fin s)).k, .int .i64 ((o.fin s)).c, .int .i64 ((o.fin s)).s, .int .i64 ((o.fin s)).t, .int .i64 ((o.fin s)).g, .int .u32 ((o.fin s)).a, .int .i64 ((o.fin s)).r, .bool ((o.fin s)).su, .bool ((o.fin s)).st, .int .i64 ((o.fin s)).q, .int .u32 ((o.fin s)).v], .int .u32 (o.stt s), .bool true]) ∧ Wd w' P o.rest L ∧ Rest (fun k => k = P) w w' := by
  have H := Lib.hid ((Upon.start (fun k => k = P) w).lay (.cells #[.int .i64 0, .int .i64 0, .int .i64 0, .int .i64 0, .int .i64 0, .int .u32 0, .int .i64 0, .bool false, .bool false, .int .i64 0, .int .u32 0] 29))
  have HW := Lib.hid (h.call (below_box w (.cells #[.int .i64 0, .int .i64 0, .int .i64 0, .int .i64 0, .int .i64 0, .int .u32 0, .int .i64 0, .bool false, .bool false, .int .i64 0, .int .u32 0] 29)))
  have hPA := Lib.hid (Nat.ne_of_lt h.lt)
  have hLA : Hid (∀ g, L = some g → g ≠ w.heap.size) := Lib.hid fun g e => Nat.ne_of_lt (h.row e).1
  clear h
  go_enter Try.func33, Try.ntmps33
  go_upto_region 1 with fail
  generalize w.alloc _ = w1 at HW H ⊢
  generalize w.heap.size = bA at H hPA hLA ⊢
  obtain ⟨a, c, hP⟩ := HW.out.shape
  obtain ⟨p0, p1, p2, p14, p15⟩ := wk_cells hP
  rw [hb] at p2
  clear hP
  go_wp2_with fail
  refine (wkdone_any s w1 HW.out).mono ?_
  rintro e w2 ⟨rfl, hb⟩
  dsimp only
  have H2 := Lib.hid (H.out.call hb)
  have HW2 := Lib.hid (HW.out.call hb)
  clear hb H HW p0 p1 p2 p14 p15
  go_upto_region 10 with fail
  have H3 := Lib.hid (H2.out.lay (.cells #[.int .i64 (o.fin s).k, .int .i64 (o.fin s).c, .int .i64 (o.fin s).s, .int .i64 (o.fin s).t, .int .i64 (o.fin s).g, .int .u32 (o.fin s).a, .int .i64 (o.fin s).r, .bool (o.fin s).su, .bool (o.fin s).st, .int .i64 (o.fin s).q, .int .u32 (o.fin s).v] 29))
  have HW3 := Lib.hid (HW2.out.call (below_box w2 (.cells #[.int .i64 (o.fin s).k, .int .i64 (o.fin s).c, .int .i64 (o.fin s).s, .int .i64 (o.fin s).t, .int .i64 (o.fin s).g, .int .u32 (o.fin s).a, .int .i64 (o.fin s).r, .bool (o.fin s).su, .bool (o.fin s).st, .int .i64 (o.fin s).q, .int .u32 (o.fin s).v] 29)))
  have hPF := Lib.hid (Nat.ne_of_lt HW2.out.lt)
  generalize w2.alloc _ = w3 at H3 HW3 ⊢
  generalize w2.heap.size = bF at H3 hPF ⊢
  clear H2 HW2
  go_wp2_with fail
  refine (wkrest_any w3 HW3.out).mono ?_
  rintro e w4 ⟨rfl, hw4, hr4⟩
  dsimp only
  have H4 := Lib.hid (H3.out.wrote hr4 (fun p hp => by simp only [List.mem_cons, List.not_mem_nil, or_false] at hp; rcases hp with rfl | rfl <;> first | exact Ne.symm hPF.out | exact Ne.symm hPA.out))
  have HW4 := Lib.hid hw4
  clear hw4 hr4 H3 HW3
  obtain ⟨f0, f1, f2, f3, f4, f5, f6, f7, f8, f9, f10⟩ := frame_cells (H4.out.get 0 rfl)
  obtain ⟨g0, g1, g2, g3, g4, g5, g6, g7, g8, g9, g10⟩ := frame_cells (H4.out.get 1 rfl)
  have fz := fun i => frozen_of_row _ _ i _ _ (H4.out.get 1 rfl)
  go_wp2_with fail
  have hA := fr_over (o.fin s) (H4.out.get 1 rfl) rfl
  have hRA := Rest.cells (own := fun k => k = bA) w4 bA 0 (o.fin s).cells rfl
  have H5 := H4.out.put1 hRA hA
  exact bodyPost_ret (results_row_tmp2 Try.results33 _ _ bA 29 _ (0, 0) _ rfl hA Try.underlying29 rfl Try.bigFrame.size) rfl ⟨rfl, HW4.out.kept hRA hPA.out hLA.out, H5.rest⟩
end Go.Proofs.Ytgboiejiodgcnaa
