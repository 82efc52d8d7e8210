/- The program's Put where a frame may not be; and what it reads off three words, whatever they are. -/
import Derived.Test.YtcpgigmnmlmpjaaDoorFldB
import Derived.Test.YtcpgigmnmlmpjaaDoorFrmA
import Derived.Test.YtcpgigmnmlmpjaaDoorFrmT
import Derived.Test.YtcpgigmnmlmpjaaDoorFrmLaid
import Derived.Deep.RegionHeld3
namespace Go.Proofs.YtcpgigmnmlmpjaaDoor
open Go.RowKit

/-- What one lays, and another one behind him, is kept from the first one's beginning on. -/
theorem on {a b c : World} (h : Below a.heap.size a b) (k : Below b.heap.size b c) : Below a.heap.size a c := h.trans (k.mono h.size)

/-- Two blocks that were laid are there behind all that lays its own blocks. -/
theorem first_kept {w wk : World} {A B : Obj} (h : Below ((w.alloc A).alloc B).heap.size ((w.alloc A).alloc B) wk) : wk.heap[w.heap.size]? = some A := by
  rw [h.block _ (by simp; omega), heap_alloc2_old]
theorem second_kept {w wk : World} {A B : Obj} (h : Below ((w.alloc A).alloc B).heap.size ((w.alloc A).alloc B) wk) : wk.heap[w.heap.size + 1]? = some B := by
  rw [h.block _ (by simp), heap_alloc2_new]
theorem below_kept {w wk : World} {A B : Obj} (h : Below ((w.alloc A).alloc B).heap.size ((w.alloc A).alloc B) wk) : Below w.heap.size w wk := on (below_two w A B) h

/-- Three words are laid over three words. -/
theorem words_laid {wk : World} {b : Nat} {y0 y1 y2 x0 x1 x2 : Value} {t : TypeId} (h : wk.heap[b]? = some (.cells #[y0, y1, y2] t (0, 0))) :
    (((wk.setCell ⟨b, 0, none⟩ x0).setCell ⟨b, 1, none⟩ x1).setCell ⟨b, 2, none⟩ x2).heap[b]? = some (.cells #[x0, x1, x2] t (0, 0)) :=
  heap_setCell_same _ _ _ _ _ _ (heap_setCell_same _ _ _ _ _ _ (heap_setCell_same _ _ _ _ _ _ h))

set_option maxRecDepth 100000 in
set_option maxHeartbeats 1000000 in
/-- Put: no words. -/
theorem fput_no (k c s t g a r q v : Int) (su st : Bool) (h : ¬ Fm.May k c s t g r q) (w : World) :
    Calls Tryd.prog 7 #[.agg #[.int .i64 k, .int .i64 c, .int .i64 s, .int .i64 t, .int .i64 g, .int .u32 a, .int .i64 r, .bool su, .bool st, .int .i64 q, .int .u32 v]] w fun e w' => e = .returned (.tuple #[.agg #[.int .u64 0, .int .u64 0, .int .u64 0], .bool false]) ∧ Below w.heap.size w w' := by
  go_enter Tryd.func7, Tryd.ntmps7
  go_wp2_with fail
  refine (fmay_no _ _ _ _ _ _ _ _ _ _ _ h _).mono ?_
  rintro e w1 ⟨rfl, hb1⟩
  have hr := second_kept hb1
  obtain ⟨r0, r1, r2⟩ : w1.cell? ⟨w.heap.size + 1, 0, none⟩ = some (.int .u64 0) ∧ w1.cell? ⟨w.heap.size + 1, 1, none⟩ = some (.int .u64 0) ∧ w1.cell? ⟨w.heap.size + 1, 2, none⟩ = some (.int .u64 0) := ⟨cell_of_row _ _ _ _ _ _ hr, cell_of_row _ _ _ _ _ _ hr, cell_of_row _ _ _ _ _ _ hr⟩
  obtain ⟨f0, f1, f2⟩ : w1.frozen? ⟨w.heap.size + 1, 0, none⟩ = false ∧ w1.frozen? ⟨w.heap.size + 1, 1, none⟩ = false ∧ w1.frozen? ⟨w.heap.size + 1, 2, none⟩ = false := ⟨frozen_of_row _ _ _ _ _ hr, frozen_of_row _ _ _ _ _ hr, frozen_of_row _ _ _ _ _ hr⟩
  have HR := Lib.hid hr
  have HB := Lib.hid (below_kept hb1)
  clear hr hb1 h
  go_wp2_with fail
  refine bodyPost_ret (results_row_tmp Tryd.results7 _ _ (w.heap.size + 1) 28 _ (0, 0) _ rfl (words_laid HR.out) Tryd.underlying28 rfl Tryd.sizeWords) rfl ⟨rfl, ?_⟩
  exact ((HB.out.setCell (by simp) _).setCell (by simp) _).setCell (by simp) _

/-- Eleven cells are laid over eleven cells. -/
theorem frame_laid {wk : World} {b : Nat} {Y : Array Value} {t : TypeId} {c0 c1 c2 c3 c4 c5 c6 c7 c8 c9 c10 : Value} (hY : Y.size = 11) (h : wk.heap[b]? = some (.cells Y t (0, 0))) :
    (((((((((((wk.setCell ⟨b, 0, none⟩ c0).setCell ⟨b, 1, none⟩ c1).setCell ⟨b, 2, none⟩ c2).setCell ⟨b, 3, none⟩ c3).setCell ⟨b, 4, none⟩ c4).setCell ⟨b, 5, none⟩ c5).setCell ⟨b, 6, none⟩ c6).setCell ⟨b, 7, none⟩ c7).setCell ⟨b, 8, none⟩ c8).setCell ⟨b, 9, none⟩ c9).setCell ⟨b, 10, none⟩ c10).heap[b]? = some (.cells #[c0, c1, c2, c3, c4, c5, c6, c7, c8, c9, c10] t (0, 0)) := by
  obtain ⟨l⟩ := Y
  match l, hY with
  | [d0, d1, d2, d3, d4, d5, d6, d7, d8, d9, d10], _ =>
    have e0 : (wk.setCell ⟨b, 0, none⟩ c0).heap[b]? = some (.cells #[c0, d1, d2, d3, d4, d5, d6, d7, d8, d9, d10] t (0, 0)) := heap_setCell_same _ _ 0 _ _ c0 h
    have e1 : ((wk.setCell ⟨b, 0, none⟩ c0).setCell ⟨b, 1, none⟩ c1).heap[b]? = some (.cells #[c0, c1, d2, d3, d4, d5, d6, d7, d8, d9, d10] t (0, 0)) := heap_setCell_same _ _ 1 _ _ c1 e0
    have e2 : (((wk.setCell ⟨b, 0, none⟩ c0).setCell ⟨b, 1, none⟩ c1).setCell ⟨b, 2, none⟩ c2).heap[b]? = some (.cells #[c0, c1, c2, d3, d4, d5, d6, d7, d8, d9, d10] t (0, 0)) := heap_setCell_same _ _ 2 _ _ c2 e1
    have e3 : ((((wk.setCell ⟨b, 0, none⟩ c0).setCell ⟨b, 1, none⟩ c1).setCell ⟨b, 2, none⟩ c2).setCell ⟨b, 3, none⟩ c3).heap[b]? = some (.cells #[c0, c1, c2, c3, d4, d5, d6, d7, d8, d9, d10] t (0, 0)) := heap_setCell_same _ _ 3 _ _ c3 e2
    have e4 : (((((wk.setCell ⟨b, 0, none⟩ c0).setCell ⟨b, 1, none⟩ c1).setCell ⟨b, 2, none⟩ c2).setCell ⟨b, 3, none⟩ c3).setCell ⟨b, 4, none⟩ c4).heap[b]? = some (.cells #[c0, c1, c2, c3, c4, d5, d6, d7, d8, d9, d10] t (0, 0)) := heap_setCell_same _ _ 4 _ _ c4 e3
    have e5 : ((((((wk.setCell ⟨b, 0, none⟩ c0).setCell ⟨b, 1, none⟩ c1).setCell ⟨b, 2, none⟩ c2).setCell ⟨b, 3, none⟩ c3).setCell ⟨b, 4, none⟩ c4).setCell ⟨b, 5, none⟩ c5).heap[b]? = some (.cells #[c0, c1, c2, c3, c4, c5, d6, d7, d8, d9, d10] t (0, 0)) := heap_setCell_same _ _ 5 _ _ c5 e4
    have e6 : (((((((wk.setCell ⟨b, 0, none⟩ c0).setCell ⟨b, 1, none⟩ c1).setCell ⟨b, 2, none⟩ c2).setCell ⟨b, 3, none⟩ c3).setCell ⟨b, 4, none⟩ c4).setCell ⟨b, 5, none⟩ c5).setCell ⟨b, 6, none⟩ c6).heap[b]? = some (.cells #[c0, c1, c2, c3, c4, c5, c6, d7, d8, d9, d10] t (0, 0)) := heap_setCell_same _ _ 6 _ _ c6 e5
    have e7 : ((((((((wk.setCell ⟨b, 0, none⟩ c0).setCell ⟨b, 1, none⟩ c1).setCell ⟨b, 2, none⟩ c2).setCell ⟨b, 3, none⟩ c3).setCell ⟨b, 4, none⟩ c4).setCell ⟨b, 5, none⟩ c5).setCell ⟨b, 6, none⟩ c6).setCell ⟨b, 7, none⟩ c7).heap[b]? = some (.cells #[c0, c1, c2, c3, c4, c5, c6, c7, d8, d9, d10] t (0, 0)) := heap_setCell_same _ _ 7 _ _ c7 e6
    have e8 : (((((((((wk.setCell ⟨b, 0, none⟩ c0).setCell ⟨b, 1, none⟩ c1).setCell ⟨b, 2, none⟩ c2).setCell ⟨b, 3, none⟩ c3).setCell ⟨b, 4, none⟩ c4).setCell ⟨b, 5, none⟩ c5).setCell ⟨b, 6, none⟩ c6).setCell ⟨b, 7, none⟩ c7).setCell ⟨b, 8, none⟩ c8).heap[b]? = some (.cells #[c0, c1, c2, c3, c4, c5, c6, c7, c8, d9, d10] t (0, 0)) := heap_setCell_same _ _ 8 _ _ c8 e7
    have e9 : ((((((((((wk.setCell ⟨b, 0, none⟩ c0).setCell ⟨b, 1, none⟩ c1).setCell ⟨b, 2, none⟩ c2).setCell ⟨b, 3, none⟩ c3).setCell ⟨b, 4, none⟩ c4).setCell ⟨b, 5, none⟩ c5).setCell ⟨b, 6, none⟩ c6).setCell ⟨b, 7, none⟩ c7).setCell ⟨b, 8, none⟩ c8).setCell ⟨b, 9, none⟩ c9).heap[b]? = some (.cells #[c0, c1, c2, c3, c4, c5, c6, c7, c8, c9, d10] t (0, 0)) := heap_setCell_same _ _ 9 _ _ c9 e8
    have e10 : (((((((((((wk.setCell ⟨b, 0, none⟩ c0).setCell ⟨b, 1, none⟩ c1).setCell ⟨b, 2, none⟩ c2).setCell ⟨b, 3, none⟩ c3).setCell ⟨b, 4, none⟩ c4).setCell ⟨b, 5, none⟩ c5).setCell ⟨b, 6, none⟩ c6).setCell ⟨b, 7, none⟩ c7).setCell ⟨b, 8, none⟩ c8).setCell ⟨b, 9, none⟩ c9).setCell ⟨b, 10, none⟩ c10).heap[b]? = some (.cells #[c0, c1, c2, c3, c4, c5, c6, c7, c8, c9, c10] t (0, 0)) := heap_setCell_same _ _ 10 _ _ c10 e9
    exact e10
theorem frame_below {w wk : World} {b : Nat} {c0 c1 c2 c3 c4 c5 c6 c7 c8 c9 c10 : Value} (h : Below w.heap.size w wk) (hb : w.heap.size ≤ b) :
    Below w.heap.size w (((((((((((wk.setCell ⟨b, 0, none⟩ c0).setCell ⟨b, 1, none⟩ c1).setCell ⟨b, 2, none⟩ c2).setCell ⟨b, 3, none⟩ c3).setCell ⟨b, 4, none⟩ c4).setCell ⟨b, 5, none⟩ c5).setCell ⟨b, 6, none⟩ c6).setCell ⟨b, 7, none⟩ c7).setCell ⟨b, 8, none⟩ c8).setCell ⟨b, 9, none⟩ c9).setCell ⟨b, 10, none⟩ c10) :=
  ((((((((((h.setCell hb _).setCell hb _).setCell hb _).setCell hb _).setCell hb _).setCell hb _).setCell hb _).setCell hb _).setCell hb _).setCell hb _).setCell hb _

/-- The cells of a frame of nothing. -/
def zcells : Array Value := #[.int .i64 0, .int .i64 0, .int .i64 0, .int .i64 0, .int .i64 0, .int .u32 0, .int .i64 0, .bool false, .bool false, .int .i64 0, .int .u32 0]

/-- .. in a block: each is there, and may be written. -/
theorem zero_cells {wk : World} {b : Nat} {t : TypeId} (h : wk.heap[b]? = some (.cells zcells t (0, 0))) :
    (wk.cell? ⟨b, 0, none⟩ = some (.int .i64 0) ∧ wk.cell? ⟨b, 1, none⟩ = some (.int .i64 0) ∧ wk.cell? ⟨b, 2, none⟩ = some (.int .i64 0) ∧ wk.cell? ⟨b, 3, none⟩ = some (.int .i64 0) ∧ wk.cell? ⟨b, 4, none⟩ = some (.int .i64 0) ∧ wk.cell? ⟨b, 5, none⟩ = some (.int .u32 0)
      ∧ wk.cell? ⟨b, 6, none⟩ = some (.int .i64 0) ∧ wk.cell? ⟨b, 7, none⟩ = some (.bool false) ∧ wk.cell? ⟨b, 8, none⟩ = some (.bool false) ∧ wk.cell? ⟨b, 9, none⟩ = some (.int .i64 0) ∧ wk.cell? ⟨b, 10, none⟩ = some (.int .u32 0))
    ∧ (wk.frozen? ⟨b, 0, none⟩ = false ∧ wk.frozen? ⟨b, 1, none⟩ = false ∧ wk.frozen? ⟨b, 2, none⟩ = false ∧ wk.frozen? ⟨b, 3, none⟩ = false ∧ wk.frozen? ⟨b, 4, none⟩ = false ∧ wk.frozen? ⟨b, 5, none⟩ = false ∧ wk.frozen? ⟨b, 6, none⟩ = false ∧ wk.frozen? ⟨b, 7, none⟩ = false
      ∧ wk.frozen? ⟨b, 8, none⟩ = false ∧ wk.frozen? ⟨b, 9, none⟩ = false ∧ wk.frozen? ⟨b, 10, none⟩ = false) :=
  ⟨⟨cell_of_row _ _ _ _ _ _ h, cell_of_row _ _ _ _ _ _ h, cell_of_row _ _ _ _ _ _ h, cell_of_row _ _ _ _ _ _ h, cell_of_row _ _ _ _ _ _ h, cell_of_row _ _ _ _ _ _ h, cell_of_row _ _ _ _ _ _ h, cell_of_row _ _ _ _ _ _ h, cell_of_row _ _ _ _ _ _ h, cell_of_row _ _ _ _ _ _ h, cell_of_row _ _ _ _ _ _ h⟩, frozen_of_row _ _ _ _ _ h, frozen_of_row _ _ _ _ _ h, frozen_of_row _ _ _ _ _ h, frozen_of_row _ _ _ _ _ h, frozen_of_row _ _ _ _ _ h, frozen_of_row _ _ _ _ _ h, frozen_of_row _ _ _ _ _ h, frozen_of_row _ _ _ _ _ h, frozen_of_row _ _ _ _ _ h, frozen_of_row _ _ _ _ _ h, frozen_of_row _ _ _ _ _ h⟩

theorem get_le (x a b : Nat) : Fld.get x a b ≤ 2 ^ b - 1 := by
  have : Fld.get x a b < 2 ^ b := Nat.mod_lt _ (Fld.pow_pos b)
  omega

/-- Frames whose numbers are the same are one. -/
theorem ret_frame {k c s t g a r q v k' c' s' t' g' a' r' q' v' : Int} {su st su' st' : Bool} (h0 : k = k') (h1 : c = c') (h2 : s = s') (h3 : t = t') (h4 : g = g') (h5 : a = a') (h6 : r = r') (h7 : su = su') (h8 : st = st') (h9 : q = q') (h10 : v = v') :
    Ending.returned (.agg #[.int .i64 k, .int .i64 c, .int .i64 s, .int .i64 t, .int .i64 g, .int .u32 a, .int .i64 r, .bool su, .bool st, .int .i64 q, .int .u32 v]) = .returned (.agg #[.int .i64 k', .int .i64 c', .int .i64 s', .int .i64 t', .int .i64 g', .int .u32 a', .int .i64 r', .bool su', .bool st', .int .i64 q', .int .u32 v']) := by
  rw [h0, h1, h2, h3, h4, h5, h6, h7, h8, h9, h10]

/-- In the midst of read: the fields, the words, and some cells where the answer is to be. -/
structure Reads (x0 x1 x2 : Nat) (w wk : World) : Prop where
  lay : Lay wk
  below : Below w.heap.size w wk
  words : wk.heap[w.heap.size]? = some (.cells #[.int .u64 (x0 : Int), .int .u64 (x1 : Int), .int .u64 (x2 : Int)] 28 (0, 0))
  res : ∃ l : List Value, l.length = 11 ∧ wk.heap[w.heap.size + 1]? = some (.cells l.toArray 24 (0, 0))
  big : 11 ≤ w.heap.size

theorem Reads.all {x0 x1 x2 : Nat} {w wk : World} (h : Reads x0 x1 x2 w wk) : wk.cell? ⟨0, 0, none⟩ = some (.int .i64 0) ∧ wk.cell? ⟨0, 1, none⟩ = some (.int .i64 4) ∧ wk.cell? ⟨1, 0, none⟩ = some (.int .i64 4) ∧ wk.cell? ⟨1, 1, none⟩ = some (.int .i64 4) ∧ wk.cell? ⟨2, 0, none⟩ = some (.int .i64 8) ∧ wk.cell? ⟨2, 1, none⟩ = some (.int .i64 4) ∧ wk.cell? ⟨3, 0, none⟩ = some (.int .i64 12) ∧ wk.cell? ⟨3, 1, none⟩ = some (.int .i64 8) ∧ wk.cell? ⟨4, 0, none⟩ = some (.int .i64 20) ∧ wk.cell? ⟨4, 1, none⟩ = some (.int .i64 4) ∧ wk.cell? ⟨5, 0, none⟩ = some (.int .i64 24) ∧ wk.cell? ⟨5, 1, none⟩ = some (.int .i64 1) ∧ wk.cell? ⟨6, 0, none⟩ = some (.int .i64 25) ∧ wk.cell? ⟨6, 1, none⟩ = some (.int .i64 1) ∧ wk.cell? ⟨7, 0, none⟩ = some (.int .i64 26) ∧ wk.cell? ⟨7, 1, none⟩ = some (.int .i64 24) ∧ wk.cell? ⟨8, 0, none⟩ = some (.int .i64 0) ∧ wk.cell? ⟨8, 1, none⟩ = some (.int .i64 32) ∧ wk.cell? ⟨9, 0, none⟩ = some (.int .i64 32) ∧ wk.cell? ⟨9, 1, none⟩ = some (.int .i64 32) ∧ wk.cell? ⟨10, 0, none⟩ = some (.int .i64 0) ∧ wk.cell? ⟨10, 1, none⟩ = some (.int .i64 16) ∧ wk.cell? ⟨w.heap.size, 0, none⟩ = some (.int .u64 (x0 : Int)) ∧ wk.cell? ⟨w.heap.size, 1, none⟩ = some (.int .u64 (x1 : Int)) ∧ wk.cell? ⟨w.heap.size, 2, none⟩ = some (.int .u64 (x2 : Int)) ∧ Hid (Reads x0 x1 x2 w wk) :=
  ⟨h.lay.kind_.1, h.lay.kind_.2, h.lay.client_.1, h.lay.client_.2, h.lay.service_.1, h.lay.service_.2, h.lay.slot_.1, h.lay.slot_.2, h.lay.try_.1, h.lay.try_.2, h.lay.sure_.1, h.lay.sure_.2, h.lay.stream_.1, h.lay.stream_.2, h.lay.gen_.1, h.lay.gen_.2, h.lay.call_.1, h.lay.call_.2, h.lay.value_.1, h.lay.value_.2, h.lay.seq_.1, h.lay.seq_.2, cell_of_row _ _ _ _ _ _ h.words, cell_of_row _ _ _ _ _ _ h.words, cell_of_row _ _ _ _ _ _ h.words, Lib.hid h⟩

theorem heap_lt {w : World} {b : Nat} {o : Obj} (h : w.heap[b]? = some o) : b < w.heap.size := by
  by_cases hb : b < w.heap.size
  · exact hb
  · have : w.heap[b]? = none := Array.getElem?_eq_none (by omega)
    rw [this] at h; cases h

theorem Reads.kept {x0 x1 x2 : Nat} {w wk wn : World} (h : Reads x0 x1 x2 w wk) (hb : Below wk.heap.size wk wn) : Reads x0 x1 x2 w wn := by
  obtain ⟨l, hl, hr⟩ := h.res
  exact ⟨h.lay.kept hb, h.below.trans (hb.mono h.below.size), (hb.block _ (heap_lt h.words)).trans h.words, ⟨l, hl, (hb.block _ (heap_lt hr)).trans hr⟩, h.big⟩

theorem Reads.drew {x0 x1 x2 : Nat} {w wk : World} (h : Reads x0 x1 x2 w wk) : Reads x0 x1 x2 w wk.drew :=
  ⟨⟨h.lay.kind_, h.lay.client_, h.lay.service_, h.lay.slot_, h.lay.try_, h.lay.sure_, h.lay.stream_, h.lay.gen_, h.lay.call_, h.lay.value_, h.lay.seq_⟩, h.below.drew, h.words, h.res, h.big⟩

theorem Reads.start (x0 x1 x2 : Nat) {w : World} (hL : Lay w) : Reads x0 x1 x2 w ((w.alloc (.cells #[.int .u64 (x0 : Int), .int .u64 (x1 : Int), .int .u64 (x2 : Int)] 28)).alloc (.cells zcells 24)) :=
  ⟨hL.kept (below_two _ _ _), below_two _ _ _, heap_alloc2_old _ _ _, ⟨_, rfl, heap_alloc2_new _ _ _⟩, hL.size⟩

theorem Lay.put {w : World} (h : Lay w) {B o : Nat} (hB : 11 ≤ B) (v : Value) : Lay (w.setCell ⟨B, o, none⟩ v) := by
  have hb : Below B w (w.setCell ⟨B, o, none⟩ v) := (Below.refl B w).setCell (Nat.le_refl _) v
  have k : ∀ {g : Nat} {a b : Int}, Fd w g a b → g < 11 → Fd (w.setCell ⟨B, o, none⟩ v) g a b := fun h hg =>
    ⟨(hb.cell (show _ < B by dsimp; omega)).trans h.1, (hb.cell (show _ < B by dsimp; omega)).trans h.2⟩
  exact ⟨k h.kind_ (by omega), k h.client_ (by omega), k h.service_ (by omega), k h.slot_ (by omega), k h.try_ (by omega), k h.sure_ (by omega), k h.stream_ (by omega), k h.gen_ (by omega), k h.call_ (by omega), k h.value_ (by omega), k h.seq_ (by omega)⟩

/-- One cell of the answer is laid. -/
theorem Reads.set {x0 x1 x2 : Nat} {w wk : World} (h : Reads x0 x1 x2 w wk) (i : Nat) (v : Value) : Reads x0 x1 x2 w (wk.setCell ⟨w.heap.size + 1, i, none⟩ v) := by
  obtain ⟨l, hl, hr⟩ := h.res
  have hbig := h.big
  refine ⟨h.lay.put (by omega) v, h.below.setCell (by simp) v, ?_, ⟨l.set i v, by simpa using hl, ?_⟩, h.big⟩
  · rw [heap_setCell_other _ _ _ _ (by simp)]; exact h.words
  · rw [heap_setCell_same _ _ _ _ _ _ hr, List.setIfInBounds_toArray]

theorem Reads.cells {x0 x1 x2 : Nat} {w wk : World} (h : Reads x0 x1 x2 w wk) :
    ∃ c0 c1 c2 c3 c4 c5 c6 c7 c8 c9 c10, Hid (wk.heap[w.heap.size + 1]? = some (.cells #[c0, c1, c2, c3, c4, c5, c6, c7, c8, c9, c10] 24 (0, 0))) ∧
wk.cell? ⟨w.heap.size + 1, 0, none⟩ = some c0 ∧ wk.cell? ⟨w.heap.size + 1, 1, none⟩ = some c1 ∧ wk.cell? ⟨w.heap.size + 1, 2, none⟩ = some c2 ∧ wk.cell? ⟨w.heap.size + 1, 3, none⟩ = some c3 ∧ wk.cell? ⟨w.heap.size + 1, 4, none⟩ = some c4 ∧ wk.cell? ⟨w.heap.size + 1, 5, none⟩ = some c5 ∧ wk.cell? ⟨w.heap.size + 1, 6, none⟩ = some c6 ∧ wk.cell? ⟨w.heap.size + 1, 7, none⟩ = some c7 ∧ wk.cell? ⟨w.heap.size + 1, 8, none⟩ = some c8 ∧ wk.cell? ⟨w.heap.size + 1, 9, none⟩ = some c9 ∧ wk.cell? ⟨w.heap.size + 1, 10, none⟩ = some c10 ∧ wk.frozen? ⟨w.heap.size + 1, 0, none⟩ = false ∧ wk.frozen? ⟨w.heap.size + 1, 1, none⟩ = false ∧ wk.frozen? ⟨w.heap.size + 1, 2, none⟩ = false ∧ wk.frozen? ⟨w.heap.size + 1, 3, none⟩ = false ∧ wk.frozen? ⟨w.heap.size + 1, 4, none⟩ = false ∧ wk.frozen? ⟨w.heap.size + 1, 5, none⟩ = false ∧ wk.frozen? ⟨w.heap.size + 1, 6, none⟩ = false ∧ wk.frozen? ⟨w.heap.size + 1, 7, none⟩ = false ∧ wk.frozen? ⟨w.heap.size + 1, 8, none⟩ = false ∧ wk.frozen? ⟨w.heap.size + 1, 9, none⟩ = false ∧ wk.frozen? ⟨w.heap.size + 1, 10, none⟩ = false := by
  obtain ⟨l, hl, hr⟩ := h.res
  match l, hl with
  | [c0, c1, c2, c3, c4, c5, c6, c7, c8, c9, c10], _ =>
    exact ⟨c0, c1, c2, c3, c4, c5, c6, c7, c8, c9, c10, Lib.hid hr, cell_of_row _ _ _ _ _ _ hr, cell_of_row _ _ _ _ _ _ hr, cell_of_row _ _ _ _ _ _ hr, cell_of_row _ _ _ _ _ _ hr, cell_of_row _ _ _ _ _ _ hr, cell_of_row _ _ _ _ _ _ hr, cell_of_row _ _ _ _ _ _ hr, cell_of_row _ _ _ _ _ _ hr, cell_of_row _ _ _ _ _ _ hr, cell_of_row _ _ _ _ _ _ hr, cell_of_row _ _ _ _ _ _ hr, frozen_of_row _ _ _ _ _ hr, frozen_of_row _ _ _ _ _ hr, frozen_of_row _ _ _ _ _ hr, frozen_of_row _ _ _ _ _ hr, frozen_of_row _ _ _ _ _ hr, frozen_of_row _ _ _ _ _ hr, frozen_of_row _ _ _ _ _ hr, frozen_of_row _ _ _ _ _ hr, frozen_of_row _ _ _ _ _ hr, frozen_of_row _ _ _ _ _ hr, frozen_of_row _ _ _ _ _ hr⟩

theorem Reads.at {x0 x1 x2 : Nat} {w wk wn : World} (h : wk.cell? ⟨0, 0, none⟩ = some (.int .i64 0) ∧ wk.cell? ⟨0, 1, none⟩ = some (.int .i64 4) ∧ wk.cell? ⟨1, 0, none⟩ = some (.int .i64 4) ∧ wk.cell? ⟨1, 1, none⟩ = some (.int .i64 4) ∧ wk.cell? ⟨2, 0, none⟩ = some (.int .i64 8) ∧ wk.cell? ⟨2, 1, none⟩ = some (.int .i64 4) ∧ wk.cell? ⟨3, 0, none⟩ = some (.int .i64 12) ∧ wk.cell? ⟨3, 1, none⟩ = some (.int .i64 8) ∧ wk.cell? ⟨4, 0, none⟩ = some (.int .i64 20) ∧ wk.cell? ⟨4, 1, none⟩ = some (.int .i64 4) ∧ wk.cell? ⟨5, 0, none⟩ = some (.int .i64 24) ∧ wk.cell? ⟨5, 1, none⟩ = some (.int .i64 1) ∧ wk.cell? ⟨6, 0, none⟩ = some (.int .i64 25) ∧ wk.cell? ⟨6, 1, none⟩ = some (.int .i64 1) ∧ wk.cell? ⟨7, 0, none⟩ = some (.int .i64 26) ∧ wk.cell? ⟨7, 1, none⟩ = some (.int .i64 24) ∧ wk.cell? ⟨8, 0, none⟩ = some (.int .i64 0) ∧ wk.cell? ⟨8, 1, none⟩ = some (.int .i64 32) ∧ wk.cell? ⟨9, 0, none⟩ = some (.int .i64 32) ∧ wk.cell? ⟨9, 1, none⟩ = some (.int .i64 32) ∧ wk.cell? ⟨10, 0, none⟩ = some (.int .i64 0) ∧ wk.cell? ⟨10, 1, none⟩ = some (.int .i64 16) ∧ wk.cell? ⟨w.heap.size, 0, none⟩ = some (.int .u64 (x0 : Int)) ∧ wk.cell? ⟨w.heap.size, 1, none⟩ = some (.int .u64 (x1 : Int)) ∧ wk.cell? ⟨w.heap.size, 2, none⟩ = some (.int .u64 (x2 : Int)) ∧ Hid (Reads x0 x1 x2 w wk)) (hb : Below wk.heap.size wk wn) : Hid (Reads x0 x1 x2 w wn) := by
  obtain ⟨-, -, -, -, -, -, -, -, -, -, -, -, -, -, -, -, -, -, -, -, -, -, -, -, -, h⟩ := h
  exact Lib.hid (h.out.kept hb)

/-- Get of a field that is given by its numbers: a number that is no more than its bits tell. -/
theorem get_lit (x : Nat) (a b : Int) (w : World) (hx : x < 18446744073709551616) (ha : 0 ≤ a) (hb : 1 ≤ b) (hab : a + b ≤ 64) :
    Calls Tryd.prog 32 #[.agg #[.int .i64 a, .int .i64 b], .int .u64 (x : Int)] w fun e w' => (∃ n : Int, e = .returned (.int .u64 n) ∧ n = (Fld.get x a.toNat b.toNat : Nat) ∧ 0 ≤ n ∧ n ≤ 2 ^ b.toNat - 1) ∧ Below w.heap.size w w' := by
  obtain ⟨i, rfl⟩ := Int.eq_ofNat_of_zero_le ha
  obtain ⟨j, rfl⟩ := Int.eq_ofNat_of_zero_le (show 0 ≤ b by omega)
  refine (get_yes x i j hx (by omega) (by omega) w).mono ?_
  rintro e w1 ⟨rfl, h⟩
  have := get_le x i j
  have h0 := Fld.pow_pos j
  refine ⟨⟨_, rfl, rfl, by omega, ?_⟩, h⟩
  have e1 : ((2 : Int) ^ (j : Int).toNat - 1) = ((2 ^ j - 1 : Nat) : Int) := by rw [Int.toNat_natCast]; simp [Int.natCast_sub h0]
  rw [e1]; omega

theorem beq_one (n : Nat) : ((n : Int) == 1) = decide (n = 1) := by rw [Bool.eq_iff_iff]; simp; omega

set_option maxRecDepth 100000 in
set_option maxHeartbeats 8000000 in
/-- read: what the fields have. -/
theorem fread_any (x0 x1 x2 : Nat) (hx0 : x0 < 18446744073709551616) (hx1 : x1 < 18446744073709551616) (hx2 : x2 < 18446744073709551616) (w : World) (hL : Lay w) :
    Calls Tryd.prog 22 #[.agg #[.int .u64 (x0 : Int), .int .u64 (x1 : Int), .int .u64 (x2 : Int)]] w fun e w' => e = .returned (.agg #[.int .i64 ((Fm.rd x0 x1 x2).kind : Int), .int .i64 ((Fm.rd x0 x1 x2).client : Int), .int .i64 ((Fm.rd x0 x1 x2).service : Int), .int .i64 ((Fm.rd x0 x1 x2).slot : Int), .int .i64 ((Fm.rd x0 x1 x2).gen : Int), .int .u32 ((Fm.rd x0 x1 x2).call : Int), .int .i64 ((Fm.rd x0 x1 x2).tr : Int), .bool (Fm.rd x0 x1 x2).sure, .bool (Fm.rd x0 x1 x2).stream, .int .i64 ((Fm.rd x0 x1 x2).seq : Int), .int .u32 ((Fm.rd x0 x1 x2).value : Int)]) ∧ Below w.heap.size w w' := by
  have hS := Lib.hid (Reads.start x0 x1 x2 hL).drew
  have hX := Lib.hid True.intro
  go_enter Tryd.func22, Tryd.ntmps22
  go_wp2_with fail
  simp only [List.append]
  go_region_held3 (fun w' => w'.cell? ⟨0, 0, none⟩ = some (.int .i64 0) ∧ w'.cell? ⟨0, 1, none⟩ = some (.int .i64 4) ∧ w'.cell? ⟨1, 0, none⟩ = some (.int .i64 4) ∧ w'.cell? ⟨1, 1, none⟩ = some (.int .i64 4) ∧ w'.cell? ⟨2, 0, none⟩ = some (.int .i64 8) ∧ w'.cell? ⟨2, 1, none⟩ = some (.int .i64 4) ∧ w'.cell? ⟨3, 0, none⟩ = some (.int .i64 12) ∧ w'.cell? ⟨3, 1, none⟩ = some (.int .i64 8) ∧ w'.cell? ⟨4, 0, none⟩ = some (.int .i64 20) ∧ w'.cell? ⟨4, 1, none⟩ = some (.int .i64 4) ∧ w'.cell? ⟨5, 0, none⟩ = some (.int .i64 24) ∧ w'.cell? ⟨5, 1, none⟩ = some (.int .i64 1) ∧ w'.cell? ⟨6, 0, none⟩ = some (.int .i64 25) ∧ w'.cell? ⟨6, 1, none⟩ = some (.int .i64 1) ∧ w'.cell? ⟨7, 0, none⟩ = some (.int .i64 26) ∧ w'.cell? ⟨7, 1, none⟩ = some (.int .i64 24) ∧ w'.cell? ⟨8, 0, none⟩ = some (.int .i64 0) ∧ w'.cell? ⟨8, 1, none⟩ = some (.int .i64 32) ∧ w'.cell? ⟨9, 0, none⟩ = some (.int .i64 32) ∧ w'.cell? ⟨9, 1, none⟩ = some (.int .i64 32) ∧ w'.cell? ⟨10, 0, none⟩ = some (.int .i64 0) ∧ w'.cell? ⟨10, 1, none⟩ = some (.int .i64 16) ∧ w'.cell? ⟨w.heap.size, 0, none⟩ = some (.int .u64 (x0 : Int)) ∧ w'.cell? ⟨w.heap.size, 1, none⟩ = some (.int .u64 (x1 : Int)) ∧ w'.cell? ⟨w.heap.size, 2, none⟩ = some (.int .u64 (x2 : Int)) ∧ Hid (Reads x0 x1 x2 w w'))
    (first | with_reducible exact hX.out.all | exact hS.out.all | exact (((((((((((hX.out.set 0 _).set 1 _).set 2 _).set 3 _).set 4 _).set 5 _).set 6 _).set 7 _).set 8 _).set 9 _).set 10 _).all)
    (first
      | (go_at_call 32; with_reducible refine (get_lit x1 32 32 _ hx1 (by decide) (by decide) (by decide)).mono ?_; rintro e w2 ⟨⟨n, rfl, hn, hn1, hn2⟩, hb⟩; (try clear hS); replace hX := Reads.at (by with_reducible assumption) hb; obtain ⟨d0, d1, d2, d3, d4, d5, d6, d7, d8, d9, d10, HR, q0, q1, q2, q3, q4, q5, q6, q7, q8, q9, q10, p0, p1, p2, p3, p4, p5, p6, p7, p8, p9, p10⟩ := hX.out.cells; clear hb)
      | (go_at_call 32; refine (get_lit _ _ _ _ ?_ ?_ ?_ ?_).mono ?_; assumption; decide; decide; decide; rintro e w2 ⟨⟨n, rfl, hn, hn1, hn2⟩, hb⟩; (try clear hS); replace hX := Reads.at (by with_reducible assumption) hb; clear hb))
  go_wp2_with fail
  refine bodyPost_ret (results_cell_row Tryd.results22 _ _ (w.heap.size + 1) 24 _ (0, 0) _ rfl (frame_laid rfl HR.out) Tryd.underlying24 rfl Tryd.sizeFrame) rfl ⟨ret_frame ?_ ?_ ?_ ?_ ?_ ?_ ?_ ?_ ?_ ?_ ?_, frame_below hX.out.below (by simp)⟩
  · have := get_le x0 0 4
    show _ = ((Fld.get x0 0 4 : Nat) : Int)
    first | rfl | omega | (rw [IntKind.wrap_i64]; omega)
  · have := get_le x0 4 4
    show _ = ((Fld.get x0 4 4 : Nat) : Int)
    first | rfl | omega | (rw [IntKind.wrap_i64]; omega)
  · have := get_le x0 8 4
    show _ = ((Fld.get x0 8 4 : Nat) : Int)
    first | rfl | omega | (rw [IntKind.wrap_i64]; omega)
  · have := get_le x0 12 8
    show _ = ((Fld.get x0 12 8 : Nat) : Int)
    first | rfl | omega | (rw [IntKind.wrap_i64]; omega)
  · have := get_le x0 26 24
    show _ = ((Fld.get x0 26 24 : Nat) : Int)
    first | rfl | omega | (rw [IntKind.wrap_i64]; omega)
  · have := get_le x1 0 32
    show _ = ((Fld.get x1 0 32 : Nat) : Int)
    first | rfl | omega | (rw [IntKind.wrap_u32']; omega)
  · have := get_le x0 20 4
    show _ = ((Fld.get x0 20 4 : Nat) : Int)
    first | rfl | omega | (rw [IntKind.wrap_i64]; omega)
  · show _ = decide (Fld.get x0 24 1 = 1)
    rw [← beq_one]
  · show _ = decide (Fld.get x0 25 1 = 1)
    rw [← beq_one]
  · have := get_le x2 0 16
    show _ = ((Fld.get x2 0 16 : Nat) : Int)
    first | rfl | omega | (rw [IntKind.wrap_i64]; omega)
  · have := get_le x1 32 32
    show _ = ((Fld.get x1 32 32 : Nat) : Int)
    first | rfl | omega | (rw [IntKind.wrap_u32']; omega)

end Go.Proofs.YtcpgigmnmlmpjaaDoor
