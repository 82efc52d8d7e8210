/- The queue's own methods: Len, Less, Swap, Push, Pop. -/
import Derived.Test.YtfjhknmpolhfeaaDueA
import Derived.RegionTactic
import Derived.Deep.RegionHeld3
import Derived.Shelf.RegionOpenPlain
import Derived.Shelf.SlicesQ.Load
import Derived.Shelf.SlicesQ.Reverse
namespace Go.Proofs.Ytfjhknmpolhfeaa
open Go.RowKit Go.Sort

/-- Stores over a part of a block. -/
theorem stores_block {P : Program} {w : World} {g o : Nat} {t : TypeId} {cur : Array Value} (hg : w.heap[g]? = some (.cells cur t (0, 0))) (vs : List Value) (hs : o + vs.length ≤ cur.size) (h1 : ∀ v ∈ vs, v.oneCell' = true) :
    Sem.run P (storeCells ⟨g, o, none⟩ vs 0) w = .ok () (w.setCells g o vs) := by
  have := run_storeCells_cells (P := P) g o vs 0 w (fun c hc => by
    rw [cell_of_row _ _ _ _ _ _ hg, Array.getElem?_eq_getElem (by omega)]; rfl) (fun c hc => frozen_of_row _ _ _ _ _ hg) h1
  rwa [Nat.add_zero] at this
theorem loads_block {P : Program} {w : World} {g o k : Nat} {t : TypeId} {cur : Array Value} (hg : w.heap[g]? = some (.cells cur t (0, 0))) (vs : List Value) (hk : vs.length = k) (h : ∀ c u, vs[c]? = some u → cur[o + c]? = some u) :
    Sem.run P (loadCellsFrom ⟨g, o, none⟩ 0 k #[]) w = .ok vs.toArray w :=
  run_loadCellsFrom_list P w _ vs k hk (fun c u hc => by
    have e : (⟨g, o, none⟩ : Addr).add c = ⟨g, o + c, none⟩ := by unfold Addr.add; split <;> simp_all
    rw [e]; exact (cell_of_row _ _ _ _ _ _ hg).trans (h c u hc))

theorem cells_some {W : World} {g k : Nat} {t : TypeId} {cur : Array Value} (hg : W.heap[g]? = some (.cells cur t (0, 0))) (hk : k < cur.size) : ∃ v, W.cell? ⟨g, k, none⟩ = some v := ⟨cur[k], (cell_of_row _ _ _ _ _ _ hg).trans (Array.getElem?_eq_getElem hk)⟩
set_option maxHeartbeats 4000000 in
/-- Two entries change their places: what is written. -/
theorem swap_raw (g off c n : Nat) (i j : Nat) (w : World) (hi : i < n) (hj : j < n) (_hn : n ≤ 1000000) (x0 x1 x2 x3 x4 x5 y0 y1 y2 y3 y4 y5 : Int)
    {t : TypeId} {cur : Array Value} (hg : w.heap[g]? = some (.cells cur t (0, 0))) (hs : off + n * 6 ≤ cur.size)
    (a0 : cur[off + i * 6]? = some (.int .i64 x0)) (a1 : cur[off + i * 6 + 1]? = some (.int .i64 x1)) (a2 : cur[off + i * 6 + 2]? = some (.int .i64 x2)) (a3 : cur[off + i * 6 + 3]? = some (.int .i64 x3)) (a4 : cur[off + i * 6 + 4]? = some (.int .i64 x4)) (a5 : cur[off + i * 6 + 5]? = some (.int .i64 x5))
    (b0 : cur[off + j * 6]? = some (.int .i64 y0)) (b1 : cur[off + j * 6 + 1]? = some (.int .i64 y1)) (b2 : cur[off + j * 6 + 2]? = some (.int .i64 y2)) (b3 : cur[off + j * 6 + 3]? = some (.int .i64 y3)) (b4 : cur[off + j * 6 + 4]? = some (.int .i64 y4)) (b5 : cur[off + j * 6 + 5]? = some (.int .i64 y5)) :
    Calls Try.prog 63 #[.slice (some ⟨g, off, none⟩) n c, .int .i64 i, .int .i64 j] w fun e w' => e = .returned (.tuple #[]) ∧ w' = ((w.setCells g (off + i * 6) [.int .i64 y0, .int .i64 y1, .int .i64 y2, .int .i64 y3, .int .i64 y4, .int .i64 y5]).setCells g (off + j * 6) [.int .i64 x0, .int .i64 x1, .int .i64 x2, .int .i64 x3, .int .i64 x4, .int .i64 x5]).drew := by
  have c0 := (cell_of_row w g _ _ _ _ hg).trans a0
  have c1 := (cell_of_row w g _ _ _ _ hg).trans a1
  have c2 := (cell_of_row w g _ _ _ _ hg).trans a2
  have c3 := (cell_of_row w g _ _ _ _ hg).trans a3
  have c4 := (cell_of_row w g _ _ _ _ hg).trans a4
  have c5 := (cell_of_row w g _ _ _ _ hg).trans a5
  have d0 := (cell_of_row w g _ _ _ _ hg).trans b0
  have d1 := (cell_of_row w g _ _ _ _ hg).trans b1
  have d2 := (cell_of_row w g _ _ _ _ hg).trans b2
  have d3 := (cell_of_row w g _ _ _ _ hg).trans b3
  have d4 := (cell_of_row w g _ _ _ _ hg).trans b4
  have d5 := (cell_of_row w g _ _ _ _ hg).trans b5
  have fz : ∀ k, w.frozen? ⟨g, k, none⟩ = false := fun _ => frozen_of_row _ _ _ _ _ hg
  have e0 := fz (off + i * 6)
  have e1 := fz (off + i * 6 + 1)
  have e2 := fz (off + i * 6 + 2)
  have e3 := fz (off + i * 6 + 3)
  have e4 := fz (off + i * 6 + 4)
  have e5 := fz (off + i * 6 + 5)
  have f0 := fz (off + j * 6)
  have f1 := fz (off + j * 6 + 1)
  have f2 := fz (off + j * 6 + 2)
  have f3 := fz (off + j * 6 + 3)
  have f4 := fz (off + j * 6 + 4)
  have f5 := fz (off + j * 6 + 5)
  have h0 := hg
  have h1 := heap_setCell_same _ _ (off + i * 6) _ _ (.int .i64 y0) h0
  have h2 := heap_setCell_same _ _ (off + i * 6 + 1) _ _ (.int .i64 y1) h1
  have h3 := heap_setCell_same _ _ (off + i * 6 + 2) _ _ (.int .i64 y2) h2
  have h4 := heap_setCell_same _ _ (off + i * 6 + 3) _ _ (.int .i64 y3) h3
  have h5 := heap_setCell_same _ _ (off + i * 6 + 4) _ _ (.int .i64 y4) h4
  have h6 := heap_setCell_same _ _ (off + i * 6 + 5) _ _ (.int .i64 y5) h5
  obtain ⟨v6, m6⟩ := cells_some (k := off + j * 6) h6 (by simp only [Array.size_setIfInBounds]; omega)
  have h7 := heap_setCell_same _ _ (off + j * 6) _ _ (.int .i64 x0) h6
  obtain ⟨v7, m7⟩ := cells_some (k := off + j * 6 + 1) h7 (by simp only [Array.size_setIfInBounds]; omega)
  have h8 := heap_setCell_same _ _ (off + j * 6 + 1) _ _ (.int .i64 x1) h7
  obtain ⟨v8, m8⟩ := cells_some (k := off + j * 6 + 2) h8 (by simp only [Array.size_setIfInBounds]; omega)
  have h9 := heap_setCell_same _ _ (off + j * 6 + 2) _ _ (.int .i64 x2) h8
  obtain ⟨v9, m9⟩ := cells_some (k := off + j * 6 + 3) h9 (by simp only [Array.size_setIfInBounds]; omega)
  have h10 := heap_setCell_same _ _ (off + j * 6 + 3) _ _ (.int .i64 x3) h9
  obtain ⟨v10, m10⟩ := cells_some (k := off + j * 6 + 4) h10 (by simp only [Array.size_setIfInBounds]; omega)
  have h11 := heap_setCell_same _ _ (off + j * 6 + 4) _ _ (.int .i64 x4) h10
  obtain ⟨v11, m11⟩ := cells_some (k := off + j * 6 + 5) h11 (by simp only [Array.size_setIfInBounds]; omega)
  have h12 := heap_setCell_same _ _ (off + j * 6 + 5) _ _ (.int .i64 x5) h11
  clear hg hs fz h0 h1 h2 h3 h4 h5 h6 h7 h8 h9 h10 h11 h12 a0 b0 a1 b1 a2 b2 a3 b3 a4 b4 a5 b5
  go_enter Try.func63, Try.ntmps63
  go_wp2_with fail
  go_region
  all_goals (try go_wp2)
  all_goals go_end0
  all_goals exact ⟨rfl, rfl⟩
end Go.Proofs.Ytfjhknmpolhfeaa