/- What a step of the ending of a slot's turn comes to, by what comes next in it. -/
import Derived.Test.YteijikcggflaoaaDoorStlA
import Derived.Test.YteijikcggflaoaaDoorSltDoor
import Derived.StillTailTactics
namespace Go.Proofs.YteijikcggflaoaaDoor
open Go.RowKit
attribute [local go_sem ↓] Go.wp_at_zero Go.wp_at_succ

/-- Nothing below the arena has changed beside two blocks of a call's own. -/
theorem Desk.under {w wk : World} {B : Nat} {s : Spot} {a : Ar} {X Z : Obj} (h : Desk w wk B s a X Z) : Below B w wk := by
  obtain ⟨wb, h1, h2, h3⟩ := h.now
  obtain ⟨a0, h0⟩ := h.old
  have hb : Below B w wb := h2.mono (by have := h0.size; omega)
  exact hb.trans ((h3.below (h0.kept (Rest.of_below (own := fun _ => False) h2) (fun _ _ => id))))
/-- So that slot's two fields are as they were. -/
theorem Desk.lay {w0 w wk : World} {s : Spot} {a : Ar} {X Z : Obj} (h : Desk w wk w0.heap.size s a X Z) (hL : SLay w0) (h0 : Below w0.heap.size w0 w) : SLay wk := hL.kept (h0.trans h.under)
/-- The five cells of what was handed in are there behind the answer's five. -/
theorem five_past {w wk : World} {B : Nat} {s : Spot} {a : Ar} {Z : Obj} {t : TypeId} {c0 c1 c2 c3 c4 d0 d1 d2 d3 d4 : Value} (h : Desk w wk B s a (.cells #[c0, c1, c2, c3, c4] t (0, 0)) Z) {wn : World}
    (e : wn = (((((wk.setCell ⟨w.heap.size + 1, 0, none⟩ d0).setCell ⟨w.heap.size + 1, 1, none⟩ d1).setCell ⟨w.heap.size + 1, 2, none⟩ d2).setCell ⟨w.heap.size + 1, 3, none⟩ d3).setCell ⟨w.heap.size + 1, 4, none⟩ d4)) :
    wn.cell? ⟨w.heap.size, 0, none⟩ = some c0 ∧ wn.cell? ⟨w.heap.size, 1, none⟩ = some c1 ∧ wn.cell? ⟨w.heap.size, 2, none⟩ = some c2 ∧ wn.cell? ⟨w.heap.size, 3, none⟩ = some c3 ∧ wn.cell? ⟨w.heap.size, 4, none⟩ = some c4 := by
  subst e
  exact five_cells (((five_rest (own := fun k => k = w.heap.size + 1) rfl).block _ (by have := h.lt; omega) (by simp)).trans h.box)

set_option maxRecDepth 100000 in
set_option maxHeartbeats 2000000 in
/-- The slot is read: it is not of the turn, or does not go on. -/
theorem lstep_stale {w0 : World} {s : Spot} {a : Ar} (i : Nat) (g m : Int) (x : Nat) (v : Nat) (w : World) (hA : Arena w w0.heap.size s a) (hL : SLay w0) (h0 : Below w0.heap.size w0 w) (hi : i < a.cs.length) (hv : a.cs.getD i 0 = v) (hv2 : v < 18446744073709551616) (h : ¬ (((Slt.gen v : Nat) : Int) = g ∧ Slt.Live v)) :
    Calls Tryd.prog 8 #[.agg #[.int .i64 i, .int .i64 g, .int .i64 m, .int .i64 0, .int .u64 x], .pointer (some ⟨s.P, 0, none⟩)] w fun e w' => e = .returned (.agg #[.int .i64 i, .int .i64 g, .int .i64 m, .int .i64 3, .int .u64 x]) ∧ Now w w' w0.heap.size s (a.touch i) := by
  have HV := Lib.hid hv
  have HC := Lib.hid h
  have HA := Lib.hid hA
  have HL := Lib.hid hL
  have H0 := Lib.hid h0
  clear hv h hA hL h0
  go_enter Tryd.func8, Tryd.ntmps8
  have hD := Lib.hid (Desk.start (X := .cells #[.int .i64 i, .int .i64 g, .int .i64 m, .int .i64 0, .int .u64 x] 27 (0, 0)) (Z := .cells #[.int .i64 0, .int .i64 0, .int .i64 0, .int .i64 0, .int .u64 0] 27 (0, 0)) HA.out (Below.refl _ _))
  go_wp2_with fail
  have hk1 := five_cells hD.out.drew.box
  go_region_held3 (fun w' => w'.cell? ⟨w.heap.size, 0, none⟩ = some (.int .i64 i) ∧ w'.cell? ⟨w.heap.size, 1, none⟩ = some (.int .i64 g) ∧ w'.cell? ⟨w.heap.size, 2, none⟩ = some (.int .i64 m) ∧ w'.cell? ⟨w.heap.size, 3, none⟩ = some (.int .i64 0) ∧ w'.cell? ⟨w.heap.size, 4, none⟩ = some (.int .u64 x))
     (first | with_reducible assumption | with_reducible exact five_past hD4.out rfl)
     (first
       | (go_at_call 17; obtain ⟨T, hA2, hN⟩ := hD.out.drew.arena; refine (read_in i _ hA2 hi).mono ?_; rintro e w3 ⟨rfl, hNow⟩; rw [HV.out]; have hD3 := Lib.hid (hN _ _ hNow); have hk3 := five_cells hD3.out.box; clear hN hNow hA2)
       | (go_at_call 16; refine (lfound_stale i g m 0 x v hv2 HC.out _ (hD3.out.lay HL.out H0.out)).mono ?_; rintro e w4 ⟨rfl, hb4⟩; have hD4 := Lib.hid (hD3.out.below hb4); have hk4 := five_cells hD4.out.box; obtain ⟨r0, r1, r2, r3, r4⟩ := five_cells hD4.out.res; obtain ⟨g0, g1, g2, g3, g4⟩ := five_free hD4.out.res; clear hb4))
  go_wp2_with fail
  refine bodyPost_ret (results_cell_row Tryd.results8 _ _ (w.heap.size + 1) 27 _ (0, 0) _ rfl (five_laid hD4.out.res) Tryd.underlying27 rfl Tryd.sizeStl) rfl ⟨rfl, hD4.out.done (five_rest rfl)⟩

set_option maxRecDepth 100000 in
set_option maxHeartbeats 2000000 in
/-- The slot is read: the turn goes on. -/
theorem lstep_live {w0 : World} {s : Spot} {a : Ar} (i : Nat) (g m : Int) (x : Nat) (v : Nat) (w : World) (hA : Arena w w0.heap.size s a) (hL : SLay w0) (h0 : Below w0.heap.size w0 w) (hi : i < a.cs.length) (hv : a.cs.getD i 0 = v) (hv2 : v < 18446744073709551616) (h : ((Slt.gen v : Nat) : Int) = g ∧ Slt.Live v) :
    Calls Tryd.prog 8 #[.agg #[.int .i64 i, .int .i64 g, .int .i64 m, .int .i64 0, .int .u64 x], .pointer (some ⟨s.P, 0, none⟩)] w fun e w' => e = .returned (.agg #[.int .i64 i, .int .i64 g, .int .i64 m, .int .i64 1, .int .u64 v]) ∧ Now w w' w0.heap.size s (a.touch i) := by
  have HV := Lib.hid hv
  have HC := Lib.hid h
  have HA := Lib.hid hA
  have HL := Lib.hid hL
  have H0 := Lib.hid h0
  clear hv h hA hL h0
  go_enter Tryd.func8, Tryd.ntmps8
  have hD := Lib.hid (Desk.start (X := .cells #[.int .i64 i, .int .i64 g, .int .i64 m, .int .i64 0, .int .u64 x] 27 (0, 0)) (Z := .cells #[.int .i64 0, .int .i64 0, .int .i64 0, .int .i64 0, .int .u64 0] 27 (0, 0)) HA.out (Below.refl _ _))
  go_wp2_with fail
  have hk1 := five_cells hD.out.drew.box
  go_region_held3 (fun w' => w'.cell? ⟨w.heap.size, 0, none⟩ = some (.int .i64 i) ∧ w'.cell? ⟨w.heap.size, 1, none⟩ = some (.int .i64 g) ∧ w'.cell? ⟨w.heap.size, 2, none⟩ = some (.int .i64 m) ∧ w'.cell? ⟨w.heap.size, 3, none⟩ = some (.int .i64 0) ∧ w'.cell? ⟨w.heap.size, 4, none⟩ = some (.int .u64 x))
     (first | with_reducible assumption | with_reducible exact five_past hD4.out rfl)
     (first
       | (go_at_call 17; obtain ⟨T, hA2, hN⟩ := hD.out.drew.arena; refine (read_in i _ hA2 hi).mono ?_; rintro e w3 ⟨rfl, hNow⟩; rw [HV.out]; have hD3 := Lib.hid (hN _ _ hNow); have hk3 := five_cells hD3.out.box; clear hN hNow hA2)
       | (go_at_call 16; refine (lfound_live i g m 0 x v hv2 HC.out _ (hD3.out.lay HL.out H0.out)).mono ?_; rintro e w4 ⟨rfl, hb4⟩; have hD4 := Lib.hid (hD3.out.below hb4); have hk4 := five_cells hD4.out.box; obtain ⟨r0, r1, r2, r3, r4⟩ := five_cells hD4.out.res; obtain ⟨g0, g1, g2, g3, g4⟩ := five_free hD4.out.res; clear hb4))
  go_wp2_with fail
  refine bodyPost_ret (results_cell_row Tryd.results8 _ _ (w.heap.size + 1) 27 _ (0, 0) _ rfl (five_laid hD4.out.res) Tryd.underlying27 rfl Tryd.sizeStl) rfl ⟨rfl, hD4.out.done (five_rest rfl)⟩

set_option maxRecDepth 100000 in
set_option maxHeartbeats 2000000 in
/-- It is swapped: it ended the turn. -/
theorem lstep_won {w0 : World} {s : Spot} {a : Ar} (i : Nat) (g m : Int) (x : Nat) (y : Nat) (w : World) (hA : Arena w w0.heap.size s a) (hL : SLay w0) (h0 : Below w0.heap.size w0 w) (hi : i < a.cs.length) (hx : a.cs.getD i 0 = x) (hx2 : x < 18446744073709551616) (h : Slt.Live x) (hy : Slt.word (Slt.gen x) (if min m 16777215 ≤ ((Slt.gen x : Nat) : Int) then 3 else 0) = y) (hy2 : y < 18446744073709551616) :
    Calls Tryd.prog 8 #[.agg #[.int .i64 i, .int .i64 g, .int .i64 m, .int .i64 1, .int .u64 x], .pointer (some ⟨s.P, 0, none⟩)] w fun e w' => e = .returned (.agg #[.int .i64 i, .int .i64 g, .int .i64 m, .int .i64 2, .int .u64 y]) ∧ Now w w' w0.heap.size s ((a.touch i).put i y) := by
  have HX := Lib.hid hx
  have HY := Lib.hid hy
  have HC := Lib.hid h
  have HA := Lib.hid hA
  have HL := Lib.hid hL
  have H0 := Lib.hid h0
  clear hx hy h hA hL h0
  go_enter Tryd.func8, Tryd.ntmps8
  have hD := Lib.hid (Desk.start (X := .cells #[.int .i64 i, .int .i64 g, .int .i64 m, .int .i64 1, .int .u64 x] 27 (0, 0)) (Z := .cells #[.int .i64 0, .int .i64 0, .int .i64 0, .int .i64 0, .int .u64 0] 27 (0, 0)) HA.out (Below.refl _ _))
  go_wp2_with fail
  refine (sclose_yes x m hx2 HC.out _ (hD.out.lay HL.out H0.out)).mono ?_
  rintro e w1 ⟨rfl, hb1⟩
  rw [HY.out]
  have hD1 := Lib.hid (hD.out.below hb1)
  clear hb1
  obtain ⟨c0, c1, c2, c3, c4⟩ := five_cells hD1.out.box
  go_wp2_with fail
  obtain ⟨T, hA2, hN⟩ := hD1.out.arena
  refine (swap_yes i x y _ hA2 hi HX.out hy2).mono ?_
  rintro e w3 ⟨rfl, hNow⟩
  have hD3 := Lib.hid (hN _ _ hNow)
  clear hN hNow hA2 hD1 hD c0 c1 c2 c3 c4
  obtain ⟨c0, c1, c2, c3, c4⟩ := five_cells hD3.out.box
  obtain ⟨f0, f1, f2, f3, f4⟩ := five_free hD3.out.box
  obtain ⟨r0, r1, r2, r3, r4⟩ := five_cells hD3.out.res
  obtain ⟨g0, g1, g2, g3, g4⟩ := five_free hD3.out.res
  go_wp2_with fail
  refine bodyPost_ret (results_cell_row Tryd.results8 _ _ (w.heap.size + 1) 27 _ (0, 0) _ rfl (five_laid ((hD3.out.set 4 _ rfl).set 3 _ rfl).res) Tryd.underlying27 rfl Tryd.sizeStl) rfl ⟨rfl, ((hD3.out.set 4 _ rfl).set 3 _ rfl).done (five_rest rfl)⟩

set_option maxRecDepth 100000 in
set_option maxHeartbeats 2000000 in
/-- It was changed since it was read: from the beginning. -/
theorem lstep_lost {w0 : World} {s : Spot} {a : Ar} (i : Nat) (g m : Int) (x : Nat) (y : Nat) (w : World) (hA : Arena w w0.heap.size s a) (hL : SLay w0) (h0 : Below w0.heap.size w0 w) (hi : i < a.cs.length) (hx : a.cs.getD i 0 ≠ x) (hx2 : x < 18446744073709551616) (h : Slt.Live x) (hy : Slt.word (Slt.gen x) (if min m 16777215 ≤ ((Slt.gen x : Nat) : Int) then 3 else 0) = y) :
    Calls Tryd.prog 8 #[.agg #[.int .i64 i, .int .i64 g, .int .i64 m, .int .i64 1, .int .u64 x], .pointer (some ⟨s.P, 0, none⟩)] w fun e w' => e = .returned (.agg #[.int .i64 i, .int .i64 g, .int .i64 m, .int .i64 0, .int .u64 0]) ∧ Now w w' w0.heap.size s (a.touch i) := by
  have HX := Lib.hid hx
  have HY := Lib.hid hy
  have HC := Lib.hid h
  have HA := Lib.hid hA
  have HL := Lib.hid hL
  have H0 := Lib.hid h0
  clear hx hy h hA hL h0
  go_enter Tryd.func8, Tryd.ntmps8
  have hD := Lib.hid (Desk.start (X := .cells #[.int .i64 i, .int .i64 g, .int .i64 m, .int .i64 1, .int .u64 x] 27 (0, 0)) (Z := .cells #[.int .i64 0, .int .i64 0, .int .i64 0, .int .i64 0, .int .u64 0] 27 (0, 0)) HA.out (Below.refl _ _))
  go_wp2_with fail
  refine (sclose_yes x m hx2 HC.out _ (hD.out.lay HL.out H0.out)).mono ?_
  rintro e w1 ⟨rfl, hb1⟩
  rw [HY.out]
  have hD1 := Lib.hid (hD.out.below hb1)
  clear hb1
  obtain ⟨c0, c1, c2, c3, c4⟩ := five_cells hD1.out.box
  go_wp2_with fail
  obtain ⟨T, hA2, hN⟩ := hD1.out.arena
  refine (swap_no i x y _ hA2 hi HX.out).mono ?_
  rintro e w3 ⟨rfl, hNow⟩
  have hD3 := Lib.hid (hN _ _ hNow)
  clear hN hNow hA2 hD1 hD c0 c1 c2 c3 c4
  obtain ⟨c0, c1, c2, c3, c4⟩ := five_cells hD3.out.box
  obtain ⟨f0, f1, f2, f3, f4⟩ := five_free hD3.out.box
  obtain ⟨r0, r1, r2, r3, r4⟩ := five_cells hD3.out.res
  obtain ⟨g0, g1, g2, g3, g4⟩ := five_free hD3.out.res
  go_wp2_with fail
  refine (lnew_any i g m _).mono ?_
  rintro e w4 ⟨rfl, hb4⟩
  have hD4 := Lib.hid (hD3.out.below hb4)
  clear hb4 hD3
  clear c0 c1 c2 c3 c4 f0 f1 f2 f3 f4 r0 r1 r2 r3 r4 g0 g1 g2 g3 g4
  obtain ⟨r0, r1, r2, r3, r4⟩ := five_cells hD4.out.res
  obtain ⟨g0, g1, g2, g3, g4⟩ := five_free hD4.out.res
  go_wp2_with fail
  refine bodyPost_ret (results_cell_row Tryd.results8 _ _ (w.heap.size + 1) 27 _ (0, 0) _ rfl (five_laid hD4.out.res) Tryd.underlying27 rfl Tryd.sizeStl) rfl ⟨rfl, hD4.out.done (five_rest rfl)⟩

set_option maxRecDepth 100000 in
/-- What is done stays as it is. -/
theorem lstep_done (i g m k x : Int) (q : Value) (hk : 2 ≤ k) (w : World) :
    Calls Tryd.prog 8 #[.agg #[.int .i64 i, .int .i64 g, .int .i64 m, .int .i64 k, .int .u64 x], q] w fun e w' => e = .returned (.agg #[.int .i64 i, .int .i64 g, .int .i64 m, .int .i64 k, .int .u64 x]) ∧ Below w.heap.size w w' := by
  have k0 : (k == 0) = false := by rw [beq_eq_false_iff_ne]; omega
  have k1 : (k == 1) = false := by rw [beq_eq_false_iff_ne]; omega
  clear hk
  go_enter Tryd.func8, Tryd.ntmps8
  go_wp2_with fail
  refine bodyPost_ret (results_cell_row Tryd.results8 _ _ (w.heap.size + 1) 27 _ (0, 0) _ rfl (heap_alloc2_new _ _ _) Tryd.underlying27 rfl Tryd.sizeStl) rfl ⟨rfl, below_duo5 _ _ _⟩

end Go.Proofs.YteijikcggflaoaaDoor
