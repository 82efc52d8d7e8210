/- What a step of a sending comes to: into a ring that may not be, or when it is done; its turn is read; its place is looked at. -/
import Derived.Test.YtieehpajkidbcaaSndA
import Derived.Test.YtieehpajkidbcaaRngD
import Derived.Test.YtieehpajkidbcaaDesk
import Derived.StillTailTactics
namespace Go.Proofs.Ytieehpajkidbcaa
open Go.RowKit
attribute [local go_sem ↓] Go.wp_at_zero Go.wp_at_succ

/-- The nine cells of what was handed in are there behind the answer's nine. -/
theorem nine_past {w wk : World} {B : Nat} {s : Spot} {a : Ar} {Z : Obj} {t : TypeId} {c0 c1 c2 c3 c4 c5 c6 c7 c8 d0 d1 d2 d3 d4 d5 d6 d7 d8 : Value} (h : Desk w wk B s a (.cells #[c0, c1, c2, c3, c4, c5, c6, c7, c8] t (0, 0)) Z) {wn : World}
    (e : wn = (((((((((wk.setCell ⟨w.heap.size + 1, 0, none⟩ d0).setCell ⟨w.heap.size + 1, 1, none⟩ d1).setCell ⟨w.heap.size + 1, 2, none⟩ d2).setCell ⟨w.heap.size + 1, 3, none⟩ d3).setCell ⟨w.heap.size + 1, 4, none⟩ d4).setCell ⟨w.heap.size + 1, 5, none⟩ d5).setCell ⟨w.heap.size + 1, 6, none⟩ d6).setCell ⟨w.heap.size + 1, 7, none⟩ d7).setCell ⟨w.heap.size + 1, 8, none⟩ d8)) :
    wn.cell? ⟨w.heap.size, 0, none⟩ = some c0 ∧ wn.cell? ⟨w.heap.size, 1, none⟩ = some c1 ∧ wn.cell? ⟨w.heap.size, 2, none⟩ = some c2 ∧ wn.cell? ⟨w.heap.size, 3, none⟩ = some c3 ∧ wn.cell? ⟨w.heap.size, 4, none⟩ = some c4 ∧ wn.cell? ⟨w.heap.size, 5, none⟩ = some c5 ∧ wn.cell? ⟨w.heap.size, 6, none⟩ = some c6 ∧ wn.cell? ⟨w.heap.size, 7, none⟩ = some c7 ∧ wn.cell? ⟨w.heap.size, 8, none⟩ = some c8 := by
  subst e
  exact nine_cells (((nine_rest (own := fun k => k = w.heap.size + 1) rfl).block _ (by have := h.lt; omega) (by simp)).trans h.box)

set_option maxRecDepth 100000 in
/-- Into a ring that may not be. -/
theorem sstep_bad (b p x y z t k j : Int) (l : Bool) (q : Value) (h : ¬ Rg.May b p) (hb : -9223372036854775808 ≤ b ∧ b ≤ 9223372036854775807) (w : World) :
    Calls Try.prog 20 #[.agg #[.int .i64 b, .int .i64 p, .int .u64 x, .int .u64 y, .int .u64 z, .bool l, .int .u64 t, .int .i64 k, .int .i64 j], q] w fun e w' => e = .returned (.agg #[.int .i64 b, .int .i64 p, .int .u64 x, .int .u64 y, .int .u64 z, .bool l, .int .u64 t, .int .i64 6, .int .i64 j]) ∧ Below w.heap.size w w' := by
  have H := Lib.hid h
  have HB0 := Lib.hid hb
  clear h hb
  go_enter Try.func20, Try.ntmps20
  go_wp2_with fail
  refine (rgmay_no b p H.out HB0.out _).mono ?_
  rintro e w1 ⟨rfl, hb1⟩
  obtain ⟨hx, hr, hb⟩ := duo_kept hb1
  obtain ⟨c0, c1, c2, c3, c4, c5, c6, c7, c8⟩ := nine_cells hx
  obtain ⟨-, -, -, -, -, -, -, f7, -⟩ := nine_free hx
  obtain ⟨r0, r1, r2, r3, r4, r5, r6, r7, r8⟩ := nine_cells hr
  obtain ⟨g0, g1, g2, g3, g4, g5, g6, g7, g8⟩ := nine_free hr
  have HR := Lib.hid hr
  have HB := Lib.hid hb
  clear hr hb hb1 hx
  go_wp2_with fail
  refine bodyPost_ret (results_cell_row Try.results20 _ _ (w.heap.size + 1) 36 _ (0, 0) _ rfl (nine_laid (by rw [heap_setCell_other _ _ _ _ (by simp)]; exact HR.out)) Try.underlying36 rfl Try.sizeTask) rfl ⟨rfl, nine_below (HB.out.setCell (by simp) _) (by simp)⟩

set_option maxRecDepth 100000 in
/-- What is done stays as it is. -/
theorem sstep_done (b p : Nat) (x y z t k j : Int) (l : Bool) (q : Value) (h : Rg.Ok b p) (hk : 5 ≤ k) (w : World) :
    Calls Try.prog 20 #[.agg #[.int .i64 b, .int .i64 p, .int .u64 x, .int .u64 y, .int .u64 z, .bool l, .int .u64 t, .int .i64 k, .int .i64 j], q] w fun e w' => e = .returned (.agg #[.int .i64 b, .int .i64 p, .int .u64 x, .int .u64 y, .int .u64 z, .bool l, .int .u64 t, .int .i64 k, .int .i64 j]) ∧ Below w.heap.size w w' := by
  have H := Lib.hid h
  have k0 : (k == 0) = false := by rw [beq_eq_false_iff_ne]; omega
  have k1 : (k == 1) = false := by rw [beq_eq_false_iff_ne]; omega
  have k2 : (k == 2) = false := by rw [beq_eq_false_iff_ne]; omega
  have k3 : (k == 3) = false := by rw [beq_eq_false_iff_ne]; omega
  have k4 : (k == 4) = false := by rw [beq_eq_false_iff_ne]; omega
  clear h hk
  go_enter Try.func20, Try.ntmps20
  go_wp2_with fail
  refine (rgmay_yes b p H.out _).mono ?_
  rintro e w1 ⟨rfl, hb1⟩
  obtain ⟨hx, hr, hb⟩ := duo_kept hb1
  obtain ⟨c0, c1, c2, c3, c4, c5, c6, c7, c8⟩ := nine_cells hx
  obtain ⟨r0, r1, r2, r3, r4, r5, r6, r7, r8⟩ := nine_cells hr
  obtain ⟨g0, g1, g2, g3, g4, g5, g6, g7, g8⟩ := nine_free hr
  have HR := Lib.hid hr
  have HB := Lib.hid hb
  clear hr hb hb1 hx
  go_wp2_with fail
  refine bodyPost_ret (results_cell_row Try.results20 _ _ (w.heap.size + 1) 36 _ (0, 0) _ rfl (nine_laid HR.out) Try.underlying36 rfl Try.sizeTask) rfl ⟨rfl, nine_below HB.out (by simp)⟩

set_option maxRecDepth 100000 in
set_option maxHeartbeats 2000000 in
/-- Its turn is read. -/
theorem sstep_read {B : Nat} {s : Spot} {a : Ar} (b p v : Nat) (x y z t j : Int) (l : Bool) (h : Rg.Ok b p) (w : World) (hA : Arena w B s a) (hl : b + 1 + 4 * p ≤ a.cs.length) (hv : a.cs.getD b 0 = v) :
    Calls Try.prog 20 #[.agg #[.int .i64 b, .int .i64 p, .int .u64 x, .int .u64 y, .int .u64 z, .bool l, .int .u64 t, .int .i64 0, .int .i64 j], .pointer (some ⟨s.P, 0, none⟩)] w fun e w' => e = .returned (.agg #[.int .i64 b, .int .i64 p, .int .u64 x, .int .u64 y, .int .u64 z, .bool l, .int .u64 v, .int .i64 1, .int .i64 j]) ∧ Now w w' B s (a.touch b) := by
  have HV := Lib.hid hv
  clear hv
  have hlt : b < a.cs.length := by have := h.pos; omega
  have H := Lib.hid h
  have HA := Lib.hid hA
  clear h hA
  go_enter Try.func20, Try.ntmps20
  go_wp2_with fail
  refine (rgmay_yes b p H.out _).mono ?_
  rintro e w1 ⟨rfl, hb1⟩
  have hD := Lib.hid (Desk.start HA.out hb1)
  obtain ⟨c0, c1, c2, c3, c4, c5, c6, c7, c8⟩ := nine_cells hD.out.box
  clear hb1
  go_wp2_with fail
  refine (tail_yes b p H.out _).mono ?_
  rintro e w2 ⟨rfl, hb2⟩
  have hD2 := Lib.hid (hD.out.below hb2)
  clear c0 c1 c2 c3 c4 c5 c6 c7 c8 hb2 hD
  go_wp2_with fail
  obtain ⟨T, hA2, hN⟩ := hD2.out.arena
  refine (read_in b _ hA2 hlt).mono ?_
  rintro e w3 ⟨rfl, hNow⟩
  rw [HV.out]
  have hD3 := Lib.hid (hN _ _ hNow)
  clear hN hNow hA2 hD2
  obtain ⟨c0, c1, c2, c3, c4, c5, c6, c7, c8⟩ := nine_cells hD3.out.box
  obtain ⟨f0, f1, f2, f3, f4, f5, f6, f7, f8⟩ := nine_free hD3.out.box
  obtain ⟨r0, r1, r2, r3, r4, r5, r6, r7, r8⟩ := nine_cells hD3.out.res
  obtain ⟨g0, g1, g2, g3, g4, g5, g6, g7, g8⟩ := nine_free hD3.out.res
  go_wp2_with fail
  refine bodyPost_ret (results_cell_row Try.results20 _ _ (w.heap.size + 1) 36 _ (0, 0) _ rfl (nine_laid ((hD3.out.set 6 _ rfl).set 7 _ rfl).res) Try.underlying36 rfl Try.sizeTask) rfl ⟨rfl, ((hD3.out.set 6 _ rfl).set 7 _ rfl).done (nine_rest rfl)⟩

set_option maxRecDepth 100000 in
set_option maxHeartbeats 2000000 in
/-- Its place is empty. -/
theorem sstep_open {B : Nat} {s : Spot} {a : Ar} (b p t : Nat) (x y z j : Int) (h : Rg.Ok b p) (w : World) (hA : Arena w B s a) (hl : b + 1 + 4 * p ≤ a.cs.length) (ht : t < 18446744073709551616) (hv : a.cs.getD (Rg.stand b p t) 0 = t) :
    Calls Try.prog 20 #[.agg #[.int .i64 b, .int .i64 p, .int .u64 x, .int .u64 y, .int .u64 z, .bool false, .int .u64 t, .int .i64 1, .int .i64 j], .pointer (some ⟨s.P, 0, none⟩)] w fun e w' => e = .returned (.agg #[.int .i64 b, .int .i64 p, .int .u64 x, .int .u64 y, .int .u64 z, .bool false, .int .u64 t, .int .i64 2, .int .i64 j]) ∧ Now w w' B s (a.touch (Rg.stand b p t)) := by
  have hlt : Rg.stand b p t < a.cs.length := by have := h.pos; have := Rg.stand_lt h t; omega
  have HV := Lib.hid hv
  clear hv
  have H := Lib.hid h
  have HA := Lib.hid hA
  clear h hA
  go_enter Try.func20, Try.ntmps20
  go_wp2_with fail
  refine (rgmay_yes b p H.out _).mono ?_
  rintro e w1 ⟨rfl, hb1⟩
  have hD := Lib.hid (Desk.start HA.out hb1)
  obtain ⟨c0, c1, c2, c3, c4, c5, c6, c7, c8⟩ := nine_cells hD.out.box
  clear hb1
  go_wp2_with fail
  have hk1 := nine_cells hD.out.drew.box
  go_region_held3 (fun w' => w'.cell? ⟨w.heap.size, 0, none⟩ = some (.int .i64 b) ∧ w'.cell? ⟨w.heap.size, 1, none⟩ = some (.int .i64 p) ∧ w'.cell? ⟨w.heap.size, 2, none⟩ = some (.int .u64 x) ∧ w'.cell? ⟨w.heap.size, 3, none⟩ = some (.int .u64 y) ∧ w'.cell? ⟨w.heap.size, 4, none⟩ = some (.int .u64 z) ∧ w'.cell? ⟨w.heap.size, 5, none⟩ = some (.bool false) ∧ w'.cell? ⟨w.heap.size, 6, none⟩ = some (.int .u64 t) ∧ w'.cell? ⟨w.heap.size, 7, none⟩ = some (.int .i64 1) ∧ w'.cell? ⟨w.heap.size, 8, none⟩ = some (.int .i64 j))
    (first | with_reducible assumption | with_reducible exact nine_past hD4.out rfl)
    (first
      | (go_at_call 27; refine (stand_yes b p t H.out ht _).mono ?_; rintro e w2 ⟨rfl, hb2⟩; have hD2 := Lib.hid (hD.out.drew.below hb2); have hk2 := nine_cells hD2.out.box; clear hb2)
      | (go_at_call 30; obtain ⟨T, hA2, hN⟩ := hD2.out.arena; refine (read_in (Rg.stand b p t) _ hA2 hlt).mono ?_; rintro e w3 ⟨rfl, hNow⟩; rw [HV.out]; have hD3 := Lib.hid (hN _ _ hNow); have hk3 := nine_cells hD3.out.box; clear hN hNow hA2)
      | (go_at_call 31; refine (sfound_open b p x y z t 1 j _).mono ?_; rintro e w4 ⟨rfl, hb4⟩; have hD4 := Lib.hid (hD3.out.below hb4); have hk4 := nine_cells hD4.out.box; obtain ⟨r0, r1, r2, r3, r4, r5, r6, r7, r8⟩ := nine_cells hD4.out.res; obtain ⟨g0, g1, g2, g3, g4, g5, g6, g7, g8⟩ := nine_free hD4.out.res; clear hb4))
  go_wp2_with fail
  refine bodyPost_ret (results_cell_row Try.results20 _ _ (w.heap.size + 1) 36 _ (0, 0) _ rfl (nine_laid hD4.out.res) Try.underlying36 rfl Try.sizeTask) rfl ⟨rfl, hD4.out.done (nine_rest rfl)⟩

set_option maxRecDepth 100000 in
set_option maxHeartbeats 2000000 in
/-- .. for a lone one. -/
theorem sstep_lone {B : Nat} {s : Spot} {a : Ar} (b p t : Nat) (x y z j : Int) (h : Rg.Ok b p) (w : World) (hA : Arena w B s a) (hl : b + 1 + 4 * p ≤ a.cs.length) (ht : t < 18446744073709551616) (hv : a.cs.getD (Rg.stand b p t) 0 = t) :
    Calls Try.prog 20 #[.agg #[.int .i64 b, .int .i64 p, .int .u64 x, .int .u64 y, .int .u64 z, .bool true, .int .u64 t, .int .i64 1, .int .i64 j], .pointer (some ⟨s.P, 0, none⟩)] w fun e w' => e = .returned (.agg #[.int .i64 b, .int .i64 p, .int .u64 x, .int .u64 y, .int .u64 z, .bool true, .int .u64 t, .int .i64 3, .int .i64 j]) ∧ Now w w' B s (a.touch (Rg.stand b p t)) := by
  have hlt : Rg.stand b p t < a.cs.length := by have := h.pos; have := Rg.stand_lt h t; omega
  have HV := Lib.hid hv
  clear hv
  have H := Lib.hid h
  have HA := Lib.hid hA
  clear h hA
  go_enter Try.func20, Try.ntmps20
  go_wp2_with fail
  refine (rgmay_yes b p H.out _).mono ?_
  rintro e w1 ⟨rfl, hb1⟩
  have hD := Lib.hid (Desk.start HA.out hb1)
  obtain ⟨c0, c1, c2, c3, c4, c5, c6, c7, c8⟩ := nine_cells hD.out.box
  clear hb1
  go_wp2_with fail
  have hk1 := nine_cells hD.out.drew.box
  go_region_held3 (fun w' => w'.cell? ⟨w.heap.size, 0, none⟩ = some (.int .i64 b) ∧ w'.cell? ⟨w.heap.size, 1, none⟩ = some (.int .i64 p) ∧ w'.cell? ⟨w.heap.size, 2, none⟩ = some (.int .u64 x) ∧ w'.cell? ⟨w.heap.size, 3, none⟩ = some (.int .u64 y) ∧ w'.cell? ⟨w.heap.size, 4, none⟩ = some (.int .u64 z) ∧ w'.cell? ⟨w.heap.size, 5, none⟩ = some (.bool true) ∧ w'.cell? ⟨w.heap.size, 6, none⟩ = some (.int .u64 t) ∧ w'.cell? ⟨w.heap.size, 7, none⟩ = some (.int .i64 1) ∧ w'.cell? ⟨w.heap.size, 8, none⟩ = some (.int .i64 j))
    (first | with_reducible assumption | with_reducible exact nine_past hD4.out rfl)
    (first
      | (go_at_call 27; refine (stand_yes b p t H.out ht _).mono ?_; rintro e w2 ⟨rfl, hb2⟩; have hD2 := Lib.hid (hD.out.drew.below hb2); have hk2 := nine_cells hD2.out.box; clear hb2)
      | (go_at_call 30; obtain ⟨T, hA2, hN⟩ := hD2.out.arena; refine (read_in (Rg.stand b p t) _ hA2 hlt).mono ?_; rintro e w3 ⟨rfl, hNow⟩; rw [HV.out]; have hD3 := Lib.hid (hN _ _ hNow); have hk3 := nine_cells hD3.out.box; clear hN hNow hA2)
      | (go_at_call 31; refine (sfound_lone b p x y z t 1 j _).mono ?_; rintro e w4 ⟨rfl, hb4⟩; have hD4 := Lib.hid (hD3.out.below hb4); have hk4 := nine_cells hD4.out.box; obtain ⟨r0, r1, r2, r3, r4, r5, r6, r7, r8⟩ := nine_cells hD4.out.res; obtain ⟨g0, g1, g2, g3, g4, g5, g6, g7, g8⟩ := nine_free hD4.out.res; clear hb4))
  go_wp2_with fail
  refine bodyPost_ret (results_cell_row Try.results20 _ _ (w.heap.size + 1) 36 _ (0, 0) _ rfl (nine_laid hD4.out.res) Try.underlying36 rfl Try.sizeTask) rfl ⟨rfl, hD4.out.done (nine_rest rfl)⟩

set_option maxRecDepth 100000 in
set_option maxHeartbeats 2000000 in
/-- It stands below the turn. -/
theorem sstep_below {B : Nat} {s : Spot} {a : Ar} (b p t v : Nat) (x y z j : Int) (l : Bool) (h : Rg.Ok b p) (w : World) (hA : Arena w B s a) (hl : b + 1 + 4 * p ≤ a.cs.length) (ht : t < 18446744073709551616) (hv : a.cs.getD (Rg.stand b p t) 0 = v) (hvt : v < t) :
    Calls Try.prog 20 #[.agg #[.int .i64 b, .int .i64 p, .int .u64 x, .int .u64 y, .int .u64 z, .bool l, .int .u64 t, .int .i64 1, .int .i64 j], .pointer (some ⟨s.P, 0, none⟩)] w fun e w' => e = .returned (.agg #[.int .i64 b, .int .i64 p, .int .u64 x, .int .u64 y, .int .u64 z, .bool l, .int .u64 t, .int .i64 6, .int .i64 j]) ∧ Now w w' B s (a.touch (Rg.stand b p t)) := by
  have hlt : Rg.stand b p t < a.cs.length := by have := h.pos; have := Rg.stand_lt h t; omega
  have HV := Lib.hid hv
  clear hv
  have H := Lib.hid h
  have HA := Lib.hid hA
  clear h hA
  go_enter Try.func20, Try.ntmps20
  go_wp2_with fail
  refine (rgmay_yes b p H.out _).mono ?_
  rintro e w1 ⟨rfl, hb1⟩
  have hD := Lib.hid (Desk.start HA.out hb1)
  obtain ⟨c0, c1, c2, c3, c4, c5, c6, c7, c8⟩ := nine_cells hD.out.box
  clear hb1
  go_wp2_with fail
  have hk1 := nine_cells hD.out.drew.box
  go_region_held3 (fun w' => w'.cell? ⟨w.heap.size, 0, none⟩ = some (.int .i64 b) ∧ w'.cell? ⟨w.heap.size, 1, none⟩ = some (.int .i64 p) ∧ w'.cell? ⟨w.heap.size, 2, none⟩ = some (.int .u64 x) ∧ w'.cell? ⟨w.heap.size, 3, none⟩ = some (.int .u64 y) ∧ w'.cell? ⟨w.heap.size, 4, none⟩ = some (.int .u64 z) ∧ w'.cell? ⟨w.heap.size, 5, none⟩ = some (.bool l) ∧ w'.cell? ⟨w.heap.size, 6, none⟩ = some (.int .u64 t) ∧ w'.cell? ⟨w.heap.size, 7, none⟩ = some (.int .i64 1) ∧ w'.cell? ⟨w.heap.size, 8, none⟩ = some (.int .i64 j))
    (first | with_reducible assumption | with_reducible exact nine_past hD4.out rfl)
    (first
      | (go_at_call 27; refine (stand_yes b p t H.out ht _).mono ?_; rintro e w2 ⟨rfl, hb2⟩; have hD2 := Lib.hid (hD.out.drew.below hb2); have hk2 := nine_cells hD2.out.box; clear hb2)
      | (go_at_call 30; obtain ⟨T, hA2, hN⟩ := hD2.out.arena; refine (read_in (Rg.stand b p t) _ hA2 hlt).mono ?_; rintro e w3 ⟨rfl, hNow⟩; rw [HV.out]; have hD3 := Lib.hid (hN _ _ hNow); have hk3 := nine_cells hD3.out.box; clear hN hNow hA2)
      | (go_at_call 31; refine (sfound_below b p x y z t 1 j v l (by omega) _).mono ?_; rintro e w4 ⟨rfl, hb4⟩; have hD4 := Lib.hid (hD3.out.below hb4); have hk4 := nine_cells hD4.out.box; obtain ⟨r0, r1, r2, r3, r4, r5, r6, r7, r8⟩ := nine_cells hD4.out.res; obtain ⟨g0, g1, g2, g3, g4, g5, g6, g7, g8⟩ := nine_free hD4.out.res; clear hb4))
  go_wp2_with fail
  refine bodyPost_ret (results_cell_row Try.results20 _ _ (w.heap.size + 1) 36 _ (0, 0) _ rfl (nine_laid hD4.out.res) Try.underlying36 rfl Try.sizeTask) rfl ⟨rfl, hD4.out.done (nine_rest rfl)⟩

set_option maxRecDepth 100000 in
set_option maxHeartbeats 2000000 in
/-- It stands above the turn of a lone one. -/
theorem sstep_past {B : Nat} {s : Spot} {a : Ar} (b p t v : Nat) (x y z j : Int) (h : Rg.Ok b p) (w : World) (hA : Arena w B s a) (hl : b + 1 + 4 * p ≤ a.cs.length) (ht : t < 18446744073709551616) (hv : a.cs.getD (Rg.stand b p t) 0 = v) (hvt : t < v) :
    Calls Try.prog 20 #[.agg #[.int .i64 b, .int .i64 p, .int .u64 x, .int .u64 y, .int .u64 z, .bool true, .int .u64 t, .int .i64 1, .int .i64 j], .pointer (some ⟨s.P, 0, none⟩)] w fun e w' => e = .returned (.agg #[.int .i64 b, .int .i64 p, .int .u64 x, .int .u64 y, .int .u64 z, .bool true, .int .u64 t, .int .i64 6, .int .i64 j]) ∧ Now w w' B s (a.touch (Rg.stand b p t)) := by
  have hlt : Rg.stand b p t < a.cs.length := by have := h.pos; have := Rg.stand_lt h t; omega
  have HV := Lib.hid hv
  clear hv
  have H := Lib.hid h
  have HA := Lib.hid hA
  clear h hA
  go_enter Try.func20, Try.ntmps20
  go_wp2_with fail
  refine (rgmay_yes b p H.out _).mono ?_
  rintro e w1 ⟨rfl, hb1⟩
  have hD := Lib.hid (Desk.start HA.out hb1)
  obtain ⟨c0, c1, c2, c3, c4, c5, c6, c7, c8⟩ := nine_cells hD.out.box
  clear hb1
  go_wp2_with fail
  have hk1 := nine_cells hD.out.drew.box
  go_region_held3 (fun w' => w'.cell? ⟨w.heap.size, 0, none⟩ = some (.int .i64 b) ∧ w'.cell? ⟨w.heap.size, 1, none⟩ = some (.int .i64 p) ∧ w'.cell? ⟨w.heap.size, 2, none⟩ = some (.int .u64 x) ∧ w'.cell? ⟨w.heap.size, 3, none⟩ = some (.int .u64 y) ∧ w'.cell? ⟨w.heap.size, 4, none⟩ = some (.int .u64 z) ∧ w'.cell? ⟨w.heap.size, 5, none⟩ = some (.bool true) ∧ w'.cell? ⟨w.heap.size, 6, none⟩ = some (.int .u64 t) ∧ w'.cell? ⟨w.heap.size, 7, none⟩ = some (.int .i64 1) ∧ w'.cell? ⟨w.heap.size, 8, none⟩ = some (.int .i64 j))
    (first | with_reducible assumption | with_reducible exact nine_past hD4.out rfl)
    (first
      | (go_at_call 27; refine (stand_yes b p t H.out ht _).mono ?_; rintro e w2 ⟨rfl, hb2⟩; have hD2 := Lib.hid (hD.out.drew.below hb2); have hk2 := nine_cells hD2.out.box; clear hb2)
      | (go_at_call 30; obtain ⟨T, hA2, hN⟩ := hD2.out.arena; refine (read_in (Rg.stand b p t) _ hA2 hlt).mono ?_; rintro e w3 ⟨rfl, hNow⟩; rw [HV.out]; have hD3 := Lib.hid (hN _ _ hNow); have hk3 := nine_cells hD3.out.box; clear hN hNow hA2)
      | (go_at_call 31; refine (sfound_past b p x y z t 1 j v (by omega) _).mono ?_; rintro e w4 ⟨rfl, hb4⟩; have hD4 := Lib.hid (hD3.out.below hb4); have hk4 := nine_cells hD4.out.box; obtain ⟨r0, r1, r2, r3, r4, r5, r6, r7, r8⟩ := nine_cells hD4.out.res; obtain ⟨g0, g1, g2, g3, g4, g5, g6, g7, g8⟩ := nine_free hD4.out.res; clear hb4))
  go_wp2_with fail
  refine bodyPost_ret (results_cell_row Try.results20 _ _ (w.heap.size + 1) 36 _ (0, 0) _ rfl (nine_laid hD4.out.res) Try.underlying36 rfl Try.sizeTask) rfl ⟨rfl, hD4.out.done (nine_rest rfl)⟩

set_option maxRecDepth 100000 in
set_option maxHeartbeats 2000000 in
/-- It stands above the turn. -/
theorem sstep_over {B : Nat} {s : Spot} {a : Ar} (b p t v : Nat) (x y z j : Int) (h : Rg.Ok b p) (w : World) (hA : Arena w B s a) (hl : b + 1 + 4 * p ≤ a.cs.length) (ht : t < 18446744073709551616) (hv : a.cs.getD (Rg.stand b p t) 0 = v) (hvt : t < v) :
    Calls Try.prog 20 #[.agg #[.int .i64 b, .int .i64 p, .int .u64 x, .int .u64 y, .int .u64 z, .bool false, .int .u64 t, .int .i64 1, .int .i64 j], .pointer (some ⟨s.P, 0, none⟩)] w fun e w' => e = .returned (.agg #[.int .i64 b, .int .i64 p, .int .u64 x, .int .u64 y, .int .u64 z, .bool false, .int .u64 0, .int .i64 0, .int .i64 0]) ∧ Now w w' B s (a.touch (Rg.stand b p t)) := by
  have hlt : Rg.stand b p t < a.cs.length := by have := h.pos; have := Rg.stand_lt h t; omega
  have HV := Lib.hid hv
  clear hv
  have H := Lib.hid h
  have HA := Lib.hid hA
  clear h hA
  go_enter Try.func20, Try.ntmps20
  go_wp2_with fail
  refine (rgmay_yes b p H.out _).mono ?_
  rintro e w1 ⟨rfl, hb1⟩
  have hD := Lib.hid (Desk.start HA.out hb1)
  obtain ⟨c0, c1, c2, c3, c4, c5, c6, c7, c8⟩ := nine_cells hD.out.box
  clear hb1
  go_wp2_with fail
  have hk1 := nine_cells hD.out.drew.box
  go_region_held3 (fun w' => w'.cell? ⟨w.heap.size, 0, none⟩ = some (.int .i64 b) ∧ w'.cell? ⟨w.heap.size, 1, none⟩ = some (.int .i64 p) ∧ w'.cell? ⟨w.heap.size, 2, none⟩ = some (.int .u64 x) ∧ w'.cell? ⟨w.heap.size, 3, none⟩ = some (.int .u64 y) ∧ w'.cell? ⟨w.heap.size, 4, none⟩ = some (.int .u64 z) ∧ w'.cell? ⟨w.heap.size, 5, none⟩ = some (.bool false) ∧ w'.cell? ⟨w.heap.size, 6, none⟩ = some (.int .u64 t) ∧ w'.cell? ⟨w.heap.size, 7, none⟩ = some (.int .i64 1) ∧ w'.cell? ⟨w.heap.size, 8, none⟩ = some (.int .i64 j))
    (first | with_reducible assumption | with_reducible exact nine_past hD4.out rfl)
    (first
      | (go_at_call 27; refine (stand_yes b p t H.out ht _).mono ?_; rintro e w2 ⟨rfl, hb2⟩; have hD2 := Lib.hid (hD.out.drew.below hb2); have hk2 := nine_cells hD2.out.box; clear hb2)
      | (go_at_call 30; obtain ⟨T, hA2, hN⟩ := hD2.out.arena; refine (read_in (Rg.stand b p t) _ hA2 hlt).mono ?_; rintro e w3 ⟨rfl, hNow⟩; rw [HV.out]; have hD3 := Lib.hid (hN _ _ hNow); have hk3 := nine_cells hD3.out.box; clear hN hNow hA2)
      | (go_at_call 31; refine (sfound_over b p x y z t 1 j v (by omega) _).mono ?_; rintro e w4 ⟨rfl, hb4⟩; have hD4 := Lib.hid (hD3.out.below hb4); have hk4 := nine_cells hD4.out.box; obtain ⟨r0, r1, r2, r3, r4, r5, r6, r7, r8⟩ := nine_cells hD4.out.res; obtain ⟨g0, g1, g2, g3, g4, g5, g6, g7, g8⟩ := nine_free hD4.out.res; clear hb4))
  go_wp2_with fail
  refine bodyPost_ret (results_cell_row Try.results20 _ _ (w.heap.size + 1) 36 _ (0, 0) _ rfl (nine_laid hD4.out.res) Try.underlying36 rfl Try.sizeTask) rfl ⟨rfl, hD4.out.done (nine_rest rfl)⟩

end Go.Proofs.Ytieehpajkidbcaa
