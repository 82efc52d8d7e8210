/- What a step of a fetching comes to: of a ring that may not be, or when it is done; how its place stands; a word is read; there is room again. -/
import Derived.Test.YtieehpajkidbcaaFchA
import Derived.Test.YtieehpajkidbcaaRngD
import Derived.StillTailTactics
namespace Go.Proofs.Ytieehpajkidbcaa
open Go.RowKit
attribute [local go_sem ↓] Go.wp_at_zero Go.wp_at_succ

/-- The turn of a place in the next round. -/
def Rg.over (p t : Nat) : Nat := (t + p) % 18446744073709551616
theorem Rg.over_wrap (p t : Nat) : IntKind.u64.wrap ((t : Int) + (p : Int)) = (Rg.over p t : Nat) := by
  simp only [IntKind.wrap, IntKind.bits, IntKind.signed, Rg.over]
  simp
theorem Rg.over_lt (p t : Nat) : Rg.over p t < 18446744073709551616 := by unfold Rg.over; omega
/-- The turn behind a turn. -/
theorem Rg.behind_wrap (t : Nat) : IntKind.u64.wrap ((t : Int) + 1) = ((t + 1) % 18446744073709551616 : Nat) := by
  simp [IntKind.wrap, IntKind.bits, IntKind.signed]

set_option maxRecDepth 100000 in
/-- Of a ring that may not be. -/
theorem ftstep_bad (b p t k j x y z : Int) (q : Value) (h : ¬ Rg.May b p) (hb : -9223372036854775808 ≤ b ∧ b ≤ 9223372036854775807) (w : World) :
    Calls Try.prog 21 #[.agg #[.int .i64 b, .int .i64 p, .int .u64 t, .int .i64 k, .int .i64 j, .int .u64 x, .int .u64 y, .int .u64 z], q] w fun e w' => e = .returned (.agg #[.int .i64 b, .int .i64 p, .int .u64 t, .int .i64 4, .int .i64 j, .int .u64 x, .int .u64 y, .int .u64 z]) ∧ Below w.heap.size w w' := by
  have H := Lib.hid h
  have HB0 := Lib.hid hb
  clear h hb
  go_enter Try.func21, Try.ntmps21
  go_wp2_with fail
  refine (rgmay_no b p H.out HB0.out _).mono ?_
  rintro e w1 ⟨rfl, hb1⟩
  obtain ⟨hx, hr, hb⟩ := duo_kept hb1
  obtain ⟨c0, c1, c2, c3, c4, c5, c6, c7⟩ := eight_cells hx
  obtain ⟨-, -, -, f3, -⟩ := eight_free hx
  obtain ⟨r0, r1, r2, r3, r4, r5, r6, r7⟩ := eight_cells hr
  obtain ⟨g0, g1, g2, g3, g4, g5, g6, g7⟩ := eight_free hr
  have HR := Lib.hid hr
  have HB := Lib.hid hb
  clear hr hb hb1 hx
  go_wp2_with fail
  refine bodyPost_ret (results_cell_row Try.results21 _ _ (w.heap.size + 1) 43 _ (0, 0) _ rfl (eight_laid (by rw [heap_setCell_other _ _ _ _ (by simp)]; exact HR.out)) Try.underlying43 rfl Try.sizeFch) rfl ⟨rfl, eight_below (HB.out.setCell (by simp) _) (by simp)⟩

set_option maxRecDepth 100000 in
/-- What is done stays as it is. -/
theorem ftstep_done (b p : Nat) (t k j x y z : Int) (q : Value) (h : Rg.Ok b p) (hk : 3 ≤ k) (w : World) :
    Calls Try.prog 21 #[.agg #[.int .i64 b, .int .i64 p, .int .u64 t, .int .i64 k, .int .i64 j, .int .u64 x, .int .u64 y, .int .u64 z], q] w fun e w' => e = .returned (.agg #[.int .i64 b, .int .i64 p, .int .u64 t, .int .i64 k, .int .i64 j, .int .u64 x, .int .u64 y, .int .u64 z]) ∧ Below w.heap.size w w' := by
  have H := Lib.hid h
  have k0 : (k == 0) = false := by rw [beq_eq_false_iff_ne]; omega
  have k1 : (k == 1) = false := by rw [beq_eq_false_iff_ne]; omega
  have k2 : (k == 2) = false := by rw [beq_eq_false_iff_ne]; omega
  clear h hk
  go_enter Try.func21, Try.ntmps21
  go_wp2_with fail
  refine (rgmay_yes b p H.out _).mono ?_
  rintro e w1 ⟨rfl, hb1⟩
  obtain ⟨hx, hr, hb⟩ := duo_kept hb1
  obtain ⟨c0, c1, c2, c3, c4, c5, c6, c7⟩ := eight_cells hx
  obtain ⟨r0, r1, r2, r3, r4, r5, r6, r7⟩ := eight_cells hr
  obtain ⟨g0, g1, g2, g3, g4, g5, g6, g7⟩ := eight_free hr
  have HR := Lib.hid hr
  have HB := Lib.hid hb
  clear hr hb hb1 hx
  go_wp2_with fail
  refine bodyPost_ret (results_cell_row Try.results21 _ _ (w.heap.size + 1) 43 _ (0, 0) _ rfl (eight_laid HR.out) Try.underlying43 rfl Try.sizeFch) rfl ⟨rfl, eight_below HB.out (by simp)⟩

set_option maxRecDepth 100000 in
set_option maxHeartbeats 2000000 in
/-- Its frame is there. -/
theorem ftstep_there {B : Nat} {s : Spot} {a : Ar} (b p t v : Nat) (j x y z : Int) (h : Rg.Ok b p) (w : World) (hA : Arena w B s a) (hl : b + 1 + 4 * p ≤ a.cs.length) (ht : t < 18446744073709551616) (hv : a.cs.getD (Rg.stand b p t) 0 = v) (hvt : v = (t + 1) % 18446744073709551616) :
    Calls Try.prog 21 #[.agg #[.int .i64 b, .int .i64 p, .int .u64 t, .int .i64 0, .int .i64 j, .int .u64 x, .int .u64 y, .int .u64 z], .pointer (some ⟨s.P, 0, none⟩)] w fun e w' => e = .returned (.agg #[.int .i64 b, .int .i64 p, .int .u64 t, .int .i64 1, .int .i64 j, .int .u64 x, .int .u64 y, .int .u64 z]) ∧ Now w w' B s (a.touch (Rg.stand b p t)) := by
  have hlt : Rg.stand b p t < a.cs.length := by have := h.pos; have := Rg.stand_lt h t; omega
  have HV := Lib.hid hv
  have hw : IntKind.u64.wrap ((t : Int) + 1) = ((t + 1) % 18446744073709551616 : Nat) := Rg.behind_wrap t
  generalize (t + 1) % 18446744073709551616 = n at *
  have hE : ((v : Int) == (n : Int)) = true := by rw [beq_iff_eq, hvt]
  clear hv hvt
  have H := Lib.hid h
  have HA := Lib.hid hA
  clear h hA
  go_enter Try.func21, Try.ntmps21
  go_wp2_with fail
  refine (rgmay_yes b p H.out _).mono ?_
  rintro e w1 ⟨rfl, hb1⟩
  have hD0 := Lib.hid (Desk.start HA.out hb1)
  obtain ⟨c0, c1, c2, c3, c4, c5, c6, c7⟩ := eight_cells hD0.out.box
  obtain ⟨f0, f1, f2, f3, f4, f5, f6, f7⟩ := eight_free hD0.out.box
  clear hb1
  go_wp2_with fail
  have hD := Lib.hid (hD0.out.set 3 (.int .i64 4) rfl)
  have hk1 := eight_cells hD.out.drew.box
  clear c0 c1 c2 c3 c4 c5 c6 c7 f0 f1 f2 f3 f4 f5 f6 f7
  go_region_held3 (fun w' => w'.cell? ⟨w.heap.size, 0, none⟩ = some (.int .i64 b) ∧ w'.cell? ⟨w.heap.size, 1, none⟩ = some (.int .i64 p) ∧ w'.cell? ⟨w.heap.size, 2, none⟩ = some (.int .u64 t) ∧ w'.cell? ⟨w.heap.size, 3, none⟩ = some (.int .i64 4) ∧ w'.cell? ⟨w.heap.size, 4, none⟩ = some (.int .i64 j) ∧ w'.cell? ⟨w.heap.size, 5, none⟩ = some (.int .u64 x) ∧ w'.cell? ⟨w.heap.size, 6, none⟩ = some (.int .u64 y) ∧ w'.cell? ⟨w.heap.size, 7, none⟩ = some (.int .u64 z))
    (with_reducible assumption)
    (first
      | (go_at_call 27; refine (stand_yes b p t H.out ht _).mono ?_; rintro e w2 ⟨rfl, hb2⟩; have hD2 := Lib.hid (hD.out.drew.below hb2); have hk2 := eight_cells hD2.out.box; clear hb2)
      | (go_at_call 30; obtain ⟨T, hA2, hN⟩ := hD2.out.arena; refine (read_in (Rg.stand b p t) _ hA2 hlt).mono ?_; rintro e w3 ⟨rfl, hNow⟩; rw [HV.out]; have hD3 := Lib.hid (hN _ _ hNow); have hk3 := eight_cells hD3.out.box; clear hN hNow hA2))
  clear hk1 hk2 hk3 hD hD2 hD0
  obtain ⟨c0, c1, c2, c3, c4, c5, c6, c7⟩ := eight_cells hD3.out.box
  obtain ⟨f0, f1, f2, f3, f4, f5, f6, f7⟩ := eight_free hD3.out.box
  obtain ⟨r0, r1, r2, r3, r4, r5, r6, r7⟩ := eight_cells hD3.out.res
  obtain ⟨g0, g1, g2, g3, g4, g5, g6, g7⟩ := eight_free hD3.out.res
  go_wp2_with fail
  refine bodyPost_ret (results_cell_row Try.results21 _ _ (w.heap.size + 1) 43 _ (0, 0) _ rfl (eight_laid (hD3.out.set 3 _ rfl).res) Try.underlying43 rfl Try.sizeFch) rfl ⟨rfl, (hD3.out.set 3 _ rfl).done (eight_rest rfl)⟩

set_option maxRecDepth 100000 in
set_option maxHeartbeats 2000000 in
/-- It is not. -/
theorem ftstep_none {B : Nat} {s : Spot} {a : Ar} (b p t v : Nat) (j x y z : Int) (h : Rg.Ok b p) (w : World) (hA : Arena w B s a) (hl : b + 1 + 4 * p ≤ a.cs.length) (ht : t < 18446744073709551616) (hv : a.cs.getD (Rg.stand b p t) 0 = v) (hvt : v ≠ (t + 1) % 18446744073709551616) :
    Calls Try.prog 21 #[.agg #[.int .i64 b, .int .i64 p, .int .u64 t, .int .i64 0, .int .i64 j, .int .u64 x, .int .u64 y, .int .u64 z], .pointer (some ⟨s.P, 0, none⟩)] w fun e w' => e = .returned (.agg #[.int .i64 b, .int .i64 p, .int .u64 t, .int .i64 4, .int .i64 j, .int .u64 x, .int .u64 y, .int .u64 z]) ∧ Now w w' B s (a.touch (Rg.stand b p t)) := by
  have hlt : Rg.stand b p t < a.cs.length := by have := h.pos; have := Rg.stand_lt h t; omega
  have HV := Lib.hid hv
  have hw : IntKind.u64.wrap ((t : Int) + 1) = ((t + 1) % 18446744073709551616 : Nat) := Rg.behind_wrap t
  generalize (t + 1) % 18446744073709551616 = n at *
  have hE : ((v : Int) == (n : Int)) = false := by rw [beq_eq_false_iff_ne]; omega
  clear hv hvt
  have H := Lib.hid h
  have HA := Lib.hid hA
  clear h hA
  go_enter Try.func21, Try.ntmps21
  go_wp2_with fail
  refine (rgmay_yes b p H.out _).mono ?_
  rintro e w1 ⟨rfl, hb1⟩
  have hD0 := Lib.hid (Desk.start HA.out hb1)
  obtain ⟨c0, c1, c2, c3, c4, c5, c6, c7⟩ := eight_cells hD0.out.box
  obtain ⟨f0, f1, f2, f3, f4, f5, f6, f7⟩ := eight_free hD0.out.box
  clear hb1
  go_wp2_with fail
  have hD := Lib.hid (hD0.out.set 3 (.int .i64 4) rfl)
  have hk1 := eight_cells hD.out.drew.box
  clear c0 c1 c2 c3 c4 c5 c6 c7 f0 f1 f2 f3 f4 f5 f6 f7
  go_region_held3 (fun w' => w'.cell? ⟨w.heap.size, 0, none⟩ = some (.int .i64 b) ∧ w'.cell? ⟨w.heap.size, 1, none⟩ = some (.int .i64 p) ∧ w'.cell? ⟨w.heap.size, 2, none⟩ = some (.int .u64 t) ∧ w'.cell? ⟨w.heap.size, 3, none⟩ = some (.int .i64 4) ∧ w'.cell? ⟨w.heap.size, 4, none⟩ = some (.int .i64 j) ∧ w'.cell? ⟨w.heap.size, 5, none⟩ = some (.int .u64 x) ∧ w'.cell? ⟨w.heap.size, 6, none⟩ = some (.int .u64 y) ∧ w'.cell? ⟨w.heap.size, 7, none⟩ = some (.int .u64 z))
    (with_reducible assumption)
    (first
      | (go_at_call 27; refine (stand_yes b p t H.out ht _).mono ?_; rintro e w2 ⟨rfl, hb2⟩; have hD2 := Lib.hid (hD.out.drew.below hb2); have hk2 := eight_cells hD2.out.box; clear hb2)
      | (go_at_call 30; obtain ⟨T, hA2, hN⟩ := hD2.out.arena; refine (read_in (Rg.stand b p t) _ hA2 hlt).mono ?_; rintro e w3 ⟨rfl, hNow⟩; rw [HV.out]; have hD3 := Lib.hid (hN _ _ hNow); have hk3 := eight_cells hD3.out.box; clear hN hNow hA2))
  clear hk1 hk2 hk3 hD hD2 hD0
  obtain ⟨c0, c1, c2, c3, c4, c5, c6, c7⟩ := eight_cells hD3.out.box
  obtain ⟨f0, f1, f2, f3, f4, f5, f6, f7⟩ := eight_free hD3.out.box
  obtain ⟨r0, r1, r2, r3, r4, r5, r6, r7⟩ := eight_cells hD3.out.res
  obtain ⟨g0, g1, g2, g3, g4, g5, g6, g7⟩ := eight_free hD3.out.res
  go_wp2_with fail
  refine bodyPost_ret (results_cell_row Try.results21 _ _ (w.heap.size + 1) 43 _ (0, 0) _ rfl (eight_laid hD3.out.res) Try.underlying43 rfl Try.sizeFch) rfl ⟨rfl, hD3.out.done (eight_rest rfl)⟩

/-- Five cells of eight. -/
theorem eight_five {w : World} {B : Nat} {t : TypeId} {c0 c1 c2 c3 c4 c5 c6 c7 : Value} (h : w.heap[B]? = some (.cells #[c0, c1, c2, c3, c4, c5, c6, c7] t (0, 0))) :
    w.cell? ⟨B, 0, none⟩ = some c0 ∧ w.cell? ⟨B, 1, none⟩ = some c1 ∧ w.cell? ⟨B, 2, none⟩ = some c2 ∧ w.cell? ⟨B, 3, none⟩ = some c3 ∧ w.cell? ⟨B, 4, none⟩ = some c4 :=
  ⟨cell_of_row _ _ _ _ _ _ h, cell_of_row _ _ _ _ _ _ h, cell_of_row _ _ _ _ _ _ h, cell_of_row _ _ _ _ _ _ h, cell_of_row _ _ _ _ _ _ h⟩
/-- .. behind a store into one of the last three. -/
theorem eight_past {w wk : World} {B : Nat} {s : Spot} {a : Ar} {Z : Obj} {t : TypeId} {c0 c1 c2 c3 c4 c5 c6 c7 v : Value} {i : Nat} (h : Desk w wk B s a (.cells #[c0, c1, c2, c3, c4, c5, c6, c7] t (0, 0)) Z) (hi : 5 ≤ i) {wn : World}
    (e : wn = wk.setCell ⟨w.heap.size, i, none⟩ v) :
    wn.cell? ⟨w.heap.size, 0, none⟩ = some c0 ∧ wn.cell? ⟨w.heap.size, 1, none⟩ = some c1 ∧ wn.cell? ⟨w.heap.size, 2, none⟩ = some c2 ∧ wn.cell? ⟨w.heap.size, 3, none⟩ = some c3 ∧ wn.cell? ⟨w.heap.size, 4, none⟩ = some c4 := by
  subst e
  have k := h.box
  have o : ∀ j c, j < 5 → wk.cell? ⟨w.heap.size, j, none⟩ = some c → (wk.setCell ⟨w.heap.size, i, none⟩ v).cell? ⟨w.heap.size, j, none⟩ = some c := fun j c hj hc => (World.cell?_setCell_other wk ⟨w.heap.size, i, none⟩ ⟨w.heap.size, j, none⟩ v (by intro q; cases q; omega)).trans hc
  obtain ⟨h0, h1, h2, h3, h4⟩ := eight_five k
  exact ⟨o 0 _ (by omega) h0, o 1 _ (by omega) h1, o 2 _ (by omega) h2, o 3 _ (by omega) h3, o 4 _ (by omega) h4⟩

set_option maxRecDepth 100000 in
set_option maxHeartbeats 2000000 in
/-- A word is read. -/
theorem ftstep_read0 {B : Nat} {s : Spot} {a : Ar} (b p t v : Nat) (x y z : Int) (h : Rg.Ok b p) (w : World) (hA : Arena w B s a) (hl : b + 1 + 4 * p ≤ a.cs.length) (ht : t < 18446744073709551616) (hv : a.cs.getD (Rg.stand b p t + 1 + 0) 0 = v) :
    Calls Try.prog 21 #[.agg #[.int .i64 b, .int .i64 p, .int .u64 t, .int .i64 1, .int .i64 0, .int .u64 x, .int .u64 y, .int .u64 z], .pointer (some ⟨s.P, 0, none⟩)] w fun e w' => e = .returned (.agg #[.int .i64 b, .int .i64 p, .int .u64 t, .int .i64 1, .int .i64 1, .int .u64 v, .int .u64 y, .int .u64 z]) ∧ Now w w' B s (a.touch (Rg.stand b p t + 1 + 0)) := by
  have hlt : Rg.stand b p t + 1 + 0 < a.cs.length := by have := h.pos; have := Rg.stand_lt h t; omega
  have HV := Lib.hid hv
  clear hv
  have H := Lib.hid h
  have HA := Lib.hid hA
  clear h hA
  go_enter Try.func21, Try.ntmps21
  go_wp2_with fail
  refine (rgmay_yes b p H.out _).mono ?_
  rintro e w1 ⟨rfl, hb1⟩
  have hD := Lib.hid (Desk.start HA.out hb1)
  obtain ⟨c0, c1, c2, c3, c4, c5, c6, c7⟩ := eight_cells hD.out.box
  obtain ⟨f0, f1, f2, f3, f4, f5, f6, f7⟩ := eight_free hD.out.box
  clear hb1
  go_wp2_with fail
  have hk1 := eight_five hD.out.drew.box
  clear c0 c1 c2 c3 c4 c5 c6 c7 f0 f1 f2 f3 f4 f5 f6 f7
  go_region_held3 (fun w' => w'.cell? ⟨w.heap.size, 0, none⟩ = some (.int .i64 b) ∧ w'.cell? ⟨w.heap.size, 1, none⟩ = some (.int .i64 p) ∧ w'.cell? ⟨w.heap.size, 2, none⟩ = some (.int .u64 t) ∧ w'.cell? ⟨w.heap.size, 3, none⟩ = some (.int .i64 1) ∧ w'.cell? ⟨w.heap.size, 4, none⟩ = some (.int .i64 0))
    (first | with_reducible assumption | with_reducible exact eight_past hD3.out (by omega) rfl)
    (first
      | (go_at_call 34; refine (data_yes b p t 0 H.out ht (by omega) _).mono ?_; rintro e w2 ⟨rfl, hb2⟩; have hD2 := Lib.hid (hD.out.drew.below hb2); have hk2 := eight_five hD2.out.box; clear hb2)
      | (go_at_call 30; obtain ⟨T, hA2, hN⟩ := hD2.out.arena; refine (read_in (Rg.stand b p t + 1 + 0) _ hA2 hlt).mono ?_; rintro e w3 ⟨rfl, hNow⟩; rw [HV.out]; have hD3 := Lib.hid (hN _ _ hNow); have hk3 := eight_five hD3.out.box; obtain ⟨c0, c1, c2, c3, c4, c5, c6, c7⟩ := eight_cells hD3.out.box; obtain ⟨f0, f1, f2, f3, f4, f5, f6, f7⟩ := eight_free hD3.out.box; clear hN hNow hA2))
  clear hk1 hk2 hk3 hD hD2
  obtain ⟨r0, r1, r2, r3, r4, r5, r6, r7⟩ := eight_cells hD3.out.res
  obtain ⟨g0, g1, g2, g3, g4, g5, g6, g7⟩ := eight_free hD3.out.res
  go_wp2_with fail
  refine bodyPost_ret (results_cell_row Try.results21 _ _ (w.heap.size + 1) 43 _ (0, 0) _ rfl (eight_laid ((hD3.out.set 5 _ rfl).set 4 _ rfl).res) Try.underlying43 rfl Try.sizeFch) rfl ⟨rfl, ((hD3.out.set 5 _ rfl).set 4 _ rfl).done (eight_rest rfl)⟩

set_option maxRecDepth 100000 in
set_option maxHeartbeats 2000000 in
/-- A word is read. -/
theorem ftstep_read1 {B : Nat} {s : Spot} {a : Ar} (b p t v : Nat) (x y z : Int) (h : Rg.Ok b p) (w : World) (hA : Arena w B s a) (hl : b + 1 + 4 * p ≤ a.cs.length) (ht : t < 18446744073709551616) (hv : a.cs.getD (Rg.stand b p t + 1 + 1) 0 = v) :
    Calls Try.prog 21 #[.agg #[.int .i64 b, .int .i64 p, .int .u64 t, .int .i64 1, .int .i64 1, .int .u64 x, .int .u64 y, .int .u64 z], .pointer (some ⟨s.P, 0, none⟩)] w fun e w' => e = .returned (.agg #[.int .i64 b, .int .i64 p, .int .u64 t, .int .i64 1, .int .i64 2, .int .u64 x, .int .u64 v, .int .u64 z]) ∧ Now w w' B s (a.touch (Rg.stand b p t + 1 + 1)) := by
  have hlt : Rg.stand b p t + 1 + 1 < a.cs.length := by have := h.pos; have := Rg.stand_lt h t; omega
  have HV := Lib.hid hv
  clear hv
  have H := Lib.hid h
  have HA := Lib.hid hA
  clear h hA
  go_enter Try.func21, Try.ntmps21
  go_wp2_with fail
  refine (rgmay_yes b p H.out _).mono ?_
  rintro e w1 ⟨rfl, hb1⟩
  have hD := Lib.hid (Desk.start HA.out hb1)
  obtain ⟨c0, c1, c2, c3, c4, c5, c6, c7⟩ := eight_cells hD.out.box
  obtain ⟨f0, f1, f2, f3, f4, f5, f6, f7⟩ := eight_free hD.out.box
  clear hb1
  go_wp2_with fail
  have hk1 := eight_five hD.out.drew.box
  clear c0 c1 c2 c3 c4 c5 c6 c7 f0 f1 f2 f3 f4 f5 f6 f7
  go_region_held3 (fun w' => w'.cell? ⟨w.heap.size, 0, none⟩ = some (.int .i64 b) ∧ w'.cell? ⟨w.heap.size, 1, none⟩ = some (.int .i64 p) ∧ w'.cell? ⟨w.heap.size, 2, none⟩ = some (.int .u64 t) ∧ w'.cell? ⟨w.heap.size, 3, none⟩ = some (.int .i64 1) ∧ w'.cell? ⟨w.heap.size, 4, none⟩ = some (.int .i64 1))
    (first | with_reducible assumption | with_reducible exact eight_past hD3.out (by omega) rfl)
    (first
      | (go_at_call 34; refine (data_yes b p t 1 H.out ht (by omega) _).mono ?_; rintro e w2 ⟨rfl, hb2⟩; have hD2 := Lib.hid (hD.out.drew.below hb2); have hk2 := eight_five hD2.out.box; clear hb2)
      | (go_at_call 30; obtain ⟨T, hA2, hN⟩ := hD2.out.arena; refine (read_in (Rg.stand b p t + 1 + 1) _ hA2 hlt).mono ?_; rintro e w3 ⟨rfl, hNow⟩; rw [HV.out]; have hD3 := Lib.hid (hN _ _ hNow); have hk3 := eight_five hD3.out.box; obtain ⟨c0, c1, c2, c3, c4, c5, c6, c7⟩ := eight_cells hD3.out.box; obtain ⟨f0, f1, f2, f3, f4, f5, f6, f7⟩ := eight_free hD3.out.box; clear hN hNow hA2))
  clear hk1 hk2 hk3 hD hD2
  obtain ⟨r0, r1, r2, r3, r4, r5, r6, r7⟩ := eight_cells hD3.out.res
  obtain ⟨g0, g1, g2, g3, g4, g5, g6, g7⟩ := eight_free hD3.out.res
  go_wp2_with fail
  refine bodyPost_ret (results_cell_row Try.results21 _ _ (w.heap.size + 1) 43 _ (0, 0) _ rfl (eight_laid ((hD3.out.set 6 _ rfl).set 4 _ rfl).res) Try.underlying43 rfl Try.sizeFch) rfl ⟨rfl, ((hD3.out.set 6 _ rfl).set 4 _ rfl).done (eight_rest rfl)⟩

set_option maxRecDepth 100000 in
set_option maxHeartbeats 2000000 in
/-- A word is read. -/
theorem ftstep_read2 {B : Nat} {s : Spot} {a : Ar} (b p t v : Nat) (x y z : Int) (h : Rg.Ok b p) (w : World) (hA : Arena w B s a) (hl : b + 1 + 4 * p ≤ a.cs.length) (ht : t < 18446744073709551616) (hv : a.cs.getD (Rg.stand b p t + 1 + 2) 0 = v) :
    Calls Try.prog 21 #[.agg #[.int .i64 b, .int .i64 p, .int .u64 t, .int .i64 1, .int .i64 2, .int .u64 x, .int .u64 y, .int .u64 z], .pointer (some ⟨s.P, 0, none⟩)] w fun e w' => e = .returned (.agg #[.int .i64 b, .int .i64 p, .int .u64 t, .int .i64 2, .int .i64 3, .int .u64 x, .int .u64 y, .int .u64 v]) ∧ Now w w' B s (a.touch (Rg.stand b p t + 1 + 2)) := by
  have hlt : Rg.stand b p t + 1 + 2 < a.cs.length := by have := h.pos; have := Rg.stand_lt h t; omega
  have HV := Lib.hid hv
  clear hv
  have H := Lib.hid h
  have HA := Lib.hid hA
  clear h hA
  go_enter Try.func21, Try.ntmps21
  go_wp2_with fail
  refine (rgmay_yes b p H.out _).mono ?_
  rintro e w1 ⟨rfl, hb1⟩
  have hD := Lib.hid (Desk.start HA.out hb1)
  obtain ⟨c0, c1, c2, c3, c4, c5, c6, c7⟩ := eight_cells hD.out.box
  obtain ⟨f0, f1, f2, f3, f4, f5, f6, f7⟩ := eight_free hD.out.box
  clear hb1
  go_wp2_with fail
  have hk1 := eight_five hD.out.drew.box
  clear c0 c1 c2 c3 c4 c5 c6 c7 f0 f1 f2 f3 f4 f5 f6 f7
  go_region_held3 (fun w' => w'.cell? ⟨w.heap.size, 0, none⟩ = some (.int .i64 b) ∧ w'.cell? ⟨w.heap.size, 1, none⟩ = some (.int .i64 p) ∧ w'.cell? ⟨w.heap.size, 2, none⟩ = some (.int .u64 t) ∧ w'.cell? ⟨w.heap.size, 3, none⟩ = some (.int .i64 1) ∧ w'.cell? ⟨w.heap.size, 4, none⟩ = some (.int .i64 2))
    (first | with_reducible assumption | with_reducible exact eight_past hD3.out (by omega) rfl)
    (first
      | (go_at_call 34; refine (data_yes b p t 2 H.out ht (by omega) _).mono ?_; rintro e w2 ⟨rfl, hb2⟩; have hD2 := Lib.hid (hD.out.drew.below hb2); have hk2 := eight_five hD2.out.box; clear hb2)
      | (go_at_call 30; obtain ⟨T, hA2, hN⟩ := hD2.out.arena; refine (read_in (Rg.stand b p t + 1 + 2) _ hA2 hlt).mono ?_; rintro e w3 ⟨rfl, hNow⟩; rw [HV.out]; have hD3 := Lib.hid (hN _ _ hNow); have hk3 := eight_five hD3.out.box; obtain ⟨c0, c1, c2, c3, c4, c5, c6, c7⟩ := eight_cells hD3.out.box; obtain ⟨f0, f1, f2, f3, f4, f5, f6, f7⟩ := eight_free hD3.out.box; clear hN hNow hA2))
  clear hk1 hk2 hk3 hD hD2
  obtain ⟨r0, r1, r2, r3, r4, r5, r6, r7⟩ := eight_cells hD3.out.res
  obtain ⟨g0, g1, g2, g3, g4, g5, g6, g7⟩ := eight_free hD3.out.res
  go_wp2_with fail
  refine bodyPost_ret (results_cell_row Try.results21 _ _ (w.heap.size + 1) 43 _ (0, 0) _ rfl (eight_laid (((hD3.out.set 7 _ rfl).set 4 _ rfl).set 3 _ rfl).res) Try.underlying43 rfl Try.sizeFch) rfl ⟨rfl, (((hD3.out.set 7 _ rfl).set 4 _ rfl).set 3 _ rfl).done (eight_rest rfl)⟩

set_option maxRecDepth 100000 in
set_option maxHeartbeats 2000000 in
/-- There is room again. -/
theorem ftstep_over {B : Nat} {s : Spot} {a : Ar} (b p t : Nat) (j x y z : Int) (h : Rg.Ok b p) (w : World) (hA : Arena w B s a) (hl : b + 1 + 4 * p ≤ a.cs.length) (ht : t < 18446744073709551616) :
    Calls Try.prog 21 #[.agg #[.int .i64 b, .int .i64 p, .int .u64 t, .int .i64 2, .int .i64 j, .int .u64 x, .int .u64 y, .int .u64 z], .pointer (some ⟨s.P, 0, none⟩)] w fun e w' => e = .returned (.agg #[.int .i64 b, .int .i64 p, .int .u64 t, .int .i64 3, .int .i64 j, .int .u64 x, .int .u64 y, .int .u64 z]) ∧ Now w w' B s ((a.touch (Rg.stand b p t)).put (Rg.stand b p t) (Rg.over p t)) := by
  have hlt : Rg.stand b p t < a.cs.length := by have := h.pos; have := Rg.stand_lt h t; omega
  have HW := Lib.hid (Rg.over_wrap p t)
  have hp : IntKind.u64.wrap (p : Int) = p := by have := h.pos; rw [IntKind.wrap_u64]; omega
  have H := Lib.hid h
  have HA := Lib.hid hA
  clear h hA
  go_enter Try.func21, Try.ntmps21
  go_wp2_with fail
  refine (rgmay_yes b p H.out _).mono ?_
  rintro e w1 ⟨rfl, hb1⟩
  have hD := Lib.hid (Desk.start HA.out hb1)
  obtain ⟨c0, c1, c2, c3, c4, c5, c6, c7⟩ := eight_cells hD.out.box
  obtain ⟨f0, f1, f2, f3, f4, f5, f6, f7⟩ := eight_free hD.out.box
  clear hb1
  go_wp2_with fail
  have hk1 := eight_cells hD.out.drew.box
  clear c0 c1 c2 c3 c4 c5 c6 c7 f0 f1 f2 f3 f4 f5 f6 f7
  go_region_held3 (fun w' => w'.cell? ⟨w.heap.size, 0, none⟩ = some (.int .i64 b) ∧ w'.cell? ⟨w.heap.size, 1, none⟩ = some (.int .i64 p) ∧ w'.cell? ⟨w.heap.size, 2, none⟩ = some (.int .u64 t) ∧ w'.cell? ⟨w.heap.size, 3, none⟩ = some (.int .i64 2) ∧ w'.cell? ⟨w.heap.size, 4, none⟩ = some (.int .i64 j) ∧ w'.cell? ⟨w.heap.size, 5, none⟩ = some (.int .u64 x) ∧ w'.cell? ⟨w.heap.size, 6, none⟩ = some (.int .u64 y) ∧ w'.cell? ⟨w.heap.size, 7, none⟩ = some (.int .u64 z))
    (with_reducible assumption)
    (first
      | (go_at_call 27; refine (stand_yes b p t H.out ht _).mono ?_; rintro e w2 ⟨rfl, hb2⟩; have hD2 := Lib.hid (hD.out.drew.below hb2); have hk2 := eight_cells hD2.out.box; clear hb2)
      | (go_at_call 25; obtain ⟨T, hA2, hN⟩ := hD2.out.arena; (try rw [HW.out]); refine (write_in (Rg.stand b p t) (Rg.over p t) _ hA2 hlt (Rg.over_lt p t)).mono ?_; rintro e w3 ⟨rfl, hNow⟩; have hD3 := Lib.hid (hN _ _ hNow); have hk3 := eight_cells hD3.out.box; clear hN hNow hA2))
  clear hk1 hk2 hk3 hD hD2
  obtain ⟨c0, c1, c2, c3, c4, c5, c6, c7⟩ := eight_cells hD3.out.box
  obtain ⟨f0, f1, f2, f3, f4, f5, f6, f7⟩ := eight_free hD3.out.box
  obtain ⟨r0, r1, r2, r3, r4, r5, r6, r7⟩ := eight_cells hD3.out.res
  obtain ⟨g0, g1, g2, g3, g4, g5, g6, g7⟩ := eight_free hD3.out.res
  go_wp2_with fail
  refine bodyPost_ret (results_cell_row Try.results21 _ _ (w.heap.size + 1) 43 _ (0, 0) _ rfl (eight_laid (hD3.out.set 3 _ rfl).res) Try.underlying43 rfl Try.sizeFch) rfl ⟨rfl, (hD3.out.set 3 _ rfl).done (eight_rest rfl)⟩

end Go.Proofs.Ytieehpajkidbcaa
