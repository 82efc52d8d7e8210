/- What a step of a sending comes to: its turn is taken, or not; a word is put; the frame is there. -/
import Derived.Test.YtieehpajkidbcaaSndB
namespace Go.Proofs.Ytieehpajkidbcaa
open Go.RowKit
attribute [local go_sem ↓] Go.wp_at_zero Go.wp_at_succ

/-- The turn behind a turn. -/
def Rg.next (t : Nat) : Nat := (t + 1) % 18446744073709551616
theorem Rg.next_wrap (t : Nat) : IntKind.u64.wrap ((t : Int) + 1) = (Rg.next t : Nat) := by
  simp [IntKind.wrap, IntKind.bits, IntKind.signed, Rg.next]
theorem Rg.next_lt (t : Nat) : Rg.next t < 18446744073709551616 := by unfold Rg.next; omega

set_option maxRecDepth 100000 in
set_option maxHeartbeats 2000000 in
/-- Its turn is taken. -/
theorem sstep_swap {B : Nat} {s : Spot} {a : Ar} (b p t : Nat) (x y z j : Int) (l : Bool) (h : Rg.Ok b p) (w : World) (hA : Arena w B s a) (hl : b + 1 + 4 * p ≤ a.cs.length) (hv : a.cs.getD b 0 = t) :
    Calls Try.prog 20 #[.agg #[.int .i64 b, .int .i64 p, .int .u64 x, .int .u64 y, .int .u64 z, .bool l, .int .u64 t, .int .i64 2, .int .i64 j], .pointer (some ⟨s.P, 0, none⟩)] w fun e w' => e = .returned (.agg #[.int .i64 b, .int .i64 p, .int .u64 x, .int .u64 y, .int .u64 z, .bool l, .int .u64 t, .int .i64 3, .int .i64 j]) ∧ Now w w' B s ((a.touch b).put b (Rg.next t)) := by
  have hlt : b < a.cs.length := by have := h.pos; omega
  have HV := Lib.hid hv
  have HW := Lib.hid (Rg.next_wrap t)
  clear hv
  have H := Lib.hid h
  have HA := Lib.hid hA
  clear h hA
  go_enter Try.func20, Try.ntmps20
  go_wp2_with fail
  refine (rgmay_yes b p H.out _).mono ?_
  rintro e w1 ⟨rfl, hb1⟩
  have hD := Lib.hid (Desk.start HA.out hb1)
  obtain ⟨c0, c1, c2, c3, c4, c5, c6, c7, c8⟩ := nine_cells hD.out.box
  clear hb1
  go_wp2_with fail
  have hk1 := nine_cells hD.out.drew.box
  go_region_held3 (fun w' => w'.cell? ⟨w.heap.size, 0, none⟩ = some (.int .i64 b) ∧ w'.cell? ⟨w.heap.size, 1, none⟩ = some (.int .i64 p) ∧ w'.cell? ⟨w.heap.size, 2, none⟩ = some (.int .u64 x) ∧ w'.cell? ⟨w.heap.size, 3, none⟩ = some (.int .u64 y) ∧ w'.cell? ⟨w.heap.size, 4, none⟩ = some (.int .u64 z) ∧ w'.cell? ⟨w.heap.size, 5, none⟩ = some (.bool l) ∧ w'.cell? ⟨w.heap.size, 6, none⟩ = some (.int .u64 t) ∧ w'.cell? ⟨w.heap.size, 7, none⟩ = some (.int .i64 2) ∧ w'.cell? ⟨w.heap.size, 8, none⟩ = some (.int .i64 j))
    (with_reducible assumption)
    (first
      | (go_at_call 26; refine (tail_yes b p H.out _).mono ?_; rintro e w2 ⟨rfl, hb2⟩; have hD2 := Lib.hid (hD.out.drew.below hb2); have hk2 := nine_cells hD2.out.box; clear hb2)
      | (go_at_call 32; obtain ⟨T, hA2, hN⟩ := hD2.out.arena; (try rw [HW.out]); refine (swap_yes b t (Rg.next t) _ hA2 hlt HV.out (Rg.next_lt t)).mono ?_; rintro e w3 ⟨rfl, hNow⟩; have hD3 := Lib.hid (hN _ _ hNow); have hk3 := nine_cells hD3.out.box; clear hN hNow hA2))
  clear c0 c1 c2 c3 c4 c5 c6 c7 c8 hk1 hk2 hk3 hD hD2
  obtain ⟨c0, c1, c2, c3, c4, c5, c6, c7, c8⟩ := nine_cells hD3.out.box
  obtain ⟨f0, f1, f2, f3, f4, f5, f6, f7, f8⟩ := nine_free hD3.out.box
  obtain ⟨r0, r1, r2, r3, r4, r5, r6, r7, r8⟩ := nine_cells hD3.out.res
  obtain ⟨g0, g1, g2, g3, g4, g5, g6, g7, g8⟩ := nine_free hD3.out.res
  go_wp2_with fail
  refine bodyPost_ret (results_cell_row Try.results20 _ _ (w.heap.size + 1) 36 _ (0, 0) _ rfl (nine_laid (hD3.out.set 7 _ rfl).res) Try.underlying36 rfl Try.sizeTask) rfl ⟨rfl, (hD3.out.set 7 _ rfl).done (nine_rest rfl)⟩

set_option maxRecDepth 100000 in
set_option maxHeartbeats 2000000 in
/-- Another one took it. -/
theorem sstep_lost {B : Nat} {s : Spot} {a : Ar} (b p t v : Nat) (x y z j : Int) (l : Bool) (h : Rg.Ok b p) (w : World) (hA : Arena w B s a) (hl : b + 1 + 4 * p ≤ a.cs.length) (hv : a.cs.getD b 0 = v) (hvt : v ≠ t) :
    Calls Try.prog 20 #[.agg #[.int .i64 b, .int .i64 p, .int .u64 x, .int .u64 y, .int .u64 z, .bool l, .int .u64 t, .int .i64 2, .int .i64 j], .pointer (some ⟨s.P, 0, none⟩)] w fun e w' => e = .returned (.agg #[.int .i64 b, .int .i64 p, .int .u64 x, .int .u64 y, .int .u64 z, .bool false, .int .u64 0, .int .i64 0, .int .i64 0]) ∧ Now w w' B s (a.touch b) := by
  have hlt : b < a.cs.length := by have := h.pos; omega
  have HV := Lib.hid hv
  have HW := Lib.hid (Rg.next_wrap t)
  clear hv
  have H := Lib.hid h
  have HA := Lib.hid hA
  clear h hA
  go_enter Try.func20, Try.ntmps20
  go_wp2_with fail
  refine (rgmay_yes b p H.out _).mono ?_
  rintro e w1 ⟨rfl, hb1⟩
  have hD := Lib.hid (Desk.start HA.out hb1)
  obtain ⟨c0, c1, c2, c3, c4, c5, c6, c7, c8⟩ := nine_cells hD.out.box
  clear hb1
  go_wp2_with fail
  have hk1 := nine_cells hD.out.drew.box
  go_region_held3 (fun w' => w'.cell? ⟨w.heap.size, 0, none⟩ = some (.int .i64 b) ∧ w'.cell? ⟨w.heap.size, 1, none⟩ = some (.int .i64 p) ∧ w'.cell? ⟨w.heap.size, 2, none⟩ = some (.int .u64 x) ∧ w'.cell? ⟨w.heap.size, 3, none⟩ = some (.int .u64 y) ∧ w'.cell? ⟨w.heap.size, 4, none⟩ = some (.int .u64 z) ∧ w'.cell? ⟨w.heap.size, 5, none⟩ = some (.bool l) ∧ w'.cell? ⟨w.heap.size, 6, none⟩ = some (.int .u64 t) ∧ w'.cell? ⟨w.heap.size, 7, none⟩ = some (.int .i64 2) ∧ w'.cell? ⟨w.heap.size, 8, none⟩ = some (.int .i64 j))
    (with_reducible assumption)
    (first
      | (go_at_call 26; refine (tail_yes b p H.out _).mono ?_; rintro e w2 ⟨rfl, hb2⟩; have hD2 := Lib.hid (hD.out.drew.below hb2); have hk2 := nine_cells hD2.out.box; clear hb2)
      | (go_at_call 32; obtain ⟨T, hA2, hN⟩ := hD2.out.arena; (try rw [HW.out]); refine (swap_no b t (Rg.next t) _ hA2 hlt (by rw [HV.out]; exact hvt)).mono ?_; rintro e w3 ⟨rfl, hNow⟩; have hD3 := Lib.hid (hN _ _ hNow); have hk3 := nine_cells hD3.out.box; clear hN hNow hA2))
  clear c0 c1 c2 c3 c4 c5 c6 c7 c8 hk1 hk2 hk3 hD hD2
  obtain ⟨c0, c1, c2, c3, c4, c5, c6, c7, c8⟩ := nine_cells hD3.out.box
  obtain ⟨f0, f1, f2, f3, f4, f5, f6, f7, f8⟩ := nine_free hD3.out.box
  obtain ⟨r0, r1, r2, r3, r4, r5, r6, r7, r8⟩ := nine_cells hD3.out.res
  obtain ⟨g0, g1, g2, g3, g4, g5, g6, g7, g8⟩ := nine_free hD3.out.res
  go_wp2_with fail
  refine (sagain_any b p x y z t 2 j l _).mono ?_
  rintro e w4 ⟨rfl, hb4⟩
  have hD4 := Lib.hid (hD3.out.below hb4)
  clear hb4 hD3 c0 c1 c2 c3 c4 c5 c6 c7 c8 f0 f1 f2 f3 f4 f5 f6 f7 f8 r0 r1 r2 r3 r4 r5 r6 r7 r8 g0 g1 g2 g3 g4 g5 g6 g7 g8
  obtain ⟨r0, r1, r2, r3, r4, r5, r6, r7, r8⟩ := nine_cells hD4.out.res
  obtain ⟨g0, g1, g2, g3, g4, g5, g6, g7, g8⟩ := nine_free hD4.out.res
  go_wp2_with fail
  refine bodyPost_ret (results_cell_row Try.results20 _ _ (w.heap.size + 1) 36 _ (0, 0) _ rfl (nine_laid hD4.out.res) Try.underlying36 rfl Try.sizeTask) rfl ⟨rfl, hD4.out.done (nine_rest rfl)⟩

set_option maxRecDepth 100000 in
set_option maxHeartbeats 2000000 in
/-- A word is put. -/
theorem sstep_put0 {B : Nat} {s : Spot} {a : Ar} (b p x y z t : Nat) (l : Bool) (h : Rg.Ok b p) (w : World) (hA : Arena w B s a) (hl : b + 1 + 4 * p ≤ a.cs.length) (ht : t < 18446744073709551616) (hx : x < 18446744073709551616) :
    Calls Try.prog 20 #[.agg #[.int .i64 b, .int .i64 p, .int .u64 x, .int .u64 y, .int .u64 z, .bool l, .int .u64 t, .int .i64 3, .int .i64 0], .pointer (some ⟨s.P, 0, none⟩)] w fun e w' => e = .returned (.agg #[.int .i64 b, .int .i64 p, .int .u64 x, .int .u64 y, .int .u64 z, .bool l, .int .u64 t, .int .i64 3, .int .i64 1]) ∧ Now w w' B s ((a.touch (Rg.stand b p t + 1 + 0)).put (Rg.stand b p t + 1 + 0) x) := by
  have hlt : Rg.stand b p t + 1 + 0 < a.cs.length := by have := h.pos; have := Rg.stand_lt h t; omega
  have H := Lib.hid h
  have HA := Lib.hid hA
  clear h hA
  go_enter Try.func20, Try.ntmps20
  go_wp2_with fail
  refine (rgmay_yes b p H.out _).mono ?_
  rintro e w1 ⟨rfl, hb1⟩
  have hD := Lib.hid (Desk.start HA.out hb1)
  obtain ⟨c0, c1, c2, c3, c4, c5, c6, c7, c8⟩ := nine_cells hD.out.box
  clear hb1
  go_wp2_with fail
  have hk1 := nine_cells hD.out.drew.box
  go_region_held3 (fun w' => w'.cell? ⟨w.heap.size, 0, none⟩ = some (.int .i64 b) ∧ w'.cell? ⟨w.heap.size, 1, none⟩ = some (.int .i64 p) ∧ w'.cell? ⟨w.heap.size, 2, none⟩ = some (.int .u64 x) ∧ w'.cell? ⟨w.heap.size, 3, none⟩ = some (.int .u64 y) ∧ w'.cell? ⟨w.heap.size, 4, none⟩ = some (.int .u64 z) ∧ w'.cell? ⟨w.heap.size, 5, none⟩ = some (.bool l) ∧ w'.cell? ⟨w.heap.size, 6, none⟩ = some (.int .u64 t) ∧ w'.cell? ⟨w.heap.size, 7, none⟩ = some (.int .i64 3) ∧ w'.cell? ⟨w.heap.size, 8, none⟩ = some (.int .i64 0))
    (with_reducible assumption)
    (first
      | (go_at_call 34; refine (data_yes b p t 0 H.out ht (by omega) _).mono ?_; rintro e w2 ⟨rfl, hb2⟩; have hD2 := Lib.hid (hD.out.drew.below hb2); have hk2 := nine_cells hD2.out.box; clear hb2)
      | (go_at_call 25; obtain ⟨T, hA2, hN⟩ := hD2.out.arena; refine (write_in (Rg.stand b p t + 1 + 0) x _ hA2 hlt hx).mono ?_; rintro e w3 ⟨rfl, hNow⟩; have hD3 := Lib.hid (hN _ _ hNow); have hk3 := nine_cells hD3.out.box; clear hN hNow hA2))
  clear c0 c1 c2 c3 c4 c5 c6 c7 c8 hk1 hk2 hk3 hD hD2
  obtain ⟨c0, c1, c2, c3, c4, c5, c6, c7, c8⟩ := nine_cells hD3.out.box
  obtain ⟨f0, f1, f2, f3, f4, f5, f6, f7, f8⟩ := nine_free hD3.out.box
  obtain ⟨r0, r1, r2, r3, r4, r5, r6, r7, r8⟩ := nine_cells hD3.out.res
  obtain ⟨g0, g1, g2, g3, g4, g5, g6, g7, g8⟩ := nine_free hD3.out.res
  go_wp2_with fail
  refine bodyPost_ret (results_cell_row Try.results20 _ _ (w.heap.size + 1) 36 _ (0, 0) _ rfl (nine_laid (hD3.out.set 8 _ rfl).res) Try.underlying36 rfl Try.sizeTask) rfl ⟨rfl, (hD3.out.set 8 _ rfl).done (nine_rest rfl)⟩

set_option maxRecDepth 100000 in
set_option maxHeartbeats 2000000 in
/-- A word is put. -/
theorem sstep_put1 {B : Nat} {s : Spot} {a : Ar} (b p x y z t : Nat) (l : Bool) (h : Rg.Ok b p) (w : World) (hA : Arena w B s a) (hl : b + 1 + 4 * p ≤ a.cs.length) (ht : t < 18446744073709551616) (hx : y < 18446744073709551616) :
    Calls Try.prog 20 #[.agg #[.int .i64 b, .int .i64 p, .int .u64 x, .int .u64 y, .int .u64 z, .bool l, .int .u64 t, .int .i64 3, .int .i64 1], .pointer (some ⟨s.P, 0, none⟩)] w fun e w' => e = .returned (.agg #[.int .i64 b, .int .i64 p, .int .u64 x, .int .u64 y, .int .u64 z, .bool l, .int .u64 t, .int .i64 3, .int .i64 2]) ∧ Now w w' B s ((a.touch (Rg.stand b p t + 1 + 1)).put (Rg.stand b p t + 1 + 1) y) := by
  have hlt : Rg.stand b p t + 1 + 1 < a.cs.length := by have := h.pos; have := Rg.stand_lt h t; omega
  have H := Lib.hid h
  have HA := Lib.hid hA
  clear h hA
  go_enter Try.func20, Try.ntmps20
  go_wp2_with fail
  refine (rgmay_yes b p H.out _).mono ?_
  rintro e w1 ⟨rfl, hb1⟩
  have hD := Lib.hid (Desk.start HA.out hb1)
  obtain ⟨c0, c1, c2, c3, c4, c5, c6, c7, c8⟩ := nine_cells hD.out.box
  clear hb1
  go_wp2_with fail
  have hk1 := nine_cells hD.out.drew.box
  go_region_held3 (fun w' => w'.cell? ⟨w.heap.size, 0, none⟩ = some (.int .i64 b) ∧ w'.cell? ⟨w.heap.size, 1, none⟩ = some (.int .i64 p) ∧ w'.cell? ⟨w.heap.size, 2, none⟩ = some (.int .u64 x) ∧ w'.cell? ⟨w.heap.size, 3, none⟩ = some (.int .u64 y) ∧ w'.cell? ⟨w.heap.size, 4, none⟩ = some (.int .u64 z) ∧ w'.cell? ⟨w.heap.size, 5, none⟩ = some (.bool l) ∧ w'.cell? ⟨w.heap.size, 6, none⟩ = some (.int .u64 t) ∧ w'.cell? ⟨w.heap.size, 7, none⟩ = some (.int .i64 3) ∧ w'.cell? ⟨w.heap.size, 8, none⟩ = some (.int .i64 1))
    (with_reducible assumption)
    (first
      | (go_at_call 34; refine (data_yes b p t 1 H.out ht (by omega) _).mono ?_; rintro e w2 ⟨rfl, hb2⟩; have hD2 := Lib.hid (hD.out.drew.below hb2); have hk2 := nine_cells hD2.out.box; clear hb2)
      | (go_at_call 25; obtain ⟨T, hA2, hN⟩ := hD2.out.arena; refine (write_in (Rg.stand b p t + 1 + 1) y _ hA2 hlt hx).mono ?_; rintro e w3 ⟨rfl, hNow⟩; have hD3 := Lib.hid (hN _ _ hNow); have hk3 := nine_cells hD3.out.box; clear hN hNow hA2))
  clear c0 c1 c2 c3 c4 c5 c6 c7 c8 hk1 hk2 hk3 hD hD2
  obtain ⟨c0, c1, c2, c3, c4, c5, c6, c7, c8⟩ := nine_cells hD3.out.box
  obtain ⟨f0, f1, f2, f3, f4, f5, f6, f7, f8⟩ := nine_free hD3.out.box
  obtain ⟨r0, r1, r2, r3, r4, r5, r6, r7, r8⟩ := nine_cells hD3.out.res
  obtain ⟨g0, g1, g2, g3, g4, g5, g6, g7, g8⟩ := nine_free hD3.out.res
  go_wp2_with fail
  refine bodyPost_ret (results_cell_row Try.results20 _ _ (w.heap.size + 1) 36 _ (0, 0) _ rfl (nine_laid (hD3.out.set 8 _ rfl).res) Try.underlying36 rfl Try.sizeTask) rfl ⟨rfl, (hD3.out.set 8 _ rfl).done (nine_rest rfl)⟩

set_option maxRecDepth 100000 in
set_option maxHeartbeats 2000000 in
/-- A word is put. -/
theorem sstep_put2 {B : Nat} {s : Spot} {a : Ar} (b p x y z t : Nat) (l : Bool) (h : Rg.Ok b p) (w : World) (hA : Arena w B s a) (hl : b + 1 + 4 * p ≤ a.cs.length) (ht : t < 18446744073709551616) (hx : z < 18446744073709551616) :
    Calls Try.prog 20 #[.agg #[.int .i64 b, .int .i64 p, .int .u64 x, .int .u64 y, .int .u64 z, .bool l, .int .u64 t, .int .i64 3, .int .i64 2], .pointer (some ⟨s.P, 0, none⟩)] w fun e w' => e = .returned (.agg #[.int .i64 b, .int .i64 p, .int .u64 x, .int .u64 y, .int .u64 z, .bool l, .int .u64 t, .int .i64 4, .int .i64 3]) ∧ Now w w' B s ((a.touch (Rg.stand b p t + 1 + 2)).put (Rg.stand b p t + 1 + 2) z) := by
  have hlt : Rg.stand b p t + 1 + 2 < a.cs.length := by have := h.pos; have := Rg.stand_lt h t; omega
  have H := Lib.hid h
  have HA := Lib.hid hA
  clear h hA
  go_enter Try.func20, Try.ntmps20
  go_wp2_with fail
  refine (rgmay_yes b p H.out _).mono ?_
  rintro e w1 ⟨rfl, hb1⟩
  have hD := Lib.hid (Desk.start HA.out hb1)
  obtain ⟨c0, c1, c2, c3, c4, c5, c6, c7, c8⟩ := nine_cells hD.out.box
  clear hb1
  go_wp2_with fail
  have hk1 := nine_cells hD.out.drew.box
  go_region_held3 (fun w' => w'.cell? ⟨w.heap.size, 0, none⟩ = some (.int .i64 b) ∧ w'.cell? ⟨w.heap.size, 1, none⟩ = some (.int .i64 p) ∧ w'.cell? ⟨w.heap.size, 2, none⟩ = some (.int .u64 x) ∧ w'.cell? ⟨w.heap.size, 3, none⟩ = some (.int .u64 y) ∧ w'.cell? ⟨w.heap.size, 4, none⟩ = some (.int .u64 z) ∧ w'.cell? ⟨w.heap.size, 5, none⟩ = some (.bool l) ∧ w'.cell? ⟨w.heap.size, 6, none⟩ = some (.int .u64 t) ∧ w'.cell? ⟨w.heap.size, 7, none⟩ = some (.int .i64 3) ∧ w'.cell? ⟨w.heap.size, 8, none⟩ = some (.int .i64 2))
    (with_reducible assumption)
    (first
      | (go_at_call 34; refine (data_yes b p t 2 H.out ht (by omega) _).mono ?_; rintro e w2 ⟨rfl, hb2⟩; have hD2 := Lib.hid (hD.out.drew.below hb2); have hk2 := nine_cells hD2.out.box; clear hb2)
      | (go_at_call 25; obtain ⟨T, hA2, hN⟩ := hD2.out.arena; refine (write_in (Rg.stand b p t + 1 + 2) z _ hA2 hlt hx).mono ?_; rintro e w3 ⟨rfl, hNow⟩; have hD3 := Lib.hid (hN _ _ hNow); have hk3 := nine_cells hD3.out.box; clear hN hNow hA2))
  clear c0 c1 c2 c3 c4 c5 c6 c7 c8 hk1 hk2 hk3 hD hD2
  obtain ⟨c0, c1, c2, c3, c4, c5, c6, c7, c8⟩ := nine_cells hD3.out.box
  obtain ⟨f0, f1, f2, f3, f4, f5, f6, f7, f8⟩ := nine_free hD3.out.box
  obtain ⟨r0, r1, r2, r3, r4, r5, r6, r7, r8⟩ := nine_cells hD3.out.res
  obtain ⟨g0, g1, g2, g3, g4, g5, g6, g7, g8⟩ := nine_free hD3.out.res
  go_wp2_with fail
  refine bodyPost_ret (results_cell_row Try.results20 _ _ (w.heap.size + 1) 36 _ (0, 0) _ rfl (nine_laid ((hD3.out.set 8 _ rfl).set 7 _ rfl).res) Try.underlying36 rfl Try.sizeTask) rfl ⟨rfl, ((hD3.out.set 8 _ rfl).set 7 _ rfl).done (nine_rest rfl)⟩

set_option maxRecDepth 100000 in
set_option maxHeartbeats 2000000 in
/-- The frame is there. -/
theorem sstep_over4 {B : Nat} {s : Spot} {a : Ar} (b p t : Nat) (x y z j : Int) (l : Bool) (h : Rg.Ok b p) (w : World) (hA : Arena w B s a) (hl : b + 1 + 4 * p ≤ a.cs.length) (ht : t < 18446744073709551616) :
    Calls Try.prog 20 #[.agg #[.int .i64 b, .int .i64 p, .int .u64 x, .int .u64 y, .int .u64 z, .bool l, .int .u64 t, .int .i64 4, .int .i64 j], .pointer (some ⟨s.P, 0, none⟩)] w fun e w' => e = .returned (.agg #[.int .i64 b, .int .i64 p, .int .u64 x, .int .u64 y, .int .u64 z, .bool l, .int .u64 t, .int .i64 5, .int .i64 j]) ∧ Now w w' B s ((a.touch (Rg.stand b p t)).put (Rg.stand b p t) (Rg.next t)) := by
  have hlt : Rg.stand b p t < a.cs.length := by have := h.pos; have := Rg.stand_lt h t; omega
  have HW := Lib.hid (Rg.next_wrap t)
  have H := Lib.hid h
  have HA := Lib.hid hA
  clear h hA
  go_enter Try.func20, Try.ntmps20
  go_wp2_with fail
  refine (rgmay_yes b p H.out _).mono ?_
  rintro e w1 ⟨rfl, hb1⟩
  have hD := Lib.hid (Desk.start HA.out hb1)
  obtain ⟨c0, c1, c2, c3, c4, c5, c6, c7, c8⟩ := nine_cells hD.out.box
  clear hb1
  go_wp2_with fail
  have hk1 := nine_cells hD.out.drew.box
  go_region_held3 (fun w' => w'.cell? ⟨w.heap.size, 0, none⟩ = some (.int .i64 b) ∧ w'.cell? ⟨w.heap.size, 1, none⟩ = some (.int .i64 p) ∧ w'.cell? ⟨w.heap.size, 2, none⟩ = some (.int .u64 x) ∧ w'.cell? ⟨w.heap.size, 3, none⟩ = some (.int .u64 y) ∧ w'.cell? ⟨w.heap.size, 4, none⟩ = some (.int .u64 z) ∧ w'.cell? ⟨w.heap.size, 5, none⟩ = some (.bool l) ∧ w'.cell? ⟨w.heap.size, 6, none⟩ = some (.int .u64 t) ∧ w'.cell? ⟨w.heap.size, 7, none⟩ = some (.int .i64 4) ∧ w'.cell? ⟨w.heap.size, 8, none⟩ = some (.int .i64 j))
    (with_reducible assumption)
    (first
      | (go_at_call 27; refine (stand_yes b p t H.out ht _).mono ?_; rintro e w2 ⟨rfl, hb2⟩; have hD2 := Lib.hid (hD.out.drew.below hb2); have hk2 := nine_cells hD2.out.box; clear hb2)
      | (go_at_call 25; obtain ⟨T, hA2, hN⟩ := hD2.out.arena; (try rw [HW.out]); refine (write_in (Rg.stand b p t) (Rg.next t) _ hA2 hlt (Rg.next_lt t)).mono ?_; rintro e w3 ⟨rfl, hNow⟩; have hD3 := Lib.hid (hN _ _ hNow); have hk3 := nine_cells hD3.out.box; clear hN hNow hA2))
  clear c0 c1 c2 c3 c4 c5 c6 c7 c8 hk1 hk2 hk3 hD hD2
  obtain ⟨c0, c1, c2, c3, c4, c5, c6, c7, c8⟩ := nine_cells hD3.out.box
  obtain ⟨f0, f1, f2, f3, f4, f5, f6, f7, f8⟩ := nine_free hD3.out.box
  obtain ⟨r0, r1, r2, r3, r4, r5, r6, r7, r8⟩ := nine_cells hD3.out.res
  obtain ⟨g0, g1, g2, g3, g4, g5, g6, g7, g8⟩ := nine_free hD3.out.res
  go_wp2_with fail
  refine bodyPost_ret (results_cell_row Try.results20 _ _ (w.heap.size + 1) 36 _ (0, 0) _ rfl (nine_laid (hD3.out.set 7 _ rfl).res) Try.underlying36 rfl Try.sizeTask) rfl ⟨rfl, (hD3.out.set 7 _ rfl).done (nine_rest rfl)⟩

end Go.Proofs.Ytieehpajkidbcaa
