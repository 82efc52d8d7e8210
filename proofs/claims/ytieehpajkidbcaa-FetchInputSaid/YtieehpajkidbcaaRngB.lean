/- What the program's calls on a ring's cells come to: where a turn's place stands, where its words are. -/
import Derived.Test.YtieehpajkidbcaaRngA
namespace Go.Proofs.Ytieehpajkidbcaa
open Go.RowKit
attribute [local go_sem ↓] Go.wp_at_zero Go.wp_at_succ

set_option maxHeartbeats 1000000 in
/-- Stand. -/
theorem stand_yes (b n t : Nat) (h : Rg.Ok b n) (ht : t < 18446744073709551616) (w : World) :
    Calls Try.prog 27 #[.agg #[.int .i64 b, .int .i64 n], .int .u64 t] w fun e w' => e = .returned (.int .i64 (Rg.stand b n t : Nat)) ∧ Below w.heap.size w w' := by
  obtain ⟨h1, h2, h3⟩ := h.pos
  have hm := Nat.mod_lt t (show 0 < n by omega)
  have HM := Lib.hid hm
  have H := Lib.hid h
  clear h hm
  go_enter Try.func27, Try.ntmps27
  go_wp2_with (go_at_call 23; refine (rgmay_yes b n H.out _).mono ?_; rintro e w1 ⟨rfl, hb1⟩; obtain ⟨c0, c1, hb2⟩ := kept hb1; clear hb1)
  go_region_held3 (fun w' => w'.cell? ⟨w.heap.size, 0, none⟩ = some (.int .i64 b) ∧ w'.cell? ⟨w.heap.size, 1, none⟩ = some (.int .i64 n) ∧ Below w.heap.size w w')
    (first | assumption | exact ⟨c0, c1, hb2.drew⟩)
    (first | (go_at_call 36; refine (place_any b n t H.out ht _).mono ?_; rintro e w2 ⟨rfl, hb3⟩; have hk := kept2 (by assumption) hb3; clear hb3)
           | (go_at_call 7; refine (rcells_in (t % n) (by have := HM.out; omega) _).mono ?_; rintro e w2 ⟨rfl, rfl⟩))
  go_wp2
  go_ret
  exact ⟨rg_i64 (by have := HM.out; unfold Rg.stand; rw [IntKind.wrap_i64]; push_cast; omega), hk.2.2⟩

theorem stand_no (b p : Int) (x : Int) (h : ¬ Rg.May b p) (hb : -9223372036854775808 ≤ b ∧ b ≤ 9223372036854775807) (w : World) :
    Calls Try.prog 27 #[.agg #[.int .i64 b, .int .i64 p], .int .u64 x] w fun e w' => e = .returned (.int .i64 (-1)) ∧ Below w.heap.size w w' := by
  have H := Lib.hid h
  have HB := Lib.hid hb
  clear h hb
  go_enter Try.func27, Try.ntmps27
  go_wp2_with (go_at_call 23; refine (rgmay_no b p H.out HB.out _).mono ?_; rintro e w1 ⟨rfl, hb1⟩; obtain ⟨c0, c1, hb2⟩ := kept hb1; clear hb1)
  go_ret
  exact ⟨rfl, hb2⟩

/-- Data: a word that there is. -/
theorem data_yes (b n t i : Nat) (h : Rg.Ok b n) (ht : t < 18446744073709551616) (hi : i < 3) (w : World) :
    Calls Try.prog 34 #[.agg #[.int .i64 b, .int .i64 n], .int .u64 t, .int .i64 i] w fun e w' => e = .returned (.int .i64 (Rg.stand b n t + 1 + i : Nat)) ∧ Below w.heap.size w w' := by
  have hs := (Rg.stand_lt h t).2
  have H := Lib.hid h
  clear h
  generalize hx : Rg.stand b n t = x at *
  have HX := Lib.hid hx
  clear hx
  go_enter Try.func34, Try.ntmps34
  go_wp2_with (go_at_call 27; refine (stand_yes b n t H.out ht _).mono ?_; rintro e w1 ⟨rfl, hb1⟩; rw [HX.out]; obtain ⟨c0, c1, hb2⟩ := kept hb1; clear hb1)
  go_ret
  exact ⟨rg_i64 (by push_cast; rfl), hb2⟩

/-- .. there is not. -/
theorem data_out (b n t : Nat) (i : Int) (h : Rg.Ok b n) (ht : t < 18446744073709551616) (hi : i < 0 ∨ 3 ≤ i) (w : World) :
    Calls Try.prog 34 #[.agg #[.int .i64 b, .int .i64 n], .int .u64 t, .int .i64 i] w fun e w' => e = .returned (.int .i64 (-1)) ∧ Below w.heap.size w w' := by
  have hs := (Rg.stand_lt h t).2
  have H := Lib.hid h
  clear h
  generalize hx : Rg.stand b n t = x at *
  have HX := Lib.hid hx
  clear hx
  rcases hi with hi | hi
  · go_enter Try.func34, Try.ntmps34
    go_wp2_with (go_at_call 27; refine (stand_yes b n t H.out ht _).mono ?_; rintro e w1 ⟨rfl, hb1⟩; rw [HX.out]; obtain ⟨c0, c1, hb2⟩ := kept hb1; clear hb1)
    go_ret
    exact ⟨rfl, hb2⟩
  · go_enter Try.func34, Try.ntmps34
    have hi2 : ¬ i < 0 := by omega
    go_wp2_with (go_at_call 27; refine (stand_yes b n t H.out ht _).mono ?_; rintro e w1 ⟨rfl, hb1⟩; rw [HX.out]; obtain ⟨c0, c1, hb2⟩ := kept hb1; clear hb1)
    go_ret
    exact ⟨rfl, hb2⟩

theorem data_no (b p : Int) (x i : Int) (h : ¬ Rg.May b p) (hb : -9223372036854775808 ≤ b ∧ b ≤ 9223372036854775807) (w : World) :
    Calls Try.prog 34 #[.agg #[.int .i64 b, .int .i64 p], .int .u64 x, .int .i64 i] w fun e w' => e = .returned (.int .i64 (-1)) ∧ Below w.heap.size w w' := by
  have H := Lib.hid h
  have HB := Lib.hid hb
  clear h hb
  go_enter Try.func34, Try.ntmps34
  go_wp2_with (go_at_call 27; refine (stand_no b p x H.out HB.out _).mono ?_; rintro e w1 ⟨rfl, hb1⟩; obtain ⟨c0, c1, hb2⟩ := kept hb1; clear hb1)
  go_ret
  exact ⟨rfl, hb2⟩

end Go.Proofs.Ytieehpajkidbcaa
