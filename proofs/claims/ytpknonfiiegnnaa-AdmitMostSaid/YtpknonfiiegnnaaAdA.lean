/- The contracts of all of admit's calls, nil and not. -/
import Derived.Test.YtpknonfiiegnnaaAdM
import Derived.Test.YtpknonfiiegnnaaHeldB
import Derived.Test.YtpknonfiiegnnaaTkA
import Derived.Test.YtpknonfiiegnnaaSkip
import Derived.RegionTactic
import Derived.BigRegion
import Derived.BigQuiet
import Derived.Deep.DeepCutAuto
namespace Go.Proofs.Ytpknonfiiegnnaa
open Go.RowKit

theorem Ad.below_drewN {B : Nat} {a w : World} (h : Below B a w) (n : Nat) : Below B a (w.drewN n) := ⟨h.os, h.tape, h.output, h.size, h.block⟩
/-- What lies behind the pointer. -/
def adm (x y : Int) (f : Nat → Int) : Obj := .cells #[.int .i64 x, .int .i64 y, .int .i64 (f 0), .int .i64 (f 1), .int .i64 (f 2), .int .i64 (f 3)] 35 (0, 0)
theorem adm_cells {w : World} {P : Nat} {x y : Int} {f : Nat → Int} (h : w.heap[P]? = some (adm x y f)) :
    w.cell? ⟨P, 0, none⟩ = some (.int .i64 x) ∧ w.cell? ⟨P, 1, none⟩ = some (.int .i64 y) ∧ (∀ k, k < 4 → w.cell? ⟨P, 2 + k, none⟩ = some (.int .i64 (f k)) ∧ w.frozen? ⟨P, 2 + k, none⟩ = false) := by
  refine ⟨cell_of_row _ _ _ _ _ _ h, cell_of_row _ _ _ _ _ _ h, fun k hk => ?_⟩
  rcases (show k = 0 ∨ k = 1 ∨ k = 2 ∨ k = 3 by omega) with rfl | rfl | rfl | rfl
  all_goals exact ⟨cell_of_row _ _ _ _ _ _ h, frozen_of_row _ _ _ _ _ h⟩
theorem adm_all {w : World} {P : Nat} {x y : Int} {f : Nat → Int} (h : w.heap[P]? = some (adm x y f)) :
    w.cell? ⟨P, 2, none⟩ = some (.int .i64 (f 0)) ∧ w.cell? ⟨P, 3, none⟩ = some (.int .i64 (f 1)) ∧ w.cell? ⟨P, 4, none⟩ = some (.int .i64 (f 2)) ∧ w.cell? ⟨P, 5, none⟩ = some (.int .i64 (f 3)) :=
  ⟨cell_of_row _ _ _ _ _ _ h, cell_of_row _ _ _ _ _ _ h, cell_of_row _ _ _ _ _ _ h, cell_of_row _ _ _ _ _ _ h⟩
theorem adm_put {w : World} {P : Nat} {x y : Int} {f : Nat → Int} (h : w.heap[P]? = some (adm x y f)) {k : Nat} (hk : k < 4) (v : Int) :
    (w.setCell ⟨P, 2 + k, none⟩ (.int .i64 v)).heap[P]? = some (adm x y (Ad.put f k v)) ∧ Rest (fun i => i = P) w (w.setCell ⟨P, 2 + k, none⟩ (.int .i64 v)) := by
  refine ⟨?_, Rest.setCell (own := fun i => i = P) w _ _ rfl⟩
  rcases (show k = 0 ∨ k = 1 ∨ k = 2 ∨ k = 3 by omega) with rfl | rfl | rfl | rfl
  all_goals exact heap_setCell_same _ _ _ _ _ _ h

/-- nearest. -/
theorem anear_any (n : Int) (w : World) : Calls Try.prog 11 #[.int .i64 n] w fun e w' => e = .returned (.int .i64 (Ad.cut n)) ∧ w = w' := by
  have HC := Lib.hid (show Ad.cut n = max 0 (min n 64) from rfl)
  generalize Ad.cut n = c at HC ⊢
  rcases (show (n < 0 ∧ n ≤ 64) ∨ (0 ≤ n ∧ n ≤ 64) ∨ (64 < n) by omega) with ⟨h1, h2⟩ | ⟨h1, h2⟩ | h1
  all_goals
    go_enter Try.func11, Try.ntmps11
    go_wp2
    all_goals (go_ret; exact ⟨ret_i64 (by have := HC.out; omega), rfl⟩)

/-- New. -/
theorem anew_any (x y : Int) (w : World) : Calls Try.prog 5 #[.int .i64 x, .int .i64 y] w fun e w' => e = .returned (.pointer (some ⟨w.heap.size, 0, none⟩)) ∧ w' = w.alloc (.cells #[.int .i64 (Ad.cut x), .int .i64 (Ad.cut y), .int .i64 0, .int .i64 0, .int .i64 0, .int .i64 0] 35) := by
  have hx := fun w => anear_any x w
  have hy := fun w => anear_any y w
  generalize Ad.cut x = a at hx ⊢
  generalize Ad.cut y = b at hy ⊢
  go_enter Try.func5, Try.ntmps5
  go_wp2_with fail
  refine (hx _).mono ?_
  rintro e w1 ⟨rfl, rfl⟩
  go_wp2_with fail
  refine (hy _).mono ?_
  rintro e w1 ⟨rfl, rfl⟩
  go_wp2_with fail
  go_ret
  exact ⟨rfl, rfl⟩

/-- has. -/
theorem ahas_nil (k : Int) (w : World) : Calls Try.prog 12 #[.pointer none, .int .i64 k] w fun e w' => e = .returned (.bool false) ∧ w = w' := by
  go_enter Try.func12, Try.ntmps12
  go_wp2
  all_goals (go_ret; exact ⟨rfl, rfl⟩)
theorem ahas_yes (P : Nat) (k : Nat) (hk : k < 4) (w : World) : Calls Try.prog 12 #[.pointer (some ⟨P, 0, none⟩), .int .i64 k] w fun e w' => e = .returned (.bool true) ∧ w = w' := by
  have h0 : (0 : Int) ≤ k := by omega
  have h1 : (k : Int) < 4 := by omega
  go_enter Try.func12, Try.ntmps12
  go_wp2
  all_goals (go_ret; exact ⟨rfl, rfl⟩)
theorem ahas_no (P : Nat) (k : Int) (hk : ¬(0 ≤ k ∧ k < 4)) (w : World) : Calls Try.prog 12 #[.pointer (some ⟨P, 0, none⟩), .int .i64 k] w fun e w' => e = .returned (.bool false) ∧ w = w' := by
  rcases (show k < 0 ∨ (0 ≤ k ∧ 4 ≤ k) by omega) with h | ⟨h, h'⟩
  · clear hk
    go_enter Try.func12, Try.ntmps12
    go_wp2
    all_goals (go_ret; exact ⟨rfl, rfl⟩)
  · have hd : decide (k < 4) = false := by simp; omega
    clear hk
    go_enter Try.func12, Try.ntmps12
    go_wp2
    all_goals (go_ret; exact ⟨by rw [← hd]; rfl, rfl⟩)

/-- Len. -/
theorem alen_nil (w : World) : Calls Try.prog 8 #[.pointer none] w fun e w' => e = .returned (.int .i64 0) ∧ w = w' := by
  go_enter Try.func8, Try.ntmps8
  go_wp2
  go_ret
  exact ⟨rfl, rfl⟩
set_option maxHeartbeats 1000000 in
theorem alen_any {P : Nat} {x y : Int} {f : Nat → Int} (hf : Ad.Ok f) (w : World) (h : w.heap[P]? = some (adm x y f)) :
    Calls Try.prog 8 #[.pointer (some ⟨P, 0, none⟩)] w fun e w' => e = .returned (.int .i64 (Ad.sum f)) ∧ w = w' := by
  obtain ⟨c0, c1, c2, c3⟩ := adm_all h
  have HF := Lib.hid hf
  have HS := Lib.hid (Ad.part_all f)
  generalize Ad.sum f = z at HS ⊢
  clear h hf
  go_enter Try.func8, Try.ntmps8
  go_wp2_with fail
  have i0 : ∀ w, (Instr.index 25 (.agg #[.int .i64 (f 0), .int .i64 (f 1), .int .i64 (f 2), .int .i64 (f 3)]) (.int .i64 0)).run Try.prog w = .ok (.int .i64 (f 0)) w := fun _ => by kernel_rfl
  have i1 : ∀ w, (Instr.index 25 (.agg #[.int .i64 (f 0), .int .i64 (f 1), .int .i64 (f 2), .int .i64 (f 3)]) (.int .i64 1)).run Try.prog w = .ok (.int .i64 (f 1)) w := fun _ => by kernel_rfl
  have i2 : ∀ w, (Instr.index 25 (.agg #[.int .i64 (f 0), .int .i64 (f 1), .int .i64 (f 2), .int .i64 (f 3)]) (.int .i64 2)).run Try.prog w = .ok (.int .i64 (f 2)) w := fun _ => by kernel_rfl
  have i3 : ∀ w, (Instr.index 25 (.agg #[.int .i64 (f 0), .int .i64 (f 1), .int .i64 (f 2), .int .i64 (f 3)]) (.int .i64 3)).run Try.prog w = .ok (.int .i64 (f 3)) w := fun _ => by kernel_rfl
  go_loopg [3, 12] (5 : Nat) (fun gh s3 s12 wx => ∃ (i : Nat) (z p : Int), p = Ad.part f i ∧ z = i ∧ s3 = .int .i64 p ∧ s12 = .int .i64 z ∧ i ≤ 4 ∧ 5 - i ≤ gh ∧ wx = w)
  case atStart => exact ⟨0, 0, 0, rfl, rfl, rfl, rfl, by omega, by omega, rfl⟩
  case round =>
    obtain ⟨i, z, p, hp, hz, rfl, rfl, hi, hg, rfl⟩ := hrel
    have hq := HF.out.part i
    have hr := HF.out i
    have hpi : Ad.part f (i + 1) = Ad.part f i + f i := rfl
    rw [← hp] at hpi hq
    have hw1 : IntKind.i64.wrap (p + f i) = p + f i := by rw [IntKind.wrap_i64]; omega
    have HP := Lib.hid hpi
    have HQ := Lib.hid hp
    clear hpi hp hq hr
    rcases (show i = 0 ∨ i = 1 ∨ i = 2 ∨ i = 3 ∨ i = 4 by omega) with rfl | rfl | rfl | rfl | rfl
    rotate_right
    · obtain rfl : z = 4 := hz
      go_wp2_with fail
      go_ret
      exact ⟨by rw [← HS.out, ← HQ.out]; rfl, rfl⟩
    · obtain rfl : z = 0 := hz
      go_wp2_with fail
      go_roundg (5 - 1)
      case measure => omega
      case rel => exact ⟨_, _, _, HP.out.symm, rfl, rfl, rfl, by omega, by omega, rfl⟩
    · obtain rfl : z = 1 := hz
      go_wp2_with fail
      go_roundg (5 - 2)
      case measure => omega
      case rel => exact ⟨_, _, _, HP.out.symm, rfl, rfl, rfl, by omega, by omega, rfl⟩
    · obtain rfl : z = 2 := hz
      go_wp2_with fail
      go_roundg (5 - 3)
      case measure => omega
      case rel => exact ⟨_, _, _, HP.out.symm, rfl, rfl, rfl, by omega, by omega, rfl⟩
    · obtain rfl : z = 3 := hz
      go_wp2_with fail
      go_roundg (5 - 4)
      case measure => omega
      case rel => exact ⟨_, _, _, HP.out.symm, rfl, rfl, rfl, by omega, by omega, rfl⟩

/-- To. -/
theorem ato_yes {P : Nat} {x y : Int} {f : Nat → Int} {k : Nat} (hk : k < 4) (w : World) (h : w.heap[P]? = some (adm x y f)) :
    Calls Try.prog 9 #[.pointer (some ⟨P, 0, none⟩), .int .i64 k] w fun e w' => e = .returned (.int .i64 (f k)) ∧ w = w' := by
  obtain ⟨c0, c1, cf⟩ := adm_cells h
  have ck := (cf k hk).1
  have hk' : (k : Int) < 4 := by omega
  clear cf h c0 c1
  go_enter Try.func9, Try.ntmps9
  go_wp2_with fail
  refine (ahas_yes P k hk _).mono ?_
  rintro e w1 ⟨rfl, rfl⟩
  go_wp2_with fail
  go_ret
  exact ⟨rfl, rfl⟩
theorem ato_no (P : Nat) (k : Int) (hk : ¬(0 ≤ k ∧ k < 4)) (w : World) :
    Calls Try.prog 9 #[.pointer (some ⟨P, 0, none⟩), .int .i64 k] w fun e w' => e = .returned (.int .i64 0) ∧ w = w' := by
  have HN := Lib.hid (fun w => ahas_no P k hk w)
  clear hk
  go_enter Try.func9, Try.ntmps9
  go_wp2_with fail
  refine (HN.out _).mono ?_
  rintro e w1 ⟨rfl, rfl⟩
  go_wp2_with fail
  go_ret
  exact ⟨rfl, rfl⟩
theorem ato_nil (k : Int) (w : World) :
    Calls Try.prog 9 #[.pointer none, .int .i64 k] w fun e w' => e = .returned (.int .i64 0) ∧ w = w' := by
  go_enter Try.func9, Try.ntmps9
  go_wp2_with fail
  refine (ahas_nil k _).mono ?_
  rintro e w1 ⟨rfl, rfl⟩
  go_wp2_with fail
  go_ret
  exact ⟨rfl, rfl⟩

set_option maxHeartbeats 1000000 in
/-- Give: one goes on there. -/
theorem agive_yes {P : Nat} {x y : Int} {f : Nat → Int} {k : Nat} (hk : k < 4) (hf : 0 < f k ∧ f k ≤ 64) (w : World) (h : w.heap[P]? = some (adm x y f)) :
    Calls Try.prog 6 #[.pointer (some ⟨P, 0, none⟩), .int .i64 k] w fun e w' => e = .returned (.bool true) ∧ w'.heap[P]? = some (adm x y (Ad.put f k (f k - 1))) ∧ Rest (fun i => i = P) w w' := by
  obtain ⟨c0, c1, cf⟩ := adm_cells h
  have ck := (cf k hk).1
  have fk := (cf k hk).2
  have hk' : (k : Int) < 4 := by omega
  have hto := fun w h => ato_yes (P := P) (x := x) (y := y) (f := f) hk w h
  have H := Lib.hid h
  have HP := Lib.hid (fun w h => adm_put (P := P) (w := w) (x := x) (y := y) (f := f) h hk)
  generalize f k = z at hf ck hto HP ⊢
  obtain ⟨h0, h1⟩ := hf
  have hw : IntKind.i64.wrap (z - 1) = z - 1 := by rw [IntKind.wrap_i64]; omega
  have hd : (z == 0) = false := by simp; omega
  clear cf h c0 c1
  go_enter Try.func6, Try.ntmps6
  go_wp2_with fail
  refine (hto _ H.out).mono ?_
  rintro e w1 ⟨rfl, rfl⟩
  go_wp2_with fail
  go_region
  all_goals
    go_wp2
    go_ret
    have hq := HP.out _ H.out (z - 1)
    exact ⟨rfl, hq.1, hq.2.trans (Rest.drew _ _) (fun _ _ => id) (fun _ _ => id)⟩
theorem agive_no {P : Nat} {x y : Int} {f : Nat → Int} {k : Nat} (hk : k < 4) (hf : f k = 0) (w : World) (h : w.heap[P]? = some (adm x y f)) :
    Calls Try.prog 6 #[.pointer (some ⟨P, 0, none⟩), .int .i64 k] w fun e w' => e = .returned (.bool false) ∧ w = w' := by
  have hto := fun w h => ato_yes (P := P) (x := x) (y := y) (f := f) hk w h
  have H := Lib.hid h
  rw [hf] at hto
  clear hf h
  go_enter Try.func6, Try.ntmps6
  go_wp2_with fail
  refine (hto _ H.out).mono ?_
  rintro e w1 ⟨rfl, rfl⟩
  go_wp2_with fail
  go_ret
  exact ⟨rfl, rfl⟩
theorem agive_out (P : Nat) (k : Int) (hk : ¬(0 ≤ k ∧ k < 4)) (w : World) :
    Calls Try.prog 6 #[.pointer (some ⟨P, 0, none⟩), .int .i64 k] w fun e w' => e = .returned (.bool false) ∧ w = w' := by
  have HN := Lib.hid (fun w => ato_no P k hk w)
  clear hk
  go_enter Try.func6, Try.ntmps6
  go_wp2_with fail
  refine (HN.out _).mono ?_
  rintro e w1 ⟨rfl, rfl⟩
  go_wp2_with fail
  go_ret
  exact ⟨rfl, rfl⟩
theorem agive_nil (k : Int) (w : World) :
    Calls Try.prog 6 #[.pointer none, .int .i64 k] w fun e w' => e = .returned (.bool false) ∧ w = w' := by
  go_enter Try.func6, Try.ntmps6
  go_wp2_with fail
  refine (ato_nil k _).mono ?_
  rintro e w1 ⟨rfl, rfl⟩
  go_wp2_with fail
  go_ret
  exact ⟨rfl, rfl⟩

set_option maxHeartbeats 1000000 in
/-- Take: one more may. -/
theorem atake_yes {P : Nat} {x y : Int} {f : Nat → Int} {k : Nat} (hk : k < 4) (hf : Ad.Ok f) (hs : Ad.sum f < x) (hy : f k < y) (h64 : y ≤ 64) (w : World) (h : w.heap[P]? = some (adm x y f)) :
    Calls Try.prog 7 #[.pointer (some ⟨P, 0, none⟩), .int .i64 k] w fun e w' => e = .returned (.bool true) ∧ w'.heap[P]? = some (adm x y (Ad.put f k (f k + 1))) ∧ Rest (fun i => i = P) w w' := by
  obtain ⟨c0, c1, cf⟩ := adm_cells h
  have ck := (cf k hk).1
  have fk := (cf k hk).2
  have hk' : (k : Int) < 4 := by omega
  have hlen := fun w h => (alen_any (P := P) (x := x) (y := y) hf w h).mono (fun _ _ h => And.intro h.1 h.2.symm)
  have hhas := fun w => (ahas_yes P k hk w).mono (fun _ _ h => And.intro h.1 h.2.symm)
  have H := Lib.hid h
  have HP := Lib.hid (fun w h => adm_put (P := P) (w := w) (x := x) (y := y) (f := f) h hk)
  have hz := hf k
  generalize f k = z at hz ck HP hy ⊢
  generalize Ad.sum f = u at hlen hs
  obtain ⟨h0, h1⟩ := hz
  have hw : IntKind.i64.wrap (z + 1) = z + 1 := by rw [IntKind.wrap_i64]; omega
  have hd : decide (x ≤ u) = false := by simp; omega
  have he : decide (y ≤ z) = false := by simp; omega
  clear cf h hf
  go_enter Try.func7, Try.ntmps7
  go_wp2_with fail
  go_quiet ((first | (go_at_call 12; exact Calls.quiet_of_same (hhas _)) | (go_at_call 8; exact Calls.quiet_of_same (hlen _ H.out))))
  go_wp2_with fail
  go_region
  all_goals
    go_wp2
    go_ret
    have hr : Rest (fun i => i = P) w (w.drewN (nq + 1)) := ⟨rfl, rfl, rfl, Nat.le_refl _, fun _ _ _ => rfl⟩
    have hq := HP.out (w.drewN (nq + 1)) H.out (z + 1)
    exact ⟨rfl, hq.1, hr.trans hq.2 (fun _ _ => id) (fun _ _ => id)⟩
set_option maxHeartbeats 1000000 in
/-- .. or not: so many in all. -/
theorem atake_full {P : Nat} {x y : Int} {f : Nat → Int} {k : Nat} (hk : k < 4) (hf : Ad.Ok f) (hs : x ≤ Ad.sum f) (w : World) (h : w.heap[P]? = some (adm x y f)) :
    Calls Try.prog 7 #[.pointer (some ⟨P, 0, none⟩), .int .i64 k] w fun e w' => e = .returned (.bool false) ∧ Below w.heap.size w w' := by
  obtain ⟨c0, c1, cf⟩ := adm_cells h
  have ck := (cf k hk).1
  have hk' : (k : Int) < 4 := by omega
  have hlen := fun w h => (alen_any (P := P) (x := x) (y := y) hf w h).mono (fun _ _ h => And.intro h.1 h.2.symm)
  have hhas := fun w => (ahas_yes P k hk w).mono (fun _ _ h => And.intro h.1 h.2.symm)
  have H := Lib.hid h
  generalize f k = z at ck
  generalize Ad.sum f = u at hlen hs
  have hd : decide (x ≤ u) = true := by simp; omega
  clear cf h hf
  go_enter Try.func7, Try.ntmps7
  go_wp2_with fail
  go_quiet ((first | (go_at_call 12; exact Calls.quiet_of_same (hhas _)) | (go_at_call 8; exact Calls.quiet_of_same (hlen _ H.out))))
  go_wp2
  go_ret
  exact ⟨rfl, Ad.below_drewN (Below.refl _ _) _⟩
set_option maxHeartbeats 1000000 in
/-- .. or not: so many to that service. -/
theorem atake_many {P : Nat} {x y : Int} {f : Nat → Int} {k : Nat} (hk : k < 4) (hf : Ad.Ok f) (hs : Ad.sum f < x) (hy : y ≤ f k) (w : World) (h : w.heap[P]? = some (adm x y f)) :
    Calls Try.prog 7 #[.pointer (some ⟨P, 0, none⟩), .int .i64 k] w fun e w' => e = .returned (.bool false) ∧ Below w.heap.size w w' := by
  obtain ⟨c0, c1, cf⟩ := adm_cells h
  have ck := (cf k hk).1
  have hk' : (k : Int) < 4 := by omega
  have hlen := fun w h => (alen_any (P := P) (x := x) (y := y) hf w h).mono (fun _ _ h => And.intro h.1 h.2.symm)
  have hhas := fun w => (ahas_yes P k hk w).mono (fun _ _ h => And.intro h.1 h.2.symm)
  have H := Lib.hid h
  generalize f k = z at ck hy
  generalize Ad.sum f = u at hlen hs
  have hd : decide (x ≤ u) = false := by simp; omega
  have he : decide (y ≤ z) = true := by simp; omega
  clear cf h hf
  go_enter Try.func7, Try.ntmps7
  go_wp2_with fail
  go_quiet ((first | (go_at_call 12; exact Calls.quiet_of_same (hhas _)) | (go_at_call 8; exact Calls.quiet_of_same (hlen _ H.out))))
  go_wp2
  go_ret
  exact ⟨rfl, Ad.below_drewN (Below.refl _ _) _⟩
theorem atake_out (P : Nat) (k : Int) (hk : ¬(0 ≤ k ∧ k < 4)) (w : World) :
    Calls Try.prog 7 #[.pointer (some ⟨P, 0, none⟩), .int .i64 k] w fun e w' => e = .returned (.bool false) ∧ Below w.heap.size w w' := by
  have HN := Lib.hid (fun w => (ahas_no P k hk w).mono (fun _ _ h => And.intro h.1 h.2.symm))
  clear hk
  go_enter Try.func7, Try.ntmps7
  go_wp2_with fail
  go_quiet ((go_at_call 12; exact Calls.quiet_of_same (HN.out _)))
  go_wp2
  go_ret
  exact ⟨rfl, Ad.below_drewN (Below.refl _ _) _⟩
theorem atake_nil (k : Int) (w : World) :
    Calls Try.prog 7 #[.pointer none, .int .i64 k] w fun e w' => e = .returned (.bool false) ∧ Below w.heap.size w w' := by
  have HN := Lib.hid (fun w => (ahas_nil k w).mono (fun _ _ h => And.intro h.1 h.2.symm))
  go_enter Try.func7, Try.ntmps7
  go_wp2_with fail
  go_quiet ((go_at_call 12; exact Calls.quiet_of_same (HN.out _)))
  go_wp2
  go_ret
  exact ⟨rfl, Ad.below_drewN (Below.refl _ _) _⟩
end Go.Proofs.Ytpknonfiiegnnaa
