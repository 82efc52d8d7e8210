/- The contracts of all of chunks' calls, nil and not: what came of a stream, as two counts and sixty-four places. -/
import Derived.Test.YtflfmbapjcpalaaUpn
import Derived.RegionTactic
import Derived.BigRegion
import Derived.BigQuiet
import Derived.Deep.RegionWith
import Derived.Deep.DeepCutAuto
namespace Go.Proofs.Ytflfmbapjcpalaa
open Go.RowKit

namespace Ck
/-- One place is written. -/
def put (f : Nat → Int) (k : Nat) (v : Int) (i : Nat) : Int := if i = k then v else f i
/-- The cells: how many came, how many were read, whether it ended, what is kept. -/
def row (C R : Int) (e : Bool) (f : Nat → Int) : List Value := .int .i64 C :: .int .i64 R :: .bool e :: (List.range 64).map fun k => .int .u32 (f k)
theorem row_at (C R : Int) (e : Bool) (f : Nat → Int) {k : Nat} (h : k < 64) : (row C R e f).toArray[3 + k]? = some (.int .u32 (f k)) := by
  rw [List.getElem?_toArray, Nat.add_comm]
  simp [row, h]
theorem row_put (C R : Int) (e : Bool) (f : Nat → Int) {k : Nat} (_ : k < 64) (v : Int) : (row C R e f).toArray.setIfInBounds (3 + k) (.int .u32 v) = (row C R e (put f k v)).toArray := by
  apply Array.ext_getElem?
  intro j
  rw [Array.getElem?_setIfInBounds, List.getElem?_toArray, List.getElem?_toArray]
  rcases (show j = 0 ∨ j = 1 ∨ j = 2 ∨ ∃ i, j = i + 3 by exact match j with | 0 => .inl rfl | 1 => .inr (.inl rfl) | 2 => .inr (.inr (.inl rfl)) | i + 3 => .inr (.inr (.inr ⟨i, rfl⟩))) with rfl | rfl | rfl | ⟨i, rfl⟩
  · rw [if_neg (by omega)]; rfl
  · rw [if_neg (by omega)]; rfl
  · rw [if_neg (by omega)]; rfl
  · by_cases hi : i < 64
    · by_cases e : i = k
      · subst e
        rw [if_pos (by omega)]
        have hl : 3 + i < 67 := by omega
        simp [row, put, hi, hl]
      · rw [if_neg (by omega)]
        simp [row, put, hi, e]
    · rw [if_neg (by omega)]
      simp [row, hi]
end Ck

/-- What lies behind the pointer. -/
def cks (C R : Int) (e : Bool) (f : Nat → Int) : Obj := .cells (Ck.row C R e f).toArray 34 (0, 0)
theorem cks_cells {w : World} {P : Nat} {C R : Int} {e : Bool} {f : Nat → Int} (h : w.heap[P]? = some (cks C R e f)) :
    w.cell? ⟨P, 0, none⟩ = some (.int .i64 C) ∧ w.cell? ⟨P, 1, none⟩ = some (.int .i64 R) ∧ w.cell? ⟨P, 2, none⟩ = some (.bool e) ∧ (∀ k, k < 64 → w.cell? ⟨P, 3 + k, none⟩ = some (.int .u32 (f k))) :=
  ⟨(cell_of_row _ _ _ _ _ _ h).trans rfl, (cell_of_row _ _ _ _ _ _ h).trans rfl, (cell_of_row _ _ _ _ _ _ h).trans rfl, fun _ hk => (cell_of_row _ _ _ _ _ _ h).trans (Ck.row_at C R e f hk)⟩
theorem cks_free {w : World} {P : Nat} {C R : Int} {e : Bool} {f : Nat → Int} (h : w.heap[P]? = some (cks C R e f)) (k : Nat) : w.frozen? ⟨P, k, none⟩ = false := frozen_of_row _ _ _ _ _ h
theorem cks_came {w : World} {P : Nat} {C R : Int} {e : Bool} {f : Nat → Int} (h : w.heap[P]? = some (cks C R e f)) (x : Int) : (w.setCell ⟨P, 0, none⟩ (.int .i64 x)).heap[P]? = some (cks x R e f) := by
  refine (heap_setCell_same _ _ 0 _ _ _ h).trans ?_
  simp [cks, Ck.row]
theorem cks_read {w : World} {P : Nat} {C R : Int} {e : Bool} {f : Nat → Int} (h : w.heap[P]? = some (cks C R e f)) (x : Int) : (w.setCell ⟨P, 1, none⟩ (.int .i64 x)).heap[P]? = some (cks C x e f) := by
  refine (heap_setCell_same _ _ 1 _ _ _ h).trans ?_
  simp [cks, Ck.row]
theorem cks_ended {w : World} {P : Nat} {C R : Int} {e : Bool} {f : Nat → Int} (h : w.heap[P]? = some (cks C R e f)) (x : Bool) : (w.setCell ⟨P, 2, none⟩ (.bool x)).heap[P]? = some (cks C R x f) := by
  refine (heap_setCell_same _ _ 2 _ _ _ h).trans ?_
  simp [cks, Ck.row]
theorem cks_put {w : World} {P : Nat} {C R : Int} {e : Bool} {f : Nat → Int} (h : w.heap[P]? = some (cks C R e f)) {k : Nat} (hk : k < 64) (v : Int) : (w.setCell ⟨P, 3 + k, none⟩ (.int .u32 v)).heap[P]? = some (cks C R e (Ck.put f k v)) := by
  refine (heap_setCell_same _ _ (3 + k) _ _ _ h).trans ?_
  rw [Ck.row_put C R e f hk v]
  rfl

/-! Of none. -/
theorem ckcame_nil (w : World) : Calls Try.prog 8 #[.pointer none] w fun e w' => e = .returned (.int .i64 0) ∧ w = w' := by
  go_enter Try.func8, Try.ntmps8
  go_wp2
  all_goals (go_ret; exact ⟨rfl, rfl⟩)
theorem ckleft_nil (w : World) : Calls Try.prog 9 #[.pointer none] w fun e w' => e = .returned (.int .i64 0) ∧ w = w' := by
  go_enter Try.func9, Try.ntmps9
  go_wp2
  all_goals (go_ret; exact ⟨rfl, rfl⟩)
theorem ckended_nil (w : World) : Calls Try.prog 10 #[.pointer none] w fun e w' => e = .returned (.bool false) ∧ w = w' := by
  go_enter Try.func10, Try.ntmps10
  go_wp2
  all_goals (go_ret; exact ⟨rfl, rfl⟩)
theorem ckend_nil (n : Int) (w : World) : Calls Try.prog 7 #[.pointer none, .int .i64 n] w fun e w' => e = .returned (.int .i64 1) ∧ w = w' := by
  go_enter Try.func7, Try.ntmps7
  go_wp2
  all_goals (go_ret; exact ⟨rfl, rfl⟩)
theorem ckput_nil (s v : Int) (w : World) : Calls Try.prog 6 #[.pointer none, .int .i64 s, .int .u32 v] w fun e w' => e = .returned (.int .i64 1) ∧ w = w' := by
  go_enter Try.func6, Try.ntmps6
  go_wp2
  all_goals (go_ret; exact ⟨rfl, rfl⟩)
theorem ckread_nil (w : World) : Calls Try.prog 4 #[.pointer none] w fun e w' => e = .returned (.tuple #[.int .u32 0, .bool false]) ∧ w = w' := by
  go_enter Try.func4, Try.ntmps4
  go_wp2_with fail
  refine (ckleft_nil _).mono ?_
  rintro e w1 ⟨rfl, rfl⟩
  go_wp2_with fail
  go_ret2
  exact ⟨rfl, rfl⟩

/-! Of one. -/
/-- New: nothing came. -/
theorem cknew_any (w : World) : Calls Try.prog 12 #[] w fun e w' => e = .returned (.pointer (some ⟨w.heap.size, 0, none⟩)) ∧ w' = w.alloc (cks 0 0 false fun _ => 0) := by
  have hz : ∀ w, Sem.run Try.prog (zeroValue 34) w = .ok (.agg (Ck.row 0 0 false fun _ => 0).toArray) w := fun _ => by kernel_rfl
  go_enter Try.func12, Try.ntmps12
  go_wp2_with fail
  go_ret
  exact ⟨rfl, rfl⟩
/-- place. -/
theorem ckplace_any {s : Int} {k : Nat} (hk : s.tmod 64 = k) (w : World) : Calls Try.prog 11 #[.int .i64 s] w fun e w' => e = .returned (.int .i64 (k : Int)) ∧ w = w' := by
  go_enter Try.func11, Try.ntmps11
  go_wp2_with fail
  go_ret
  exact ⟨rfl, rfl⟩
theorem ckcame_any {P : Nat} {C R : Int} {e : Bool} {f : Nat → Int} (w : World) (h : w.heap[P]? = some (cks C R e f)) : Calls Try.prog 8 #[.pointer (some ⟨P, 0, none⟩)] w fun e w' => e = .returned (.int .i64 C) ∧ w = w' := by
  obtain ⟨c0, c1, c2, -⟩ := cks_cells h
  clear h
  go_enter Try.func8, Try.ntmps8
  go_wp2
  all_goals (go_ret; exact ⟨rfl, rfl⟩)
theorem ckended_any {P : Nat} {C R : Int} {e : Bool} {f : Nat → Int} (w : World) (h : w.heap[P]? = some (cks C R e f)) : Calls Try.prog 10 #[.pointer (some ⟨P, 0, none⟩)] w fun x w' => x = .returned (.bool e) ∧ w = w' := by
  obtain ⟨c0, c1, c2, -⟩ := cks_cells h
  clear h
  go_enter Try.func10, Try.ntmps10
  go_wp2
  all_goals (go_ret; exact ⟨rfl, rfl⟩)
theorem ckleft_any {P : Nat} {C R o : Int} {e : Bool} {f : Nat → Int} (ho : IntKind.i64.wrap (C - R) = o) (w : World) (h : w.heap[P]? = some (cks C R e f)) : Calls Try.prog 9 #[.pointer (some ⟨P, 0, none⟩)] w fun e w' => e = .returned (.int .i64 o) ∧ Below w.heap.size w w' := by
  obtain ⟨c0, c1, c2, -⟩ := cks_cells h
  clear h
  go_enter Try.func9, Try.ntmps9
  go_wp2_with fail
  go_quiet (fail)
  go_wp2
  go_ret
  exact ⟨rfl, rfl, rfl, rfl, Nat.le_refl _, fun _ _ => rfl⟩

/-! End. -/
theorem ckend_no {P : Nat} {C R n : Int} {e : Bool} {f : Nat → Int} (hn : n ≠ C) (w : World) (h : w.heap[P]? = some (cks C R e f)) : Calls Try.prog 7 #[.pointer (some ⟨P, 0, none⟩), .int .i64 n] w fun x w' => x = .returned (.int .i64 2) ∧ w = w' := by
  obtain ⟨c0, c1, c2, -⟩ := cks_cells h
  clear h
  go_enter Try.func7, Try.ntmps7
  go_wp2
  all_goals (go_ret; exact ⟨rfl, rfl⟩)
theorem ckend_yes {P : Nat} {C R : Int} {e : Bool} {f : Nat → Int} (w : World) (h : w.heap[P]? = some (cks C R e f)) : Calls Try.prog 7 #[.pointer (some ⟨P, 0, none⟩), .int .i64 C] w fun x w' => x = .returned (.int .i64 0) ∧ w'.heap[P]? = some (cks C R true f) ∧ Rest (fun i => i = P) w w' := by
  obtain ⟨c0, c1, c2, -⟩ := cks_cells h
  have f2 := cks_free h 2
  have H := Lib.hid h
  clear h
  go_enter Try.func7, Try.ntmps7
  go_wp2_with fail
  go_ret
  exact ⟨rfl, cks_ended H.out true, Rest.setCell _ _ _ rfl⟩

/-! Put. -/
theorem ckput_stale {P : Nat} {C R s : Int} {e : Bool} {f : Nat → Int} (hs : s < C) (v : Int) (w : World) (h : w.heap[P]? = some (cks C R e f)) : Calls Try.prog 6 #[.pointer (some ⟨P, 0, none⟩), .int .i64 s, .int .u32 v] w fun x w' => x = .returned (.int .i64 5) ∧ w = w' := by
  obtain ⟨c0, c1, c2, -⟩ := cks_cells h
  clear h
  go_enter Try.func6, Try.ntmps6
  go_wp2_with fail
  go_ret
  exact ⟨rfl, rfl⟩
/-- Not the next one, or behind the end. -/
theorem ckput_form {P : Nat} {C R s : Int} {e : Bool} {f : Nat → Int} (hs : C < s ∨ s = C ∧ e = true) (v : Int) (w : World) (h : w.heap[P]? = some (cks C R e f)) : Calls Try.prog 6 #[.pointer (some ⟨P, 0, none⟩), .int .i64 s, .int .u32 v] w fun x w' => x = .returned (.int .i64 2) ∧ w = w' := by
  obtain ⟨c0, c1, c2, -⟩ := cks_cells h
  clear h
  rcases hs with hs | ⟨rfl, rfl⟩
  · have h1 : ¬s < C := by omega
    go_enter Try.func6, Try.ntmps6
    go_wp2_with fail
    all_goals (go_ret; exact ⟨rfl, rfl⟩)
  · have h1 : ¬s < s := by omega
    go_enter Try.func6, Try.ntmps6
    go_wp2_with fail
    all_goals (go_ret; exact ⟨rfl, rfl⟩)
theorem ckput_full {P : Nat} {C R : Int} {f : Nat → Int} (ho : IntKind.i64.wrap (C - R) = 64) (v : Int) (w : World) (h : w.heap[P]? = some (cks C R false f)) : Calls Try.prog 6 #[.pointer (some ⟨P, 0, none⟩), .int .i64 C, .int .u32 v] w fun x w' => x = .returned (.int .i64 3) ∧ Below w.heap.size w w' := by
  obtain ⟨c0, c1, c2, -⟩ := cks_cells h
  have h1 : ¬C < C := by omega
  have HL := Lib.hid (ckleft_any ho w h)
  clear h ho
  go_enter Try.func6, Try.ntmps6
  go_wp2_with fail
  refine HL.out.mono ?_
  rintro e w1 ⟨rfl, hb⟩
  go_wp2_with fail
  go_ret
  exact ⟨rfl, hb⟩
set_option maxHeartbeats 1000000 in
theorem ckput_yes {P k : Nat} {C R o C' : Int} {f : Nat → Int} (ho : IntKind.i64.wrap (C - R) = o) (hn : o ≠ 64) (hk : C.tmod 64 = k) (hk' : k < 64) (hc : IntKind.i64.wrap (C + 1) = C') (v : Int) (w : World) (h : w.heap[P]? = some (cks C R false f)) :
    Calls Try.prog 6 #[.pointer (some ⟨P, 0, none⟩), .int .i64 C, .int .u32 v] w fun x w' => x = .returned (.int .i64 0) ∧ w'.heap[P]? = some (cks C' R false (Ck.put f k v)) ∧ Rest (fun i => i = P) w w' := by
  obtain ⟨c0, c1, c2, -⟩ := cks_cells h
  have h1 : ¬C < C := by omega
  have HL := Lib.hid (ckleft_any ho w h)
  have HK := Lib.hid (fun w => ckplace_any hk w)
  have H := Lib.hid h
  clear h ho hk
  go_enter Try.func6, Try.ntmps6
  go_wp2_with fail
  refine HL.out.mono ?_
  rintro e w1 ⟨rfl, hb⟩
  have h1 := keep H.out hb
  obtain ⟨c0, c1, c2, ck⟩ := cks_cells h1
  have ck := ck k hk'
  have fk := cks_free h1 (3 + k)
  have f0 := cks_free h1 0
  have hki : (k : Int) < 64 := by omega
  have h2 := cks_put h1 hk' v
  have hr : Rest (fun i => i = P) w (w1.setCell ⟨P, 3 + k, none⟩ (.int .u32 v)).drew := (Rest.of_below (own := fun i => i = P) hb).trans ((Rest.setCell (own := fun i => i = P) w1 _ _ rfl).trans (Rest.drew _ _) (fun _ _ => id) (fun _ _ => id)) (fun _ _ => id) (fun _ _ => id)
  have H2 := Lib.hid (show (w1.setCell ⟨P, 3 + k, none⟩ (.int .u32 v)).drew.heap[P]? = some (cks C R false (Ck.put f k v)) from h2)
  have HR := Lib.hid hr
  clear h1 h2 hr hb
  go_upto_region 9 with fail
  go_region_with (go_at_call 11; refine (HK.out _).mono ?_; rintro e w2 ⟨rfl, rfl⟩)
  all_goals
    clear c0 c1 c2 ck fk f0 HL HK
    generalize (w1.setCell ⟨P, 3 + k, none⟩ (.int .u32 v)).drew = w3 at H2 HR ⊢
    obtain ⟨c0, -, -, -⟩ := cks_cells H2.out
    have f0 := cks_free H2.out 0
    go_wp2_with fail
    go_ret
    exact ⟨rfl, cks_came H2.out C', HR.out.trans (Rest.setCell (own := fun i => i = P) _ _ _ rfl) (fun _ _ => id) (fun _ _ => id)⟩

/-! Read. -/
theorem ckread_no {P : Nat} {C R : Int} {e : Bool} {f : Nat → Int} (ho : IntKind.i64.wrap (C - R) = 0) (w : World) (h : w.heap[P]? = some (cks C R e f)) : Calls Try.prog 4 #[.pointer (some ⟨P, 0, none⟩)] w fun x w' => x = .returned (.tuple #[.int .u32 0, .bool false]) ∧ Below w.heap.size w w' := by
  have HL := Lib.hid (ckleft_any ho w h)
  clear h ho
  go_enter Try.func4, Try.ntmps4
  go_wp2_with fail
  refine HL.out.mono ?_
  rintro e w1 ⟨rfl, hb⟩
  go_wp2_with fail
  go_ret2
  exact ⟨rfl, hb⟩
set_option maxHeartbeats 1000000 in
theorem ckread_yes {P k : Nat} {C R o R' : Int} {e : Bool} {f : Nat → Int} (ho : IntKind.i64.wrap (C - R) = o) (hn : o ≠ 0) (hk : R.tmod 64 = k) (hk' : k < 64) (hr : IntKind.i64.wrap (R + 1) = R') (w : World) (h : w.heap[P]? = some (cks C R e f)) :
    Calls Try.prog 4 #[.pointer (some ⟨P, 0, none⟩)] w fun x w' => x = .returned (.tuple #[.int .u32 (f k), .bool true]) ∧ w'.heap[P]? = some (cks C R' e f) ∧ Rest (fun i => i = P) w w' := by
  have HL := Lib.hid (ckleft_any ho w h)
  have HK := Lib.hid (fun w => (ckplace_any hk w).mono (fun _ _ h => And.intro h.1 h.2.symm))
  have H := Lib.hid h
  clear h ho hk
  go_enter Try.func4, Try.ntmps4
  go_wp2_with fail
  refine HL.out.mono ?_
  rintro x w1 ⟨rfl, hb⟩
  have h1 := keep H.out hb
  obtain ⟨c0, c1, c2, ck⟩ := cks_cells h1
  have ck := ck k hk'
  have f1 := cks_free h1 1
  have hki : (k : Int) < 64 := by omega
  have H1 := Lib.hid h1
  clear h1
  go_wp2_with fail
  go_quiet ((go_at_call 11; exact Calls.quiet_of_same (HK.out _)))
  have H3 := Lib.hid (show (w1.drewN nq).heap[P]? = some (cks C R e f) from H1.out)
  have HR := Lib.hid (show Rest (fun i => i = P) w (w1.drewN nq) from (Rest.of_below (own := fun i => i = P) hb).trans ⟨rfl, rfl, rfl, Nat.le_refl _, fun _ _ _ => rfl⟩ (fun _ _ => id) (fun _ _ => id))
  clear c0 c1 c2 ck f1 HL HK H1 hb
  generalize w1.drewN nq = w3 at H3 HR ⊢
  obtain ⟨-, c1, -, -⟩ := cks_cells H3.out
  have f1 := cks_free H3.out 1
  go_wp2_with fail
  go_ret2
  exact ⟨rfl, cks_read H3.out R', HR.out.trans (Rest.setCell (own := fun i => i = P) _ _ _ rfl) (fun _ _ => id) (fun _ _ => id)⟩
end Go.Proofs.Ytflfmbapjcpalaa
