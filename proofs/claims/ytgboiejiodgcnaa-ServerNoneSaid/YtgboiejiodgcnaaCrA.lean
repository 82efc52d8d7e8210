/- The contracts of credit's calls, with any numbers: how many chunks may come. -/
import Derived.Test.YtgboiejiodgcnaaBaseB
import Derived.Test.YtgboiejiodgcnaaResT
import Derived.Test.YtgboiejiodgcnaaTkA
import Derived.IntWalk
import Derived.Lib.QuietBelow
import Derived.RegionTactic
import Derived.BigRegion
import Derived.BigQuiet
import Derived.Deep.DeepCutAuto
namespace Go.Proofs.Ytgboiejiodgcnaa
open Go.RowKit Go.Sort

namespace Cr
/-- The nearest number from a to 16. -/
def cut (a n : Int) : Int := max a (min n 16)
/-- How many of n are granted. -/
def part (W o n : Int) : Int := max 0 (min n (W - o))
theorem cut_lo (a n : Int) : a ≤ cut a n := by unfold cut; omega
theorem cut_hi {a n : Int} (h : a ≤ 16) : cut a n ≤ 16 := by unfold cut; omega
theorem part_lo (W o n : Int) : 0 ≤ part W o n := by unfold part; omega
theorem part_hi {W o n : Int} (h : o ≤ W) : part W o n ≤ W - o := by unfold part; omega
/-- Two boxes laid one behind the other. -/
theorem boxes (w : World) (o o' : Obj) : Held w ((w.alloc o).alloc o') [(w.heap.size + 1, o'), (w.heap.size, o)] := by
  have := ((Held.start w).lay o).lay o'
  simpa using this
end Cr
theorem Try.sizeCrs : (Try.prog.info? 66).map (·.size) = some 2 := by kernel_rfl
/-- Three cells of a block, and that they may be written. -/
theorem tri_cells {w : World} {B : Nat} {t : TypeId} {c0 c1 c2 : Value} (h : w.heap[B]? = some (.cells #[c0, c1, c2] t (0, 0))) : w.cell? ⟨B, 0, none⟩ = some c0 ∧ w.cell? ⟨B, 1, none⟩ = some c1 ∧ w.cell? ⟨B, 2, none⟩ = some c2 :=
  ⟨cell_of_row _ _ _ _ _ _ h, cell_of_row _ _ _ _ _ _ h, cell_of_row _ _ _ _ _ _ h⟩
theorem tri_free {w : World} {B : Nat} {t : TypeId} {c0 c1 c2 : Value} (h : w.heap[B]? = some (.cells #[c0, c1, c2] t (0, 0))) : w.frozen? ⟨B, 0, none⟩ = false ∧ w.frozen? ⟨B, 1, none⟩ = false ∧ w.frozen? ⟨B, 2, none⟩ = false :=
  ⟨frozen_of_row _ _ _ _ _ h, frozen_of_row _ _ _ _ _ h, frozen_of_row _ _ _ _ _ h⟩
theorem duo_free {w : World} {B : Nat} {t : TypeId} {c0 c1 : Value} (h : w.heap[B]? = some (.cells #[c0, c1] t (0, 0))) : w.frozen? ⟨B, 0, none⟩ = false ∧ w.frozen? ⟨B, 1, none⟩ = false :=
  ⟨frozen_of_row _ _ _ _ _ h, frozen_of_row _ _ _ _ _ h⟩
/-- A block of three cells is written. -/
theorem Held.tri {w wx : World} {l : List (Nat × Obj)} {b : Nat} {t : TypeId} {c0 c1 c2 : Value} (h : Held w wx ((b, .cells #[c0, c1, c2] t (0, 0)) :: l)) (x y z : Value) :
    Held w (((wx.setCell ⟨b, 0, none⟩ x).setCell ⟨b, 1, none⟩ y).setCell ⟨b, 2, none⟩ z) ((b, .cells #[x, y, z] t (0, 0)) :: l) :=
  h.put (((h.below.setCell (h.old 0 rfl) _).setCell (h.old 0 rfl) _).setCell (h.old 0 rfl) _) (heap_setCell_same _ _ 2 _ _ _ (heap_setCell_same _ _ 1 _ _ _ (heap_setCell_same _ _ 0 _ _ _ (h.get 0 rfl)))) (fun _ hk => (heap_setCell_other _ _ _ _ hk).trans ((heap_setCell_other _ _ _ _ hk).trans (heap_setCell_other _ _ _ _ hk)))

/-- Its third one alone. -/
theorem Held.third {w wx : World} {l : List (Nat × Obj)} {b : Nat} {t : TypeId} {c0 c1 c2 : Value} (h : Held w wx ((b, .cells #[c0, c1, c2] t (0, 0)) :: l)) (x : Value) :
    Held w (wx.setCell ⟨b, 2, none⟩ x) ((b, .cells #[c0, c1, x] t (0, 0)) :: l) :=
  h.put (h.below.setCell (h.old 0 rfl) _) (heap_setCell_same _ _ 2 _ _ _ (h.get 0 rfl)) (fun _ hk => heap_setCell_other _ _ _ _ hk)
theorem Held.mid {w wx : World} {l : List (Nat × Obj)} {b : Nat} {t : TypeId} {c0 c1 c2 : Value} (h : Held w wx ((b, .cells #[c0, c1, c2] t (0, 0)) :: l)) (x : Value) :
    Held w (wx.setCell ⟨b, 1, none⟩ x) ((b, .cells #[c0, x, c2] t (0, 0)) :: l) :=
  h.put (h.below.setCell (h.old 0 rfl) _) (heap_setCell_same _ _ 1 _ _ _ (h.get 0 rfl)) (fun _ hk => heap_setCell_other _ _ _ _ hk)

/-- Window. -/
theorem crwin_any (n : Int) (w : World) : Calls Try.prog 50 #[.int .i64 n] w fun e w' => e = .returned (.int .i64 (Cr.cut 1 n)) ∧ w = w' := by
  have HC := Lib.hid (show Cr.cut 1 n = max 1 (min n 16) from rfl)
  generalize Cr.cut 1 n = c at HC ⊢
  rcases (show (n < 1 ∧ n ≤ 16) ∨ (1 ≤ n ∧ n ≤ 16) ∨ (16 < n) by omega) with ⟨h1, h2⟩ | ⟨h1, h2⟩ | h1
  all_goals
    go_enter Try.func50, Try.ntmps50
    go_wp2
    all_goals (go_ret; exact ⟨ret_i64 (by have := HC.out; omega), rfl⟩)





/-- Sent. -/
theorem crsent_any {L S : Int} (w : World) : Calls Try.prog 63 #[.agg #[.int .i64 L, .int .i64 S]] w fun e w' => e = .returned (.int .i64 S) ∧ Below w.heap.size w w' := by
  go_enter Try.func63, Try.ntmps63
  go_wp2_with fail
  go_ret
  exact ⟨rfl, below_box _ _⟩

/-- More. -/
theorem crmore_any {L S n L' : Int} (hl : IntKind.i64.wrap (L + Cr.cut 0 n) = L') (w : World) : Calls Try.prog 48 #[.agg #[.int .i64 L, .int .i64 S], .int .i64 n] w fun e w' => e = .returned (.agg #[.int .i64 L', .int .i64 S]) ∧ Below w.heap.size w w' := by
  go_enter Try.func48, Try.ntmps48
  go_upto_region 1 with fail
  have H := Lib.hid (Cr.boxes w (.cells #[.int .i64 L, .int .i64 S] 66) (.cells #[.int .i64 0, .int .i64 0] 66))
  generalize (w.alloc (.cells #[.int .i64 L, .int .i64 S] 66)).alloc (.cells #[.int .i64 0, .int .i64 0] 66) = w1 at H ⊢
  have HC := Lib.hid (show Cr.cut 0 n = max 0 (min n 16) from rfl)
  generalize Cr.cut 0 n = c at HC hl
  go_cut [] (fun wx => Hid (Held w wx [(w.heap.size, .cells #[.int .i64 L', .int .i64 S] 66 (0, 0)), (w.heap.size + 1, .cells #[.int .i64 0, .int .i64 0] 66 (0, 0))]))
  case first =>
    obtain ⟨c0, c1⟩ := two_cells (H.out.get 1 rfl)
    obtain ⟨f0, f1⟩ := duo_free (H.out.get 1 rfl)
    have HL := Lib.hid hl
    clear hl
    rcases (show (n < 0 ∧ n ≤ 16) ∨ (0 ≤ n ∧ n ≤ 16) ∨ (16 < n) by omega) with ⟨h1, h2⟩ | ⟨h1, h2⟩ | h1
    · have hw : wrap64 L = L' := by have := HC.out; rw [← HL.out, show c = 0 by omega, Int.add_zero]; exact (IntWalk.i64_left _).symm
      go_wp2_with fail
      all_goals
        go_meet
        case rel => exact Lib.hid (H.out.swap.one (.int .i64 L'))
    · have hw : wrap64 (L + n) = L' := by have := HC.out; rw [← HL.out, show c = n by omega]; exact (IntWalk.i64_left _).symm
      have e : (if (0 : Int) < n then n else 0) = n := by split <;> omega
      go_wp2_with fail
      all_goals
        go_meet
        case rel => exact Lib.hid (H.out.swap.one (.int .i64 L'))
    · have hw : wrap64 (L + 16) = L' := by have := HC.out; rw [← HL.out, show c = 16 by omega]; exact (IntWalk.i64_left _).symm
      go_wp2_with fail
      all_goals
        go_meet
        case rel => exact Lib.hid (H.out.swap.one (.int .i64 L'))
  case rest =>
  rename_i wx
  obtain ⟨c0, c1⟩ := two_cells (hcut.out.get 0 rfl)
  obtain ⟨d0, d1⟩ := two_cells (hcut.out.get 1 rfl)
  obtain ⟨f0, f1⟩ := duo_free (hcut.out.get 1 rfl)
  go_wp2_with fail
  have H4 := Lib.hid (hcut.out.swap.two (.int .i64 L') (.int .i64 S))
  exact bodyPost_ret (results_cell_row Try.results48 _ _ (w.heap.size + 1) 66 _ (0, 0) _ rfl (H4.out.get 0 rfl) Try.underlying66 rfl Try.sizeCrs) rfl ⟨rfl, H4.out.below⟩

/-- Three results, the first of them a block that is a struct. -/
theorem results_row_tmp2 {P : Program} {fn : Func} {p u v : Tmp} {ty : TypeId} (h : fn.results = #[.cell p ty, .tmp u, .tmp v]) (tmps : Array Value) (w : World) (g : Nat) (t : TypeId) (cs : Array Value) (fr : Nat × Nat) (d : TypeDesc)
    (hp : tmps.getD p undef = .pointer (some ⟨g, 0, none⟩)) (hg : w.heap[g]? = some (.cells cs t fr))
    (hu : P.underlying ty = some d) (hd : (match d with | .struct _ | .array _ _ => true | _ => false) = true) (hi : (P.info? ty).map (·.size) = some cs.size) :
    (results fn tmps).run P w = .ok (.tuple #[.agg cs, tmps.getD u undef, tmps.getD v undef]) w := by
  have e : (results fn tmps).run P w = ((asAddr (tmps.getD p undef)).run P w).andThen fun a w₁ => ((loadVar ty a).run P w₁).andThen fun x w₂ => .ok (.tuple #[x, tmps.getD u undef, tmps.getD v undef]) w₂ := by
    simp only [results, h]
    simp [Sem.run_bind, Result.andThen]
  rw [e, hp]
  simp [asAddr, Result.andThen, run_loadVar_row w g t ty cs fr d hg hu hd hi]

/-- Send. -/
theorem crsend_no (S : Int) (w : World) : Calls Try.prog 65 #[.agg #[.int .i64 0, .int .i64 S]] w fun e w' => e = .returned (.tuple #[.agg #[.int .i64 0, .int .i64 S], .int .i64 0, .bool false]) ∧ Below w.heap.size w w' := by
  go_enter Try.func65, Try.ntmps65
  go_upto_region 1 with fail
  have H := Lib.hid (Cr.boxes w (.cells #[.int .i64 0, .int .i64 S] 66) (.cells #[.int .i64 0, .int .i64 0] 66))
  generalize (w.alloc (.cells #[.int .i64 0, .int .i64 S] 66)).alloc (.cells #[.int .i64 0, .int .i64 0] 66) = w1 at H ⊢
  obtain ⟨c0, c1⟩ := two_cells (H.out.get 1 rfl)
  obtain ⟨d0, d1⟩ := two_cells (H.out.get 0 rfl)
  obtain ⟨f0, f1⟩ := duo_free (H.out.get 0 rfl)
  go_wp2_with fail
  have H3 := Lib.hid (H.out.two (.int .i64 0) (.int .i64 S))
  exact bodyPost_ret (results_row_tmp2 Try.results65 _ _ (w.heap.size + 1) 66 _ (0, 0) _ rfl (H3.out.get 0 rfl) Try.underlying66 rfl Try.sizeCrs) rfl ⟨rfl, H3.out.below⟩
theorem crsend_yes {L S L' S' : Int} (hL : L ≠ 0) (hl : IntKind.i64.wrap (L - 1) = L') (hs : IntKind.i64.wrap (S + 1) = S') (w : World) : Calls Try.prog 65 #[.agg #[.int .i64 L, .int .i64 S]] w fun e w' => e = .returned (.tuple #[.agg #[.int .i64 L', .int .i64 S'], .int .i64 S, .bool true]) ∧ Below w.heap.size w w' := by
  have hz : (L == 0) = false := by simpa using hL
  clear hL
  go_enter Try.func65, Try.ntmps65
  go_upto_region 1 with fail
  have H := Lib.hid (Cr.boxes w (.cells #[.int .i64 L, .int .i64 S] 66) (.cells #[.int .i64 0, .int .i64 0] 66))
  generalize (w.alloc (.cells #[.int .i64 L, .int .i64 S] 66)).alloc (.cells #[.int .i64 0, .int .i64 0] 66) = w1 at H ⊢
  obtain ⟨c0, c1⟩ := two_cells (H.out.get 1 rfl)
  obtain ⟨f0, f1⟩ := duo_free (H.out.get 1 rfl)
  go_upto_region 6 with fail
  have H2 := Lib.hid ((H.out.swap.one (.int .i64 L')).one1 (.int .i64 S'))
  generalize (w1.setCell ⟨w.heap.size, 0, none⟩ (.int .i64 L')).setCell ⟨w.heap.size, 1, none⟩ (.int .i64 S') = w2 at H2 ⊢
  clear c0 c1 f0 f1 H
  obtain ⟨c0, c1⟩ := two_cells (H2.out.get 0 rfl)
  obtain ⟨d0, d1⟩ := two_cells (H2.out.get 1 rfl)
  obtain ⟨f0, f1⟩ := duo_free (H2.out.get 1 rfl)
  go_wp2_with fail
  have H3 := Lib.hid (H2.out.swap.two (.int .i64 L') (.int .i64 S'))
  exact bodyPost_ret (results_row_tmp2 Try.results65 _ _ (w.heap.size + 1) 66 _ (0, 0) _ rfl (H3.out.get 0 rfl) Try.underlying66 rfl Try.sizeCrs) rfl ⟨rfl, H3.out.below⟩
end Go.Proofs.Ytgboiejiodgcnaa
