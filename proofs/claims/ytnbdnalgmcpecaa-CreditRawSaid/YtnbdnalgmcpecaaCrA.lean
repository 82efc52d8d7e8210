/- The contracts of credit's calls, with any numbers: how many chunks may come. -/
import Derived.Test.YtnbdnalgmcpecaaHeldB
import Derived.Test.YtnbdnalgmcpecaaResT
import Derived.Test.YtnbdnalgmcpecaaTkA
import Derived.IntWalk
import Derived.Lib.QuietBelow
import Derived.RegionTactic
import Derived.BigRegion
import Derived.BigQuiet
import Derived.Deep.DeepCutAuto
namespace Go.Proofs.Ytnbdnalgmcpecaa
open Go.RowKit Go.Sort

namespace Cr
/-- The nearest number from a to 16. -/
def cut (a n : Int) : Int := max a (min n 16)
/-- How many of n are granted. -/
def part (W o n : Int) : Int := max 0 (min n (W - o))
theorem cut_lo (a n : Int) : a ≤ cut a n := by unfold cut; omega
theorem cut_hi {a n : Int} (h : a ≤ 16) : cut a n ≤ 16 := by unfold cut; omega
theorem part_lo (W o n : Int) : 0 ≤ part W o n := by unfold part; omega
theorem part_hi {W o n : Int} (h : o ≤ W) : part W o n ≤ W - o := by unfold part; omega
/-- Two boxes laid one behind the other. -/
theorem boxes (w : World) (o o' : Obj) : Held w ((w.alloc o).alloc o') [(w.heap.size + 1, o'), (w.heap.size, o)] := by
  have := ((Held.start w).lay o).lay o'
  simpa using this
end Cr
theorem Try.sizeCrc : (Try.prog.info? 23).map (·.size) = some 3 := by kernel_rfl
theorem Try.sizeCrs : (Try.prog.info? 28).map (·.size) = some 2 := by kernel_rfl
/-- Three cells of a block, and that they may be written. -/
theorem tri_cells {w : World} {B : Nat} {t : TypeId} {c0 c1 c2 : Value} (h : w.heap[B]? = some (.cells #[c0, c1, c2] t (0, 0))) : w.cell? ⟨B, 0, none⟩ = some c0 ∧ w.cell? ⟨B, 1, none⟩ = some c1 ∧ w.cell? ⟨B, 2, none⟩ = some c2 :=
  ⟨cell_of_row _ _ _ _ _ _ h, cell_of_row _ _ _ _ _ _ h, cell_of_row _ _ _ _ _ _ h⟩
theorem tri_free {w : World} {B : Nat} {t : TypeId} {c0 c1 c2 : Value} (h : w.heap[B]? = some (.cells #[c0, c1, c2] t (0, 0))) : w.frozen? ⟨B, 0, none⟩ = false ∧ w.frozen? ⟨B, 1, none⟩ = false ∧ w.frozen? ⟨B, 2, none⟩ = false :=
  ⟨frozen_of_row _ _ _ _ _ h, frozen_of_row _ _ _ _ _ h, frozen_of_row _ _ _ _ _ h⟩
theorem duo_free {w : World} {B : Nat} {t : TypeId} {c0 c1 : Value} (h : w.heap[B]? = some (.cells #[c0, c1] t (0, 0))) : w.frozen? ⟨B, 0, none⟩ = false ∧ w.frozen? ⟨B, 1, none⟩ = false :=
  ⟨frozen_of_row _ _ _ _ _ h, frozen_of_row _ _ _ _ _ h⟩
/-- A block of three cells is written. -/
theorem Held.tri {w wx : World} {l : List (Nat × Obj)} {b : Nat} {t : TypeId} {c0 c1 c2 : Value} (h : Held w wx ((b, .cells #[c0, c1, c2] t (0, 0)) :: l)) (x y z : Value) :
    Held w (((wx.setCell ⟨b, 0, none⟩ x).setCell ⟨b, 1, none⟩ y).setCell ⟨b, 2, none⟩ z) ((b, .cells #[x, y, z] t (0, 0)) :: l) :=
  h.put (((h.below.setCell (h.old 0 rfl) _).setCell (h.old 0 rfl) _).setCell (h.old 0 rfl) _) (heap_setCell_same _ _ 2 _ _ _ (heap_setCell_same _ _ 1 _ _ _ (heap_setCell_same _ _ 0 _ _ _ (h.get 0 rfl)))) (fun _ hk => (heap_setCell_other _ _ _ _ hk).trans ((heap_setCell_other _ _ _ _ hk).trans (heap_setCell_other _ _ _ _ hk)))

/-- Its third one alone. -/
theorem Held.third {w wx : World} {l : List (Nat × Obj)} {b : Nat} {t : TypeId} {c0 c1 c2 : Value} (h : Held w wx ((b, .cells #[c0, c1, c2] t (0, 0)) :: l)) (x : Value) :
    Held w (wx.setCell ⟨b, 2, none⟩ x) ((b, .cells #[c0, c1, x] t (0, 0)) :: l) :=
  h.put (h.below.setCell (h.old 0 rfl) _) (heap_setCell_same _ _ 2 _ _ _ (h.get 0 rfl)) (fun _ hk => heap_setCell_other _ _ _ _ hk)
theorem Held.mid {w wx : World} {l : List (Nat × Obj)} {b : Nat} {t : TypeId} {c0 c1 c2 : Value} (h : Held w wx ((b, .cells #[c0, c1, c2] t (0, 0)) :: l)) (x : Value) :
    Held w (wx.setCell ⟨b, 1, none⟩ x) ((b, .cells #[c0, x, c2] t (0, 0)) :: l) :=
  h.put (h.below.setCell (h.old 0 rfl) _) (heap_setCell_same _ _ 1 _ _ _ (h.get 0 rfl)) (fun _ hk => heap_setCell_other _ _ _ _ hk)

/-- Window. -/
theorem crwin_any (n : Int) (w : World) : Calls Try.prog 11 #[.int .i64 n] w fun e w' => e = .returned (.int .i64 (Cr.cut 1 n)) ∧ w = w' := by
  have HC := Lib.hid (show Cr.cut 1 n = max 1 (min n 16) from rfl)
  generalize Cr.cut 1 n = c at HC ⊢
  rcases (show (n < 1 ∧ n ≤ 16) ∨ (1 ≤ n ∧ n ≤ 16) ∨ (16 < n) by omega) with ⟨h1, h2⟩ | ⟨h1, h2⟩ | h1
  all_goals
    go_enter Try.func11, Try.ntmps11
    go_wp2
    all_goals (go_ret; exact ⟨ret_i64 (by have := HC.out; omega), rfl⟩)

/-- New. -/
theorem crnew_any (n : Int) (w : World) : Calls Try.prog 4 #[.int .i64 n] w fun e w' => e = .returned (.agg #[.int .i64 (Cr.cut 1 n), .int .i64 0, .int .i64 0]) ∧ Below w.heap.size w w' := by
  have hc := fun w => crwin_any n w
  generalize Cr.cut 1 n = c at hc ⊢
  go_enter Try.func4, Try.ntmps4
  go_wp2_with fail
  refine (hc _).mono ?_
  rintro e w1 ⟨rfl, rfl⟩
  go_wp2_with fail
  refine bodyPost_ret (results_cell_row Try.results4 _ _ w.heap.size 23 _ (0, 0) _ rfl (heap_alloc_new _ _) Try.underlying23 rfl Try.sizeCrc) rfl ⟨rfl, below_box _ _⟩

/-- Out. -/
theorem crout_any {W G T o : Int} (hr : IntKind.i64.wrap (G - T) = o) (w : World) : Calls Try.prog 9 #[.agg #[.int .i64 W, .int .i64 G, .int .i64 T]] w fun e w' => e = .returned (.int .i64 o) ∧ Below w.heap.size w w' := by
  go_enter Try.func9, Try.ntmps9
  go_wp2_with fail
  go_ret
  exact ⟨rfl, below_box _ _⟩

/-- Take. -/
theorem crtake_no {W G T : Int} (hr : IntKind.i64.wrap (G - T) = 0) (w : World) : Calls Try.prog 5 #[.agg #[.int .i64 W, .int .i64 G, .int .i64 T]] w fun e w' => e = .returned (.tuple #[.agg #[.int .i64 W, .int .i64 G, .int .i64 T], .bool false]) ∧ Below w.heap.size w w' := by
  have HO := Lib.hid (fun w => crout_any (W := W) hr w)
  clear hr
  go_enter Try.func5, Try.ntmps5
  go_upto_region 1 with fail
  have H := Lib.hid (Cr.boxes w (.cells #[.int .i64 W, .int .i64 G, .int .i64 T] 23) (.cells #[.int .i64 0, .int .i64 0, .int .i64 0] 23))
  generalize (w.alloc (.cells #[.int .i64 W, .int .i64 G, .int .i64 T] 23)).alloc (.cells #[.int .i64 0, .int .i64 0, .int .i64 0] 23) = w1 at H ⊢
  obtain ⟨c0, c1, c2⟩ := tri_cells (H.out.get 1 rfl)
  go_wp2_with fail
  refine (HO.out _).mono ?_
  rintro e w2 ⟨rfl, hb⟩
  have H2 := Lib.hid (H.out.call hb)
  clear hb H c0 c1 c2 HO
  obtain ⟨c0, c1, c2⟩ := tri_cells (H2.out.get 1 rfl)
  obtain ⟨d0, d1, d2⟩ := tri_cells (H2.out.get 0 rfl)
  obtain ⟨f0, f1, f2⟩ := tri_free (H2.out.get 0 rfl)
  go_wp2_with fail
  have H3 := Lib.hid (H2.out.tri (.int .i64 W) (.int .i64 G) (.int .i64 T))
  exact bodyPost_ret (results_row_tmp Try.results5 _ _ (w.heap.size + 1) 23 _ (0, 0) _ rfl (H3.out.get 0 rfl) Try.underlying23 rfl Try.sizeCrc) rfl ⟨rfl, H3.out.below⟩
theorem crtake_yes {W G T o T' : Int} (hr : IntKind.i64.wrap (G - T) = o) (ho : o ≠ 0) (ht : IntKind.i64.wrap (T + 1) = T') (w : World) : Calls Try.prog 5 #[.agg #[.int .i64 W, .int .i64 G, .int .i64 T]] w fun e w' => e = .returned (.tuple #[.agg #[.int .i64 W, .int .i64 G, .int .i64 T'], .bool true]) ∧ Below w.heap.size w w' := by
  have HO := Lib.hid (fun w => crout_any (W := W) hr w)
  have hz : (o == 0) = false := by simpa using ho
  clear hr ho
  go_enter Try.func5, Try.ntmps5
  go_upto_region 1 with fail
  have H := Lib.hid (Cr.boxes w (.cells #[.int .i64 W, .int .i64 G, .int .i64 T] 23) (.cells #[.int .i64 0, .int .i64 0, .int .i64 0] 23))
  generalize (w.alloc (.cells #[.int .i64 W, .int .i64 G, .int .i64 T] 23)).alloc (.cells #[.int .i64 0, .int .i64 0, .int .i64 0] 23) = w1 at H ⊢
  obtain ⟨c0, c1, c2⟩ := tri_cells (H.out.get 1 rfl)
  go_wp2_with fail
  refine (HO.out _).mono ?_
  rintro e w2 ⟨rfl, hb⟩
  have H2 := Lib.hid (H.out.call hb)
  clear hb H c0 c1 c2 HO
  obtain ⟨c0, c1, c2⟩ := tri_cells (H2.out.get 1 rfl)
  obtain ⟨-, -, f2⟩ := tri_free (H2.out.get 1 rfl)
  go_upto_region 4 with fail
  have H3 := Lib.hid (H2.out.swap.third (.int .i64 T'))
  generalize w2.setCell ⟨w.heap.size, 2, none⟩ (.int .i64 T') = w3 at H3 ⊢
  clear c0 c1 c2 f2 H2
  obtain ⟨c0, c1, c2⟩ := tri_cells (H3.out.get 0 rfl)
  obtain ⟨d0, d1, d2⟩ := tri_cells (H3.out.get 1 rfl)
  obtain ⟨f0, f1, f2⟩ := tri_free (H3.out.get 1 rfl)
  go_wp2_with fail
  have H4 := Lib.hid (H3.out.swap.tri (.int .i64 W) (.int .i64 G) (.int .i64 T'))
  exact bodyPost_ret (results_row_tmp Try.results5 _ _ (w.heap.size + 1) 23 _ (0, 0) _ rfl (H4.out.get 0 rfl) Try.underlying23 rfl Try.sizeCrc) rfl ⟨rfl, H4.out.below⟩

/-- Grant. -/
theorem crgrant_any {W G T o r n m G' : Int} (ho : IntKind.i64.wrap (G - T) = o) (hr : IntKind.i64.wrap (W - o) = r) (hm : max 0 (min n r) = m) (hg : IntKind.i64.wrap (G + m) = G') (w : World) : Calls Try.prog 12 #[.agg #[.int .i64 W, .int .i64 G, .int .i64 T], .int .i64 n] w fun e w' => e = .returned (.tuple #[.agg #[.int .i64 W, .int .i64 G', .int .i64 T], .int .i64 m]) ∧ Below w.heap.size w w' := by
  have HO := Lib.hid (fun w => crout_any (W := W) ho w)
  have HG := Lib.hid hg
  clear ho hg
  go_enter Try.func12, Try.ntmps12
  go_upto_region 1 with fail
  have H := Lib.hid (Cr.boxes w (.cells #[.int .i64 W, .int .i64 G, .int .i64 T] 23) (.cells #[.int .i64 0, .int .i64 0, .int .i64 0] 23))
  generalize (w.alloc (.cells #[.int .i64 W, .int .i64 G, .int .i64 T] 23)).alloc (.cells #[.int .i64 0, .int .i64 0, .int .i64 0] 23) = w1 at H ⊢
  obtain ⟨c0, c1, c2⟩ := tri_cells (H.out.get 1 rfl)
  have k0 := cell_regrown c0
  have k1 := cell_regrown c1
  have k2 := cell_regrown c2
  clear c0 c1 c2
  have cO : ∀ d os, Calls Try.prog 9 #[.agg #[.int .i64 W, .int .i64 G, .int .i64 T]] (grow (redrawn w1 d) os) fun e w'' => e = .returned (.int .i64 o) ∧ ∃ p : Regrown, w'' = grow (redrawn w1 p.d) p.os := fun d os => Calls.regrown_of (HO.out _)
  clear HO
  have q1 : (if n < r then n else r) = min n r := by omega
  have q2 : (if r < n then r else n) = min n r := by omega
  generalize min n r = mn at q1 q2 hm
  have q3 : (if 0 < mn then mn else 0) = m := by omega
  have q4 : (if mn < 0 then 0 else mn) = m := by omega
  clear hm
  refine wp_region_quiet_below (by kernel_rfl) (by kernel_rfl) ?_
  repeat (quiet_step (first | exact cO _ _))
  refine wpQuiet_nil ?_
  intro _ hw'
  obtain ⟨⟨dq, osq⟩, hw''⟩ := hw'
  subst hw''
  have H2 := Lib.hid (H.out.call (below_regrown w1 dq osq))
  clear k0 k1 k2 cO H q1 q2 q3 q4
  generalize grow (redrawn w1 dq) osq = w2 at H2 ⊢
  obtain ⟨c0, c1, c2⟩ := tri_cells (H2.out.get 1 rfl)
  obtain ⟨-, f1, -⟩ := tri_free (H2.out.get 1 rfl)
  have hg := HG.out
  go_upto_region 3 with fail
  have H3 := Lib.hid (H2.out.swap.mid (.int .i64 G'))
  generalize w2.setCell ⟨w.heap.size, 1, none⟩ (.int .i64 G') = w3 at H3 ⊢
  clear c0 c1 c2 f1 H2 hg HG
  obtain ⟨c0, c1, c2⟩ := tri_cells (H3.out.get 0 rfl)
  obtain ⟨d0, d1, d2⟩ := tri_cells (H3.out.get 1 rfl)
  obtain ⟨f0, f1, f2⟩ := tri_free (H3.out.get 1 rfl)
  go_wp2_with fail
  have H4 := Lib.hid (H3.out.swap.tri (.int .i64 W) (.int .i64 G') (.int .i64 T))
  exact bodyPost_ret (results_row_tmp Try.results12 _ _ (w.heap.size + 1) 23 _ (0, 0) _ rfl (H4.out.get 0 rfl) Try.underlying23 rfl Try.sizeCrc) rfl ⟨rfl, H4.out.below⟩

/-- Left. -/
theorem crleft_any {L S : Int} (w : World) : Calls Try.prog 10 #[.agg #[.int .i64 L, .int .i64 S]] w fun e w' => e = .returned (.int .i64 L) ∧ Below w.heap.size w w' := by
  go_enter Try.func10, Try.ntmps10
  go_wp2_with fail
  go_ret
  exact ⟨rfl, below_box _ _⟩

/-- More. -/
theorem crmore_any {L S n L' : Int} (hl : IntKind.i64.wrap (L + Cr.cut 0 n) = L') (w : World) : Calls Try.prog 6 #[.agg #[.int .i64 L, .int .i64 S], .int .i64 n] w fun e w' => e = .returned (.agg #[.int .i64 L', .int .i64 S]) ∧ Below w.heap.size w w' := by
  go_enter Try.func6, Try.ntmps6
  go_upto_region 1 with fail
  have H := Lib.hid (Cr.boxes w (.cells #[.int .i64 L, .int .i64 S] 28) (.cells #[.int .i64 0, .int .i64 0] 28))
  generalize (w.alloc (.cells #[.int .i64 L, .int .i64 S] 28)).alloc (.cells #[.int .i64 0, .int .i64 0] 28) = w1 at H ⊢
  have HC := Lib.hid (show Cr.cut 0 n = max 0 (min n 16) from rfl)
  generalize Cr.cut 0 n = c at HC hl
  go_cut [] (fun wx => Hid (Held w wx [(w.heap.size, .cells #[.int .i64 L', .int .i64 S] 28 (0, 0)), (w.heap.size + 1, .cells #[.int .i64 0, .int .i64 0] 28 (0, 0))]))
  case first =>
    obtain ⟨c0, c1⟩ := two_cells (H.out.get 1 rfl)
    obtain ⟨f0, f1⟩ := duo_free (H.out.get 1 rfl)
    have HL := Lib.hid hl
    clear hl
    rcases (show (n < 0 ∧ n ≤ 16) ∨ (0 ≤ n ∧ n ≤ 16) ∨ (16 < n) by omega) with ⟨h1, h2⟩ | ⟨h1, h2⟩ | h1
    · have hw : wrap64 L = L' := by have := HC.out; rw [← HL.out, show c = 0 by omega, Int.add_zero]; exact (IntWalk.i64_left _).symm
      go_wp2_with fail
      all_goals
        go_meet
        case rel => exact Lib.hid (H.out.swap.one (.int .i64 L'))
    · have hw : wrap64 (L + n) = L' := by have := HC.out; rw [← HL.out, show c = n by omega]; exact (IntWalk.i64_left _).symm
      have e : (if (0 : Int) < n then n else 0) = n := by split <;> omega
      go_wp2_with fail
      all_goals
        go_meet
        case rel => exact Lib.hid (H.out.swap.one (.int .i64 L'))
    · have hw : wrap64 (L + 16) = L' := by have := HC.out; rw [← HL.out, show c = 16 by omega]; exact (IntWalk.i64_left _).symm
      go_wp2_with fail
      all_goals
        go_meet
        case rel => exact Lib.hid (H.out.swap.one (.int .i64 L'))
  case rest =>
  rename_i wx
  obtain ⟨c0, c1⟩ := two_cells (hcut.out.get 0 rfl)
  obtain ⟨d0, d1⟩ := two_cells (hcut.out.get 1 rfl)
  obtain ⟨f0, f1⟩ := duo_free (hcut.out.get 1 rfl)
  go_wp2_with fail
  have H4 := Lib.hid (hcut.out.swap.two (.int .i64 L') (.int .i64 S))
  exact bodyPost_ret (results_cell_row Try.results6 _ _ (w.heap.size + 1) 28 _ (0, 0) _ rfl (H4.out.get 0 rfl) Try.underlying28 rfl Try.sizeCrs) rfl ⟨rfl, H4.out.below⟩

/-- Three results, the first of them a block that is a struct. -/
theorem results_row_tmp2 {P : Program} {fn : Func} {p u v : Tmp} {ty : TypeId} (h : fn.results = #[.cell p ty, .tmp u, .tmp v]) (tmps : Array Value) (w : World) (g : Nat) (t : TypeId) (cs : Array Value) (fr : Nat × Nat) (d : TypeDesc)
    (hp : tmps.getD p undef = .pointer (some ⟨g, 0, none⟩)) (hg : w.heap[g]? = some (.cells cs t fr))
    (hu : P.underlying ty = some d) (hd : (match d with | .struct _ | .array _ _ => true | _ => false) = true) (hi : (P.info? ty).map (·.size) = some cs.size) :
    (results fn tmps).run P w = .ok (.tuple #[.agg cs, tmps.getD u undef, tmps.getD v undef]) w := by
  have e : (results fn tmps).run P w = ((asAddr (tmps.getD p undef)).run P w).andThen fun a w₁ => ((loadVar ty a).run P w₁).andThen fun x w₂ => .ok (.tuple #[x, tmps.getD u undef, tmps.getD v undef]) w₂ := by
    simp only [results, h]
    simp [Sem.run_bind, Result.andThen]
  rw [e, hp]
  simp [asAddr, Result.andThen, run_loadVar_row w g t ty cs fr d hg hu hd hi]

/-- Send. -/
theorem crsend_no (S : Int) (w : World) : Calls Try.prog 7 #[.agg #[.int .i64 0, .int .i64 S]] w fun e w' => e = .returned (.tuple #[.agg #[.int .i64 0, .int .i64 S], .int .i64 0, .bool false]) ∧ Below w.heap.size w w' := by
  go_enter Try.func7, Try.ntmps7
  go_upto_region 1 with fail
  have H := Lib.hid (Cr.boxes w (.cells #[.int .i64 0, .int .i64 S] 28) (.cells #[.int .i64 0, .int .i64 0] 28))
  generalize (w.alloc (.cells #[.int .i64 0, .int .i64 S] 28)).alloc (.cells #[.int .i64 0, .int .i64 0] 28) = w1 at H ⊢
  obtain ⟨c0, c1⟩ := two_cells (H.out.get 1 rfl)
  obtain ⟨d0, d1⟩ := two_cells (H.out.get 0 rfl)
  obtain ⟨f0, f1⟩ := duo_free (H.out.get 0 rfl)
  go_wp2_with fail
  have H3 := Lib.hid (H.out.two (.int .i64 0) (.int .i64 S))
  exact bodyPost_ret (results_row_tmp2 Try.results7 _ _ (w.heap.size + 1) 28 _ (0, 0) _ rfl (H3.out.get 0 rfl) Try.underlying28 rfl Try.sizeCrs) rfl ⟨rfl, H3.out.below⟩
theorem crsend_yes {L S L' S' : Int} (hL : L ≠ 0) (hl : IntKind.i64.wrap (L - 1) = L') (hs : IntKind.i64.wrap (S + 1) = S') (w : World) : Calls Try.prog 7 #[.agg #[.int .i64 L, .int .i64 S]] w fun e w' => e = .returned (.tuple #[.agg #[.int .i64 L', .int .i64 S'], .int .i64 S, .bool true]) ∧ Below w.heap.size w w' := by
  have hz : (L == 0) = false := by simpa using hL
  clear hL
  go_enter Try.func7, Try.ntmps7
  go_upto_region 1 with fail
  have H := Lib.hid (Cr.boxes w (.cells #[.int .i64 L, .int .i64 S] 28) (.cells #[.int .i64 0, .int .i64 0] 28))
  generalize (w.alloc (.cells #[.int .i64 L, .int .i64 S] 28)).alloc (.cells #[.int .i64 0, .int .i64 0] 28) = w1 at H ⊢
  obtain ⟨c0, c1⟩ := two_cells (H.out.get 1 rfl)
  obtain ⟨f0, f1⟩ := duo_free (H.out.get 1 rfl)
  go_upto_region 6 with fail
  have H2 := Lib.hid ((H.out.swap.one (.int .i64 L')).one1 (.int .i64 S'))
  generalize (w1.setCell ⟨w.heap.size, 0, none⟩ (.int .i64 L')).setCell ⟨w.heap.size, 1, none⟩ (.int .i64 S') = w2 at H2 ⊢
  clear c0 c1 f0 f1 H
  obtain ⟨c0, c1⟩ := two_cells (H2.out.get 0 rfl)
  obtain ⟨d0, d1⟩ := two_cells (H2.out.get 1 rfl)
  obtain ⟨f0, f1⟩ := duo_free (H2.out.get 1 rfl)
  go_wp2_with fail
  have H3 := Lib.hid (H2.out.swap.two (.int .i64 L') (.int .i64 S'))
  exact bodyPost_ret (results_row_tmp2 Try.results7 _ _ (w.heap.size + 1) 28 _ (0, 0) _ rfl (H3.out.get 0 rfl) Try.underlying28 rfl Try.sizeCrs) rfl ⟨rfl, H3.out.below⟩
end Go.Proofs.Ytnbdnalgmcpecaa
