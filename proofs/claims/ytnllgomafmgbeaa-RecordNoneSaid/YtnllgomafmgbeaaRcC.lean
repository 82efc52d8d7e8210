/- The contracts of Put. -/
import Derived.Test.YtnllgomafmgbeaaRcB
namespace Go.Proofs.Ytnllgomafmgbeaa
open Go.RowKit Go.Sort

set_option maxRecDepth 10000 in
theorem Try.itemRc : Item1 Try.prog 44 26 := Item1.of (z := .pointer none) (b := 8) Try.underlying44 (by kernel_rfl) (by decide) rfl

section
variable {G : Nat → Prop} {w0 w w' : World} {l : List Part} {B i : Nat} {n : Int} {q : List (Nat × Rc.Rec)} {a : Option Addr} {c P : Nat} {r : Rc.Rec}
/-- Put: it is none .. -/
theorem rcput_none (b : Option Addr) (w : World) : Calls Try.prog 5 #[.pointer b, .pointer none] w fun e w' => e = .returned (.bool false) ∧ w = w' := by
  go_enter Try.func5, Try.ntmps5
  go_wp2_with fail
  go_ret
  exact ⟨rfl, rfl⟩
/-- .. there is no book .. -/
theorem rcput_nil (r : Addr) (w : World) : Calls Try.prog 5 #[.pointer none, .pointer (some r)] w fun e w' => e = .returned (.bool false) ∧ Below w.heap.size w w' := by
  go_enter Try.func5, Try.ntmps5
  go_wp2_with fail
  refine (rcroom_nil w).mono ?_
  rintro e w' ⟨rfl, hr⟩
  go_wp2_with fail
  go_ret
  exact ⟨rfl, hr⟩
/-- .. there is no room .. -/
theorem rcput_full (w : World) (h : Rc.In w B n q a c) (hn : n ≤ (q.length : Int)) (r : Addr) : Calls Try.prog 5 #[.pointer (some ⟨B, 0, none⟩), .pointer (some r)] w fun e w' => e = .returned (.bool false) ∧ Below w.heap.size w w' := by
  have hR := rcroom_in w h
  rw [decide_eq_false (show ¬(q.length : Int) < n by omega)] at hR
  have HR := Lib.hid hR
  clear h hR
  go_enter Try.func5, Try.ntmps5
  go_wp2_with fail
  refine HR.out.mono ?_
  rintro e w' ⟨rfl, hr⟩
  go_wp2_with fail
  go_ret
  exact ⟨rfl, hr⟩
/-- .. or there is one of its call. -/
theorem rcput_known (w : World) (h : Rc.In w B n q a c) (hn : (q.length : Int) < n) {x : Nat × Rc.Rec} (hr : w.heap[P]? = some (Rc.obj r)) (hx : Rc.first (Rc.Rec.of r.f.a) q = some x) : Calls Try.prog 5 #[.pointer (some ⟨B, 0, none⟩), .pointer (some ⟨P, 0, none⟩)] w fun e w' => e = .returned (.bool false) ∧ Below w.heap.size w w' := by
  have hR := rcroom_in w h
  rw [decide_eq_true hn] at hR
  have HR := Lib.hid hR
  have HI := Lib.hid h
  have HP := Lib.hid hr
  have hF := fun (w' : World) (hb : Below w.heap.size w w') => rcfind_in r.f.a w' (h.call hb)
  rw [hx] at hF
  have HF := Lib.hid hF
  clear h hR hr hF hn hx
  go_enter Try.func5, Try.ntmps5
  go_wp2_with fail
  refine HR.out.mono ?_
  rintro e w1 ⟨rfl, hr⟩
  have HB := Lib.hid hr
  obtain ⟨-, -, q5, -⟩ := rc_cells (keep HP.out hr)
  clear hr
  go_wp2_with fail
  refine (HF.out _ HB.out).mono ?_
  rintro e w2 ⟨rfl, hr⟩
  clear q5
  unfold Rc.tell
  simp only [Option.map_some]
  go_wp2_with fail
  go_ret
  exact ⟨rfl, on HB.out hr⟩
/-- .. else it is laid. -/
theorem rcput_yes (w : World) (h : Own G w0 w (.box P (Rc.obj r) :: l)) (e : l[i]? = some (Rc.part B n q)) (hn : (q.length : Int) < n) (hx : Rc.first (Rc.Rec.of r.f.a) q = none) : Calls Try.prog 5 #[.pointer (some ⟨B, 0, none⟩), .pointer (some ⟨P, 0, none⟩)] w fun e w' => e = .returned (.bool true) ∧ Own G w0 w' (l.set i (Rc.part B n (q ++ [(P, r)]))) := by
  obtain ⟨F, h2, hback⟩ := h.lift2 i e
  obtain ⟨a, c, hl, h3⟩ := Rc.opens_ h2
  have hI := Rc.inside hl h3.drops
  have hR := rcroom_in w hI
  rw [decide_eq_true hn] at hR
  have HR := Lib.hid hR
  have HO := Lib.hid h3
  have hF := fun (w' : World) (hb : Below w.heap.size w w') => rcfind_in r.f.a w' (hI.call hb)
  rw [hx] at hF
  have HF := Lib.hid hF
  have HN := Lib.hid hn
  have HBk : Hid (∀ (w2 : World) (q2 : Part), Own F w w2 [q2] → Own G w0 w2 (l.set i q2)) := Lib.hid (fun _ _ k => hback k)
  have hP : w.heap[P]? = some (Rc.obj r) := h2.box 1 rfl
  have HP := Lib.hid hP
  have HL := Lib.hid hl
  clear h e h2 hl h3 hI hR hF hn hx hP hback
  go_enter Try.func5, Try.ntmps5
  go_wp2_with fail
  refine HR.out.mono ?_
  rintro e w1 ⟨rfl, hr⟩
  have HB := Lib.hid hr
  obtain ⟨-, -, q5, -⟩ := rc_cells (keep HP.out hr)
  have HO1 := Lib.hid (HO.out.past hr)
  clear hr HO
  go_wp2_with fail
  refine (HF.out _ HB.out).mono ?_
  rintro e w2 ⟨rfl, hr⟩
  have HO2 := Lib.hid (HO1.out.past hr)
  clear hr HO1 HB HF HP HR q5
  have hbk := HO2.out.box 0 rfl
  have p0 : w2.cell? ⟨B, 1, none⟩ = some (.slice a q.length c) := cell_of_row _ _ 1 _ _ _ hbk
  clear hbk
  unfold Rc.tell
  simp only [Option.map_none]
  have HO3 := Lib.hid (HO2.out.lay (.cells #[.pointer (some ⟨P, 0, none⟩)] 26 (0, 0)))
  obtain ⟨g', off', c', w4, hrun, h4⟩ := HO3.out.nl_add Try.itemRc 2 rfl (n := q.length) (by simp) (by have := HL.out; omega) (v := .pointer (some ⟨P, 0, none⟩)) rfl (HO3.out.box 0 rfl) 44
  have HO4 := Lib.hid h4.tail
  have hbk := HO4.out.box 0 rfl
  have p4 : w4.cell? ⟨B, 1, none⟩ = some (.slice a q.length c) := cell_of_row _ _ 1 _ _ _ hbk
  have z4 := frozen_of_row _ _ 1 _ _ hbk
  have h5 := HO4.out.set 0 rfl (heap_setCell_same w4 B 1 _ _ (.slice (some ⟨g', off', none⟩) (q.length + 1) c') hbk)
  have HO5 : Hid (Own F w (w4.setCell ⟨B, 1, none⟩ (.slice (some ⟨g', off', none⟩) (q.length + 1) c')) (Rc.parts B n (q ++ [(P, r)]) (some ⟨g', off', none⟩) c')) := Lib.hid (by
    have := h5
    simp only [Rc.parts, List.map_append, List.map_cons, List.map_nil, List.length_append, List.length_cons, List.length_nil]
    exact this)
  clear h4 h5 HO2 HO3 HO4 hbk
  go_wp2_with (at_builtin; refine wpList_append_run rfl _ _ 44 rfl rfl rfl hrun ?_)
  generalize w4.setCell _ _ = w5 at HO5 ⊢
  go_wp2_with fail
  go_ret
  exact ⟨rfl, HBk.out _ _ (Rc.closes ⟨by have := HN.out; simp; omega, HL.out.2⟩ HO5.out)⟩
end
end Go.Proofs.Ytnllgomafmgbeaa
