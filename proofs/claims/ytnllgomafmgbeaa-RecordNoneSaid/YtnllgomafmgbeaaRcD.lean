/- The contracts of slices.Delete of one record, and of Drop. -/
import Derived.Test.YtnllgomafmgbeaaRcC
import Derived.Test.YtnllgomafmgbeaaDelK
import Derived.Test.YtnllgomafmgbeaaSkip
namespace Go.Proofs.Ytnllgomafmgbeaa
open Go.RowKit Go.Sort

set_option maxRecDepth 10000 in
theorem Try.itemKRc : ItemK Try.prog 44 26 1 := ItemK.of Try.underlying44 (by kernel_rfl) (by kernel_rfl)

set_option maxRecDepth 10000 in
set_option maxHeartbeats 1000000 in
/-- One goes. -/
theorem rcdel_any {B g off c n i : Nat} {xs : List Value} (hi : i < n) (hq : n ≤ 1000000) (h1 : ∀ u ∈ xs, u.oneCell' = true) (w : World) (h : RowK w B 26 1 g off n c xs) : Calls Try.prog 17 #[.slice (some ⟨g, off, none⟩) n c, .int .i64 (i : Nat), .int .i64 ((i : Int) + 1)] w fun e w' => e = .returned (.slice (some ⟨g, off, none⟩) (n - 1) c) ∧ RowK w' B 26 1 g off (n - 1) c (xs.take (i * 1) ++ xs.drop ((i + 1) * 1)) ∧ Rest (fun k => k = g) w w' := by
  have hr := h.room
  obtain ⟨v3, hs3⟩ := Try.itemKRc.s3 g off n c i (i + 1) (by omega) hi hr
  obtain ⟨ad, cp, hs1, had⟩ := Try.itemKRc.tail g off n c (i + 1) hi hr
  obtain ⟨m, hm⟩ : ∃ m, n = m + 1 := ⟨n - 1, by omega⟩
  have hs2 := Try.itemKRc.last g off m n c (by omega) hr
  have hj : ((i + 1 : Nat) : Int) = (i : Int) + 1 := by omega
  rw [hj] at hs1 hs3
  have hni : i + (n - (i + 1)) = n - 1 := by omega
  have hMV := fun w h ty => Try.itemKRc.moved (w := w) (B := B) (g := g) (off := off) (c := c) (n := n) (i := i) (j := i + 1) (xs := xs) h (by omega) hi h1 cp had ty
  rw [hni] at hMV
  have hSH := fun w h => ItemK.shift (w := w) (B := B) (t := 26) (k := 1) (g := g) (off := off) (c := c) (n := n) (i := i) (j := i + 1) (xs := xs) h (by omega) hi
  rw [hni] at hSH
  have HMV := Lib.hid hMV
  have HSH := Lib.hid hSH
  have HH := Lib.hid h
  have hmn : n - 1 = m := by omega
  rw [hmn] at HMV HSH ⊢
  have HM := Lib.hid hm
  have hc0 : (i : Int) ≤ (c : Int) := by omega
  have hi0 : (0 : Int) ≤ (i : Int) := by omega
  have hne : ¬(i : Int) = (i : Int) + 1 := by omega
  have HR := Lib.hid hr
  have hin : (i : Int) + 1 ≤ (n : Int) := by omega
  clear h had hr hMV hSH hni hmn hq h1 hi hj hm
  go_enter Try.func17, Try.ntmps17
  go_upto_region 5 with fail
  refine wp_region_held_drew (S := fun _ => True) (by kernel_rfl) trivial (fun hHeld => ?_)
  have HH2 : Hid (RowK w.drew B 26 1 g off n c xs) := Lib.hid (HH.out.kept rfl)
  have HRS := Lib.hid (Rest.drew (fun k => k = g) w)
  clear HH
  generalize w.drew = w2 at HH2 HRS ⊢
  refine wpAnyH_yield 0 (.slice (some ⟨g, off, none⟩) n c) rfl (by kernel_rfl) (by kernel_rfl) (by kernel_rfl) (fun d _ _ _ h => by cases d <;> exact h) (by rfl) (by assumption) (fun _ _ => by go_simp) ?_
  simp only [Act.put, List.setIfInBounds_toArray, List.set_cons_zero, List.set_cons_succ]
  refine wpAnyH_yield 1 (.int .i64 (i : Nat)) rfl (by kernel_rfl) (by kernel_rfl) (by kernel_rfl) (fun d _ _ _ h => by cases d <;> exact h) (by rfl) (by assumption) (fun _ _ => by go_simp) ?_
  simp only [Act.put, List.setIfInBounds_toArray, List.set_cons_zero, List.set_cons_succ]
  refine wpAnyH_yield 2 (.slice (some ⟨g, off, none⟩) i c) rfl (by kernel_rfl) (by kernel_rfl) (by kernel_rfl) (fun d _ _ _ h => by cases d <;> exact h) (by rfl) (by assumption) (fun _ _ => by go_simp) ?_
  simp only [Act.put, List.setIfInBounds_toArray, List.set_cons_zero, List.set_cons_succ]
  refine wpAnyH_yield 3 (.slice (some ⟨g, off, none⟩) n c) rfl (by kernel_rfl) (by kernel_rfl) (by kernel_rfl) (fun d _ _ _ h => by cases d <;> exact h) (by rfl) (by assumption) (fun _ _ => by go_simp) ?_
  simp only [Act.put, List.setIfInBounds_toArray, List.set_cons_zero, List.set_cons_succ]
  refine wpAnyH_yield 4 (.int .i64 ((i : Int) + 1)) rfl (by kernel_rfl) (by kernel_rfl) (by kernel_rfl) (fun d _ _ _ h => by cases d <;> exact h) (by rfl) (by assumption) (fun _ _ => by go_simp) ?_
  simp only [Act.put, List.setIfInBounds_toArray, List.set_cons_zero, List.set_cons_succ]
  refine wpAnyH_yield 5 (.slice (some ad) (n - (i + 1)) cp) rfl (by kernel_rfl) (by kernel_rfl) (by kernel_rfl) (fun d _ _ _ h => by cases d <;> exact h) (by rfl) (by assumption) (fun _ _ => by go_simp) ?_
  simp only [Act.put, List.setIfInBounds_toArray, List.set_cons_zero, List.set_cons_succ]
  refine wpAnyH_ready (rs := [6]) (by kernel_rfl) (by simp) (AllReadyH.cons rfl (fun K hK => ?_) AllReadyH.nil)
  refine step_append_run rfl _ _ 44 rfl rfl rfl (HMV.out _ HH2.out _) ?_
  refine hK.out _ _ (trivial) (fun hHeld => ?_)
  clear hK K
  try simp only [Act.put, List.setIfInBounds_toArray]
  have HH3 := Lib.hid (HSH.out _ HH2.out)
  have HRS3 := Lib.hid (HRS.out.trans (o3 := fun k => k = g) (Rest.cells (own := fun k => k = g) w2 g (off + i * 1) (xs.drop ((i + 1) * 1)) rfl) (fun _ _ => id) (fun _ _ => id))
  clear HH2 HRS hHeld HMV HSH
  generalize w2.setCells _ _ _ = w3 at HH3 HRS3 ⊢
  have hHeld : True := trivial
  refine wpAnyH_yield 7 (.slice (some ⟨g, off, none⟩) m c) rfl (by kernel_rfl) (by kernel_rfl) (by kernel_rfl) (fun d _ _ _ h => by cases d <;> exact h) (by rfl) (by assumption) (fun _ _ => by go_simp) ?_
  simp only [Act.put]
  refine wpAnyH_done (by kernel_rfl) ?_ _
  obtain ⟨w4, hcl, h4, hr4⟩ := Try.itemKRc.clear (n := n) HH3.out (by have := HM.out; omega) HR.out
  have HH4 := Lib.hid h4
  have HR4 := Lib.hid hr4
  simp only [Nat.mul_one] at hcl
  clear h4 hr4 hHeld hs1 hs3
  go_wp2_with fail
  go_ret
  exact ⟨rfl, HH4.out, HRS3.out.trans HR4.out (fun _ _ => id) (fun _ _ => id)⟩

/-- One of a list, and the others. -/
theorem perm_at {α : Type} {l : List α} {k : Nat} {x : α} (h : l[k]? = some x) : l.Perm (x :: l.eraseIdx k) := by
  obtain ⟨hk, e⟩ := List.getElem?_eq_some_iff.1 h
  have h1 : l = l.take k ++ x :: l.drop (k + 1) := by rw [← e, ← List.drop_eq_getElem_cons hk, List.take_append_drop]
  rw [List.eraseIdx_eq_take_drop_succ]
  exact (List.Perm.of_eq h1).trans List.perm_middle

section
variable {G : Nat → Prop} {w0 w w' : World} {l : List Part} {B i : Nat} {n : Int} {q : List (Nat × Rc.Rec)}
/-- Drop: of no book, of a call that it has not .. -/
theorem rcdrop_nil (C : Int) (w : World) : Calls Try.prog 8 #[.pointer none, .int .u32 C] w fun e w' => e = .returned (.bool false) ∧ Below w.heap.size w w' := by
  go_enter Try.func8, Try.ntmps8
  go_wp2_with fail
  refine (rcisof_any C w).mono ?_
  rintro e w' ⟨rfl, rfl⟩
  have HB := Lib.hid (((Own.start (fun _ => False) w).lay (.cells #[.int .u32 C] 22 (0, 0))).below (fun _ => id))
  generalize w.alloc _ = w1 at HB ⊢
  go_wp2_with fail
  refine (rcplace_nil _ _).mono ?_
  rintro e w' ⟨rfl, rfl⟩
  go_wp2_with fail
  go_ret
  exact ⟨rfl, HB.out⟩
theorem rcdrop_no (C : Int) (w : World) (h : Own G w0 w l) (e : l[i]? = some (Rc.part B n q)) (hx : Rc.first (Rc.Rec.of C) q = none) : Calls Try.prog 8 #[.pointer (some ⟨B, 0, none⟩), .int .u32 C] w fun e w' => e = .returned (.bool false) ∧ Below w.heap.size w w' := by
  obtain ⟨a, c, hI⟩ := Rc.seen h i e
  have HB := Lib.hid (((Own.start (fun _ => False) w).lay (.cells #[.int .u32 C] 22 (0, 0))).below (fun _ => id))
  have hF := rcplace_any (.inl rfl) _ (hI.call HB.out) (Rc.says_of (heap_alloc_new w (.cells #[.int .u32 C] 22 (0, 0))))
  rcases Rc.there (Rc.Rec.of C) q with ⟨j, x, -, -, -, -, e3⟩ | ⟨-, e2, -⟩
  · rw [hx] at e3; cases e3
  rw [e2] at hF
  have HF := Lib.hid hF
  clear h e hI hF hx e2
  go_enter Try.func8, Try.ntmps8
  go_wp2_with fail
  refine (rcisof_any C w).mono ?_
  rintro e w' ⟨rfl, rfl⟩
  generalize w.alloc _ = w1 at HB HF ⊢
  go_wp2_with fail
  refine HF.out.mono ?_
  rintro e w' ⟨rfl, hr⟩
  go_wp2_with fail
  go_ret
  exact ⟨rfl, on HB.out hr⟩
/-- .. and of one that it has: it goes, and stands by itself. -/
theorem rcdrop_yes {k : Nat} {x : Nat × Rc.Rec} (C : Int) (w : World) (h : Own G w0 w l) (e : l[i]? = some (Rc.part B n q)) (hk : Rc.at_ (Rc.Rec.of C) q = some k) (hx : q[k]? = some x) : Calls Try.prog 8 #[.pointer (some ⟨B, 0, none⟩), .int .u32 C] w fun e w' => e = .returned (.bool true) ∧ Own G w0 w' (.box x.1 (Rc.obj x.2) :: l.set i (Rc.part B n (q.eraseIdx k))) := by
  obtain ⟨F, h2, hback⟩ := h.split i e
  obtain ⟨a, c, hl, h3⟩ := Rc.opens h2
  have hI := Rc.inside hl h3
  have HB := Lib.hid (((Own.start (fun _ => False) w).lay (.cells #[.int .u32 C] 22 (0, 0))).below (fun _ => id))
  have hF := rcplace_any (.inl rfl) _ (hI.call HB.out) (Rc.says_of (heap_alloc_new w (.cells #[.int .u32 C] 22 (0, 0))))
  rw [show Rc.place (Rc.Rec.of C) q = (k : Int) by unfold Rc.place; rw [hk]] at hF
  have HF := Lib.hid hF
  have HBk : Hid (∀ (w2 : World) (q2 b : Part), Own F w w2 [q2, b] → Own G w0 w2 (b :: l.set i q2)) := Lib.hid (fun _ _ _ k => hback k)
  have hkq := (List.getElem?_eq_some_iff.1 hx).1
  obtain ⟨g, off, rfl, -⟩ := hI.ptr_at hx
  have HO := Lib.hid (h3.past HB.out)
  have HX := Lib.hid hx
  have HL := Lib.hid hl
  have hq : q.length ≤ 32 := by omega
  have hk0 : ¬(k : Int) < 0 := by omega
  have hkw : IntKind.i64.wrap ((k : Int) + 1) = (k : Int) + 1 := by rw [IntKind.wrap_i64]; omega
  clear h e h2 hl h3 hI hF hk hx hback
  go_enter Try.func8, Try.ntmps8
  go_wp2_with fail
  refine (rcisof_any C w).mono ?_
  rintro e w' ⟨rfl, rfl⟩
  generalize w.alloc _ = w1 at HB HF HO ⊢
  go_wp2_with fail
  refine HF.out.mono ?_
  rintro e w2 ⟨rfl, hr⟩
  have HO2 := Lib.hid (HO.out.past hr)
  clear hr HO HF HB
  have hbk := HO2.out.box 0 rfl
  have p1 : w2.cell? ⟨B, 1, none⟩ = some (.slice (some ⟨g, off, none⟩) q.length c) := cell_of_row _ _ 1 _ _ _ hbk
  obtain ⟨F2, hN, hF2, hb2⟩ := HO2.out.part 1 rfl
  obtain ⟨hN1, hN2⟩ := hN
  rcases hN1 with ⟨e, -⟩ | ⟨g', off', e, hrow⟩
  · cases e
  cases e
  rw [List.length_map] at hrow
  have HD := Lib.hid (rcdel_any hkq (by omega) (fun u hu => by simp only [List.mem_map] at hu; obtain ⟨y, -, rfl⟩ := hu; rfl) w2 hrow)
  have HB2 : Hid (∀ (w3 : World), RowK w3 0 26 1 g off (q.length - 1) c ((q.map Rc.ptr).take (k * 1) ++ (q.map Rc.ptr).drop ((k + 1) * 1)) → Rest (fun j => j = g) w2 w3 → Own F w w3 (.box B (Rc.head n (some ⟨g, off, none⟩) q.length c) :: .nl 26 (some ⟨g, off, none⟩) c ((q.eraseIdx k).map Rc.ptr) :: q.map fun x => .box x.1 (Rc.obj x.2))) := Lib.hid (by
    intro w3 h1 h3
    have hxs : (q.map Rc.ptr).take (k * 1) ++ (q.map Rc.ptr).drop ((k + 1) * 1) = (q.eraseIdx k).map Rc.ptr := by
      rw [Nat.mul_one, Nat.mul_one, List.eraseIdx_eq_take_drop_succ, List.map_append, List.map_take, List.map_drop]
    rw [hxs] at h1
    refine hb2 (q' := .nl 26 (some ⟨g, off, none⟩) c ((q.eraseIdx k).map Rc.ptr)) (F' := F2) ⟨.inr ⟨g, off, rfl, ?_⟩, hN2⟩ (h3.mono fun j _ hj => hj ▸ hN2 g ⟨off, rfl⟩) (fun _ => .inl)
    rw [List.length_map, List.length_eraseIdx_of_lt hkq]
    exact h1)
  clear hb2 hN2 hrow hbk HO2 hF2
  go_wp2_with fail
  refine HD.out.mono ?_
  rintro e w3 ⟨rfl, hr1, hr2⟩
  have HO3 := Lib.hid (HB2.out w3 hr1 hr2)
  have hbk := HO3.out.box 0 rfl
  have p4 : w3.cell? ⟨B, 1, none⟩ = some (.slice (some ⟨g, off, none⟩) q.length c) := cell_of_row _ _ 1 _ _ _ hbk
  have z4 := frozen_of_row _ _ 1 _ _ hbk
  have h5 := HO3.out.set 0 rfl (heap_setCell_same w3 B 1 _ _ (.slice (some ⟨g, off, none⟩) (q.length - 1) c) hbk)
  have hel : (q.eraseIdx k).length = q.length - 1 := List.length_eraseIdx_of_lt hkq
  have hpm : (q.map fun x => Part.box x.1 (Rc.obj x.2)).Perm (Part.box x.1 (Rc.obj x.2) :: (q.eraseIdx k).map fun x => Part.box x.1 (Rc.obj x.2)) := by
    have := (perm_at HX.out).map (fun x : Nat × Rc.Rec => Part.box x.1 (Rc.obj x.2))
    exact this
  have HO5 : Hid (Own F w (w3.setCell ⟨B, 1, none⟩ (.slice (some ⟨g, off, none⟩) (q.length - 1) c)) (Rc.part B n (q.eraseIdx k) :: [.box x.1 (Rc.obj x.2)])) := Lib.hid (by
    have h6 := h5.perm (.cons _ (.cons _ (hpm.trans (List.perm_append_singleton _ _).symm)))
    refine Rc.closes_ (a := some ⟨g, off, none⟩) (c := c) ⟨by rw [hel]; have := HL.out; omega, HL.out.2⟩ ?_
    unfold Rc.parts
    rw [hel]
    exact h6)
  clear h5 HO3 hbk hr1 hr2 HB2
  go_wp2_with fail
  generalize w3.setCell _ _ = w5 at HO5 ⊢
  go_wp2_with fail
  go_ret
  exact ⟨rfl, HBk.out _ _ _ HO5.out⟩
end
end Go.Proofs.Ytnllgomafmgbeaa
