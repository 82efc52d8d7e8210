/- The contract of a service's New. -/
import Derived.Test.YtgboiejiodgcnaaSvG
namespace Go.Proofs.Ytgboiejiodgcnaa
open Go.RowKit Go.Sort

theorem Try.itemsWk : Item1 Try.prog 49 53 := .of (z := .pointer none) (b := 8) Try.underlying49 (by kernel_rfl) (by decide) rfl
namespace Sv
/-- A service's block while it is made. -/
def half (a : Option Addr) (n c C : Nat) (win : Int) : List Value := [.slice a n c, .int .i64 win, .pointer (some ⟨C, 0, none⟩), .int .u32 0, .slice none 0 0, .slice none 0 0, .slice none 0 0, .slice none 0 0, .slice none 0 0]
/-- It was made. -/
def Made (w : World) (o : Ob) (e : Ending) (w' : World) : Prop := ∃ S ps, e = .returned (.pointer (some ⟨S, 0, none⟩)) ∧ Own (fun _ => False) w w' [part S ps o]
theorem made_at {w w' : World} {S bA g off c C : Nat} {ps : List Nat} {wn qn kn wi : Int} {o : Obj} (hn : ps.length = (max 1 (min wn 4)).toNat)
    (h : Own (fun _ => False) w w' (.box bA o :: .box S (.cells (half (some ⟨g, off, none⟩) ps.length c C wi).toArray 52 (0, 0)) :: .nl 53 (some ⟨g, off, none⟩) c (ptrs ps) :: .dc C (Dd.room kn) [] :: ps.map fun P => .wk P (Wk.new (Wk.room qn)))) : Own (fun _ => False) w w' [part S ps (new wn qn kn wi)] := by
  have hws : (new wn qn kn wi).ws.length = ps.length := by rw [hn]; simp [new]
  have h1 := (h.tail.nl_row 1 rfl (n := ps.length) (by simp [ptrs])).none_fr.none_fr.none_fr.none_fr.none_fr
  have h2 := h1.perm (r := .box S (.cells (half (some ⟨g, off, none⟩) ps.length c C wi).toArray 52 (0, 0)) :: .row 53 1 g off ps.length c (ptrs ps) :: .dc C (Dd.room kn) [] :: .fr none 0 [] :: .fr none 0 [] :: .fr none 0 [] :: .fr none 0 [] :: .fr none 0 [] :: ps.map fun P => .wk P (Wk.new (Wk.room qn))) (List.perm_append_comm_assoc (l₁ := [Part.fr none 0 [], Part.fr none 0 [], Part.fr none 0 [], Part.fr none 0 [], Part.fr none 0 []]) (l₂ := [_, _, _]) (l₃ := _))
  refine closes (o := new wn qn kn wi) (m := ⟨g, off, c, C, none, 0, fun _ => none, fun _ => 0⟩) hws.symm ?_
  have hz : List.zipWith Part.wk ps (new wn qn kn wi).ws = ps.map fun P => .wk P (Wk.new (Wk.room qn)) := by
    apply List.ext_getElem?
    intro j
    rw [List.getElem?_zipWith, List.getElem?_map]
    by_cases hj : j < ps.length
    · rw [List.getElem?_eq_getElem hj]
      have : (new wn qn kn wi).ws[j]? = some (Wk.new (Wk.room qn)) := by
        unfold new
        rw [List.getElem?_replicate, if_pos (by omega)]
      rw [this]; rfl
    · rw [List.getElem?_eq_none (Nat.le_of_not_lt hj)]; simp
  unfold parts cells
  rw [hz, hws]
  exact h2
end Sv

set_option maxRecDepth 10000 in
set_option maxHeartbeats 4000000 in
/-- New. -/
theorem svnew_any (wn qn kn wi : Int) (w : World) : Calls Try.prog 5 #[.agg #[.int .i64 wn, .int .i64 qn, .int .i64 kn, .int .i64 wi]] w fun e w' => Sv.Made w (Sv.new wn qn kn wi) e w' := by
  have H := Lib.hid ((Own.start (fun _ => False) w).lay (.cells #[.int .i64 wn, .int .i64 qn, .int .i64 kn, .int .i64 wi] 26))
  go_enter Try.func5, Try.ntmps5
  go_upto_region 1 with fail
  generalize w.alloc _ = w1 at H ⊢
  generalize w.heap.size = bA at H ⊢
  refine wp_region_held_drew (S := fun w' => w'.heap[bA]? = some (.cells #[.int .i64 wn, .int .i64 qn, .int .i64 kn, .int .i64 wi] 26 (0, 0))) (by kernel_rfl) (H.out.box 0 rfl) (fun hHeld => ?_)
  have H1 := Lib.hid H.out.drew
  clear H
  generalize w1.drew = w2 at H1 hHeld ⊢
  refine wpAnyH_yield 0 (.pointer (some ⟨bA, 3, none⟩)) rfl (by kernel_rfl) (by kernel_rfl) (by kernel_rfl) (fun d _ _ _ h => by cases d <;> exact h) (by rfl) (by assumption) (fun _ _ => by go_simp) ?_
  simp only [Act.put, List.setIfInBounds_toArray, List.set_cons_zero, List.set_cons_succ]
  refine wpAnyH_yield 1 (.int .i64 wi) rfl (by kernel_rfl) (by kernel_rfl) (by kernel_rfl) (fun d _ _ _ h => by cases d <;> exact h) (by rfl) (by assumption) (fun _ hSw => by have hcs := cell_of_row _ _ 3 _ _ _ hSw; go_simp) ?_
  simp only [Act.put, List.setIfInBounds_toArray, List.set_cons_zero, List.set_cons_succ]
  refine wpAnyH_yield 2 (.pointer (some ⟨bA, 2, none⟩)) rfl (by kernel_rfl) (by kernel_rfl) (by kernel_rfl) (fun d _ _ _ h => by cases d <;> exact h) (by rfl) (by assumption) (fun _ _ => by go_simp) ?_
  simp only [Act.put, List.setIfInBounds_toArray, List.set_cons_zero, List.set_cons_succ]
  refine wpAnyH_yield 3 (.int .i64 kn) rfl (by kernel_rfl) (by kernel_rfl) (by kernel_rfl) (fun d _ _ _ h => by cases d <;> exact h) (by rfl) (by assumption) (fun _ hSw => by have hcs := cell_of_row _ _ 2 _ _ _ hSw; go_simp) ?_
  simp only [Act.put, List.setIfInBounds_toArray, List.set_cons_zero, List.set_cons_succ]
  refine wpAnyH_ready (rs := [4]) (by kernel_rfl) (by simp) (AllReadyH.cons rfl (fun K hK => ?_) AllReadyH.nil)
  go_simp
  go_at_call 17
  refine (dnew_any kn w2).mono ?_
  rintro e w3 ⟨rfl, hd3, hb3⟩
  have H3 := Lib.hid (H1.out.made_dc hb3 hd3 (Nat.le_refl _) (fun _ e => by cases e))
  clear hd3 hb3 H1 hHeld
  generalize w2.heap.size = C at H3 ⊢
  refine hK.out _ _ (H3.out.box 1 rfl) (fun hHeld => ?_)
  clear hK K
  try simp only [Act.put, List.setIfInBounds_toArray, List.set_cons_zero, List.set_cons_succ]
  refine wpAnyH_yield 5 (.agg #[.slice none 0 0, .int .i64 wi, .pointer (some ⟨C, 0, none⟩), .int .u32 0, .slice none 0 0, .slice none 0 0, .slice none 0 0, .slice none 0 0, .slice none 0 0]) rfl (by kernel_rfl) (by kernel_rfl) (by kernel_rfl) (fun d _ _ _ h => by cases d <;> exact h) (by rfl) (by assumption) (fun _ _ => by go_simp) ?_
  simp only [Act.put, List.setIfInBounds_toArray, List.set_cons_zero, List.set_cons_succ]
  refine wpAnyH_ready (rs := [6]) (by kernel_rfl) (by simp) (AllReadyH.cons rfl (fun K hK => ?_) AllReadyH.nil)
  go_simp
  have H4 := Lib.hid (H3.out.lay (.cells #[.slice none 0 0, .int .i64 wi, .pointer (some ⟨C, 0, none⟩), .int .u32 0, .slice none 0 0, .slice none 0 0, .slice none 0 0, .slice none 0 0, .slice none 0 0] 52))
  clear hHeld H3
  generalize w3.alloc _ = w4 at H4 ⊢
  generalize w3.heap.size = S at H4 ⊢
  refine hK.out _ _ (H4.out.box 2 rfl) (fun hHeld => ?_)
  clear hK K
  try simp only [Act.put, List.setIfInBounds_toArray, List.set_cons_zero, List.set_cons_succ]
  refine wpAnyH_ready (rs := [7]) (by kernel_rfl) (by simp) (AllReadyH.cons rfl (fun K hK => ?_) AllReadyH.nil)
  go_simp
  refine hK.out _ _ (hHeld) (fun hHeld => ?_)
  clear hK K
  try simp only [Act.put, List.setIfInBounds_toArray, List.set_cons_zero, List.set_cons_succ]
  refine wpAnyH_done (by kernel_rfl) ?_ _
  clear hHeld
  obtain ⟨n, hn⟩ : ∃ n : Nat, n = (max 1 (min wn 4)).toNat := ⟨_, rfl⟩
  have hni : (n : Int) = max 1 (min wn 4) := by omega
  have hn1 : 1 ≤ n := by omega
  have hn4 : n ≤ 4 := by omega
  have h1 : (if (4 : Int) < wn then 4 else wn) = min wn 4 := by omega
  have h2 : (if wn < (4 : Int) then wn else 4) = min wn 4 := by omega
  have h3 : (if (1 : Int) < min wn 4 then min wn 4 else 1) = max 1 (min wn 4) := by omega
  have h4 : (if min wn 4 < (1 : Int) then 1 else min wn 4) = max 1 (min wn 4) := by omega
  have hNI := Lib.hid hni
  have hNN := Lib.hid hn
  clear hn hni
  have q0 := cell_of_row _ _ 0 _ _ _ (H4.out.box 2 rfl)
  go_upto_region 3 with fail
  clear h1 h2 h3 h4 q0
  have H5 : Hid (Own (fun _ => False) w w4 (.box bA (.cells #[.int .i64 wn, .int .i64 qn, .int .i64 kn, .int .i64 wi] 26 (0, 0)) :: .box S (.cells (Sv.half none 0 0 C wi).toArray 52 (0, 0)) :: .nl 53 none 0 (Sv.ptrs []) :: .dc C (Dd.room kn) [] :: ([] : List Nat).map fun P => .wk P (Wk.new (Wk.room qn)))) := Lib.hid (((H4.out.nil_nl 53).front 3 rfl).perm (.cons _ (.swap _ _ _)))
  clear H4
  rw [← hNI.out]
  go_loopg [15] (5 : Nat) (fun gh s15 wx => ∃ (k : Nat) (a : Option Addr) (c : Nat) (ps : List Nat), k ≤ n ∧ 5 - k ≤ gh ∧ s15 = .int .i64 k ∧ Hid (k = ps.length) ∧ Hid ((k = 0 ∧ a = none) ∨ ∃ g off, a = some ⟨g, off, none⟩) ∧ Hid (Own (fun _ => False) w wx (.box bA (.cells #[.int .i64 wn, .int .i64 qn, .int .i64 kn, .int .i64 wi] 26 (0, 0)) :: .box S (.cells (Sv.half a k c C wi).toArray 52 (0, 0)) :: .nl 53 a c (Sv.ptrs ps) :: .dc C (Dd.room kn) [] :: ps.map fun P => .wk P (Wk.new (Wk.room qn)))))
  case atStart => exact ⟨0, none, 0, [], by omega, by omega, rfl, Lib.hid rfl, Lib.hid (.inl ⟨rfl, rfl⟩), H5⟩
  case round =>
    obtain ⟨k, a, c, ps, hkn, hg, rfl, HP, HA, H⟩ := hrel
    clear H5
    by_cases hk : k < n
    · have hk' : (k : Int) < (n : Int) := by omega
      have hwk : IntKind.i64.wrap ((k : Int) + 1) = (k : Int) + 1 := by rw [IntKind.wrap_i64]; omega
      go_upto_region 4 with fail
      refine wp_region_Z_drew 12 (S := fun w' => w'.heap[bA]? = some (.cells #[.int .i64 wn, .int .i64 qn, .int .i64 kn, .int .i64 wi] 26 (0, 0)) ∧ w'.heap[S]? = some (.cells (Sv.half a k c C wi).toArray 52 (0, 0))) (by kernel_rfl) ⟨H.out.box 0 rfl, H.out.box 1 rfl⟩ (fun hHeld => ?_)
      have H5 := Lib.hid H.out.drew
      clear H
      generalize World.drew _ = w5 at H5 hHeld ⊢
      refine wpAnyZ_yield 0 (.pointer (some ⟨S, 0, none⟩)) rfl (by kernel_rfl) (by kernel_rfl) (by kernel_rfl) (fun d _ _ _ h => by cases d <;> exact h) (by rfl) (by assumption) (fun _ _ => by go_simp) ?_
      simp only [Act.put, List.setIfInBounds_toArray, List.set_cons_zero, List.set_cons_succ]
      refine wpAnyZ_yield 1 (.pointer (some ⟨S, 0, none⟩)) rfl (by kernel_rfl) (by kernel_rfl) (by kernel_rfl) (fun d _ _ _ h => by cases d <;> exact h) (by rfl) (by assumption) (fun _ _ => by go_simp) ?_
      simp only [Act.put, List.setIfInBounds_toArray, List.set_cons_zero, List.set_cons_succ]
      refine wpAnyZ_yield 2 (.pointer (some ⟨S, 0, none⟩)) rfl (by kernel_rfl) (by kernel_rfl) (by kernel_rfl) (fun d _ _ _ h => by cases d <;> exact h) (by rfl) (by assumption) (fun _ _ => by go_simp) ?_
      simp only [Act.put, List.setIfInBounds_toArray, List.set_cons_zero, List.set_cons_succ]
      refine wpAnyZ_yield 3 (.pointer (some ⟨S, 0, none⟩)) rfl (by kernel_rfl) (by kernel_rfl) (by kernel_rfl) (fun d _ _ _ h => by cases d <;> exact h) (by rfl) (by assumption) (fun _ _ => by go_simp) ?_
      simp only [Act.put, List.setIfInBounds_toArray, List.set_cons_zero, List.set_cons_succ]
      refine wpAnyZ_yield 4 (.slice a k c) rfl (by kernel_rfl) (by kernel_rfl) (by kernel_rfl) (fun d _ _ _ h => by cases d <;> exact h) (by rfl) (by assumption) (fun _ hSw => by have hcs : _ = some (Value.slice a k c) := cell_of_row _ _ 0 _ _ _ hSw.2; go_simp) ?_
      simp only [Act.put, List.setIfInBounds_toArray, List.set_cons_zero, List.set_cons_succ]
      refine wpAnyZ_yield 5 (.pointer (some ⟨bA, 1, none⟩)) rfl (by kernel_rfl) (by kernel_rfl) (by kernel_rfl) (fun d _ _ _ h => by cases d <;> exact h) (by rfl) (by assumption) (fun _ _ => by go_simp) ?_
      simp only [Act.put, List.setIfInBounds_toArray, List.set_cons_zero, List.set_cons_succ]
      refine wpAnyZ_yield 6 (.int .i64 qn) rfl (by kernel_rfl) (by kernel_rfl) (by kernel_rfl) (fun d _ _ _ h => by cases d <;> exact h) (by rfl) (by assumption) (fun _ hSw => by have hcs := cell_of_row _ _ 1 _ _ _ hSw.1; go_simp) ?_
      simp only [Act.put, List.setIfInBounds_toArray, List.set_cons_zero, List.set_cons_succ]
      refine wpAnyZ_ready (rs := [7]) (by kernel_rfl) (by simp) (AllReadyZ.cons rfl (fun K hK => ?_) AllReadyZ.nil)
      go_simp
      go_at_call 18
      refine (wknew_wd qn w5).mono ?_
      rintro e w6 ⟨rfl, hw6, hb6⟩
      have H6 := Lib.hid ((H5.out.made_wk hb6 hw6 (Nat.le_refl _) (fun _ e => by cases e)).perm (List.perm_append_comm (l₁ := [_])))
      clear hw6 hb6 H5 hHeld
      generalize w5.heap.size = P at H6 ⊢
      have hHeld : _ ∧ _ := ⟨H6.out.box 0 rfl, H6.out.box 1 rfl⟩
      refine hK.out _ _ (fun _ => hHeld) (fun hZ => ?_)
      clear hHeld
      have hHeld := hZ (by decide)
      clear hK K hZ
      try simp only [Act.put, List.setIfInBounds_toArray, List.set_cons_zero, List.set_cons_succ]
      refine wpAnyZ_ready (rs := [8]) (by kernel_rfl) (by simp) (AllReadyZ.cons rfl (fun K hK => ?_) AllReadyZ.nil)
      go_simp
      have H7 := Lib.hid (H6.out.lay (.cells #[.pointer (some ⟨P, 0, none⟩)] 53))
      clear H6 hHeld
      generalize w6.alloc _ = w7 at H7 ⊢
      generalize w6.heap.size = bN at H7 ⊢
      refine hK.out _ _ (fun _ => ⟨H7.out.box 1 rfl, H7.out.box 2 rfl⟩) (fun hZ => ?_)
      have hHeld := hZ (by decide)
      clear hK K hZ
      try simp only [Act.put, List.setIfInBounds_toArray, List.set_cons_zero, List.set_cons_succ]
      obtain ⟨g', off', c', w8, hrun, h8⟩ := H7.out.nl_add Try.itemsWk 3 rfl (n := k) (by rw [HP.out]; simp [Sv.ptrs]) (by omega) (v := .pointer (some ⟨P, 0, none⟩)) rfl (H7.out.box 0 rfl) 49
      have H8 := Lib.hid h8.tail
      clear H7 h8
      have hS8 : _ ∧ _ := ⟨H8.out.box 0 rfl, H8.out.box 1 rfl⟩
      have c8 : _ = some (Value.slice a k c) := cell_of_row _ _ 0 _ _ _ hS8.2
      have z8 := frozen_of_row _ _ 0 _ _ hS8.2
      refine wpAnyZ_ready (rs := [9]) (by kernel_rfl) (by simp) (AllReadyZ.cons rfl (fun K hK => ?_) AllReadyZ.nil)
      refine step_append_run rfl _ _ 49 rfl rfl rfl hrun ?_
      refine hK.out _ _ (fun _ => hS8) (fun hZ => ?_)
      have hHeld := hZ (by decide)
      clear hK K hZ hrun
      try simp only [Act.put, List.setIfInBounds_toArray, List.set_cons_zero, List.set_cons_succ]
      refine wpAnyZ_ready (rs := [10]) (by kernel_rfl) (by simp) (AllReadyZ.cons rfl (fun K hK => ?_) AllReadyZ.nil)
      go_simp
      refine hK.out _ _ (fun _ => hHeld) (fun hZ => ?_)
      have hHeld := hZ (by decide)
      clear hK K hZ
      try simp only [Act.put, List.setIfInBounds_toArray, List.set_cons_zero, List.set_cons_succ]
      refine wpAnyZ_yield 11 (.pointer (some ⟨S, 0, none⟩)) rfl (by kernel_rfl) (by kernel_rfl) (by kernel_rfl) (fun d _ _ _ h => by cases d <;> exact h) (by rfl) (by assumption) (fun _ _ => by go_simp) ?_
      simp only [Act.put, List.setIfInBounds_toArray, List.set_cons_zero, List.set_cons_succ]
      refine wpAnyZ_ready (rs := [12]) (by kernel_rfl) (by simp) (AllReadyZ.cons rfl (fun K hK => ?_) AllReadyZ.nil)
      go_simp
      refine hK.out _ _ (fun h => absurd rfl h) (fun _ => ?_)
      clear hK K
      try simp only [Act.put, List.setIfInBounds_toArray, List.set_cons_zero, List.set_cons_succ]
      refine wpAnyZ_done (by kernel_rfl) ?_ _
      have h9 := H8.out.set 1 rfl (heap_setCell_same w8 S 0 _ _ (.slice (some ⟨g', off', none⟩) (k + 1) c') hS8.2)
      have H9 : Hid (Own (fun _ => False) w (w8.setCell ⟨S, 0, none⟩ (.slice (some ⟨g', off', none⟩) (k + 1) c')) (.box bA (.cells #[.int .i64 wn, .int .i64 qn, .int .i64 kn, .int .i64 wi] 26 (0, 0)) :: .box S (.cells (Sv.half (some ⟨g', off', none⟩) (k + 1) c' C wi).toArray 52 (0, 0)) :: .nl 53 (some ⟨g', off', none⟩) c' (Sv.ptrs (ps ++ [P])) :: .dc C (Dd.room kn) [] :: (ps ++ [P]).map fun P => .wk P (Wk.new (Wk.room qn)))) := Lib.hid (by
        unfold Sv.ptrs
        rw [List.map_append, List.map_append]
        exact h9)
      clear hHeld hS8 c8 z8 H8 h9
      generalize w8.setCell _ _ = w9 at H9 ⊢
      go_wp2_with fail
      go_roundg (5 - (k + 1))
      case measure => omega
      case rel => exact ⟨k + 1, _, c', ps ++ [P], by omega, by omega, by go_num, Lib.hid (by rw [HP.out]; simp), Lib.hid (.inr ⟨g', off', rfl⟩), H9⟩
    · have hk' : ¬(k : Int) < (n : Int) := by omega
      obtain rfl : k = n := by omega
      go_wp2_with fail
      go_ret
      rcases HA.out with ⟨e, -⟩ | ⟨g, off, rfl⟩
      · omega
      · have := H.out
        rw [HP.out] at this
        exact ⟨S, ps, rfl, Sv.made_at (by rw [← HP.out]; exact hNN.out) this⟩
end Go.Proofs.Ytgboiejiodgcnaa
