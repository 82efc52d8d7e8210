/- The document's own window: Note. -/
import Derived.Test.YtakenaejmhdhnaaRwA
import Derived.Test.YtakenaejmhdhnaaRw1
import Derived.Test.YtakenaejmhdhnaaWinM
import Derived.Deep.DeepCutAuto
namespace Go.Proofs.Ytakenaejmhdhnaa
open Go.RowKit

theorem Try.items64 : Item1 Try.prog 26 2 := .of (z := .int .i64 0) (b := 8) Try.underlying26 (by kernel_rfl) (by decide) rfl
theorem Try.itemsBool : Item1 Try.prog 27 4 := .of (z := .bool false) (b := 1) Try.underlying27 (by kernel_rfl) (by decide) rfl
namespace Wn
/-- In which buckets, and how. -/
def ats (ev : List (Int × Bool)) : List Value := ev.map fun e => .int .i64 e.1
def wls (ev : List (Int × Bool)) : List Value := ev.map fun e => .bool e.2
theorem ats_length (ev : List (Int × Bool)) : (ats ev).length = ev.length := by simp [ats]
theorem wls_length (ev : List (Int × Bool)) : (wls ev).length = ev.length := by simp [wls]
theorem ats_one (ev : List (Int × Bool)) : ∀ u ∈ ats ev, u.oneCell' = true := by
  intro u hu
  obtain ⟨e, -, rfl⟩ := List.mem_map.1 hu
  rfl
theorem wls_one (ev : List (Int × Bool)) : ∀ u ∈ wls ev, u.oneCell' = true := by
  intro u hu
  obtain ⟨e, -, rfl⟩ := List.mem_map.1 hu
  rfl
theorem ats_append (ev : List (Int × Bool)) (m : Int) (v : Bool) : ats (ev ++ [(m, v)]) = ats ev ++ [.int .i64 m] := by simp [ats]
theorem wls_append (ev : List (Int × Bool)) (m : Int) (v : Bool) : wls (ev ++ [(m, v)]) = wls ev ++ [.bool v] := by simp [wls]
end Wn
theorem box_five {w w' : World} {b : Nat} {t : TypeId} {c0 c1 c2 c3 c4 : Value} (h : w.heap[b]? = some (.cells #[c0, c1, c2, c3, c4] t (0, 0))) (hr : Rest (fun _ => False) w w') :
    w'.cell? ⟨b, 0, none⟩ = some c0 ∧ w'.cell? ⟨b, 1, none⟩ = some c1 ∧ w'.cell? ⟨b, 2, none⟩ = some c2 ∧ w'.cell? ⟨b, 3, none⟩ = some c3 ∧ w'.cell? ⟨b, 4, none⟩ = some c4 :=
  cells_five ((hr.block b (lt_of_block h) (fun x => x)).trans h)
/-- A row that was made is laid into a cell of one's first block. -/
theorem note_done {w wd W : World} {b k g o n q : Nat} {l : List (Nat × Obj)} {cs : Array Value} {t t' : TypeId} {xs : List Value} (h : Held w wd ((b, .cells cs t (0, 0)) :: l)) (r : Rw wd W t' g o n q xs) (v : Value) :
    Held w (W.setCell ⟨b, k, none⟩ v) ((b, .cells (cs.setIfInBounds k v) t (0, 0)) :: l) ∧ RowK (W.setCell ⟨b, k, none⟩ v) wd.heap.size t' 1 g o n q xs := by
  refine ⟨(h.past r.rest (fun _ _ => id) (fun _ h => h.elim)).set v, r.row.kept (heap_setCell_other _ _ _ _ ?_)⟩
  have := r.row.from_
  have := lt_of_block (h.get 0 rfl)
  show g ≠ b
  omega
theorem rest_five (w : World) (b : Nat) (c0 c1 c2 c3 c4 : Value) : Rest (fun k => k = b) w (((((w.setCell ⟨b, 0, none⟩ c0).setCell ⟨b, 1, none⟩ c1).setCell ⟨b, 2, none⟩ c2).setCell ⟨b, 3, none⟩ c3).setCell ⟨b, 4, none⟩ c4) := by
  have h := fun (u : World) (p : Nat) (c : Value) => Rest.setCell (own := fun k => k = b) u ⟨b, p, none⟩ c rfl
  have t := fun {x y z : World} (p : Rest (fun k => k = b) x y) (q : Rest (fun k => k = b) y z) => p.trans (o3 := fun k => k = b) q (fun _ _ => id) (fun _ _ => id)
  exact t (t (t (t (h _ _ _) (h _ _ _)) (h _ _ _)) (h _ _ _)) (h _ _ _)
/-- A row stands behind the stores of two blocks' cells. -/
theorem RowK.behind {w w1 w2 : World} {B B' b r k g o n q c : Nat} {t : TypeId} {xs : List Value} (h : RowK w B t c g o n q xs) (v : Value) (h1 : w1 = w.setCell ⟨b, k, none⟩ v) (h2 : Rest (fun k => k = r) w1 w2) (hb : g ≠ b) (hr : g ≠ r) (hB : B' ≤ g) : RowK w2 B' t c g o n q xs := by
  subst h1
  have e1 : (w.setCell ⟨b, k, none⟩ v).heap[g]? = w.heap[g]? := heap_setCell_other _ _ _ _ hb
  have hl : g < (w.setCell ⟨b, k, none⟩ v).heap.size := by simpa [World.setCell] using h.lt
  exact { h.kept ((h2.block g hl hr).trans e1) with from_ := hB }

set_option maxHeartbeats 4000000 in
/-- Note. -/
theorem rwnote_any (n wd last t : Int) (v : Bool) (a a2 : Option Addr) (c c2 : Nat) (ev : List (Int × Bool)) (w : World) (hwd : 1 ≤ wd) (h1 : Nl w 2 a c (Wn.ats ev)) (h2 : Nl w 4 a2 c2 (Wn.wls ev)) (hl : ev.length ≤ 1000) :
    Calls Try.prog 9 #[.agg #[.int .i64 n, .int .i64 wd, .int .i64 last, .slice a ev.length c, .slice a2 ev.length c2], .int .i64 t, .bool v] w fun e w' => ∃ g o q g2 o2 q2,
      e = .returned (.agg #[.int .i64 n, .int .i64 wd, .int .i64 (max last (Tk.clamp t / wd)), .slice (some ⟨g, o, none⟩) (ev.length + 1) q, .slice (some ⟨g2, o2, none⟩) (ev.length + 1) q2]) ∧
      RowK w' w.heap.size 2 1 g o (ev.length + 1) q (Wn.ats (ev ++ [(max last (Tk.clamp t / wd), v)])) ∧ RowK w' w.heap.size 4 1 g2 o2 (ev.length + 1) q2 (Wn.wls (ev ++ [(max last (Tk.clamp t / wd), v)])) ∧ Below w.heap.size w w' := by
  have hmt := fun w => rwmeet_any n wd last t a a2 ev.length c ev.length c2 w hwd
  generalize max last (Tk.clamp t / wd) = m at hmt ⊢
  go_enter Try.func9, Try.ntmps9
  go_wp2_with fail
  have H := Lib.hid (((Held.start w).lay (.cells #[.int .i64 n, .int .i64 wd, .int .i64 last, .slice a ev.length c, .slice a2 ev.length c2] 29)).lay (.cells #[.int .i64 0, .int .i64 0, .int .i64 0, .slice none 0 0, .slice none 0 0] 29))
  rw [show (w.alloc (.cells #[.int .i64 n, .int .i64 wd, .int .i64 last, .slice a ev.length c, .slice a2 ev.length c2] 29)).heap.size = w.heap.size + 1 by simp] at H
  generalize (w.alloc (.cells #[.int .i64 n, .int .i64 wd, .int .i64 last, .slice a ev.length c, .slice a2 ev.length c2] 29)).alloc (.cells #[.int .i64 0, .int .i64 0, .int .i64 0, .slice none 0 0, .slice none 0 0] 29) = w1 at H ⊢
  refine (hmt w1).mono ?_
  rintro e w2 ⟨rfl, hb⟩
  have H2 := Lib.hid (H.out.call hb)
  clear hb H hmt
  obtain ⟨b0, b1, b2, b3, b4⟩ := cells_five (H2.out.get 1 rfl)
  have f2 : ∀ i, w2.frozen? ⟨w.heap.size, i, none⟩ = false := fun _ => frozen_of_row _ _ _ _ _ (H2.out.get 1 rfl)
  have H3 := Lib.hid (H2.out.swap.alarm (c0 := .int .i64 n) (c1 := .int .i64 wd) (c2 := .int .i64 m) (c3 := .slice a ev.length c) (c4 := .slice a2 ev.length c2))
  clear H2
  go_wp2_with fail
  generalize ((((w2.setCell ⟨w.heap.size, 0, none⟩ (.int .i64 n)).setCell ⟨w.heap.size, 1, none⟩ (.int .i64 wd)).setCell ⟨w.heap.size, 2, none⟩ (.int .i64 m)).setCell ⟨w.heap.size, 3, none⟩ (.slice a ev.length c)).setCell ⟨w.heap.size, 4, none⟩ (.slice a2 ev.length c2) = w4 at H3 ⊢
  clear b0 b1 b2 b3 b4 f2
  have HA0 := Lib.hid h1
  have HB0 := Lib.hid h2
  clear h1 h2
  go_cut [] (fun wx => ∃ g o q : Nat, Hid (Held w wx [(w.heap.size, .cells #[.int .i64 n, .int .i64 wd, .int .i64 m, .slice (some ⟨g, o, none⟩) (ev.length + 1) q, .slice a2 ev.length c2] 29 (0, 0)), (w.heap.size + 1, .cells #[.int .i64 0, .int .i64 0, .int .i64 0, .slice none 0 0, .slice none 0 0] 29 (0, 0))]) ∧ Hid (∃ B, RowK wx B 2 1 g o (ev.length + 1) q (Wn.ats (ev ++ [(m, v)]))) ∧ Hid (w.heap.size + 1 < g))
  case first =>
    refine wp_region_Z_drew 9 (S := fun w' => w'.cell? ⟨w.heap.size, 0, none⟩ = some (.int .i64 n) ∧ w'.cell? ⟨w.heap.size, 1, none⟩ = some (.int .i64 wd) ∧ w'.cell? ⟨w.heap.size, 2, none⟩ = some (.int .i64 m) ∧ w'.cell? ⟨w.heap.size, 3, none⟩ = some (.slice a ev.length c) ∧ w'.cell? ⟨w.heap.size, 4, none⟩ = some (.slice a2 ev.length c2)) (by kernel_rfl) (box_five (H3.out.get 0 rfl) (Rest.drew _ _)) (fun hHeld => ?_)
    have HH := Lib.hid H3.out.drew
    clear H3
    generalize w4.drew = wd at HH hHeld ⊢
    have HA := Lib.hid (HA0.out.below HH.out.below)
    have HBX := Lib.hid (HH.out.get 0 rfl)
    have HR := Lib.hid (Rest.refl (fun _ => False) wd)
    refine wpAnyZ_yield 1 (.pointer (some ⟨w.heap.size, 3, none⟩)) rfl (by kernel_rfl) (by kernel_rfl) (by kernel_rfl) (fun d _ _ _ h => by cases d <;> exact h) (by rfl) (by assumption) (fun _ _ => by go_simp) ?_
    simp only [Act.put, List.setIfInBounds_toArray, List.set_cons_zero, List.set_cons_succ]
    refine wpAnyZ_yield 2 (.slice a ev.length c) rfl (by kernel_rfl) (by kernel_rfl) (by kernel_rfl) (fun d _ _ _ h => by cases d <;> exact h) (by rfl) (by assumption) (fun _ hSw => by (try dsimp only at hSw); go_simp) ?_
    simp only [Act.put, List.setIfInBounds_toArray, List.set_cons_zero, List.set_cons_succ]
    refine wpAnyZ_yield 4 (.pointer (some ⟨w.heap.size, 2, none⟩)) rfl (by kernel_rfl) (by kernel_rfl) (by kernel_rfl) (fun d _ _ _ h => by cases d <;> exact h) (by rfl) (by assumption) (fun _ _ => by go_simp) ?_
    simp only [Act.put, List.setIfInBounds_toArray, List.set_cons_zero, List.set_cons_succ]
    refine wpAnyZ_yield 5 (.int .i64 m) rfl (by kernel_rfl) (by kernel_rfl) (by kernel_rfl) (fun d _ _ _ h => by cases d <;> exact h) (by rfl) (by assumption) (fun _ hSw => by (try dsimp only at hSw); go_simp) ?_
    simp only [Act.put, List.setIfInBounds_toArray, List.set_cons_zero, List.set_cons_succ]
    refine wpAnyZ_ready (rs := [0, 6]) (by kernel_rfl) (by simp) (AllReadyZ.cons rfl (fun K hK => ?_) (AllReadyZ.cons rfl (fun K hK => ?_) AllReadyZ.nil))
    · go_simp
      have hrw := Rw.new (w := wd) (w1 := wd) HR.out 2
      have hrx := HR.out.trans (o3 := fun _ => False) (Rest.alloc (fun _ => False) wd (.cells #[] 2)) (fun _ _ => id) (fun _ _ => id)
      generalize wd.alloc (.cells #[] 2) = w10 at hrw hrx ⊢
      replace HR := Lib.hid hrx
      have HROW := Lib.hid hrw
      clear hrw hrx
      refine hK.out _ _ (fun _ => box_five HBX.out HR.out) (fun hZ => ?_)
      have hHeld := hZ (by decide)
      clear hK K hZ
      try simp only [Act.put, List.setIfInBounds_toArray, List.set_cons_zero, List.set_cons_succ]
      refine wpAnyZ_ready (rs := [3, 6]) (by kernel_rfl) (by simp) (AllReadyZ.cons rfl (fun K hK => ?_) (AllReadyZ.cons rfl (fun K hK => ?_) AllReadyZ.nil))
      · obtain ⟨g1, o1, q1, w11, hrun, hrw, hkeep⟩ := HROW.out.copy Try.items64 (ys := (Wn.ats ev)) (by rw [Wn.ats_length]; omega) (Wn.ats_one ev) (HA.out.past HR.out (fun _ _ => id)) 26
        rw [Wn.ats_length] at hrun hrw
        refine step_append_run rfl _ _ 26 rfl rfl rfl hrun ?_
        replace HR := Lib.hid hrw.rest
        replace HROW := Lib.hid hrw
        clear hrun hrw hkeep
        refine hK.out _ _ (fun _ => box_five HBX.out HR.out) (fun hZ => ?_)
        have hHeld := hZ (by decide)
        clear hK K hZ
        try simp only [Act.put, List.setIfInBounds_toArray]
        refine wpAnyZ_ready (rs := [6]) (by kernel_rfl) (by simp) (AllReadyZ.cons rfl (fun K hK => ?_) AllReadyZ.nil)
        go_simp
        have hone := heap_alloc_new w11 (.cells #[.int .i64 m] 2)
        have HNE := Lib.hid (Nat.ne_of_gt HROW.out.row.lt)
        have hrw := HROW.out.more (Rest.alloc (fun _ => False) w11 (.cells #[.int .i64 m] 2))
        have hrx := HR.out.trans (o3 := fun _ => False) (Rest.alloc (fun _ => False) w11 (.cells #[.int .i64 m] 2)) (fun _ _ => id) (fun _ _ => id)
        generalize w11.alloc (.cells #[.int .i64 m] 2) = w12 at hrw hone hrx ⊢
        replace HR := Lib.hid hrx
        have HONE := Lib.hid hone
        replace HROW := Lib.hid hrw
        clear hrw hone hrx
        refine hK.out _ _ (fun _ => box_five HBX.out HR.out) (fun hZ => ?_)
        have hHeld := hZ (by decide)
        clear hK K hZ
        try simp only [Act.put, List.setIfInBounds_toArray, List.set_cons_zero, List.set_cons_succ]
        refine wpAnyZ_ready (rs := [7]) (by kernel_rfl) (by simp) (AllReadyZ.cons rfl (fun K hK => ?_) AllReadyZ.nil)
        obtain ⟨g2, o2, q2, w13, hrun, hrw⟩ := HROW.out.one Try.items64 (by omega) (by rfl) HONE.out 26
        refine step_append_run rfl _ _ 26 rfl rfl rfl hrun ?_
        replace HR := Lib.hid hrw.rest
        replace HROW := Lib.hid hrw
        clear hrun hrw HONE
        refine hK.out _ _ (fun _ => box_five HBX.out HR.out) (fun hZ => ?_)
        have hHeld := hZ (by decide)
        clear hK K hZ
        try simp only [Act.put, List.setIfInBounds_toArray]
        refine wpAnyZ_yield 8 (.pointer (some ⟨w.heap.size, 3, none⟩)) rfl (by kernel_rfl) (by kernel_rfl) (by kernel_rfl) (fun d _ _ _ h => by cases d <;> exact h) (by rfl) (by assumption) (fun _ _ => by go_simp) ?_
        simp only [Act.put]
        obtain ⟨z0, z1, z2, z3, z4⟩ := hHeld
        have f3 : ∀ i, w13.frozen? ⟨w.heap.size, i, none⟩ = false := fun _ => frozen_of_row _ _ _ _ _ ((HR.out.block _ (lt_of_block HBX.out) (fun x => x)).trans HBX.out)
        refine wpAnyZ_ready (rs := [9]) (by kernel_rfl) (by simp) (AllReadyZ.cons rfl (fun K hK => ?_) AllReadyZ.nil)
        go_simp
        refine hK.out _ _ (fun h => absurd rfl h) (fun _ => ?_)
        clear hK K
        try simp only [Act.put, List.setIfInBounds_toArray, List.set_cons_zero, List.set_cons_succ]
        refine wpAnyZ_done (by kernel_rfl) ?_ _
        go_wp2_with fail
        go_meet
        case rel =>
          obtain ⟨h1, h2⟩ := note_done (k := 3) HH.out HROW.out (.slice (some ⟨g2, o2, none⟩) (ev.length + 1) q2)
          exact ⟨g2, o2, q2, Lib.hid h1, Lib.hid ⟨_, by rw [Wn.ats_append]; exact h2⟩, Lib.hid (by have := HROW.out.row.from_; have := lt_of_block (HH.out.get 1 rfl); omega)⟩
      · go_simp
        have hone := heap_alloc_new w10 (.cells #[.int .i64 m] 2)
        have HNE := Lib.hid (Nat.ne_of_gt HROW.out.row.lt)
        have hrw := HROW.out.more (Rest.alloc (fun _ => False) w10 (.cells #[.int .i64 m] 2))
        have hrx := HR.out.trans (o3 := fun _ => False) (Rest.alloc (fun _ => False) w10 (.cells #[.int .i64 m] 2)) (fun _ _ => id) (fun _ _ => id)
        generalize w10.alloc (.cells #[.int .i64 m] 2) = w11 at hrw hone hrx ⊢
        replace HR := Lib.hid hrx
        have HONE := Lib.hid hone
        replace HROW := Lib.hid hrw
        clear hrw hone hrx
        refine hK.out _ _ (fun _ => box_five HBX.out HR.out) (fun hZ => ?_)
        have hHeld := hZ (by decide)
        clear hK K hZ
        try simp only [Act.put, List.setIfInBounds_toArray, List.set_cons_zero, List.set_cons_succ]
        refine wpAnyZ_ready (rs := [3]) (by kernel_rfl) (by simp) (AllReadyZ.cons rfl (fun K hK => ?_) AllReadyZ.nil)
        obtain ⟨g1, o1, q1, w12, hrun, hrw, hkeep⟩ := HROW.out.copy Try.items64 (ys := (Wn.ats ev)) (by rw [Wn.ats_length]; omega) (Wn.ats_one ev) (HA.out.past HR.out (fun _ _ => id)) 26
        rw [Wn.ats_length] at hrun hrw
        refine step_append_run rfl _ _ 26 rfl rfl rfl hrun ?_
        replace HONE := Lib.hid ((hkeep _ (lt_of_block HONE.out) HNE.out).trans HONE.out)
        replace HR := Lib.hid hrw.rest
        replace HROW := Lib.hid hrw
        clear hrun hrw hkeep
        refine hK.out _ _ (fun _ => box_five HBX.out HR.out) (fun hZ => ?_)
        have hHeld := hZ (by decide)
        clear hK K hZ
        try simp only [Act.put, List.setIfInBounds_toArray]
        refine wpAnyZ_ready (rs := [7]) (by kernel_rfl) (by simp) (AllReadyZ.cons rfl (fun K hK => ?_) AllReadyZ.nil)
        obtain ⟨g2, o2, q2, w13, hrun, hrw⟩ := HROW.out.one Try.items64 (by omega) (by rfl) HONE.out 26
        refine step_append_run rfl _ _ 26 rfl rfl rfl hrun ?_
        replace HR := Lib.hid hrw.rest
        replace HROW := Lib.hid hrw
        clear hrun hrw HONE
        refine hK.out _ _ (fun _ => box_five HBX.out HR.out) (fun hZ => ?_)
        have hHeld := hZ (by decide)
        clear hK K hZ
        try simp only [Act.put]
        refine wpAnyZ_yield 8 (.pointer (some ⟨w.heap.size, 3, none⟩)) rfl (by kernel_rfl) (by kernel_rfl) (by kernel_rfl) (fun d _ _ _ h => by cases d <;> exact h) (by rfl) (by assumption) (fun _ _ => by go_simp) ?_
        simp only [Act.put]
        obtain ⟨z0, z1, z2, z3, z4⟩ := hHeld
        have f3 : ∀ i, w13.frozen? ⟨w.heap.size, i, none⟩ = false := fun _ => frozen_of_row _ _ _ _ _ ((HR.out.block _ (lt_of_block HBX.out) (fun x => x)).trans HBX.out)
        refine wpAnyZ_ready (rs := [9]) (by kernel_rfl) (by simp) (AllReadyZ.cons rfl (fun K hK => ?_) AllReadyZ.nil)
        go_simp
        refine hK.out _ _ (fun h => absurd rfl h) (fun _ => ?_)
        clear hK K
        try simp only [Act.put, List.setIfInBounds_toArray, List.set_cons_zero, List.set_cons_succ]
        refine wpAnyZ_done (by kernel_rfl) ?_ _
        go_wp2_with fail
        go_meet
        case rel =>
          obtain ⟨h1, h2⟩ := note_done (k := 3) HH.out HROW.out (.slice (some ⟨g2, o2, none⟩) (ev.length + 1) q2)
          exact ⟨g2, o2, q2, Lib.hid h1, Lib.hid ⟨_, by rw [Wn.ats_append]; exact h2⟩, Lib.hid (by have := HROW.out.row.from_; have := lt_of_block (HH.out.get 1 rfl); omega)⟩
    · go_simp
      have hone := heap_alloc_new wd (.cells #[.int .i64 m] 2)
      have hrx := HR.out.trans (o3 := fun _ => False) (Rest.alloc (fun _ => False) wd (.cells #[.int .i64 m] 2)) (fun _ _ => id) (fun _ _ => id)
      generalize wd.alloc (.cells #[.int .i64 m] 2) = w10 at hone hrx ⊢
      replace HR := Lib.hid hrx
      have HONE := Lib.hid hone
      clear hone hrx
      refine hK.out _ _ (fun _ => box_five HBX.out HR.out) (fun hZ => ?_)
      have hHeld := hZ (by decide)
      clear hK K hZ
      try simp only [Act.put, List.setIfInBounds_toArray, List.set_cons_zero, List.set_cons_succ]
      refine wpAnyZ_ready (rs := [0]) (by kernel_rfl) (by simp) (AllReadyZ.cons rfl (fun K hK => ?_) AllReadyZ.nil)
      go_simp
      have hrw := Rw.new (w := wd) (w1 := w10) HR.out 2
      have HNE := Lib.hid (Nat.ne_of_lt (lt_of_block HONE.out))
      have hone := keep1 HONE.out (.cells #[] 2)
      have hrx := HR.out.trans (o3 := fun _ => False) (Rest.alloc (fun _ => False) w10 (.cells #[] 2)) (fun _ _ => id) (fun _ _ => id)
      generalize w10.alloc (.cells #[] 2) = w11 at hrw hrx hone ⊢
      replace HR := Lib.hid hrx
      have HROW := Lib.hid hrw
      replace HONE := Lib.hid hone
      clear hrw hrx hone
      refine hK.out _ _ (fun _ => box_five HBX.out HR.out) (fun hZ => ?_)
      have hHeld := hZ (by decide)
      clear hK K hZ
      try simp only [Act.put, List.setIfInBounds_toArray, List.set_cons_zero, List.set_cons_succ]
      refine wpAnyZ_ready (rs := [3]) (by kernel_rfl) (by simp) (AllReadyZ.cons rfl (fun K hK => ?_) AllReadyZ.nil)
      obtain ⟨g1, o1, q1, w12, hrun, hrw, hkeep⟩ := HROW.out.copy Try.items64 (ys := (Wn.ats ev)) (by rw [Wn.ats_length]; omega) (Wn.ats_one ev) (HA.out.past HR.out (fun _ _ => id)) 26
      rw [Wn.ats_length] at hrun hrw
      refine step_append_run rfl _ _ 26 rfl rfl rfl hrun ?_
      replace HONE := Lib.hid ((hkeep _ (lt_of_block HONE.out) HNE.out).trans HONE.out)
      replace HR := Lib.hid hrw.rest
      replace HROW := Lib.hid hrw
      clear hrun hrw hkeep
      refine hK.out _ _ (fun _ => box_five HBX.out HR.out) (fun hZ => ?_)
      have hHeld := hZ (by decide)
      clear hK K hZ
      try simp only [Act.put, List.setIfInBounds_toArray]
      refine wpAnyZ_ready (rs := [7]) (by kernel_rfl) (by simp) (AllReadyZ.cons rfl (fun K hK => ?_) AllReadyZ.nil)
      obtain ⟨g2, o2, q2, w13, hrun, hrw⟩ := HROW.out.one Try.items64 (by omega) (by rfl) HONE.out 26
      refine step_append_run rfl _ _ 26 rfl rfl rfl hrun ?_
      replace HR := Lib.hid hrw.rest
      replace HROW := Lib.hid hrw
      clear hrun hrw HONE
      refine hK.out _ _ (fun _ => box_five HBX.out HR.out) (fun hZ => ?_)
      have hHeld := hZ (by decide)
      clear hK K hZ
      try simp only [Act.put]
      refine wpAnyZ_yield 8 (.pointer (some ⟨w.heap.size, 3, none⟩)) rfl (by kernel_rfl) (by kernel_rfl) (by kernel_rfl) (fun d _ _ _ h => by cases d <;> exact h) (by rfl) (by assumption) (fun _ _ => by go_simp) ?_
      simp only [Act.put]
      obtain ⟨z0, z1, z2, z3, z4⟩ := hHeld
      have f3 : ∀ i, w13.frozen? ⟨w.heap.size, i, none⟩ = false := fun _ => frozen_of_row _ _ _ _ _ ((HR.out.block _ (lt_of_block HBX.out) (fun x => x)).trans HBX.out)
      refine wpAnyZ_ready (rs := [9]) (by kernel_rfl) (by simp) (AllReadyZ.cons rfl (fun K hK => ?_) AllReadyZ.nil)
      go_simp
      refine hK.out _ _ (fun h => absurd rfl h) (fun _ => ?_)
      clear hK K
      try simp only [Act.put, List.setIfInBounds_toArray, List.set_cons_zero, List.set_cons_succ]
      refine wpAnyZ_done (by kernel_rfl) ?_ _
      go_wp2_with fail
      go_meet
      case rel =>
        obtain ⟨h1, h2⟩ := note_done (k := 3) HH.out HROW.out (.slice (some ⟨g2, o2, none⟩) (ev.length + 1) q2)
        exact ⟨g2, o2, q2, Lib.hid h1, Lib.hid ⟨_, by rw [Wn.ats_append]; exact h2⟩, Lib.hid (by have := HROW.out.row.from_; have := lt_of_block (HH.out.get 1 rfl); omega)⟩
  case rest =>
    obtain ⟨g1, o1, q1, HC, HA1, HG1⟩ := hcut
    clear H3
    obtain ⟨B, hA1⟩ := HA1.out
    have HA2 := Lib.hid hA1
    clear hA1 HA1
    have hr0 := Rest.alloc (fun _ => False) wc (.cells #[] 4)
    have c4 := (box_five (HC.out.get 0 rfl) hr0).2.2.2.2
    obtain ⟨g2, o2, q2, w6, hrun, hrw, -⟩ := (Rw.new (w := wc) (Rest.refl _ wc) 4).copy Try.itemsBool (ys := Wn.wls ev) (by rw [Wn.wls_length]; omega) (Wn.wls_one ev) ((HB0.out.below HC.out.below).past hr0 (fun _ _ => id)) 27
    rw [Wn.wls_length] at hrun hrw
    obtain ⟨g3, o3, q3, w8, hrun2, hrw2⟩ := (hrw.more (Rest.alloc (fun _ => False) w6 (.cells #[.bool v] 4))).one Try.itemsBool (by omega) (v := .bool v) (by rfl) (heap_alloc_new w6 _) 27
    have HU2 := Lib.hid hrun2
    have HRW := Lib.hid hrw2
    have HK := Lib.hid (box_five (HC.out.get 0 rfl) hrw2.rest)
    have HF8 := Lib.hid (show ∀ i, w8.frozen? ⟨w.heap.size, i, none⟩ = false from fun _ => frozen_of_row _ _ _ _ _ ((hrw2.rest.block _ (lt_of_block (HC.out.get 0 rfl)) (fun x => x)).trans (HC.out.get 0 rfl)))
    have HKr := Lib.hid (box_five (HC.out.get 1 rfl) hrw2.rest)
    have HFr := Lib.hid (show ∀ i, w8.frozen? ⟨w.heap.size + 1, i, none⟩ = false from fun _ => frozen_of_row _ _ _ _ _ ((hrw2.rest.block _ (lt_of_block (HC.out.get 1 rfl)) (fun x => x)).trans (HC.out.get 1 rfl)))
    clear hrun2 hrw2 hrw hr0
    go_wp2_with (at_builtin; first | (refine wpList_append_run rfl _ _ 27 rfl rfl rfl hrun ?_; clear c4 hrun; have hrun2 := HU2.out) | (refine wpList_append_run rfl _ _ 27 rfl rfl rfl hrun2 ?_; clear hrun2; obtain ⟨z0, z1, z2, z3, z4⟩ := HK.out; have f8 := HF8.out; obtain ⟨y0, y1, y2, y3, y4⟩ := HKr.out; have f9 := HFr.out))
    obtain ⟨hd1, hd2⟩ := note_done (k := 4) HC.out HRW.out (.slice (some ⟨g3, o3, none⟩) (ev.length + 1) q3)
    have hd3 := hd1.swap.alarm (c0 := .int .i64 n) (c1 := .int .i64 wd) (c2 := .int .i64 m) (c3 := .slice (some ⟨g1, o1, none⟩) (ev.length + 1) q1) (c4 := .slice (some ⟨g3, o3, none⟩) (ev.length + 1) q3)
    have hf := rest_five (w8.setCell ⟨w.heap.size, 4, none⟩ (.slice (some ⟨g3, o3, none⟩) (ev.length + 1) q3)) (w.heap.size + 1) (.int .i64 n) (.int .i64 wd) (.int .i64 m) (.slice (some ⟨g1, o1, none⟩) (ev.length + 1) q1) (.slice (some ⟨g3, o3, none⟩) (ev.length + 1) q3)
    have hg1 := HG1.out
    have hg3 := HRW.out.row.from_
    have hs := lt_of_block (HC.out.get 1 rfl)
    refine bodyPost_ret (results_cell_row Try.results9 _ _ (w.heap.size + 1) 29 _ (0, 0) _ rfl (hd3.get 0 rfl) Try.underlying29 rfl Try.sizeW16) rfl ⟨g1, o1, q1, g3, o3, q3, rfl, ?_, ?_, hd3.below⟩
    · exact (HA2.out.kept (HRW.out.rest.block _ HA2.out.lt (fun x => x))).behind _ rfl hf (by omega) (by omega) (by omega)
    · rw [Wn.wls_append]
      exact HRW.out.row.behind _ rfl hf (by omega) (by omega) (by omega)
end Go.Proofs.Ytakenaejmhdhnaa
