/- AlarmTells: who is told of an alarm is told what it is for; one that is to come soon comes no later than the end. -/
import Derived.Test.YtebaipakjomenaaAlmC
import Derived.Test.YtebaipakjomenaaFrmN
namespace Go.Proofs.Ytebaipakjomenaa
open Go.RowKit

theorem tick_cells {w : World} {b : Nat} {t : TypeId} {c0 c1 c2 : Value} (h : w.heap[b]? = some (.cells #[c0, c1, c2] t (0, 0))) : w.cell? ⟨b, 0, none⟩ = some c0 ∧ w.cell? ⟨b, 1, none⟩ = some c1 ∧ w.cell? ⟨b, 2, none⟩ = some c2 :=
  ⟨cell_of_row _ _ _ _ _ _ h, cell_of_row _ _ _ _ _ _ h, cell_of_row _ _ _ _ _ _ h⟩

theorem aw14_ask (w : World) : Calls Try.prog 5 #[.agg #[.int .i64 34359738368, .int .i64 1, .int .i64 2, .int .i64 3, .int .i64 2]] w fun e w' => e = .returned (.tuple #[.agg #[.int .i64 9, .int .i64 1, .int .i64 0, .int .i64 2, .int .i64 3, .int .u32 0, .int .i64 2, .bool false, .bool false, .int .i64 8, .int .u32 0], .bool true]) ∧ Below w.heap.size w w' :=
  ask_yes 34359738368 1 2 3 2 (by decide) w
theorem aw14_of (w : World) : Calls Try.prog 6 #[.agg #[.int .i64 9, .int .i64 1, .int .i64 0, .int .i64 2, .int .i64 3, .int .u32 0, .int .i64 2, .bool false, .bool false, .int .i64 8, .int .u32 0]] w fun e w' => e = .returned (.tuple #[.agg #[.int .i64 34359738368, .int .i64 1, .int .i64 2, .int .i64 3, .int .i64 2], .bool true]) ∧ Below w.heap.size w w' :=
  of_yes 1 0 2 3 0 2 8 0 false false ⟨by decide, by decide⟩ (by decide) w

set_option maxRecDepth 100000 in
set_option maxHeartbeats 1000000 in
/-- Asked for, and told. -/
theorem awake14_any (w : World) : Calls Try.prog 7 #[] w fun e w' => e = .returned (.bool true) ∧ Below w.heap.size w w' := by
  go_enter Try.func7, Try.ntmps7
  go_wp2_with fail
  have HH := Lib.hid ((Held.start w).lay (.cells #[.int .i64 34359738368, .int .i64 1, .int .i64 2, .int .i64 3, .int .i64 2] 24))
  generalize w.alloc (.cells #[.int .i64 34359738368, .int .i64 1, .int .i64 2, .int .i64 3, .int .i64 2] 24) = w1 at HH ⊢
  refine (aw14_ask _).mono ?_
  rintro e w2 ⟨rfl, hb⟩
  have HH := Lib.hid ((HH.out.call hb).lay (.cells #[.int .i64 9, .int .i64 1, .int .i64 0, .int .i64 2, .int .i64 3, .int .u32 0, .int .i64 2, .bool false, .bool false, .int .i64 8, .int .u32 0] 27))
  clear hb
  go_wp2_with fail
  generalize w2.alloc _ = w3 at HH ⊢
  generalize w2.heap.size = b at HH ⊢
  refine (aw14_of _).mono ?_
  rintro e w4 ⟨rfl, hb⟩
  have HH := Lib.hid ((HH.out.call hb).lay (.cells #[.int .i64 34359738368, .int .i64 1, .int .i64 2, .int .i64 3, .int .i64 2] 24))
  clear hb
  obtain ⟨x0, x1, x2, x3, x4⟩ := alarm_cells (HH.out.get 2 rfl)
  obtain ⟨y0, y1, y2, y3, y4⟩ := alarm_cells (HH.out.get 0 rfl)
  go_wp2_with fail
  refine (atell_any _ _ _ _ _ _).mono ?_
  rintro e w5 ⟨rfl, hb⟩
  have HB := Lib.hid (HH.out.call hb).below
  clear hb HH x0 x1 x2 x3 x4 y0 y1 y2 y3 y4
  have hfd : ∀ w : World, (Instr.field 27 (.agg #[.int .i64 10, .int .i64 1, .int .i64 0, .int .i64 2, .int .i64 3, .int .u32 0, .int .i64 2, .bool false, .bool false, .int .i64 0, .int .u32 0]) 0).run Try.prog w = .ok (.int .i64 10) w := fun _ => by kernel_rfl
  go_wp2_with fail
  go_ret
  exact ⟨rfl, HB.out⟩

set_option maxRecDepth 100000 in
set_option maxHeartbeats 4000000 in
/-- The law. -/
theorem tells_any (a0 a1 a2 a3 a4 k c s t g a r q v t0 t1 t2 : Int) (su st : Bool) (ha : 0 ≤ a ∧ a ≤ 4294967295) (hv : 0 ≤ v ∧ v ≤ 4294967295) (w : World) :
    Calls Try.prog 4 #[.agg #[.int .i64 a0, .int .i64 a1, .int .i64 a2, .int .i64 a3, .int .i64 a4], .agg #[.int .i64 k, .int .i64 c, .int .i64 s, .int .i64 t, .int .i64 g, .int .u32 a, .int .i64 r, .bool su, .bool st, .int .i64 q, .int .u32 v], .agg #[.int .i64 t0, .int .i64 t1, .int .i64 t2]] w fun e w' => e = .returned (.bool true) ∧ Below w.heap.size w w' := by
  have HF := Lib.hid ha
  have HV := Lib.hid hv
  clear ha hv
  go_enter Try.func4, Try.ntmps4
  go_upto_region 1 with fail
  have hh : Held w (((w.alloc (.cells #[.int .i64 a0, .int .i64 a1, .int .i64 a2, .int .i64 a3, .int .i64 a4] 24)).alloc (.cells #[.int .i64 k, .int .i64 c, .int .i64 s, .int .i64 t, .int .i64 g, .int .u32 a, .int .i64 r, .bool su, .bool st, .int .i64 q, .int .u32 v] 27)).alloc (.cells #[.int .i64 t0, .int .i64 t1, .int .i64 t2] 35)) [(w.heap.size + 2, .cells #[.int .i64 t0, .int .i64 t1, .int .i64 t2] 35 (0, 0)), (w.heap.size + 1, .cells #[.int .i64 k, .int .i64 c, .int .i64 s, .int .i64 t, .int .i64 g, .int .u32 a, .int .i64 r, .bool su, .bool st, .int .i64 q, .int .u32 v] 27 (0, 0)), (w.heap.size, .cells #[.int .i64 a0, .int .i64 a1, .int .i64 a2, .int .i64 a3, .int .i64 a4] 24 (0, 0))] := by
    have := (((Held.start w).lay (.cells #[.int .i64 a0, .int .i64 a1, .int .i64 a2, .int .i64 a3, .int .i64 a4] 24)).lay (.cells #[.int .i64 k, .int .i64 c, .int .i64 s, .int .i64 t, .int .i64 g, .int .u32 a, .int .i64 r, .bool su, .bool st, .int .i64 q, .int .u32 v] 27)).lay (.cells #[.int .i64 t0, .int .i64 t1, .int .i64 t2] 35)
    simpa using this
  have HH := Lib.hid hh
  clear hh
  generalize ((w.alloc (.cells #[.int .i64 a0, .int .i64 a1, .int .i64 a2, .int .i64 a3, .int .i64 a4] 24)).alloc (.cells #[.int .i64 k, .int .i64 c, .int .i64 s, .int .i64 t, .int .i64 g, .int .u32 a, .int .i64 r, .bool su, .bool st, .int .i64 q, .int .u32 v] 27)).alloc (.cells #[.int .i64 t0, .int .i64 t1, .int .i64 t2] 35) = w1 at HH ⊢
  go_cut [7, 8] (fun s7 s8 wx => ∃ (b7 b8 : Nat) (f : Fm.Fr), s7 = .pointer (some ⟨b7, 0, none⟩) ∧ s8 = .pointer (some ⟨b8, 0, none⟩) ∧ Hid (Held w wx [(b8, .cells #[.int .i64 (f.kind : Int), .int .i64 (f.client : Int), .int .i64 (f.service : Int), .int .i64 (f.slot : Int), .int .i64 (f.gen : Int), .int .u32 (f.call : Int), .int .i64 (f.tr : Int), .bool f.sure, .bool f.stream, .int .i64 (f.seq : Int), .int .u32 (f.value : Int)] 27 (0, 0)), (b7, .cells #[.int .i64 10, .int .i64 a1, .int .i64 0, .int .i64 a2, .int .i64 a3, .int .u32 0, .int .i64 a4, .bool false, .bool false, .int .i64 0, .int .u32 0] 27 (0, 0)), (w.heap.size + 2, .cells #[.int .i64 t0, .int .i64 t1, .int .i64 t2] 35 (0, 0)), (w.heap.size + 1, .cells #[.int .i64 k, .int .i64 c, .int .i64 s, .int .i64 t, .int .i64 g, .int .u32 a, .int .i64 r, .bool su, .bool st, .int .i64 q, .int .u32 v] 27 (0, 0)), (w.heap.size, .cells #[.int .i64 a0, .int .i64 a1, .int .i64 a2, .int .i64 a3, .int .i64 a4] 24 (0, 0))]))
  case first =>
    go_wp2_with fail
    refine wp_region_held_drew (S := (fun w' => (w'.cell? ⟨w.heap.size, 0, none⟩ = some (.int .i64 a0) ∧ w'.cell? ⟨w.heap.size, 1, none⟩ = some (.int .i64 a1) ∧ w'.cell? ⟨w.heap.size, 2, none⟩ = some (.int .i64 a2) ∧ w'.cell? ⟨w.heap.size, 3, none⟩ = some (.int .i64 a3) ∧ w'.cell? ⟨w.heap.size, 4, none⟩ = some (.int .i64 a4)) ∧ (w'.cell? ⟨w.heap.size + 1, 0, none⟩ = some (.int .i64 k) ∧ w'.cell? ⟨w.heap.size + 1, 1, none⟩ = some (.int .i64 c) ∧ w'.cell? ⟨w.heap.size + 1, 2, none⟩ = some (.int .i64 s) ∧ w'.cell? ⟨w.heap.size + 1, 3, none⟩ = some (.int .i64 t) ∧ w'.cell? ⟨w.heap.size + 1, 4, none⟩ = some (.int .i64 g) ∧ w'.cell? ⟨w.heap.size + 1, 5, none⟩ = some (.int .u32 a) ∧ w'.cell? ⟨w.heap.size + 1, 6, none⟩ = some (.int .i64 r) ∧ w'.cell? ⟨w.heap.size + 1, 7, none⟩ = some (.bool su) ∧ w'.cell? ⟨w.heap.size + 1, 8, none⟩ = some (.bool st) ∧ w'.cell? ⟨w.heap.size + 1, 9, none⟩ = some (.int .i64 q) ∧ w'.cell? ⟨w.heap.size + 1, 10, none⟩ = some (.int .u32 v)))) (by kernel_rfl) ⟨alarm_cells (HH.out.get 2 rfl), frame_cells (HH.out.get 1 rfl)⟩ (fun hHeld => ?_)
    have HH := Lib.hid HH.out.drew
    generalize w1.drew = wd at HH hHeld ⊢
    clear hHeld
    have hHeld := (show _ ∧ _ from ⟨alarm_cells (HH.out.get 2 rfl), frame_cells (HH.out.get 1 rfl)⟩)
    refine wpAnyH_yield 0 (.agg #[.int .i64 a0, .int .i64 a1, .int .i64 a2, .int .i64 a3, .int .i64 a4]) rfl (by kernel_rfl) (by kernel_rfl) (by kernel_rfl) (fun d _ _ _ h => by cases d <;> exact h) (by rfl) (by assumption) (fun _ hSw => by (try dsimp only at hSw); go_simp) ?_
    simp only [Act.put, List.setIfInBounds_toArray, List.set_cons_zero, List.set_cons_succ]
    refine wpAnyH_yield 2 (.agg #[.int .i64 k, .int .i64 c, .int .i64 s, .int .i64 t, .int .i64 g, .int .u32 a, .int .i64 r, .bool su, .bool st, .int .i64 q, .int .u32 v]) rfl (by kernel_rfl) (by kernel_rfl) (by kernel_rfl) (fun d _ _ _ h => by cases d <;> exact h) (by rfl) (by assumption) (fun _ hSw => by (try dsimp only at hSw); go_simp) ?_
    simp only [Act.put, List.setIfInBounds_toArray, List.set_cons_zero, List.set_cons_succ]
    refine wpAnyH_ready (rs := [1, 4, 5]) (by kernel_rfl) (by simp) (AllReadyH.cons rfl (fun K hK => ?_) (AllReadyH.cons rfl (fun K hK => ?_) (AllReadyH.cons rfl (fun K hK => ?_) AllReadyH.nil)))
    · go_simp
      go_at_call 9
      refine (atell_any a0 a1 a2 a3 a4 wd).mono ?_
      rintro e v1 ⟨rfl, hb⟩
      have HH := Lib.hid (HH.out.call hb)
      clear hb
      refine hK.out _ _ (⟨alarm_cells (HH.out.get 2 rfl), frame_cells (HH.out.get 1 rfl)⟩) (fun hHeld => ?_)
      clear hK K
      try simp only [Act.put, List.setIfInBounds_toArray, List.set_cons_zero, List.set_cons_succ]
      refine wpAnyH_ready (rs := [3, 4, 5]) (by kernel_rfl) (by simp) (AllReadyH.cons rfl (fun K hK => ?_) (AllReadyH.cons rfl (fun K hK => ?_) (AllReadyH.cons rfl (fun K hK => ?_) AllReadyH.nil)))
      · go_simp
        go_at_call 10
        refine (near_zero k c s t g a r q v su st HF.out HV.out v1).mono ?_
        rintro e v2 ⟨⟨f, -, rfl⟩, hb⟩
        have HH := Lib.hid (HH.out.call hb)
        clear hb
        refine hK.out _ _ (⟨alarm_cells (HH.out.get 2 rfl), frame_cells (HH.out.get 1 rfl)⟩) (fun hHeld => ?_)
        clear hK K
        try simp only [Act.put, List.setIfInBounds_toArray, List.set_cons_zero, List.set_cons_succ]
        refine wpAnyH_ready (rs := [4, 5]) (by kernel_rfl) (by simp) (AllReadyH.cons rfl (fun K hK => ?_) (AllReadyH.cons rfl (fun K hK => ?_) AllReadyH.nil))
        · go_simp
          have HH := Lib.hid (HH.out.lay (.cells #[.int .i64 0, .int .i64 0, .int .i64 0, .int .i64 0, .int .i64 0, .int .u32 0, .int .i64 0, .bool false, .bool false, .int .i64 0, .int .u32 0] 27))
          refine hK.out _ _ (⟨alarm_cells (HH.out.get 3 rfl), frame_cells (HH.out.get 2 rfl)⟩) (fun hHeld => ?_)
          clear hK K
          try simp only [Act.put, List.setIfInBounds_toArray, List.set_cons_zero, List.set_cons_succ]
          clear hHeld
          generalize v2.alloc (.cells #[.int .i64 0, .int .i64 0, .int .i64 0, .int .i64 0, .int .i64 0, .int .u32 0, .int .i64 0, .bool false, .bool false, .int .i64 0, .int .u32 0] 27) = v3 at HH ⊢
          generalize v2.heap.size = b4 at HH ⊢
          have hHeld := (show _ ∧ _ from ⟨alarm_cells (HH.out.get 3 rfl), frame_cells (HH.out.get 2 rfl)⟩)
          refine wpAnyH_ready (rs := [5]) (by kernel_rfl) (by simp) (AllReadyH.cons rfl (fun K hK => ?_) AllReadyH.nil)
          go_simp
          have HH := Lib.hid (HH.out.lay (.cells #[.int .i64 0, .int .i64 0, .int .i64 0, .int .i64 0, .int .i64 0, .int .u32 0, .int .i64 0, .bool false, .bool false, .int .i64 0, .int .u32 0] 27))
          refine hK.out _ _ (⟨alarm_cells (HH.out.get 4 rfl), frame_cells (HH.out.get 3 rfl)⟩) (fun hHeld => ?_)
          clear hK K
          try simp only [Act.put, List.setIfInBounds_toArray, List.set_cons_zero, List.set_cons_succ]
          clear hHeld
          generalize v3.alloc (.cells #[.int .i64 0, .int .i64 0, .int .i64 0, .int .i64 0, .int .i64 0, .int .u32 0, .int .i64 0, .bool false, .bool false, .int .i64 0, .int .u32 0] 27) = v4 at HH ⊢
          generalize v3.heap.size = b5 at HH ⊢
          have hHeld := (show _ ∧ _ from ⟨alarm_cells (HH.out.get 4 rfl), frame_cells (HH.out.get 3 rfl)⟩)
          have HH := Lib.hid HH.out.swap
          obtain ⟨c0, c1, c2, c3, c4, c5, c6, c7, c8, c9, c10⟩ := frame_cells (HH.out.get 0 rfl)
          obtain ⟨f0, f1, f2, f3, f4, f5, f6, f7, f8, f9, f10⟩ := frame_free (HH.out.get 0 rfl)
          refine wpAnyH_ready (rs := [6]) (by kernel_rfl) (by simp) (AllReadyH.cons rfl (fun K hK => ?_) AllReadyH.nil)
          go_simp
          have HH := Lib.hid (Held.frame (c0 := .int .i64 10) (c1 := .int .i64 a1) (c2 := .int .i64 0) (c3 := .int .i64 a2) (c4 := .int .i64 a3) (c5 := .int .u32 0) (c6 := .int .i64 a4) (c7 := .bool false) (c8 := .bool false) (c9 := .int .i64 0) (c10 := .int .u32 0) HH.out)
          refine hK.out _ _ (⟨alarm_cells (HH.out.get 4 rfl), frame_cells (HH.out.get 3 rfl)⟩) (fun hHeld => ?_)
          clear hK K
          try simp only [Act.put, List.setIfInBounds_toArray, List.set_cons_zero, List.set_cons_succ]
          clear c0 c1 c2 c3 c4 c5 c6 c7 c8 c9 c10 f0 f1 f2 f3 f4 f5 f6 f7 f8 f9 f10
          generalize World.setCell _ _ _ = xv4 at HH hHeld ⊢
          have HH := Lib.hid HH.out.swap
          obtain ⟨c0, c1, c2, c3, c4, c5, c6, c7, c8, c9, c10⟩ := frame_cells (HH.out.get 0 rfl)
          obtain ⟨f0, f1, f2, f3, f4, f5, f6, f7, f8, f9, f10⟩ := frame_free (HH.out.get 0 rfl)
          refine wpAnyH_ready (rs := [7]) (by kernel_rfl) (by simp) (AllReadyH.cons rfl (fun K hK => ?_) AllReadyH.nil)
          go_simp
          have HH := Lib.hid (Held.frame (c0 := .int .i64 (f.kind : Int)) (c1 := .int .i64 (f.client : Int)) (c2 := .int .i64 (f.service : Int)) (c3 := .int .i64 (f.slot : Int)) (c4 := .int .i64 (f.gen : Int)) (c5 := .int .u32 (f.call : Int)) (c6 := .int .i64 (f.tr : Int)) (c7 := .bool f.sure) (c8 := .bool f.stream) (c9 := .int .i64 (f.seq : Int)) (c10 := .int .u32 (f.value : Int)) HH.out)
          refine hK.out _ _ (⟨alarm_cells (HH.out.get 4 rfl), frame_cells (HH.out.get 3 rfl)⟩) (fun hHeld => ?_)
          clear hK K
          try simp only [Act.put, List.setIfInBounds_toArray, List.set_cons_zero, List.set_cons_succ]
          clear c0 c1 c2 c3 c4 c5 c6 c7 c8 c9 c10 f0 f1 f2 f3 f4 f5 f6 f7 f8 f9 f10
          refine wpAnyH_done (by kernel_rfl) ?_ _
          go_wp2_with fail
          go_meet
          case rel => exact ⟨_, _, f, rfl, rfl, HH⟩
        · go_simp
          have HH := Lib.hid (HH.out.lay (.cells #[.int .i64 0, .int .i64 0, .int .i64 0, .int .i64 0, .int .i64 0, .int .u32 0, .int .i64 0, .bool false, .bool false, .int .i64 0, .int .u32 0] 27))
          refine hK.out _ _ (⟨alarm_cells (HH.out.get 3 rfl), frame_cells (HH.out.get 2 rfl)⟩) (fun hHeld => ?_)
          clear hK K
          try simp only [Act.put, List.setIfInBounds_toArray, List.set_cons_zero, List.set_cons_succ]
          clear hHeld
          generalize v2.alloc (.cells #[.int .i64 0, .int .i64 0, .int .i64 0, .int .i64 0, .int .i64 0, .int .u32 0, .int .i64 0, .bool false, .bool false, .int .i64 0, .int .u32 0] 27) = v5 at HH ⊢
          generalize v2.heap.size = b5 at HH ⊢
          have hHeld := (show _ ∧ _ from ⟨alarm_cells (HH.out.get 3 rfl), frame_cells (HH.out.get 2 rfl)⟩)
          refine wpAnyH_ready (rs := [4]) (by kernel_rfl) (by simp) (AllReadyH.cons rfl (fun K hK => ?_) AllReadyH.nil)
          go_simp
          have HH := Lib.hid (HH.out.lay (.cells #[.int .i64 0, .int .i64 0, .int .i64 0, .int .i64 0, .int .i64 0, .int .u32 0, .int .i64 0, .bool false, .bool false, .int .i64 0, .int .u32 0] 27))
          refine hK.out _ _ (⟨alarm_cells (HH.out.get 4 rfl), frame_cells (HH.out.get 3 rfl)⟩) (fun hHeld => ?_)
          clear hK K
          try simp only [Act.put, List.setIfInBounds_toArray, List.set_cons_zero, List.set_cons_succ]
          clear hHeld
          generalize v5.alloc (.cells #[.int .i64 0, .int .i64 0, .int .i64 0, .int .i64 0, .int .i64 0, .int .u32 0, .int .i64 0, .bool false, .bool false, .int .i64 0, .int .u32 0] 27) = v6 at HH ⊢
          generalize v5.heap.size = b4 at HH ⊢
          have hHeld := (show _ ∧ _ from ⟨alarm_cells (HH.out.get 4 rfl), frame_cells (HH.out.get 3 rfl)⟩)
          obtain ⟨c0, c1, c2, c3, c4, c5, c6, c7, c8, c9, c10⟩ := frame_cells (HH.out.get 0 rfl)
          obtain ⟨f0, f1, f2, f3, f4, f5, f6, f7, f8, f9, f10⟩ := frame_free (HH.out.get 0 rfl)
          refine wpAnyH_ready (rs := [6]) (by kernel_rfl) (by simp) (AllReadyH.cons rfl (fun K hK => ?_) AllReadyH.nil)
          go_simp
          have HH := Lib.hid (Held.frame (c0 := .int .i64 10) (c1 := .int .i64 a1) (c2 := .int .i64 0) (c3 := .int .i64 a2) (c4 := .int .i64 a3) (c5 := .int .u32 0) (c6 := .int .i64 a4) (c7 := .bool false) (c8 := .bool false) (c9 := .int .i64 0) (c10 := .int .u32 0) HH.out)
          refine hK.out _ _ (⟨alarm_cells (HH.out.get 4 rfl), frame_cells (HH.out.get 3 rfl)⟩) (fun hHeld => ?_)
          clear hK K
          try simp only [Act.put, List.setIfInBounds_toArray, List.set_cons_zero, List.set_cons_succ]
          clear c0 c1 c2 c3 c4 c5 c6 c7 c8 c9 c10 f0 f1 f2 f3 f4 f5 f6 f7 f8 f9 f10
          generalize World.setCell _ _ _ = xv6 at HH hHeld ⊢
          have HH := Lib.hid HH.out.swap
          obtain ⟨c0, c1, c2, c3, c4, c5, c6, c7, c8, c9, c10⟩ := frame_cells (HH.out.get 0 rfl)
          obtain ⟨f0, f1, f2, f3, f4, f5, f6, f7, f8, f9, f10⟩ := frame_free (HH.out.get 0 rfl)
          refine wpAnyH_ready (rs := [7]) (by kernel_rfl) (by simp) (AllReadyH.cons rfl (fun K hK => ?_) AllReadyH.nil)
          go_simp
          have HH := Lib.hid (Held.frame (c0 := .int .i64 (f.kind : Int)) (c1 := .int .i64 (f.client : Int)) (c2 := .int .i64 (f.service : Int)) (c3 := .int .i64 (f.slot : Int)) (c4 := .int .i64 (f.gen : Int)) (c5 := .int .u32 (f.call : Int)) (c6 := .int .i64 (f.tr : Int)) (c7 := .bool f.sure) (c8 := .bool f.stream) (c9 := .int .i64 (f.seq : Int)) (c10 := .int .u32 (f.value : Int)) HH.out)
          refine hK.out _ _ (⟨alarm_cells (HH.out.get 4 rfl), frame_cells (HH.out.get 3 rfl)⟩) (fun hHeld => ?_)
          clear hK K
          try simp only [Act.put, List.setIfInBounds_toArray, List.set_cons_zero, List.set_cons_succ]
          clear c0 c1 c2 c3 c4 c5 c6 c7 c8 c9 c10 f0 f1 f2 f3 f4 f5 f6 f7 f8 f9 f10
          refine wpAnyH_done (by kernel_rfl) ?_ _
          go_wp2_with fail
          go_meet
          case rel => exact ⟨_, _, f, rfl, rfl, HH⟩
      · go_simp
        have HH := Lib.hid (HH.out.lay (.cells #[.int .i64 0, .int .i64 0, .int .i64 0, .int .i64 0, .int .i64 0, .int .u32 0, .int .i64 0, .bool false, .bool false, .int .i64 0, .int .u32 0] 27))
        refine hK.out _ _ (⟨alarm_cells (HH.out.get 3 rfl), frame_cells (HH.out.get 2 rfl)⟩) (fun hHeld => ?_)
        clear hK K
        try simp only [Act.put, List.setIfInBounds_toArray, List.set_cons_zero, List.set_cons_succ]
        clear hHeld
        generalize v1.alloc (.cells #[.int .i64 0, .int .i64 0, .int .i64 0, .int .i64 0, .int .i64 0, .int .u32 0, .int .i64 0, .bool false, .bool false, .int .i64 0, .int .u32 0] 27) = v7 at HH ⊢
        generalize v1.heap.size = b4 at HH ⊢
        have hHeld := (show _ ∧ _ from ⟨alarm_cells (HH.out.get 3 rfl), frame_cells (HH.out.get 2 rfl)⟩)
        refine wpAnyH_ready (rs := [3, 5]) (by kernel_rfl) (by simp) (AllReadyH.cons rfl (fun K hK => ?_) (AllReadyH.cons rfl (fun K hK => ?_) AllReadyH.nil))
        · go_simp
          go_at_call 10
          refine (near_zero k c s t g a r q v su st HF.out HV.out v7).mono ?_
          rintro e v8 ⟨⟨f, -, rfl⟩, hb⟩
          have HH := Lib.hid (HH.out.call hb)
          clear hb
          refine hK.out _ _ (⟨alarm_cells (HH.out.get 3 rfl), frame_cells (HH.out.get 2 rfl)⟩) (fun hHeld => ?_)
          clear hK K
          try simp only [Act.put, List.setIfInBounds_toArray, List.set_cons_zero, List.set_cons_succ]
          refine wpAnyH_ready (rs := [5]) (by kernel_rfl) (by simp) (AllReadyH.cons rfl (fun K hK => ?_) AllReadyH.nil)
          go_simp
          have HH := Lib.hid (HH.out.lay (.cells #[.int .i64 0, .int .i64 0, .int .i64 0, .int .i64 0, .int .i64 0, .int .u32 0, .int .i64 0, .bool false, .bool false, .int .i64 0, .int .u32 0] 27))
          refine hK.out _ _ (⟨alarm_cells (HH.out.get 4 rfl), frame_cells (HH.out.get 3 rfl)⟩) (fun hHeld => ?_)
          clear hK K
          try simp only [Act.put, List.setIfInBounds_toArray, List.set_cons_zero, List.set_cons_succ]
          clear hHeld
          generalize v8.alloc (.cells #[.int .i64 0, .int .i64 0, .int .i64 0, .int .i64 0, .int .i64 0, .int .u32 0, .int .i64 0, .bool false, .bool false, .int .i64 0, .int .u32 0] 27) = v9 at HH ⊢
          generalize v8.heap.size = b5 at HH ⊢
          have hHeld := (show _ ∧ _ from ⟨alarm_cells (HH.out.get 4 rfl), frame_cells (HH.out.get 3 rfl)⟩)
          have HH := Lib.hid HH.out.swap
          obtain ⟨c0, c1, c2, c3, c4, c5, c6, c7, c8, c9, c10⟩ := frame_cells (HH.out.get 0 rfl)
          obtain ⟨f0, f1, f2, f3, f4, f5, f6, f7, f8, f9, f10⟩ := frame_free (HH.out.get 0 rfl)
          refine wpAnyH_ready (rs := [6]) (by kernel_rfl) (by simp) (AllReadyH.cons rfl (fun K hK => ?_) AllReadyH.nil)
          go_simp
          have HH := Lib.hid (Held.frame (c0 := .int .i64 10) (c1 := .int .i64 a1) (c2 := .int .i64 0) (c3 := .int .i64 a2) (c4 := .int .i64 a3) (c5 := .int .u32 0) (c6 := .int .i64 a4) (c7 := .bool false) (c8 := .bool false) (c9 := .int .i64 0) (c10 := .int .u32 0) HH.out)
          refine hK.out _ _ (⟨alarm_cells (HH.out.get 4 rfl), frame_cells (HH.out.get 3 rfl)⟩) (fun hHeld => ?_)
          clear hK K
          try simp only [Act.put, List.setIfInBounds_toArray, List.set_cons_zero, List.set_cons_succ]
          clear c0 c1 c2 c3 c4 c5 c6 c7 c8 c9 c10 f0 f1 f2 f3 f4 f5 f6 f7 f8 f9 f10
          generalize World.setCell _ _ _ = xv9 at HH hHeld ⊢
          have HH := Lib.hid HH.out.swap
          obtain ⟨c0, c1, c2, c3, c4, c5, c6, c7, c8, c9, c10⟩ := frame_cells (HH.out.get 0 rfl)
          obtain ⟨f0, f1, f2, f3, f4, f5, f6, f7, f8, f9, f10⟩ := frame_free (HH.out.get 0 rfl)
          refine wpAnyH_ready (rs := [7]) (by kernel_rfl) (by simp) (AllReadyH.cons rfl (fun K hK => ?_) AllReadyH.nil)
          go_simp
          have HH := Lib.hid (Held.frame (c0 := .int .i64 (f.kind : Int)) (c1 := .int .i64 (f.client : Int)) (c2 := .int .i64 (f.service : Int)) (c3 := .int .i64 (f.slot : Int)) (c4 := .int .i64 (f.gen : Int)) (c5 := .int .u32 (f.call : Int)) (c6 := .int .i64 (f.tr : Int)) (c7 := .bool f.sure) (c8 := .bool f.stream) (c9 := .int .i64 (f.seq : Int)) (c10 := .int .u32 (f.value : Int)) HH.out)
          refine hK.out _ _ (⟨alarm_cells (HH.out.get 4 rfl), frame_cells (HH.out.get 3 rfl)⟩) (fun hHeld => ?_)
          clear hK K
          try simp only [Act.put, List.setIfInBounds_toArray, List.set_cons_zero, List.set_cons_succ]
          clear c0 c1 c2 c3 c4 c5 c6 c7 c8 c9 c10 f0 f1 f2 f3 f4 f5 f6 f7 f8 f9 f10
          refine wpAnyH_done (by kernel_rfl) ?_ _
          go_wp2_with fail
          go_meet
          case rel => exact ⟨_, _, f, rfl, rfl, HH⟩
        · go_simp
          have HH := Lib.hid (HH.out.lay (.cells #[.int .i64 0, .int .i64 0, .int .i64 0, .int .i64 0, .int .i64 0, .int .u32 0, .int .i64 0, .bool false, .bool false, .int .i64 0, .int .u32 0] 27))
          refine hK.out _ _ (⟨alarm_cells (HH.out.get 4 rfl), frame_cells (HH.out.get 3 rfl)⟩) (fun hHeld => ?_)
          clear hK K
          try simp only [Act.put, List.setIfInBounds_toArray, List.set_cons_zero, List.set_cons_succ]
          clear hHeld
          generalize v7.alloc (.cells #[.int .i64 0, .int .i64 0, .int .i64 0, .int .i64 0, .int .i64 0, .int .u32 0, .int .i64 0, .bool false, .bool false, .int .i64 0, .int .u32 0] 27) = v10 at HH ⊢
          generalize v7.heap.size = b5 at HH ⊢
          have hHeld := (show _ ∧ _ from ⟨alarm_cells (HH.out.get 4 rfl), frame_cells (HH.out.get 3 rfl)⟩)
          refine wpAnyH_ready (rs := [3]) (by kernel_rfl) (by simp) (AllReadyH.cons rfl (fun K hK => ?_) AllReadyH.nil)
          go_simp
          go_at_call 10
          refine (near_zero k c s t g a r q v su st HF.out HV.out v10).mono ?_
          rintro e v11 ⟨⟨f, -, rfl⟩, hb⟩
          have HH := Lib.hid (HH.out.call hb)
          clear hb
          refine hK.out _ _ (⟨alarm_cells (HH.out.get 4 rfl), frame_cells (HH.out.get 3 rfl)⟩) (fun hHeld => ?_)
          clear hK K
          try simp only [Act.put, List.setIfInBounds_toArray, List.set_cons_zero, List.set_cons_succ]
          have HH := Lib.hid HH.out.swap
          obtain ⟨c0, c1, c2, c3, c4, c5, c6, c7, c8, c9, c10⟩ := frame_cells (HH.out.get 0 rfl)
          obtain ⟨f0, f1, f2, f3, f4, f5, f6, f7, f8, f9, f10⟩ := frame_free (HH.out.get 0 rfl)
          refine wpAnyH_ready (rs := [6]) (by kernel_rfl) (by simp) (AllReadyH.cons rfl (fun K hK => ?_) AllReadyH.nil)
          go_simp
          have HH := Lib.hid (Held.frame (c0 := .int .i64 10) (c1 := .int .i64 a1) (c2 := .int .i64 0) (c3 := .int .i64 a2) (c4 := .int .i64 a3) (c5 := .int .u32 0) (c6 := .int .i64 a4) (c7 := .bool false) (c8 := .bool false) (c9 := .int .i64 0) (c10 := .int .u32 0) HH.out)
          refine hK.out _ _ (⟨alarm_cells (HH.out.get 4 rfl), frame_cells (HH.out.get 3 rfl)⟩) (fun hHeld => ?_)
          clear hK K
          try simp only [Act.put, List.setIfInBounds_toArray, List.set_cons_zero, List.set_cons_succ]
          clear c0 c1 c2 c3 c4 c5 c6 c7 c8 c9 c10 f0 f1 f2 f3 f4 f5 f6 f7 f8 f9 f10
          generalize World.setCell _ _ _ = xv11 at HH hHeld ⊢
          have HH := Lib.hid HH.out.swap
          obtain ⟨c0, c1, c2, c3, c4, c5, c6, c7, c8, c9, c10⟩ := frame_cells (HH.out.get 0 rfl)
          obtain ⟨f0, f1, f2, f3, f4, f5, f6, f7, f8, f9, f10⟩ := frame_free (HH.out.get 0 rfl)
          refine wpAnyH_ready (rs := [7]) (by kernel_rfl) (by simp) (AllReadyH.cons rfl (fun K hK => ?_) AllReadyH.nil)
          go_simp
          have HH := Lib.hid (Held.frame (c0 := .int .i64 (f.kind : Int)) (c1 := .int .i64 (f.client : Int)) (c2 := .int .i64 (f.service : Int)) (c3 := .int .i64 (f.slot : Int)) (c4 := .int .i64 (f.gen : Int)) (c5 := .int .u32 (f.call : Int)) (c6 := .int .i64 (f.tr : Int)) (c7 := .bool f.sure) (c8 := .bool f.stream) (c9 := .int .i64 (f.seq : Int)) (c10 := .int .u32 (f.value : Int)) HH.out)
          refine hK.out _ _ (⟨alarm_cells (HH.out.get 4 rfl), frame_cells (HH.out.get 3 rfl)⟩) (fun hHeld => ?_)
          clear hK K
          try simp only [Act.put, List.setIfInBounds_toArray, List.set_cons_zero, List.set_cons_succ]
          clear c0 c1 c2 c3 c4 c5 c6 c7 c8 c9 c10 f0 f1 f2 f3 f4 f5 f6 f7 f8 f9 f10
          refine wpAnyH_done (by kernel_rfl) ?_ _
          go_wp2_with fail
          go_meet
          case rel => exact ⟨_, _, f, rfl, rfl, HH⟩
      · go_simp
        have HH := Lib.hid (HH.out.lay (.cells #[.int .i64 0, .int .i64 0, .int .i64 0, .int .i64 0, .int .i64 0, .int .u32 0, .int .i64 0, .bool false, .bool false, .int .i64 0, .int .u32 0] 27))
        refine hK.out _ _ (⟨alarm_cells (HH.out.get 3 rfl), frame_cells (HH.out.get 2 rfl)⟩) (fun hHeld => ?_)
        clear hK K
        try simp only [Act.put, List.setIfInBounds_toArray, List.set_cons_zero, List.set_cons_succ]
        clear hHeld
        generalize v1.alloc (.cells #[.int .i64 0, .int .i64 0, .int .i64 0, .int .i64 0, .int .i64 0, .int .u32 0, .int .i64 0, .bool false, .bool false, .int .i64 0, .int .u32 0] 27) = v12 at HH ⊢
        generalize v1.heap.size = b5 at HH ⊢
        have hHeld := (show _ ∧ _ from ⟨alarm_cells (HH.out.get 3 rfl), frame_cells (HH.out.get 2 rfl)⟩)
        refine wpAnyH_ready (rs := [3, 4]) (by kernel_rfl) (by simp) (AllReadyH.cons rfl (fun K hK => ?_) (AllReadyH.cons rfl (fun K hK => ?_) AllReadyH.nil))
        · go_simp
          go_at_call 10
          refine (near_zero k c s t g a r q v su st HF.out HV.out v12).mono ?_
          rintro e v13 ⟨⟨f, -, rfl⟩, hb⟩
          have HH := Lib.hid (HH.out.call hb)
          clear hb
          refine hK.out _ _ (⟨alarm_cells (HH.out.get 3 rfl), frame_cells (HH.out.get 2 rfl)⟩) (fun hHeld => ?_)
          clear hK K
          try simp only [Act.put, List.setIfInBounds_toArray, List.set_cons_zero, List.set_cons_succ]
          refine wpAnyH_ready (rs := [4]) (by kernel_rfl) (by simp) (AllReadyH.cons rfl (fun K hK => ?_) AllReadyH.nil)
          go_simp
          have HH := Lib.hid (HH.out.lay (.cells #[.int .i64 0, .int .i64 0, .int .i64 0, .int .i64 0, .int .i64 0, .int .u32 0, .int .i64 0, .bool false, .bool false, .int .i64 0, .int .u32 0] 27))
          refine hK.out _ _ (⟨alarm_cells (HH.out.get 4 rfl), frame_cells (HH.out.get 3 rfl)⟩) (fun hHeld => ?_)
          clear hK K
          try simp only [Act.put, List.setIfInBounds_toArray, List.set_cons_zero, List.set_cons_succ]
          clear hHeld
          generalize v13.alloc (.cells #[.int .i64 0, .int .i64 0, .int .i64 0, .int .i64 0, .int .i64 0, .int .u32 0, .int .i64 0, .bool false, .bool false, .int .i64 0, .int .u32 0] 27) = v14 at HH ⊢
          generalize v13.heap.size = b4 at HH ⊢
          have hHeld := (show _ ∧ _ from ⟨alarm_cells (HH.out.get 4 rfl), frame_cells (HH.out.get 3 rfl)⟩)
          obtain ⟨c0, c1, c2, c3, c4, c5, c6, c7, c8, c9, c10⟩ := frame_cells (HH.out.get 0 rfl)
          obtain ⟨f0, f1, f2, f3, f4, f5, f6, f7, f8, f9, f10⟩ := frame_free (HH.out.get 0 rfl)
          refine wpAnyH_ready (rs := [6]) (by kernel_rfl) (by simp) (AllReadyH.cons rfl (fun K hK => ?_) AllReadyH.nil)
          go_simp
          have HH := Lib.hid (Held.frame (c0 := .int .i64 10) (c1 := .int .i64 a1) (c2 := .int .i64 0) (c3 := .int .i64 a2) (c4 := .int .i64 a3) (c5 := .int .u32 0) (c6 := .int .i64 a4) (c7 := .bool false) (c8 := .bool false) (c9 := .int .i64 0) (c10 := .int .u32 0) HH.out)
          refine hK.out _ _ (⟨alarm_cells (HH.out.get 4 rfl), frame_cells (HH.out.get 3 rfl)⟩) (fun hHeld => ?_)
          clear hK K
          try simp only [Act.put, List.setIfInBounds_toArray, List.set_cons_zero, List.set_cons_succ]
          clear c0 c1 c2 c3 c4 c5 c6 c7 c8 c9 c10 f0 f1 f2 f3 f4 f5 f6 f7 f8 f9 f10
          generalize World.setCell _ _ _ = xv14 at HH hHeld ⊢
          have HH := Lib.hid HH.out.swap
          obtain ⟨c0, c1, c2, c3, c4, c5, c6, c7, c8, c9, c10⟩ := frame_cells (HH.out.get 0 rfl)
          obtain ⟨f0, f1, f2, f3, f4, f5, f6, f7, f8, f9, f10⟩ := frame_free (HH.out.get 0 rfl)
          refine wpAnyH_ready (rs := [7]) (by kernel_rfl) (by simp) (AllReadyH.cons rfl (fun K hK => ?_) AllReadyH.nil)
          go_simp
          have HH := Lib.hid (Held.frame (c0 := .int .i64 (f.kind : Int)) (c1 := .int .i64 (f.client : Int)) (c2 := .int .i64 (f.service : Int)) (c3 := .int .i64 (f.slot : Int)) (c4 := .int .i64 (f.gen : Int)) (c5 := .int .u32 (f.call : Int)) (c6 := .int .i64 (f.tr : Int)) (c7 := .bool f.sure) (c8 := .bool f.stream) (c9 := .int .i64 (f.seq : Int)) (c10 := .int .u32 (f.value : Int)) HH.out)
          refine hK.out _ _ (⟨alarm_cells (HH.out.get 4 rfl), frame_cells (HH.out.get 3 rfl)⟩) (fun hHeld => ?_)
          clear hK K
          try simp only [Act.put, List.setIfInBounds_toArray, List.set_cons_zero, List.set_cons_succ]
          clear c0 c1 c2 c3 c4 c5 c6 c7 c8 c9 c10 f0 f1 f2 f3 f4 f5 f6 f7 f8 f9 f10
          refine wpAnyH_done (by kernel_rfl) ?_ _
          go_wp2_with fail
          go_meet
          case rel => exact ⟨_, _, f, rfl, rfl, HH⟩
        · go_simp
          have HH := Lib.hid (HH.out.lay (.cells #[.int .i64 0, .int .i64 0, .int .i64 0, .int .i64 0, .int .i64 0, .int .u32 0, .int .i64 0, .bool false, .bool false, .int .i64 0, .int .u32 0] 27))
          refine hK.out _ _ (⟨alarm_cells (HH.out.get 4 rfl), frame_cells (HH.out.get 3 rfl)⟩) (fun hHeld => ?_)
          clear hK K
          try simp only [Act.put, List.setIfInBounds_toArray, List.set_cons_zero, List.set_cons_succ]
          clear hHeld
          generalize v12.alloc (.cells #[.int .i64 0, .int .i64 0, .int .i64 0, .int .i64 0, .int .i64 0, .int .u32 0, .int .i64 0, .bool false, .bool false, .int .i64 0, .int .u32 0] 27) = v15 at HH ⊢
          generalize v12.heap.size = b4 at HH ⊢
          have hHeld := (show _ ∧ _ from ⟨alarm_cells (HH.out.get 4 rfl), frame_cells (HH.out.get 3 rfl)⟩)
          refine wpAnyH_ready (rs := [3]) (by kernel_rfl) (by simp) (AllReadyH.cons rfl (fun K hK => ?_) AllReadyH.nil)
          go_simp
          go_at_call 10
          refine (near_zero k c s t g a r q v su st HF.out HV.out v15).mono ?_
          rintro e v16 ⟨⟨f, -, rfl⟩, hb⟩
          have HH := Lib.hid (HH.out.call hb)
          clear hb
          refine hK.out _ _ (⟨alarm_cells (HH.out.get 4 rfl), frame_cells (HH.out.get 3 rfl)⟩) (fun hHeld => ?_)
          clear hK K
          try simp only [Act.put, List.setIfInBounds_toArray, List.set_cons_zero, List.set_cons_succ]
          obtain ⟨c0, c1, c2, c3, c4, c5, c6, c7, c8, c9, c10⟩ := frame_cells (HH.out.get 0 rfl)
          obtain ⟨f0, f1, f2, f3, f4, f5, f6, f7, f8, f9, f10⟩ := frame_free (HH.out.get 0 rfl)
          refine wpAnyH_ready (rs := [6]) (by kernel_rfl) (by simp) (AllReadyH.cons rfl (fun K hK => ?_) AllReadyH.nil)
          go_simp
          have HH := Lib.hid (Held.frame (c0 := .int .i64 10) (c1 := .int .i64 a1) (c2 := .int .i64 0) (c3 := .int .i64 a2) (c4 := .int .i64 a3) (c5 := .int .u32 0) (c6 := .int .i64 a4) (c7 := .bool false) (c8 := .bool false) (c9 := .int .i64 0) (c10 := .int .u32 0) HH.out)
          refine hK.out _ _ (⟨alarm_cells (HH.out.get 4 rfl), frame_cells (HH.out.get 3 rfl)⟩) (fun hHeld => ?_)
          clear hK K
          try simp only [Act.put, List.setIfInBounds_toArray, List.set_cons_zero, List.set_cons_succ]
          clear c0 c1 c2 c3 c4 c5 c6 c7 c8 c9 c10 f0 f1 f2 f3 f4 f5 f6 f7 f8 f9 f10
          generalize World.setCell _ _ _ = xv16 at HH hHeld ⊢
          have HH := Lib.hid HH.out.swap
          obtain ⟨c0, c1, c2, c3, c4, c5, c6, c7, c8, c9, c10⟩ := frame_cells (HH.out.get 0 rfl)
          obtain ⟨f0, f1, f2, f3, f4, f5, f6, f7, f8, f9, f10⟩ := frame_free (HH.out.get 0 rfl)
          refine wpAnyH_ready (rs := [7]) (by kernel_rfl) (by simp) (AllReadyH.cons rfl (fun K hK => ?_) AllReadyH.nil)
          go_simp
          have HH := Lib.hid (Held.frame (c0 := .int .i64 (f.kind : Int)) (c1 := .int .i64 (f.client : Int)) (c2 := .int .i64 (f.service : Int)) (c3 := .int .i64 (f.slot : Int)) (c4 := .int .i64 (f.gen : Int)) (c5 := .int .u32 (f.call : Int)) (c6 := .int .i64 (f.tr : Int)) (c7 := .bool f.sure) (c8 := .bool f.stream) (c9 := .int .i64 (f.seq : Int)) (c10 := .int .u32 (f.value : Int)) HH.out)
          refine hK.out _ _ (⟨alarm_cells (HH.out.get 4 rfl), frame_cells (HH.out.get 3 rfl)⟩) (fun hHeld => ?_)
          clear hK K
          try simp only [Act.put, List.setIfInBounds_toArray, List.set_cons_zero, List.set_cons_succ]
          clear c0 c1 c2 c3 c4 c5 c6 c7 c8 c9 c10 f0 f1 f2 f3 f4 f5 f6 f7 f8 f9 f10
          refine wpAnyH_done (by kernel_rfl) ?_ _
          go_wp2_with fail
          go_meet
          case rel => exact ⟨_, _, f, rfl, rfl, HH⟩
    · go_simp
      have HH := Lib.hid (HH.out.lay (.cells #[.int .i64 0, .int .i64 0, .int .i64 0, .int .i64 0, .int .i64 0, .int .u32 0, .int .i64 0, .bool false, .bool false, .int .i64 0, .int .u32 0] 27))
      refine hK.out _ _ (⟨alarm_cells (HH.out.get 3 rfl), frame_cells (HH.out.get 2 rfl)⟩) (fun hHeld => ?_)
      clear hK K
      try simp only [Act.put, List.setIfInBounds_toArray, List.set_cons_zero, List.set_cons_succ]
      clear hHeld
      generalize wd.alloc (.cells #[.int .i64 0, .int .i64 0, .int .i64 0, .int .i64 0, .int .i64 0, .int .u32 0, .int .i64 0, .bool false, .bool false, .int .i64 0, .int .u32 0] 27) = v17 at HH ⊢
      generalize wd.heap.size = b4 at HH ⊢
      have hHeld := (show _ ∧ _ from ⟨alarm_cells (HH.out.get 3 rfl), frame_cells (HH.out.get 2 rfl)⟩)
      refine wpAnyH_ready (rs := [1, 5]) (by kernel_rfl) (by simp) (AllReadyH.cons rfl (fun K hK => ?_) (AllReadyH.cons rfl (fun K hK => ?_) AllReadyH.nil))
      · go_simp
        go_at_call 9
        refine (atell_any a0 a1 a2 a3 a4 v17).mono ?_
        rintro e v18 ⟨rfl, hb⟩
        have HH := Lib.hid (HH.out.call hb)
        clear hb
        refine hK.out _ _ (⟨alarm_cells (HH.out.get 3 rfl), frame_cells (HH.out.get 2 rfl)⟩) (fun hHeld => ?_)
        clear hK K
        try simp only [Act.put, List.setIfInBounds_toArray, List.set_cons_zero, List.set_cons_succ]
        refine wpAnyH_ready (rs := [3, 5]) (by kernel_rfl) (by simp) (AllReadyH.cons rfl (fun K hK => ?_) (AllReadyH.cons rfl (fun K hK => ?_) AllReadyH.nil))
        · go_simp
          go_at_call 10
          refine (near_zero k c s t g a r q v su st HF.out HV.out v18).mono ?_
          rintro e v19 ⟨⟨f, -, rfl⟩, hb⟩
          have HH := Lib.hid (HH.out.call hb)
          clear hb
          refine hK.out _ _ (⟨alarm_cells (HH.out.get 3 rfl), frame_cells (HH.out.get 2 rfl)⟩) (fun hHeld => ?_)
          clear hK K
          try simp only [Act.put, List.setIfInBounds_toArray, List.set_cons_zero, List.set_cons_succ]
          refine wpAnyH_ready (rs := [5]) (by kernel_rfl) (by simp) (AllReadyH.cons rfl (fun K hK => ?_) AllReadyH.nil)
          go_simp
          have HH := Lib.hid (HH.out.lay (.cells #[.int .i64 0, .int .i64 0, .int .i64 0, .int .i64 0, .int .i64 0, .int .u32 0, .int .i64 0, .bool false, .bool false, .int .i64 0, .int .u32 0] 27))
          refine hK.out _ _ (⟨alarm_cells (HH.out.get 4 rfl), frame_cells (HH.out.get 3 rfl)⟩) (fun hHeld => ?_)
          clear hK K
          try simp only [Act.put, List.setIfInBounds_toArray, List.set_cons_zero, List.set_cons_succ]
          clear hHeld
          generalize v19.alloc (.cells #[.int .i64 0, .int .i64 0, .int .i64 0, .int .i64 0, .int .i64 0, .int .u32 0, .int .i64 0, .bool false, .bool false, .int .i64 0, .int .u32 0] 27) = v20 at HH ⊢
          generalize v19.heap.size = b5 at HH ⊢
          have hHeld := (show _ ∧ _ from ⟨alarm_cells (HH.out.get 4 rfl), frame_cells (HH.out.get 3 rfl)⟩)
          have HH := Lib.hid HH.out.swap
          obtain ⟨c0, c1, c2, c3, c4, c5, c6, c7, c8, c9, c10⟩ := frame_cells (HH.out.get 0 rfl)
          obtain ⟨f0, f1, f2, f3, f4, f5, f6, f7, f8, f9, f10⟩ := frame_free (HH.out.get 0 rfl)
          refine wpAnyH_ready (rs := [6]) (by kernel_rfl) (by simp) (AllReadyH.cons rfl (fun K hK => ?_) AllReadyH.nil)
          go_simp
          have HH := Lib.hid (Held.frame (c0 := .int .i64 10) (c1 := .int .i64 a1) (c2 := .int .i64 0) (c3 := .int .i64 a2) (c4 := .int .i64 a3) (c5 := .int .u32 0) (c6 := .int .i64 a4) (c7 := .bool false) (c8 := .bool false) (c9 := .int .i64 0) (c10 := .int .u32 0) HH.out)
          refine hK.out _ _ (⟨alarm_cells (HH.out.get 4 rfl), frame_cells (HH.out.get 3 rfl)⟩) (fun hHeld => ?_)
          clear hK K
          try simp only [Act.put, List.setIfInBounds_toArray, List.set_cons_zero, List.set_cons_succ]
          clear c0 c1 c2 c3 c4 c5 c6 c7 c8 c9 c10 f0 f1 f2 f3 f4 f5 f6 f7 f8 f9 f10
          generalize World.setCell _ _ _ = xv20 at HH hHeld ⊢
          have HH := Lib.hid HH.out.swap
          obtain ⟨c0, c1, c2, c3, c4, c5, c6, c7, c8, c9, c10⟩ := frame_cells (HH.out.get 0 rfl)
          obtain ⟨f0, f1, f2, f3, f4, f5, f6, f7, f8, f9, f10⟩ := frame_free (HH.out.get 0 rfl)
          refine wpAnyH_ready (rs := [7]) (by kernel_rfl) (by simp) (AllReadyH.cons rfl (fun K hK => ?_) AllReadyH.nil)
          go_simp
          have HH := Lib.hid (Held.frame (c0 := .int .i64 (f.kind : Int)) (c1 := .int .i64 (f.client : Int)) (c2 := .int .i64 (f.service : Int)) (c3 := .int .i64 (f.slot : Int)) (c4 := .int .i64 (f.gen : Int)) (c5 := .int .u32 (f.call : Int)) (c6 := .int .i64 (f.tr : Int)) (c7 := .bool f.sure) (c8 := .bool f.stream) (c9 := .int .i64 (f.seq : Int)) (c10 := .int .u32 (f.value : Int)) HH.out)
          refine hK.out _ _ (⟨alarm_cells (HH.out.get 4 rfl), frame_cells (HH.out.get 3 rfl)⟩) (fun hHeld => ?_)
          clear hK K
          try simp only [Act.put, List.setIfInBounds_toArray, List.set_cons_zero, List.set_cons_succ]
          clear c0 c1 c2 c3 c4 c5 c6 c7 c8 c9 c10 f0 f1 f2 f3 f4 f5 f6 f7 f8 f9 f10
          refine wpAnyH_done (by kernel_rfl) ?_ _
          go_wp2_with fail
          go_meet
          case rel => exact ⟨_, _, f, rfl, rfl, HH⟩
        · go_simp
          have HH := Lib.hid (HH.out.lay (.cells #[.int .i64 0, .int .i64 0, .int .i64 0, .int .i64 0, .int .i64 0, .int .u32 0, .int .i64 0, .bool false, .bool false, .int .i64 0, .int .u32 0] 27))
          refine hK.out _ _ (⟨alarm_cells (HH.out.get 4 rfl), frame_cells (HH.out.get 3 rfl)⟩) (fun hHeld => ?_)
          clear hK K
          try simp only [Act.put, List.setIfInBounds_toArray, List.set_cons_zero, List.set_cons_succ]
          clear hHeld
          generalize v18.alloc (.cells #[.int .i64 0, .int .i64 0, .int .i64 0, .int .i64 0, .int .i64 0, .int .u32 0, .int .i64 0, .bool false, .bool false, .int .i64 0, .int .u32 0] 27) = v21 at HH ⊢
          generalize v18.heap.size = b5 at HH ⊢
          have hHeld := (show _ ∧ _ from ⟨alarm_cells (HH.out.get 4 rfl), frame_cells (HH.out.get 3 rfl)⟩)
          refine wpAnyH_ready (rs := [3]) (by kernel_rfl) (by simp) (AllReadyH.cons rfl (fun K hK => ?_) AllReadyH.nil)
          go_simp
          go_at_call 10
          refine (near_zero k c s t g a r q v su st HF.out HV.out v21).mono ?_
          rintro e v22 ⟨⟨f, -, rfl⟩, hb⟩
          have HH := Lib.hid (HH.out.call hb)
          clear hb
          refine hK.out _ _ (⟨alarm_cells (HH.out.get 4 rfl), frame_cells (HH.out.get 3 rfl)⟩) (fun hHeld => ?_)
          clear hK K
          try simp only [Act.put, List.setIfInBounds_toArray, List.set_cons_zero, List.set_cons_succ]
          have HH := Lib.hid HH.out.swap
          obtain ⟨c0, c1, c2, c3, c4, c5, c6, c7, c8, c9, c10⟩ := frame_cells (HH.out.get 0 rfl)
          obtain ⟨f0, f1, f2, f3, f4, f5, f6, f7, f8, f9, f10⟩ := frame_free (HH.out.get 0 rfl)
          refine wpAnyH_ready (rs := [6]) (by kernel_rfl) (by simp) (AllReadyH.cons rfl (fun K hK => ?_) AllReadyH.nil)
          go_simp
          have HH := Lib.hid (Held.frame (c0 := .int .i64 10) (c1 := .int .i64 a1) (c2 := .int .i64 0) (c3 := .int .i64 a2) (c4 := .int .i64 a3) (c5 := .int .u32 0) (c6 := .int .i64 a4) (c7 := .bool false) (c8 := .bool false) (c9 := .int .i64 0) (c10 := .int .u32 0) HH.out)
          refine hK.out _ _ (⟨alarm_cells (HH.out.get 4 rfl), frame_cells (HH.out.get 3 rfl)⟩) (fun hHeld => ?_)
          clear hK K
          try simp only [Act.put, List.setIfInBounds_toArray, List.set_cons_zero, List.set_cons_succ]
          clear c0 c1 c2 c3 c4 c5 c6 c7 c8 c9 c10 f0 f1 f2 f3 f4 f5 f6 f7 f8 f9 f10
          generalize World.setCell _ _ _ = xv22 at HH hHeld ⊢
          have HH := Lib.hid HH.out.swap
          obtain ⟨c0, c1, c2, c3, c4, c5, c6, c7, c8, c9, c10⟩ := frame_cells (HH.out.get 0 rfl)
          obtain ⟨f0, f1, f2, f3, f4, f5, f6, f7, f8, f9, f10⟩ := frame_free (HH.out.get 0 rfl)
          refine wpAnyH_ready (rs := [7]) (by kernel_rfl) (by simp) (AllReadyH.cons rfl (fun K hK => ?_) AllReadyH.nil)
          go_simp
          have HH := Lib.hid (Held.frame (c0 := .int .i64 (f.kind : Int)) (c1 := .int .i64 (f.client : Int)) (c2 := .int .i64 (f.service : Int)) (c3 := .int .i64 (f.slot : Int)) (c4 := .int .i64 (f.gen : Int)) (c5 := .int .u32 (f.call : Int)) (c6 := .int .i64 (f.tr : Int)) (c7 := .bool f.sure) (c8 := .bool f.stream) (c9 := .int .i64 (f.seq : Int)) (c10 := .int .u32 (f.value : Int)) HH.out)
          refine hK.out _ _ (⟨alarm_cells (HH.out.get 4 rfl), frame_cells (HH.out.get 3 rfl)⟩) (fun hHeld => ?_)
          clear hK K
          try simp only [Act.put, List.setIfInBounds_toArray, List.set_cons_zero, List.set_cons_succ]
          clear c0 c1 c2 c3 c4 c5 c6 c7 c8 c9 c10 f0 f1 f2 f3 f4 f5 f6 f7 f8 f9 f10
          refine wpAnyH_done (by kernel_rfl) ?_ _
          go_wp2_with fail
          go_meet
          case rel => exact ⟨_, _, f, rfl, rfl, HH⟩
      · go_simp
        have HH := Lib.hid (HH.out.lay (.cells #[.int .i64 0, .int .i64 0, .int .i64 0, .int .i64 0, .int .i64 0, .int .u32 0, .int .i64 0, .bool false, .bool false, .int .i64 0, .int .u32 0] 27))
        refine hK.out _ _ (⟨alarm_cells (HH.out.get 4 rfl), frame_cells (HH.out.get 3 rfl)⟩) (fun hHeld => ?_)
        clear hK K
        try simp only [Act.put, List.setIfInBounds_toArray, List.set_cons_zero, List.set_cons_succ]
        clear hHeld
        generalize v17.alloc (.cells #[.int .i64 0, .int .i64 0, .int .i64 0, .int .i64 0, .int .i64 0, .int .u32 0, .int .i64 0, .bool false, .bool false, .int .i64 0, .int .u32 0] 27) = v23 at HH ⊢
        generalize v17.heap.size = b5 at HH ⊢
        have hHeld := (show _ ∧ _ from ⟨alarm_cells (HH.out.get 4 rfl), frame_cells (HH.out.get 3 rfl)⟩)
        refine wpAnyH_ready (rs := [1]) (by kernel_rfl) (by simp) (AllReadyH.cons rfl (fun K hK => ?_) AllReadyH.nil)
        go_simp
        go_at_call 9
        refine (atell_any a0 a1 a2 a3 a4 v23).mono ?_
        rintro e v24 ⟨rfl, hb⟩
        have HH := Lib.hid (HH.out.call hb)
        clear hb
        refine hK.out _ _ (⟨alarm_cells (HH.out.get 4 rfl), frame_cells (HH.out.get 3 rfl)⟩) (fun hHeld => ?_)
        clear hK K
        try simp only [Act.put, List.setIfInBounds_toArray, List.set_cons_zero, List.set_cons_succ]
        refine wpAnyH_ready (rs := [3]) (by kernel_rfl) (by simp) (AllReadyH.cons rfl (fun K hK => ?_) AllReadyH.nil)
        go_simp
        go_at_call 10
        refine (near_zero k c s t g a r q v su st HF.out HV.out v24).mono ?_
        rintro e v25 ⟨⟨f, -, rfl⟩, hb⟩
        have HH := Lib.hid (HH.out.call hb)
        clear hb
        refine hK.out _ _ (⟨alarm_cells (HH.out.get 4 rfl), frame_cells (HH.out.get 3 rfl)⟩) (fun hHeld => ?_)
        clear hK K
        try simp only [Act.put, List.setIfInBounds_toArray, List.set_cons_zero, List.set_cons_succ]
        have HH := Lib.hid HH.out.swap
        obtain ⟨c0, c1, c2, c3, c4, c5, c6, c7, c8, c9, c10⟩ := frame_cells (HH.out.get 0 rfl)
        obtain ⟨f0, f1, f2, f3, f4, f5, f6, f7, f8, f9, f10⟩ := frame_free (HH.out.get 0 rfl)
        refine wpAnyH_ready (rs := [6]) (by kernel_rfl) (by simp) (AllReadyH.cons rfl (fun K hK => ?_) AllReadyH.nil)
        go_simp
        have HH := Lib.hid (Held.frame (c0 := .int .i64 10) (c1 := .int .i64 a1) (c2 := .int .i64 0) (c3 := .int .i64 a2) (c4 := .int .i64 a3) (c5 := .int .u32 0) (c6 := .int .i64 a4) (c7 := .bool false) (c8 := .bool false) (c9 := .int .i64 0) (c10 := .int .u32 0) HH.out)
        refine hK.out _ _ (⟨alarm_cells (HH.out.get 4 rfl), frame_cells (HH.out.get 3 rfl)⟩) (fun hHeld => ?_)
        clear hK K
        try simp only [Act.put, List.setIfInBounds_toArray, List.set_cons_zero, List.set_cons_succ]
        clear c0 c1 c2 c3 c4 c5 c6 c7 c8 c9 c10 f0 f1 f2 f3 f4 f5 f6 f7 f8 f9 f10
        generalize World.setCell _ _ _ = xv25 at HH hHeld ⊢
        have HH := Lib.hid HH.out.swap
        obtain ⟨c0, c1, c2, c3, c4, c5, c6, c7, c8, c9, c10⟩ := frame_cells (HH.out.get 0 rfl)
        obtain ⟨f0, f1, f2, f3, f4, f5, f6, f7, f8, f9, f10⟩ := frame_free (HH.out.get 0 rfl)
        refine wpAnyH_ready (rs := [7]) (by kernel_rfl) (by simp) (AllReadyH.cons rfl (fun K hK => ?_) AllReadyH.nil)
        go_simp
        have HH := Lib.hid (Held.frame (c0 := .int .i64 (f.kind : Int)) (c1 := .int .i64 (f.client : Int)) (c2 := .int .i64 (f.service : Int)) (c3 := .int .i64 (f.slot : Int)) (c4 := .int .i64 (f.gen : Int)) (c5 := .int .u32 (f.call : Int)) (c6 := .int .i64 (f.tr : Int)) (c7 := .bool f.sure) (c8 := .bool f.stream) (c9 := .int .i64 (f.seq : Int)) (c10 := .int .u32 (f.value : Int)) HH.out)
        refine hK.out _ _ (⟨alarm_cells (HH.out.get 4 rfl), frame_cells (HH.out.get 3 rfl)⟩) (fun hHeld => ?_)
        clear hK K
        try simp only [Act.put, List.setIfInBounds_toArray, List.set_cons_zero, List.set_cons_succ]
        clear c0 c1 c2 c3 c4 c5 c6 c7 c8 c9 c10 f0 f1 f2 f3 f4 f5 f6 f7 f8 f9 f10
        refine wpAnyH_done (by kernel_rfl) ?_ _
        go_wp2_with fail
        go_meet
        case rel => exact ⟨_, _, f, rfl, rfl, HH⟩
    · go_simp
      have HH := Lib.hid (HH.out.lay (.cells #[.int .i64 0, .int .i64 0, .int .i64 0, .int .i64 0, .int .i64 0, .int .u32 0, .int .i64 0, .bool false, .bool false, .int .i64 0, .int .u32 0] 27))
      refine hK.out _ _ (⟨alarm_cells (HH.out.get 3 rfl), frame_cells (HH.out.get 2 rfl)⟩) (fun hHeld => ?_)
      clear hK K
      try simp only [Act.put, List.setIfInBounds_toArray, List.set_cons_zero, List.set_cons_succ]
      clear hHeld
      generalize wd.alloc (.cells #[.int .i64 0, .int .i64 0, .int .i64 0, .int .i64 0, .int .i64 0, .int .u32 0, .int .i64 0, .bool false, .bool false, .int .i64 0, .int .u32 0] 27) = v26 at HH ⊢
      generalize wd.heap.size = b5 at HH ⊢
      have hHeld := (show _ ∧ _ from ⟨alarm_cells (HH.out.get 3 rfl), frame_cells (HH.out.get 2 rfl)⟩)
      refine wpAnyH_ready (rs := [1, 4]) (by kernel_rfl) (by simp) (AllReadyH.cons rfl (fun K hK => ?_) (AllReadyH.cons rfl (fun K hK => ?_) AllReadyH.nil))
      · go_simp
        go_at_call 9
        refine (atell_any a0 a1 a2 a3 a4 v26).mono ?_
        rintro e v27 ⟨rfl, hb⟩
        have HH := Lib.hid (HH.out.call hb)
        clear hb
        refine hK.out _ _ (⟨alarm_cells (HH.out.get 3 rfl), frame_cells (HH.out.get 2 rfl)⟩) (fun hHeld => ?_)
        clear hK K
        try simp only [Act.put, List.setIfInBounds_toArray, List.set_cons_zero, List.set_cons_succ]
        refine wpAnyH_ready (rs := [3, 4]) (by kernel_rfl) (by simp) (AllReadyH.cons rfl (fun K hK => ?_) (AllReadyH.cons rfl (fun K hK => ?_) AllReadyH.nil))
        · go_simp
          go_at_call 10
          refine (near_zero k c s t g a r q v su st HF.out HV.out v27).mono ?_
          rintro e v28 ⟨⟨f, -, rfl⟩, hb⟩
          have HH := Lib.hid (HH.out.call hb)
          clear hb
          refine hK.out _ _ (⟨alarm_cells (HH.out.get 3 rfl), frame_cells (HH.out.get 2 rfl)⟩) (fun hHeld => ?_)
          clear hK K
          try simp only [Act.put, List.setIfInBounds_toArray, List.set_cons_zero, List.set_cons_succ]
          refine wpAnyH_ready (rs := [4]) (by kernel_rfl) (by simp) (AllReadyH.cons rfl (fun K hK => ?_) AllReadyH.nil)
          go_simp
          have HH := Lib.hid (HH.out.lay (.cells #[.int .i64 0, .int .i64 0, .int .i64 0, .int .i64 0, .int .i64 0, .int .u32 0, .int .i64 0, .bool false, .bool false, .int .i64 0, .int .u32 0] 27))
          refine hK.out _ _ (⟨alarm_cells (HH.out.get 4 rfl), frame_cells (HH.out.get 3 rfl)⟩) (fun hHeld => ?_)
          clear hK K
          try simp only [Act.put, List.setIfInBounds_toArray, List.set_cons_zero, List.set_cons_succ]
          clear hHeld
          generalize v28.alloc (.cells #[.int .i64 0, .int .i64 0, .int .i64 0, .int .i64 0, .int .i64 0, .int .u32 0, .int .i64 0, .bool false, .bool false, .int .i64 0, .int .u32 0] 27) = v29 at HH ⊢
          generalize v28.heap.size = b4 at HH ⊢
          have hHeld := (show _ ∧ _ from ⟨alarm_cells (HH.out.get 4 rfl), frame_cells (HH.out.get 3 rfl)⟩)
          obtain ⟨c0, c1, c2, c3, c4, c5, c6, c7, c8, c9, c10⟩ := frame_cells (HH.out.get 0 rfl)
          obtain ⟨f0, f1, f2, f3, f4, f5, f6, f7, f8, f9, f10⟩ := frame_free (HH.out.get 0 rfl)
          refine wpAnyH_ready (rs := [6]) (by kernel_rfl) (by simp) (AllReadyH.cons rfl (fun K hK => ?_) AllReadyH.nil)
          go_simp
          have HH := Lib.hid (Held.frame (c0 := .int .i64 10) (c1 := .int .i64 a1) (c2 := .int .i64 0) (c3 := .int .i64 a2) (c4 := .int .i64 a3) (c5 := .int .u32 0) (c6 := .int .i64 a4) (c7 := .bool false) (c8 := .bool false) (c9 := .int .i64 0) (c10 := .int .u32 0) HH.out)
          refine hK.out _ _ (⟨alarm_cells (HH.out.get 4 rfl), frame_cells (HH.out.get 3 rfl)⟩) (fun hHeld => ?_)
          clear hK K
          try simp only [Act.put, List.setIfInBounds_toArray, List.set_cons_zero, List.set_cons_succ]
          clear c0 c1 c2 c3 c4 c5 c6 c7 c8 c9 c10 f0 f1 f2 f3 f4 f5 f6 f7 f8 f9 f10
          generalize World.setCell _ _ _ = xv29 at HH hHeld ⊢
          have HH := Lib.hid HH.out.swap
          obtain ⟨c0, c1, c2, c3, c4, c5, c6, c7, c8, c9, c10⟩ := frame_cells (HH.out.get 0 rfl)
          obtain ⟨f0, f1, f2, f3, f4, f5, f6, f7, f8, f9, f10⟩ := frame_free (HH.out.get 0 rfl)
          refine wpAnyH_ready (rs := [7]) (by kernel_rfl) (by simp) (AllReadyH.cons rfl (fun K hK => ?_) AllReadyH.nil)
          go_simp
          have HH := Lib.hid (Held.frame (c0 := .int .i64 (f.kind : Int)) (c1 := .int .i64 (f.client : Int)) (c2 := .int .i64 (f.service : Int)) (c3 := .int .i64 (f.slot : Int)) (c4 := .int .i64 (f.gen : Int)) (c5 := .int .u32 (f.call : Int)) (c6 := .int .i64 (f.tr : Int)) (c7 := .bool f.sure) (c8 := .bool f.stream) (c9 := .int .i64 (f.seq : Int)) (c10 := .int .u32 (f.value : Int)) HH.out)
          refine hK.out _ _ (⟨alarm_cells (HH.out.get 4 rfl), frame_cells (HH.out.get 3 rfl)⟩) (fun hHeld => ?_)
          clear hK K
          try simp only [Act.put, List.setIfInBounds_toArray, List.set_cons_zero, List.set_cons_succ]
          clear c0 c1 c2 c3 c4 c5 c6 c7 c8 c9 c10 f0 f1 f2 f3 f4 f5 f6 f7 f8 f9 f10
          refine wpAnyH_done (by kernel_rfl) ?_ _
          go_wp2_with fail
          go_meet
          case rel => exact ⟨_, _, f, rfl, rfl, HH⟩
        · go_simp
          have HH := Lib.hid (HH.out.lay (.cells #[.int .i64 0, .int .i64 0, .int .i64 0, .int .i64 0, .int .i64 0, .int .u32 0, .int .i64 0, .bool false, .bool false, .int .i64 0, .int .u32 0] 27))
          refine hK.out _ _ (⟨alarm_cells (HH.out.get 4 rfl), frame_cells (HH.out.get 3 rfl)⟩) (fun hHeld => ?_)
          clear hK K
          try simp only [Act.put, List.setIfInBounds_toArray, List.set_cons_zero, List.set_cons_succ]
          clear hHeld
          generalize v27.alloc (.cells #[.int .i64 0, .int .i64 0, .int .i64 0, .int .i64 0, .int .i64 0, .int .u32 0, .int .i64 0, .bool false, .bool false, .int .i64 0, .int .u32 0] 27) = v30 at HH ⊢
          generalize v27.heap.size = b4 at HH ⊢
          have hHeld := (show _ ∧ _ from ⟨alarm_cells (HH.out.get 4 rfl), frame_cells (HH.out.get 3 rfl)⟩)
          refine wpAnyH_ready (rs := [3]) (by kernel_rfl) (by simp) (AllReadyH.cons rfl (fun K hK => ?_) AllReadyH.nil)
          go_simp
          go_at_call 10
          refine (near_zero k c s t g a r q v su st HF.out HV.out v30).mono ?_
          rintro e v31 ⟨⟨f, -, rfl⟩, hb⟩
          have HH := Lib.hid (HH.out.call hb)
          clear hb
          refine hK.out _ _ (⟨alarm_cells (HH.out.get 4 rfl), frame_cells (HH.out.get 3 rfl)⟩) (fun hHeld => ?_)
          clear hK K
          try simp only [Act.put, List.setIfInBounds_toArray, List.set_cons_zero, List.set_cons_succ]
          obtain ⟨c0, c1, c2, c3, c4, c5, c6, c7, c8, c9, c10⟩ := frame_cells (HH.out.get 0 rfl)
          obtain ⟨f0, f1, f2, f3, f4, f5, f6, f7, f8, f9, f10⟩ := frame_free (HH.out.get 0 rfl)
          refine wpAnyH_ready (rs := [6]) (by kernel_rfl) (by simp) (AllReadyH.cons rfl (fun K hK => ?_) AllReadyH.nil)
          go_simp
          have HH := Lib.hid (Held.frame (c0 := .int .i64 10) (c1 := .int .i64 a1) (c2 := .int .i64 0) (c3 := .int .i64 a2) (c4 := .int .i64 a3) (c5 := .int .u32 0) (c6 := .int .i64 a4) (c7 := .bool false) (c8 := .bool false) (c9 := .int .i64 0) (c10 := .int .u32 0) HH.out)
          refine hK.out _ _ (⟨alarm_cells (HH.out.get 4 rfl), frame_cells (HH.out.get 3 rfl)⟩) (fun hHeld => ?_)
          clear hK K
          try simp only [Act.put, List.setIfInBounds_toArray, List.set_cons_zero, List.set_cons_succ]
          clear c0 c1 c2 c3 c4 c5 c6 c7 c8 c9 c10 f0 f1 f2 f3 f4 f5 f6 f7 f8 f9 f10
          generalize World.setCell _ _ _ = xv31 at HH hHeld ⊢
          have HH := Lib.hid HH.out.swap
          obtain ⟨c0, c1, c2, c3, c4, c5, c6, c7, c8, c9, c10⟩ := frame_cells (HH.out.get 0 rfl)
          obtain ⟨f0, f1, f2, f3, f4, f5, f6, f7, f8, f9, f10⟩ := frame_free (HH.out.get 0 rfl)
          refine wpAnyH_ready (rs := [7]) (by kernel_rfl) (by simp) (AllReadyH.cons rfl (fun K hK => ?_) AllReadyH.nil)
          go_simp
          have HH := Lib.hid (Held.frame (c0 := .int .i64 (f.kind : Int)) (c1 := .int .i64 (f.client : Int)) (c2 := .int .i64 (f.service : Int)) (c3 := .int .i64 (f.slot : Int)) (c4 := .int .i64 (f.gen : Int)) (c5 := .int .u32 (f.call : Int)) (c6 := .int .i64 (f.tr : Int)) (c7 := .bool f.sure) (c8 := .bool f.stream) (c9 := .int .i64 (f.seq : Int)) (c10 := .int .u32 (f.value : Int)) HH.out)
          refine hK.out _ _ (⟨alarm_cells (HH.out.get 4 rfl), frame_cells (HH.out.get 3 rfl)⟩) (fun hHeld => ?_)
          clear hK K
          try simp only [Act.put, List.setIfInBounds_toArray, List.set_cons_zero, List.set_cons_succ]
          clear c0 c1 c2 c3 c4 c5 c6 c7 c8 c9 c10 f0 f1 f2 f3 f4 f5 f6 f7 f8 f9 f10
          refine wpAnyH_done (by kernel_rfl) ?_ _
          go_wp2_with fail
          go_meet
          case rel => exact ⟨_, _, f, rfl, rfl, HH⟩
      · go_simp
        have HH := Lib.hid (HH.out.lay (.cells #[.int .i64 0, .int .i64 0, .int .i64 0, .int .i64 0, .int .i64 0, .int .u32 0, .int .i64 0, .bool false, .bool false, .int .i64 0, .int .u32 0] 27))
        refine hK.out _ _ (⟨alarm_cells (HH.out.get 4 rfl), frame_cells (HH.out.get 3 rfl)⟩) (fun hHeld => ?_)
        clear hK K
        try simp only [Act.put, List.setIfInBounds_toArray, List.set_cons_zero, List.set_cons_succ]
        clear hHeld
        generalize v26.alloc (.cells #[.int .i64 0, .int .i64 0, .int .i64 0, .int .i64 0, .int .i64 0, .int .u32 0, .int .i64 0, .bool false, .bool false, .int .i64 0, .int .u32 0] 27) = v32 at HH ⊢
        generalize v26.heap.size = b4 at HH ⊢
        have hHeld := (show _ ∧ _ from ⟨alarm_cells (HH.out.get 4 rfl), frame_cells (HH.out.get 3 rfl)⟩)
        refine wpAnyH_ready (rs := [1]) (by kernel_rfl) (by simp) (AllReadyH.cons rfl (fun K hK => ?_) AllReadyH.nil)
        go_simp
        go_at_call 9
        refine (atell_any a0 a1 a2 a3 a4 v32).mono ?_
        rintro e v33 ⟨rfl, hb⟩
        have HH := Lib.hid (HH.out.call hb)
        clear hb
        refine hK.out _ _ (⟨alarm_cells (HH.out.get 4 rfl), frame_cells (HH.out.get 3 rfl)⟩) (fun hHeld => ?_)
        clear hK K
        try simp only [Act.put, List.setIfInBounds_toArray, List.set_cons_zero, List.set_cons_succ]
        refine wpAnyH_ready (rs := [3]) (by kernel_rfl) (by simp) (AllReadyH.cons rfl (fun K hK => ?_) AllReadyH.nil)
        go_simp
        go_at_call 10
        refine (near_zero k c s t g a r q v su st HF.out HV.out v33).mono ?_
        rintro e v34 ⟨⟨f, -, rfl⟩, hb⟩
        have HH := Lib.hid (HH.out.call hb)
        clear hb
        refine hK.out _ _ (⟨alarm_cells (HH.out.get 4 rfl), frame_cells (HH.out.get 3 rfl)⟩) (fun hHeld => ?_)
        clear hK K
        try simp only [Act.put, List.setIfInBounds_toArray, List.set_cons_zero, List.set_cons_succ]
        obtain ⟨c0, c1, c2, c3, c4, c5, c6, c7, c8, c9, c10⟩ := frame_cells (HH.out.get 0 rfl)
        obtain ⟨f0, f1, f2, f3, f4, f5, f6, f7, f8, f9, f10⟩ := frame_free (HH.out.get 0 rfl)
        refine wpAnyH_ready (rs := [6]) (by kernel_rfl) (by simp) (AllReadyH.cons rfl (fun K hK => ?_) AllReadyH.nil)
        go_simp
        have HH := Lib.hid (Held.frame (c0 := .int .i64 10) (c1 := .int .i64 a1) (c2 := .int .i64 0) (c3 := .int .i64 a2) (c4 := .int .i64 a3) (c5 := .int .u32 0) (c6 := .int .i64 a4) (c7 := .bool false) (c8 := .bool false) (c9 := .int .i64 0) (c10 := .int .u32 0) HH.out)
        refine hK.out _ _ (⟨alarm_cells (HH.out.get 4 rfl), frame_cells (HH.out.get 3 rfl)⟩) (fun hHeld => ?_)
        clear hK K
        try simp only [Act.put, List.setIfInBounds_toArray, List.set_cons_zero, List.set_cons_succ]
        clear c0 c1 c2 c3 c4 c5 c6 c7 c8 c9 c10 f0 f1 f2 f3 f4 f5 f6 f7 f8 f9 f10
        generalize World.setCell _ _ _ = xv34 at HH hHeld ⊢
        have HH := Lib.hid HH.out.swap
        obtain ⟨c0, c1, c2, c3, c4, c5, c6, c7, c8, c9, c10⟩ := frame_cells (HH.out.get 0 rfl)
        obtain ⟨f0, f1, f2, f3, f4, f5, f6, f7, f8, f9, f10⟩ := frame_free (HH.out.get 0 rfl)
        refine wpAnyH_ready (rs := [7]) (by kernel_rfl) (by simp) (AllReadyH.cons rfl (fun K hK => ?_) AllReadyH.nil)
        go_simp
        have HH := Lib.hid (Held.frame (c0 := .int .i64 (f.kind : Int)) (c1 := .int .i64 (f.client : Int)) (c2 := .int .i64 (f.service : Int)) (c3 := .int .i64 (f.slot : Int)) (c4 := .int .i64 (f.gen : Int)) (c5 := .int .u32 (f.call : Int)) (c6 := .int .i64 (f.tr : Int)) (c7 := .bool f.sure) (c8 := .bool f.stream) (c9 := .int .i64 (f.seq : Int)) (c10 := .int .u32 (f.value : Int)) HH.out)
        refine hK.out _ _ (⟨alarm_cells (HH.out.get 4 rfl), frame_cells (HH.out.get 3 rfl)⟩) (fun hHeld => ?_)
        clear hK K
        try simp only [Act.put, List.setIfInBounds_toArray, List.set_cons_zero, List.set_cons_succ]
        clear c0 c1 c2 c3 c4 c5 c6 c7 c8 c9 c10 f0 f1 f2 f3 f4 f5 f6 f7 f8 f9 f10
        refine wpAnyH_done (by kernel_rfl) ?_ _
        go_wp2_with fail
        go_meet
        case rel => exact ⟨_, _, f, rfl, rfl, HH⟩
  case rest =>
  obtain ⟨b7, b8, f, rfl, rfl, HA⟩ := hcut
  clear HH HF HV
  obtain ⟨i0, i1, i2⟩ := tick_cells (HA.out.get 2 rfl)
  obtain ⟨y0, y1, y2, y3, y4, y5, y6, y7, y8, y9, y10⟩ := frame_cells (HA.out.get 0 rfl)
  go_wp2_with fail
  refine (soon_any _ _ _ _ _ _ _ _ _ _ _ _ _ _ _ _).mono ?_
  rintro e w5 ⟨rfl, hb⟩
  clear i0 i1 i2 y0 y1 y2 y3 y4 y5 y6 y7 y8 y9 y10
  have HA := Lib.hid ((HA.out.call hb).lay (.cells #[.int .i64 (min (Tk.after t0 t1) (Tk.clamp t2)), .int .i64 (f.client : Int), .int .i64 (f.slot : Int), .int .i64 (f.gen : Int), .int .i64 3] 24))
  clear hb
  go_upto_region 3 with fail
  generalize w5.alloc _ = w6 at HA ⊢
  generalize w5.heap.size = b9 at HA ⊢
  have hlt : (if Tk.after t0 t1 < Tk.clamp t2 then Tk.after t0 t1 else Tk.clamp t2) = min (Tk.after t0 t1) (Tk.clamp t2) := by split <;> omega
  have hlt2 : (if Tk.clamp t2 < Tk.after t0 t1 then Tk.clamp t2 else Tk.after t0 t1) = min (Tk.after t0 t1) (Tk.clamp t2) := by split <;> omega
  refine wp_region_held_drew (S := fun w' => w'.cell? ⟨w.heap.size + 2, 0, none⟩ = some (.int .i64 t0) ∧ w'.cell? ⟨w.heap.size + 2, 1, none⟩ = some (.int .i64 t1) ∧ w'.cell? ⟨w.heap.size + 2, 2, none⟩ = some (.int .i64 t2)) (by kernel_rfl) (tick_cells (HA.out.get 3 rfl)) (fun hHeld => ?_)
  have HA := Lib.hid HA.out.drew
  generalize w6.drew = wd at HA hHeld ⊢
  refine wpAnyH_yield 0 (.pointer (some ⟨w.heap.size + 2, 0, none⟩)) rfl (by kernel_rfl) (by kernel_rfl) (by kernel_rfl) (fun d _ _ _ h => by cases d <;> exact h) (by rfl) (by assumption) (fun _ _ => by go_simp) ?_
  simp only [Act.put, List.setIfInBounds_toArray, List.set_cons_zero, List.set_cons_succ]
  refine wpAnyH_yield 1 (.int .i64 t0) rfl (by kernel_rfl) (by kernel_rfl) (by kernel_rfl) (fun d _ _ _ h => by cases d <;> exact h) (by rfl) (by assumption) (fun _ hSw => by (try dsimp only at hSw); go_simp) ?_
  simp only [Act.put, List.setIfInBounds_toArray, List.set_cons_zero, List.set_cons_succ]
  refine wpAnyH_yield 2 (.pointer (some ⟨w.heap.size + 2, 1, none⟩)) rfl (by kernel_rfl) (by kernel_rfl) (by kernel_rfl) (fun d _ _ _ h => by cases d <;> exact h) (by rfl) (by assumption) (fun _ _ => by go_simp) ?_
  simp only [Act.put, List.setIfInBounds_toArray, List.set_cons_zero, List.set_cons_succ]
  refine wpAnyH_yield 3 (.int .i64 t1) rfl (by kernel_rfl) (by kernel_rfl) (by kernel_rfl) (fun d _ _ _ h => by cases d <;> exact h) (by rfl) (by assumption) (fun _ hSw => by (try dsimp only at hSw); go_simp) ?_
  simp only [Act.put, List.setIfInBounds_toArray, List.set_cons_zero, List.set_cons_succ]
  refine wpAnyH_yield 5 (.pointer (some ⟨w.heap.size + 2, 2, none⟩)) rfl (by kernel_rfl) (by kernel_rfl) (by kernel_rfl) (fun d _ _ _ h => by cases d <;> exact h) (by rfl) (by assumption) (fun _ _ => by go_simp) ?_
  simp only [Act.put, List.setIfInBounds_toArray, List.set_cons_zero, List.set_cons_succ]
  refine wpAnyH_yield 6 (.int .i64 t2) rfl (by kernel_rfl) (by kernel_rfl) (by kernel_rfl) (fun d _ _ _ h => by cases d <;> exact h) (by rfl) (by assumption) (fun _ hSw => by (try dsimp only at hSw); go_simp) ?_
  simp only [Act.put, List.setIfInBounds_toArray, List.set_cons_zero, List.set_cons_succ]
  refine wpAnyH_ready (rs := [4]) (by kernel_rfl) (by simp) (AllReadyH.cons rfl (fun K hK => ?_) AllReadyH.nil)
  go_simp
  go_at_call 12
  refine (rafter_any t0 t1 wd).mono ?_
  rintro e w7 ⟨rfl, rfl⟩
  refine hK.out _ _ (hHeld) (fun hHeld => ?_)
  clear hK K
  try simp only [Act.put, List.setIfInBounds_toArray, List.set_cons_zero, List.set_cons_succ]
  refine wpAnyH_ready (rs := [7]) (by kernel_rfl) (by simp) (AllReadyH.cons rfl (fun K hK => ?_) AllReadyH.nil)
  go_simp
  go_at_call 13
  refine (rclamp_any t2 wd).mono ?_
  rintro e w7 ⟨rfl, rfl⟩
  refine hK.out _ _ (hHeld) (fun hHeld => ?_)
  clear hK K
  try simp only [Act.put, List.setIfInBounds_toArray, List.set_cons_zero, List.set_cons_succ]
  refine wpAnyH_yield 8 (.int .i64 (min (Tk.after t0 t1) (Tk.clamp t2))) rfl (by kernel_rfl) (by kernel_rfl) (by kernel_rfl) (fun d _ _ _ h => by cases d <;> exact h) (by rfl) (by assumption) (fun _ _ => by go_simp) ?_
  simp only [Act.put, List.setIfInBounds_toArray, List.set_cons_zero, List.set_cons_succ]
  refine wpAnyH_yield 9 (.int .i64 (min (Tk.after t0 t1) (Tk.clamp t2))) rfl (by kernel_rfl) (by kernel_rfl) (by kernel_rfl) (fun d _ _ _ h => by cases d <;> exact h) (by rfl) (by assumption) (fun _ _ => by go_simp) ?_
  simp only [Act.put, List.setIfInBounds_toArray, List.set_cons_zero, List.set_cons_succ]
  clear hlt hlt2 hHeld
  refine wpAnyH_done (by kernel_rfl) ?_ _
  go_wp2_with fail
  refine (awake14_any _).mono ?_
  rintro e w8 ⟨rfl, hb⟩
  have HA := Lib.hid (HA.out.call hb)
  clear hb
  obtain ⟨x0, x1, x2, x3, x4⟩ := alarm_cells (HA.out.get 5 rfl)
  obtain ⟨s0, s1, s2, s3, s4⟩ := alarm_cells (HA.out.get 0 rfl)
  obtain ⟨y0, y1, y2, y3, y4, y5, y6, y7, y8, y9, y10⟩ := frame_cells (HA.out.get 1 rfl)
  obtain ⟨z0, z1, z2, z3, z4, z5, z6, z7, z8, z9, z10⟩ := frame_cells (HA.out.get 2 rfl)
  go_wp2
  go_ret
  exact ⟨rfl, HA.out.below⟩
end Go.Proofs.Ytebaipakjomenaa
