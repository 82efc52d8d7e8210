/- The contract of alarm's Of, with any numbers: the alarm that a frame asks for. -/
import Derived.Test.YtebaipakjomenaaAlmB
import Derived.Test.YtebaipakjomenaaHeld
import Derived.StillTailTactics
import Derived.Deep.CutRange
import Derived.Deep.DeepCutAuto
namespace Go.Proofs.Ytebaipakjomenaa
open Go.RowKit

set_option maxRecDepth 100000 in
set_option maxHeartbeats 2000000 in
/-- Of: what a frame asks for, if it does. -/
theorem of_any (k c s t g a r q v : Int) (su st : Bool) (hv : 0 ≤ v ∧ v < 4294967296) (w : World) :
    Calls Try.prog 6 #[.agg #[.int .i64 k, .int .i64 c, .int .i64 s, .int .i64 t, .int .i64 g, .int .u32 a, .int .i64 r, .bool su, .bool st, .int .i64 q, .int .u32 v]] w fun e w' => ((k = 9 ∧ Al.May (q % 256 * 4294967296 + v) c t g r → e = .returned (.tuple #[.agg #[.int .i64 (q % 256 * 4294967296 + v), .int .i64 c, .int .i64 t, .int .i64 g, .int .i64 r], .bool true])) ∧ (¬ (k = 9 ∧ Al.May (q % 256 * 4294967296 + v) c t g r) → e = .returned (.tuple #[.agg #[.int .i64 0, .int .i64 0, .int .i64 0, .int .i64 0, .int .i64 0], .bool false]))) ∧ Below w.heap.size w w' := by
  have HV := Lib.hid hv
  clear hv
  go_enter Try.func6, Try.ntmps6
  go_upto_region 1 with fail
  have hh : Held w ((w.alloc (.cells #[.int .i64 k, .int .i64 c, .int .i64 s, .int .i64 t, .int .i64 g, .int .u32 a, .int .i64 r, .bool su, .bool st, .int .i64 q, .int .u32 v] 27)).alloc (.cells #[.int .i64 0, .int .i64 0, .int .i64 0, .int .i64 0, .int .i64 0] 24)) [(w.heap.size + 1, .cells #[.int .i64 0, .int .i64 0, .int .i64 0, .int .i64 0, .int .i64 0] 24 (0, 0)), (w.heap.size, .cells #[.int .i64 k, .int .i64 c, .int .i64 s, .int .i64 t, .int .i64 g, .int .u32 a, .int .i64 r, .bool su, .bool st, .int .i64 q, .int .u32 v] 27 (0, 0))] := by
    have := ((Held.start w).lay (.cells #[.int .i64 k, .int .i64 c, .int .i64 s, .int .i64 t, .int .i64 g, .int .u32 a, .int .i64 r, .bool su, .bool st, .int .i64 q, .int .u32 v] 27)).lay (.cells #[.int .i64 0, .int .i64 0, .int .i64 0, .int .i64 0, .int .i64 0] 24)
    simpa using this
  have HH := Lib.hid hh
  clear hh
  generalize (w.alloc (.cells #[.int .i64 k, .int .i64 c, .int .i64 s, .int .i64 t, .int .i64 g, .int .u32 a, .int .i64 r, .bool su, .bool st, .int .i64 q, .int .u32 v] 27)).alloc (.cells #[.int .i64 0, .int .i64 0, .int .i64 0, .int .i64 0, .int .i64 0] 24) = w1 at HH ⊢
  go_cut [4] (fun s4 wx => ∃ b : Nat, s4 = .pointer (some ⟨b, 0, none⟩) ∧ Hid (Held w wx ((b, .cells #[.int .i64 (q % 256 * 4294967296 + v), .int .i64 c, .int .i64 t, .int .i64 g, .int .i64 r] 24 (0, 0)) :: [(w.heap.size + 1, .cells #[.int .i64 0, .int .i64 0, .int .i64 0, .int .i64 0, .int .i64 0] 24 (0, 0)), (w.heap.size, .cells #[.int .i64 k, .int .i64 c, .int .i64 s, .int .i64 t, .int .i64 g, .int .u32 a, .int .i64 r, .bool su, .bool st, .int .i64 q, .int .u32 v] 27 (0, 0))])))
  case first =>
    go_wp2_with fail
    refine wp_region_held_drew (S := (fun w' => w'.cell? ⟨w.heap.size, 0, none⟩ = some (.int .i64 k) ∧ w'.cell? ⟨w.heap.size, 1, none⟩ = some (.int .i64 c) ∧ w'.cell? ⟨w.heap.size, 2, none⟩ = some (.int .i64 s) ∧ w'.cell? ⟨w.heap.size, 3, none⟩ = some (.int .i64 t) ∧ w'.cell? ⟨w.heap.size, 4, none⟩ = some (.int .i64 g) ∧ w'.cell? ⟨w.heap.size, 5, none⟩ = some (.int .u32 a) ∧ w'.cell? ⟨w.heap.size, 6, none⟩ = some (.int .i64 r) ∧ w'.cell? ⟨w.heap.size, 7, none⟩ = some (.bool su) ∧ w'.cell? ⟨w.heap.size, 8, none⟩ = some (.bool st) ∧ w'.cell? ⟨w.heap.size, 9, none⟩ = some (.int .i64 q) ∧ w'.cell? ⟨w.heap.size, 10, none⟩ = some (.int .u32 v))) (by kernel_rfl) (frame_cells (HH.out.get 1 rfl)) (fun hHeld => ?_)
    have HH := Lib.hid HH.out.drew
    generalize w1.drew = wd at HH hHeld ⊢
    clear hHeld
    have hHeld := frame_cells (HH.out.get 1 rfl)
    refine wpAnyH_yield 0 (.agg #[.int .i64 k, .int .i64 c, .int .i64 s, .int .i64 t, .int .i64 g, .int .u32 a, .int .i64 r, .bool su, .bool st, .int .i64 q, .int .u32 v]) rfl (by kernel_rfl) (by kernel_rfl) (by kernel_rfl) (fun d _ _ _ h => by cases d <;> exact h) (by rfl) (by assumption) (fun _ hSw => by (try dsimp only at hSw); go_simp) ?_
    simp only [Act.put, List.setIfInBounds_toArray, List.set_cons_zero, List.set_cons_succ]
    refine wpAnyH_yield 1 (.agg #[.int .i64 k, .int .i64 c, .int .i64 s, .int .i64 t, .int .i64 g, .int .u32 a, .int .i64 r, .bool su, .bool st, .int .i64 q, .int .u32 v]) rfl (by kernel_rfl) (by kernel_rfl) (by kernel_rfl) (fun d _ _ _ h => by cases d <;> exact h) (by rfl) (by assumption) (fun _ hSw => by (try dsimp only at hSw); go_simp) ?_
    simp only [Act.put, List.setIfInBounds_toArray, List.set_cons_zero, List.set_cons_succ]
    refine wpAnyH_yield 3 (.pointer (some ⟨w.heap.size, 6, none⟩)) rfl (by kernel_rfl) (by kernel_rfl) (by kernel_rfl) (fun d _ _ _ h => by cases d <;> exact h) (by rfl) (by assumption) (fun _ _ => by go_simp) ?_
    simp only [Act.put, List.setIfInBounds_toArray, List.set_cons_zero, List.set_cons_succ]
    refine wpAnyH_yield 4 (.int .i64 r) rfl (by kernel_rfl) (by kernel_rfl) (by kernel_rfl) (fun d _ _ _ h => by cases d <;> exact h) (by rfl) (by assumption) (fun _ hSw => by (try dsimp only at hSw); go_simp) ?_
    simp only [Act.put, List.setIfInBounds_toArray, List.set_cons_zero, List.set_cons_succ]

    refine wpAnyH_ready (rs := [2, 6]) (by kernel_rfl) (by simp) (AllReadyH.cons rfl (fun K hK => ?_) (AllReadyH.cons rfl (fun K hK => ?_) AllReadyH.nil))
    · go_simp
      go_at_call 17
      refine (when_any k c s t g a r q v su st HV.out wd).mono ?_
      rintro e w2 ⟨rfl, hb⟩
      have HH := Lib.hid (HH.out.call hb)
      clear hb
      refine hK.out _ _ ((frame_cells (HH.out.get 1 rfl))) (fun hHeld => ?_)
      clear hK K
      try simp only [Act.put, List.setIfInBounds_toArray, List.set_cons_zero, List.set_cons_succ]
      refine wpAnyH_ready (rs := [5, 6]) (by kernel_rfl) (by simp) (AllReadyH.cons rfl (fun K hK => ?_) (AllReadyH.cons rfl (fun K hK => ?_) AllReadyH.nil))
      · go_simp
        go_at_call 16
        refine (aturn_any k c s t g a r q v _ r su st w2).mono ?_
        rintro e w3 ⟨rfl, hb⟩
        have HH := Lib.hid (HH.out.call hb)
        clear hb
        refine hK.out _ _ ((frame_cells (HH.out.get 1 rfl))) (fun hHeld => ?_)
        clear hK K
        try simp only [Act.put, List.setIfInBounds_toArray, List.set_cons_zero, List.set_cons_succ]
        refine wpAnyH_ready (rs := [6]) (by kernel_rfl) (by simp) (AllReadyH.cons rfl (fun K hK => ?_) AllReadyH.nil)
        go_simp
        have HH := Lib.hid (HH.out.lay (.cells #[.int .i64 0, .int .i64 0, .int .i64 0, .int .i64 0, .int .i64 0] 24))
        refine hK.out _ _ ((frame_cells (HH.out.get 2 rfl))) (fun hHeld => ?_)
        clear hK K
        try simp only [Act.put, List.setIfInBounds_toArray, List.set_cons_zero, List.set_cons_succ]
        clear hHeld
        generalize w3.alloc (.cells #[.int .i64 0, .int .i64 0, .int .i64 0, .int .i64 0, .int .i64 0] 24) = w4 at HH ⊢
        generalize w3.heap.size = b at HH ⊢
        have hHeld := frame_cells (HH.out.get 2 rfl)
        obtain ⟨c0, c1, c2, c3, c4⟩ := alarm_cells (HH.out.get 0 rfl)
        obtain ⟨f0, f1, f2, f3, f4⟩ := alarm_free (HH.out.get 0 rfl)
        refine wpAnyH_ready (rs := [7]) (by kernel_rfl) (by simp) (AllReadyH.cons rfl (fun K hK => ?_) AllReadyH.nil)
        go_simp
        have HH := Lib.hid (Held.alarm (c0 := .int .i64 (q % 256 * 4294967296 + v)) (c1 := .int .i64 c) (c2 := .int .i64 t) (c3 := .int .i64 g) (c4 := .int .i64 r) HH.out)
        refine hK.out _ _ ((frame_cells (HH.out.get 2 rfl))) (fun hHeld => ?_)
        clear hK K
        try simp only [Act.put, List.setIfInBounds_toArray, List.set_cons_zero, List.set_cons_succ]
        clear c0 c1 c2 c3 c4 f0 f1 f2 f3 f4
        refine wpAnyH_done (by kernel_rfl) ?_ _
        go_wp2_with fail
        go_meet
        case rel => exact ⟨_, rfl, HH⟩
      · go_simp
        have HH := Lib.hid (HH.out.lay (.cells #[.int .i64 0, .int .i64 0, .int .i64 0, .int .i64 0, .int .i64 0] 24))
        refine hK.out _ _ ((frame_cells (HH.out.get 2 rfl))) (fun hHeld => ?_)
        clear hK K
        try simp only [Act.put, List.setIfInBounds_toArray, List.set_cons_zero, List.set_cons_succ]
        clear hHeld
        generalize w2.alloc (.cells #[.int .i64 0, .int .i64 0, .int .i64 0, .int .i64 0, .int .i64 0] 24) = w3 at HH ⊢
        generalize w2.heap.size = b at HH ⊢
        have hHeld := frame_cells (HH.out.get 2 rfl)
        refine wpAnyH_ready (rs := [5]) (by kernel_rfl) (by simp) (AllReadyH.cons rfl (fun K hK => ?_) AllReadyH.nil)
        go_simp
        go_at_call 16
        refine (aturn_any k c s t g a r q v _ r su st w3).mono ?_
        rintro e w4 ⟨rfl, hb⟩
        have HH := Lib.hid (HH.out.call hb)
        clear hb
        refine hK.out _ _ ((frame_cells (HH.out.get 2 rfl))) (fun hHeld => ?_)
        clear hK K
        try simp only [Act.put, List.setIfInBounds_toArray, List.set_cons_zero, List.set_cons_succ]
        obtain ⟨c0, c1, c2, c3, c4⟩ := alarm_cells (HH.out.get 0 rfl)
        obtain ⟨f0, f1, f2, f3, f4⟩ := alarm_free (HH.out.get 0 rfl)
        refine wpAnyH_ready (rs := [7]) (by kernel_rfl) (by simp) (AllReadyH.cons rfl (fun K hK => ?_) AllReadyH.nil)
        go_simp
        have HH := Lib.hid (Held.alarm (c0 := .int .i64 (q % 256 * 4294967296 + v)) (c1 := .int .i64 c) (c2 := .int .i64 t) (c3 := .int .i64 g) (c4 := .int .i64 r) HH.out)
        refine hK.out _ _ ((frame_cells (HH.out.get 2 rfl))) (fun hHeld => ?_)
        clear hK K
        try simp only [Act.put, List.setIfInBounds_toArray, List.set_cons_zero, List.set_cons_succ]
        clear c0 c1 c2 c3 c4 f0 f1 f2 f3 f4
        refine wpAnyH_done (by kernel_rfl) ?_ _
        go_wp2_with fail
        go_meet
        case rel => exact ⟨_, rfl, HH⟩
    · go_simp
      have HH := Lib.hid (HH.out.lay (.cells #[.int .i64 0, .int .i64 0, .int .i64 0, .int .i64 0, .int .i64 0] 24))
      refine hK.out _ _ ((frame_cells (HH.out.get 2 rfl))) (fun hHeld => ?_)
      clear hK K
      try simp only [Act.put, List.setIfInBounds_toArray, List.set_cons_zero, List.set_cons_succ]
      clear hHeld
      generalize wd.alloc (.cells #[.int .i64 0, .int .i64 0, .int .i64 0, .int .i64 0, .int .i64 0] 24) = w2 at HH ⊢
      generalize wd.heap.size = b at HH ⊢
      have hHeld := frame_cells (HH.out.get 2 rfl)
      refine wpAnyH_ready (rs := [2]) (by kernel_rfl) (by simp) (AllReadyH.cons rfl (fun K hK => ?_) AllReadyH.nil)
      go_simp
      go_at_call 17
      refine (when_any k c s t g a r q v su st HV.out w2).mono ?_
      rintro e w3 ⟨rfl, hb⟩
      have HH := Lib.hid (HH.out.call hb)
      clear hb
      refine hK.out _ _ ((frame_cells (HH.out.get 2 rfl))) (fun hHeld => ?_)
      clear hK K
      try simp only [Act.put, List.setIfInBounds_toArray, List.set_cons_zero, List.set_cons_succ]
      refine wpAnyH_ready (rs := [5]) (by kernel_rfl) (by simp) (AllReadyH.cons rfl (fun K hK => ?_) AllReadyH.nil)
      go_simp
      go_at_call 16
      refine (aturn_any k c s t g a r q v _ r su st w3).mono ?_
      rintro e w4 ⟨rfl, hb⟩
      have HH := Lib.hid (HH.out.call hb)
      clear hb
      refine hK.out _ _ ((frame_cells (HH.out.get 2 rfl))) (fun hHeld => ?_)
      clear hK K
      try simp only [Act.put, List.setIfInBounds_toArray, List.set_cons_zero, List.set_cons_succ]
      obtain ⟨c0, c1, c2, c3, c4⟩ := alarm_cells (HH.out.get 0 rfl)
      obtain ⟨f0, f1, f2, f3, f4⟩ := alarm_free (HH.out.get 0 rfl)
      refine wpAnyH_ready (rs := [7]) (by kernel_rfl) (by simp) (AllReadyH.cons rfl (fun K hK => ?_) AllReadyH.nil)
      go_simp
      have HH := Lib.hid (Held.alarm (c0 := .int .i64 (q % 256 * 4294967296 + v)) (c1 := .int .i64 c) (c2 := .int .i64 t) (c3 := .int .i64 g) (c4 := .int .i64 r) HH.out)
      refine hK.out _ _ ((frame_cells (HH.out.get 2 rfl))) (fun hHeld => ?_)
      clear hK K
      try simp only [Act.put, List.setIfInBounds_toArray, List.set_cons_zero, List.set_cons_succ]
      clear c0 c1 c2 c3 c4 f0 f1 f2 f3 f4
      refine wpAnyH_done (by kernel_rfl) ?_ _
      go_wp2_with fail
      go_meet
      case rel => exact ⟨_, rfl, HH⟩
  case rest =>
  obtain ⟨b, rfl, HA⟩ := hcut
  clear HH
  by_cases hk : k = 9
  · subst hk
    by_cases hm : Al.May (q % 256 * 4294967296 + v) c t g r
    · clear HV
      obtain ⟨a0, a1, a2, a3, a4⟩ := alarm_cells (HA.out.get 0 rfl)
      obtain ⟨c0, -, -, -, -, -, -, -, -, -, -⟩ := frame_cells (HA.out.get 2 rfl)
      go_wp2_with fail
      refine (amay_yes _ _ _ _ _ hm _).mono ?_
      rintro e w2 ⟨rfl, hb⟩
      have HX := Lib.hid ((HA.out.call hb).swap)
      clear hb a0 a1 a2 a3 a4 c0
      obtain ⟨a0, a1, a2, a3, a4⟩ := alarm_cells (HX.out.get 1 rfl)
      obtain ⟨b0, b1, b2, b3, b4⟩ := alarm_cells (HX.out.get 0 rfl)
      obtain ⟨f0, f1, f2, f3, f4⟩ := alarm_free (HX.out.get 0 rfl)
      go_wp2_with fail
      have hX := Held.alarm (c0 := .int .i64 (q % 256 * 4294967296 + v)) (c1 := .int .i64 c) (c2 := .int .i64 t) (c3 := .int .i64 g) (c4 := .int .i64 r) HX.out
      exact bodyPost_ret (results_row_tmp Try.results6 _ _ (w.heap.size + 1) 24 _ (0, 0) _ rfl (hX.get 0 rfl) Try.underlying24 rfl Try.sizeAlarm14) rfl ⟨rfl, hX.below⟩
    · clear HV
      obtain ⟨a0, a1, a2, a3, a4⟩ := alarm_cells (HA.out.get 0 rfl)
      obtain ⟨c0, -, -, -, -, -, -, -, -, -, -⟩ := frame_cells (HA.out.get 2 rfl)
      go_wp2_with fail
      refine (amay_no _ _ _ _ _ hm _).mono ?_
      rintro e w2 ⟨rfl, hb⟩
      have HX := Lib.hid ((HA.out.call hb).swap)
      clear hb a0 a1 a2 a3 a4 c0
      obtain ⟨a0, a1, a2, a3, a4⟩ := alarm_cells (HX.out.get 1 rfl)
      obtain ⟨b0, b1, b2, b3, b4⟩ := alarm_cells (HX.out.get 0 rfl)
      obtain ⟨f0, f1, f2, f3, f4⟩ := alarm_free (HX.out.get 0 rfl)
      go_wp2_with fail
      have hX := Held.alarm (c0 := .int .i64 0) (c1 := .int .i64 0) (c2 := .int .i64 0) (c3 := .int .i64 0) (c4 := .int .i64 0) HX.out
      exact bodyPost_ret (results_row_tmp Try.results6 _ _ (w.heap.size + 1) 24 _ (0, 0) _ rfl (hX.get 0 rfl) Try.underlying24 rfl Try.sizeAlarm14) rfl ⟨rfl, hX.below⟩
  · clear HV
    obtain ⟨a0, a1, a2, a3, a4⟩ := alarm_cells (HA.out.get 0 rfl)
    obtain ⟨c0, -, -, -, -, -, -, -, -, -, -⟩ := frame_cells (HA.out.get 2 rfl)
    have hkk : (k != 9) = true := by simpa using hk
    obtain ⟨b0, b1, b2, b3, b4⟩ := alarm_cells (HA.out.get 1 rfl)
    obtain ⟨f0, f1, f2, f3, f4⟩ := alarm_free (HA.out.get 1 rfl)
    have HX := Lib.hid (HA.out.swap)
    go_wp2
    have hX := Held.alarm (c0 := .int .i64 0) (c1 := .int .i64 0) (c2 := .int .i64 0) (c3 := .int .i64 0) (c4 := .int .i64 0) HX.out
    exact bodyPost_ret (results_row_tmp Try.results6 _ _ (w.heap.size + 1) 24 _ (0, 0) _ rfl (hX.get 0 rfl) Try.underlying24 rfl Try.sizeAlarm14) rfl ⟨⟨fun h => absurd h.1 hk, fun _ => rfl⟩, hX.below⟩

/-- .. that it does. -/
theorem of_yes (c s t g a r q v : Int) (su st : Bool) (hv : 0 ≤ v ∧ v < 4294967296) (h : Al.May (q % 256 * 4294967296 + v) c t g r) (w : World) :
    Calls Try.prog 6 #[.agg #[.int .i64 9, .int .i64 c, .int .i64 s, .int .i64 t, .int .i64 g, .int .u32 a, .int .i64 r, .bool su, .bool st, .int .i64 q, .int .u32 v]] w fun e w' => e = .returned (.tuple #[.agg #[.int .i64 (q % 256 * 4294967296 + v), .int .i64 c, .int .i64 t, .int .i64 g, .int .i64 r], .bool true]) ∧ Below w.heap.size w w' :=
  (of_any 9 c s t g a r q v su st hv w).mono fun _ _ ⟨k, hb⟩ => ⟨k.1 ⟨rfl, h⟩, hb⟩

/-- .. that it does not. -/
theorem of_no (k c s t g a r q v : Int) (su st : Bool) (hv : 0 ≤ v ∧ v < 4294967296) (h : ¬ (k = 9 ∧ Al.May (q % 256 * 4294967296 + v) c t g r)) (w : World) :
    Calls Try.prog 6 #[.agg #[.int .i64 k, .int .i64 c, .int .i64 s, .int .i64 t, .int .i64 g, .int .u32 a, .int .i64 r, .bool su, .bool st, .int .i64 q, .int .u32 v]] w fun e w' => e = .returned (.tuple #[.agg #[.int .i64 0, .int .i64 0, .int .i64 0, .int .i64 0, .int .i64 0], .bool false]) ∧ Below w.heap.size w w' :=
  (of_any k c s t g a r q v su st hv w).mono fun _ _ ⟨k, hb⟩ => ⟨k.2 h, hb⟩
end Go.Proofs.Ytebaipakjomenaa
