/- The contracts of a pump's Put (of a frame that is put behind the others), Gone and Last. -/
import Derived.Test.YtpognlidhppnaaaPmB
namespace Go.Proofs.Ytpognlidhppnaaa
open Go.RowKit Go.Sort

namespace Pm
/-- The row is told to its block. -/
theorem wrote {G : Nat → Prop} {w0 w : World} {r : List Part} {P m c c0 : Nat} {a b : Option Addr} {n t : Int} {q : List Wk.Fr} (hok : Ob.Ok ⟨n, t, q⟩) (h : Own G w0 w (.box P (head n t b m c0) :: .fr a c q :: r)) : Own G w0 (w.setCell ⟨P, 2, none⟩ (.slice a q.length c)) (part P ⟨n, t, q⟩ :: r) :=
  closes (a := a) (c := c) hok (h.set 0 rfl (heap_setCell_same w P 2 _ _ _ (h.box 0 rfl)))
end Pm
section
variable {G : Nat → Prop} {w0 w w' : World} {l : List Part} {P c i : Nat} {o : Pm.Ob} {a : Option Addr} {L : Option Nat}
set_option maxRecDepth 10000 in
set_option maxHeartbeats 2000000 in
/-- Put. -/
theorem pmput_add {f : Wk.Fr} (hk : Pm.at_ f o.q = none) (hq : o.q.length ≤ 1000000) (w : World) (h : Own G w0 w l) (e : l[i]? = some (Pm.part P o)) : Calls Try.prog 5 #[.pointer (some ⟨P, 0, none⟩), .agg #[.int .i64 f.k, .int .i64 f.c, .int .i64 f.s, .int .i64 f.t, .int .i64 f.g, .int .u32 f.a, .int .i64 f.r, .bool f.su, .bool f.st, .int .i64 f.q, .int .u32 f.v]] w fun e w' => e = .returned (.tuple #[]) ∧ Own G w0 w' (l.set i (Pm.part P (o.put f))) := by
  obtain ⟨F, hF, back⟩ := h.lift i e
  have hput : o.put f = { o with q := o.q ++ [f] } := by
    unfold Pm.Ob.put
    rw [hk]
  have HB : Hid (∀ w', Own F w w' [Pm.part P { o with q := o.q ++ [f] }] → Own G w0 w' (l.set i (Pm.part P (o.put f)))) := Lib.hid fun w' k => by rw [hput]; exact back k
  have HP := Lib.hid (show Pm.place f o.q = -1 by unfold Pm.place; rw [hk])
  have HQ := Lib.hid hq
  have H := Lib.hid (Own.swap (hF.lay (.cells #[.int .i64 f.k, .int .i64 f.c, .int .i64 f.s, .int .i64 f.t, .int .i64 f.g, .int .u32 f.a, .int .i64 f.r, .bool f.su, .bool f.st, .int .i64 f.q, .int .u32 f.v] 27)))
  clear h e hF back hk hq hput
  go_enter Try.func5, Try.ntmps5
  go_upto_region 1 with fail
  generalize w.alloc _ = w1 at H ⊢
  generalize w.heap.size = bF at H ⊢
  obtain ⟨a, c, L, hin⟩ := Pm.seen H.out 0 rfl
  have HG := Lib.hid (pmgrant_in f HQ.out w1 hin)
  have HOK := Lib.hid hin.ok
  clear hin
  obtain ⟨g0, g1, g2, g3, g4, g5, g6, g7, g8, g9, g10⟩ := frame_cells (H.out.box 1 rfl)
  go_wp2_with fail
  refine HG.out.mono ?_
  rintro e w2 ⟨rfl, hb⟩
  rw [HP.out]
  have H2 := Lib.hid (H.out.past hb)
  clear hb H HG g0 g1 g2 g3 g4 g5 g6 g7 g8 g9 g10
  go_upto_region 5 with fail
  obtain ⟨a, c, -, h3⟩ := Pm.opens H2.out.drew
  clear H2
  obtain ⟨n, hn⟩ : ∃ n, n = o.q.length := ⟨_, rfl⟩
  have HN := Lib.hid hn
  have H5 := Lib.hid h3
  clear h3
  rw [show o.obj a c = Pm.head o.n o.t a n c by rw [hn]; rfl] at H5
  clear hn
  refine wp_region_Z_drew 10 (S := fun w' => w'.heap[P]? = some (Pm.head o.n o.t a n c) ∧ w'.heap[bF]? = some (.cells f.cells.toArray 27 (0, 0))) (by kernel_rfl) ⟨H5.out.box 0 rfl, H5.out.box 2 rfl⟩ (fun hHeld => ?_)
  generalize w2.drew = w5 at H5 hHeld ⊢
  refine wpAnyZ_yield 0 (.pointer (some ⟨P, 0, none⟩)) rfl (by kernel_rfl) (by kernel_rfl) (by kernel_rfl) (fun d _ _ _ h => by cases d <;> exact h) (by rfl) (by assumption) (fun _ _ => by go_simp) ?_
  simp only [Act.put, List.setIfInBounds_toArray, List.set_cons_zero, List.set_cons_succ]
  refine wpAnyZ_yield 1 (.pointer (some ⟨P, 0, none⟩)) rfl (by kernel_rfl) (by kernel_rfl) (by kernel_rfl) (fun d _ _ _ h => by cases d <;> exact h) (by rfl) (by assumption) (fun _ _ => by go_simp) ?_
  simp only [Act.put, List.setIfInBounds_toArray, List.set_cons_zero, List.set_cons_succ]
  refine wpAnyZ_yield 2 (.pointer (some ⟨P, 0, none⟩)) rfl (by kernel_rfl) (by kernel_rfl) (by kernel_rfl) (fun d _ _ _ h => by cases d <;> exact h) (by rfl) (by assumption) (fun _ _ => by go_simp) ?_
  simp only [Act.put, List.setIfInBounds_toArray, List.set_cons_zero, List.set_cons_succ]
  refine wpAnyZ_yield 3 (.pointer (some ⟨P, 2, none⟩)) rfl (by kernel_rfl) (by kernel_rfl) (by kernel_rfl) (fun d _ _ _ h => by cases d <;> exact h) (by rfl) (by assumption) (fun _ _ => by go_simp) ?_
  simp only [Act.put, List.setIfInBounds_toArray, List.set_cons_zero, List.set_cons_succ]
  refine wpAnyZ_yield 4 (.slice a n c) rfl (by kernel_rfl) (by kernel_rfl) (by kernel_rfl) (fun d _ _ _ h => by cases d <;> exact h) (by rfl) (by assumption) (fun w' hSw => by have hcs : w'.cell? ⟨P, 2, none⟩ = some (.slice a n c) := cell_of_row _ _ _ _ _ _ hSw.1; go_simp) ?_
  simp only [Act.put, List.setIfInBounds_toArray, List.set_cons_zero, List.set_cons_succ]
  refine wpAnyZ_yield 5 (.agg f.cells.toArray) rfl (by kernel_rfl) (by kernel_rfl) (by kernel_rfl) (fun d _ _ _ h => by cases d <;> exact h) (by rfl) (by assumption) (fun _ hSw => exec_load_mid Try.bigFrame (.tmp 3) rfl rfl rfl (range_of_box hSw.2)) ?_
  simp only [Act.put, List.setIfInBounds_toArray, List.set_cons_zero, List.set_cons_succ]
  refine wpAnyZ_ready (rs := [6]) (by kernel_rfl) (by simp) (AllReadyZ.cons rfl (fun K hK => ?_) AllReadyZ.nil)
  refine step_slice_one Try.bigFrame (by decide) (by decide) Try.underlying32 rfl (.tmp 30) rfl rfl rfl ?_
  have H6 := Lib.hid (H5.out.lay (.cells f.cells.toArray 27))
  clear H5 hHeld
  generalize w5.alloc _ = w6 at H6 ⊢
  generalize w5.heap.size = bN at H6 ⊢
  refine hK.out _ _ (fun _ => ⟨H6.out.box 1 rfl, H6.out.box 3 rfl⟩) (fun hZ => ?_)
  clear hZ hK K
  try simp only [Act.put, List.setIfInBounds_toArray]
  obtain ⟨a', c', w7, hrun, h7⟩ := H6.out.fr_add 2 rfl HN.out (by rw [HN.out]; exact HQ.out) f (H6.out.box 0 rfl) 32
  have h7 : Own F w w7 (.box P (Pm.head o.n o.t a n c) :: .fr a' c' (o.q ++ [f]) :: [.box bF (.cells f.cells.toArray 27 (0, 0))]) := h7.tail
  have hS7 : _ ∧ _ := ⟨h7.box 0 rfl, h7.box 2 rfl⟩
  have c7 : w7.cell? ⟨P, 2, none⟩ = some (.slice a n c) := cell_of_row _ _ _ _ _ _ hS7.1
  have z7 := frozen_of_row _ _ 2 _ _ hS7.1
  have h8 := Pm.wrote (n := o.n) (t := o.t) (q := o.q ++ [f]) ⟨HOK.out.n0, HOK.out.n4, HOK.out.t0, HOK.out.tn⟩ h7
  rw [List.length_append, List.length_singleton, ← HN.out] at h8
  have HE := Lib.hid h8
  clear H6 h7 h8
  refine wpAnyZ_ready (rs := [7]) (by kernel_rfl) (by simp) (AllReadyZ.cons rfl (fun K hK => ?_) AllReadyZ.nil)
  refine step_append_run rfl _ _ 32 rfl rfl rfl hrun ?_
  refine hK.out _ _ (fun _ => hS7) (fun hZ => ?_)
  have hHeld := hZ (by decide)
  clear hK K hZ hrun
  try simp only [Act.put]
  refine wpAnyZ_yieldc [9] 8 (.pointer (some ⟨P, 0, none⟩)) rfl (by kernel_rfl) (by kernel_rfl) (by kernel_rfl) (fun d _ _ _ h => by cases d <;> exact h) (by rfl) (by assumption) (fun _ _ => by go_simp) ?_
  simp only [Act.put]
  refine wpAnyZ_yield 9 (.pointer (some ⟨P, 2, none⟩)) rfl (by kernel_rfl) (by kernel_rfl) (by kernel_rfl) (fun d _ _ _ h => by cases d <;> exact h) (by rfl) (by assumption) (fun _ _ => by go_simp) ?_
  simp only [Act.put]
  refine wpAnyZ_ready (rs := [10]) (by kernel_rfl) (by simp) (AllReadyZ.cons rfl (fun K hK => ?_) AllReadyZ.nil)
  go_simp
  refine hK.out _ _ (fun h => absurd rfl h) (fun _ => ?_)
  clear hK K
  try simp only [Act.put, List.setIfInBounds_toArray, List.set_cons_zero, List.set_cons_succ]
  refine wpAnyZ_done (by kernel_rfl) ?_ _
  clear hHeld hS7 c7 z7
  go_wp2_with fail
  go_end0
  exact ⟨rfl, HB.out _ (Own.drops (r := [_]) HE.out)⟩
/-- .. whatever it is. -/
theorem pmput_any (f : Wk.Fr) (hq : o.q.length ≤ 1000000) (w : World) (h : Own G w0 w l) (e : l[i]? = some (Pm.part P o)) : Calls Try.prog 5 #[.pointer (some ⟨P, 0, none⟩), .agg #[.int .i64 f.k, .int .i64 f.c, .int .i64 f.s, .int .i64 f.t, .int .i64 f.g, .int .u32 f.a, .int .i64 f.r, .bool f.su, .bool f.st, .int .i64 f.q, .int .u32 f.v]] w fun e w' => e = .returned (.tuple #[]) ∧ Own G w0 w' (l.set i (Pm.part P (o.put f))) := by
  cases hk : Pm.at_ f o.q with
  | none => exact pmput_add hk hq w h e
  | some k => exact pmput_more hk hq w h e
/-- Gone. -/
theorem pmgone_nil (w : World) : Calls Try.prog 9 #[.pointer none] w fun e w' => e = .returned (.bool false) ∧ w = w' := by
  go_enter Try.func9, Try.ntmps9
  go_wp2_with fail
  refine (pmlen_nil w).mono ?_
  rintro e w1 ⟨rfl, rfl⟩
  go_wp2_with fail
  go_ret
  exact ⟨rfl, rfl⟩
theorem pmgone_no (h0 : o.q = []) (w : World) (h : Own G w0 w l) (e : l[i]? = some (Pm.part P o)) : Calls Try.prog 9 #[.pointer (some ⟨P, 0, none⟩)] w fun e w' => e = .returned (.bool false) ∧ w = w' := by
  have HL := pmlen_any w h e
  rw [h0] at HL
  have HL := Lib.hid HL
  clear h e h0
  go_enter Try.func9, Try.ntmps9
  go_wp2_with fail
  refine HL.out.mono ?_
  rintro e w1 ⟨rfl, rfl⟩
  go_wp2_with fail
  go_ret
  exact ⟨rfl, rfl⟩
set_option maxHeartbeats 1000000 in
theorem pmgone_yes {x : Wk.Fr} {q : List Wk.Fr} (hx : o.q = x :: q) (hq : o.q.length ≤ 1000000) (w : World) (h : Own G w0 w l) (e : l[i]? = some (Pm.part P o)) : Calls Try.prog 9 #[.pointer (some ⟨P, 0, none⟩)] w fun e w' => e = .returned (.bool true) ∧ Own G w0 w' (l.set i (Pm.part P o.gone)) := by
  have HL := Lib.hid (pmlen_any w h e)
  obtain ⟨F, hF, back⟩ := h.lift i e
  obtain ⟨a, c, hok, k⟩ := Pm.opens hF
  have HB : Hid (∀ w', Own F w w' [Pm.part P ⟨o.n, o.t, q⟩] → Own G w0 w' (l.set i (Pm.part P o.gone))) := Lib.hid fun w' k => by rw [show o.gone = ⟨o.n, o.t, q⟩ by unfold Pm.Ob.gone; rw [hx]; rfl]; exact back k
  obtain ⟨n, hn⟩ : ∃ n, n = o.q.length := ⟨_, rfl⟩
  rw [← hn] at HL
  rw [show o.obj a c = Pm.head o.n o.t a n c by rw [hn]; rfl] at k
  rw [hx] at k
  have hnq : n = q.length + 1 := by rw [hn, hx]; rfl
  have p2 : w.cell? ⟨P, 2, none⟩ = some (.slice a n c) := cell_of_row _ _ _ _ _ _ (k.box 0 rfl)
  have HD := Lib.hid (frdel_own (i := 1) hnq (by omega) k rfl)
  have HOK := Lib.hid hok
  have hn0 : ¬(n : Int) = 0 := by omega
  clear h e hF back k hok hx hq hn hnq
  go_enter Try.func9, Try.ntmps9
  go_wp2_with fail
  refine HL.out.mono ?_
  rintro e w1 ⟨rfl, rfl⟩
  go_wp2_with fail
  refine HD.out.mono ?_
  rintro e w2 ⟨rfl, h2⟩
  have h2 : Own F w w2 (.box P (Pm.head o.n o.t a n c) :: .fr a c q :: []) := h2
  have q2 : w2.cell? ⟨P, 2, none⟩ = some (.slice a n c) := cell_of_row _ _ _ _ _ _ (h2.box 0 rfl)
  have z2 := frozen_of_row _ _ 2 _ _ (h2.box 0 rfl)
  have HE := Lib.hid (Pm.wrote (n := o.n) (t := o.t) (q := q) ⟨HOK.out.n0, HOK.out.n4, HOK.out.t0, HOK.out.tn⟩ h2)
  clear h2 HD HL p2
  go_wp2_with fail
  go_ret
  exact ⟨rfl, HB.out _ HE.out⟩
/-- Last. -/
theorem pmlast_nil (w : World) : Calls Try.prog 10 #[.pointer none] w fun e w' => e = .returned (.bool false) ∧ Below w.heap.size w w' := by
  have H := Lib.hid (Own.start (fun _ => False) w)
  go_enter Try.func10, Try.ntmps10
  go_wp2_with fail
  refine (pmfirst_nil w).mono ?_
  rintro e w1 ⟨rfl, hb⟩
  have H1 := Lib.hid ((H.out.past hb).lay (.cells #[.int .i64 0, .int .i64 0, .int .i64 0, .int .i64 0, .int .i64 0, .int .u32 0, .int .i64 0, .bool false, .bool false, .int .i64 0, .int .u32 0] 27))
  clear hb H
  dsimp only
  go_upto_region 2 with fail
  generalize w1.alloc _ = w2 at H1 ⊢
  generalize w1.heap.size = bX at H1 ⊢
  go_wp2_with fail
  go_ret
  exact ⟨rfl, H1.out.below (fun _ => id)⟩
theorem pmlast_no (h0 : o.q = []) (w : World) (h : Own G w0 w l) (e : l[i]? = some (Pm.part P o)) : Calls Try.prog 10 #[.pointer (some ⟨P, 0, none⟩)] w fun e w' => e = .returned (.bool false) ∧ Below w.heap.size w w' := by
  have H := Lib.hid (Own.start (fun _ => False) w)
  have HF := Lib.hid (pmfirst_no h0 w h e)
  clear h e h0
  go_enter Try.func10, Try.ntmps10
  go_wp2_with fail
  refine HF.out.mono ?_
  rintro e w1 ⟨rfl, hb⟩
  have H1 := Lib.hid ((H.out.past hb).lay (.cells #[.int .i64 0, .int .i64 0, .int .i64 0, .int .i64 0, .int .i64 0, .int .u32 0, .int .i64 0, .bool false, .bool false, .int .i64 0, .int .u32 0] 27))
  clear hb H HF
  dsimp only
  go_upto_region 2 with fail
  generalize w1.alloc _ = w2 at H1 ⊢
  generalize w1.heap.size = bX at H1 ⊢
  go_wp2_with fail
  go_ret
  exact ⟨rfl, H1.out.below (fun _ => id)⟩
set_option maxRecDepth 10000 in
set_option maxHeartbeats 2000000 in
theorem pmlast_yes {x : Wk.Fr} {q : List Wk.Fr} (hx : o.q = x :: q) (hq : o.q.length ≤ 1000000) (w : World) (h : Own G w0 w l) (e : l[i]? = some (Pm.part P o)) : Calls Try.prog 10 #[.pointer (some ⟨P, 0, none⟩)] w fun e w' => e = .returned (.bool true) ∧ Own G w0 w' (l.set i (Pm.part P o.last)) := by
  have HF := Lib.hid (pmfirst_yes hx w h e)
  obtain ⟨F, hF, back⟩ := h.lift i e
  have HB : Hid (∀ w', Own F w w' [Pm.part P ⟨o.n, o.t, q ++ [x]⟩] → Own G w0 w' (l.set i (Pm.part P o.last))) := Lib.hid fun w' k => by rw [show o.last = ⟨o.n, o.t, q ++ [x]⟩ by unfold Pm.Ob.last; rw [hx]]; exact back k
  have HX := Lib.hid hx
  have HQ := Lib.hid hq
  have H := Lib.hid hF
  clear h e hF back hx hq
  go_enter Try.func10, Try.ntmps10
  go_wp2_with fail
  refine HF.out.mono ?_
  rintro e w1 ⟨rfl, hb⟩
  have H1 := Lib.hid (Own.swap ((H.out.past hb).lay (.cells #[.int .i64 x.k, .int .i64 x.c, .int .i64 x.s, .int .i64 x.t, .int .i64 x.g, .int .u32 x.a, .int .i64 x.r, .bool x.su, .bool x.st, .int .i64 x.q, .int .u32 x.v] 27)))
  clear hb H HF
  dsimp only
  go_upto_region 2 with fail
  generalize w1.alloc _ = w2 at H1 ⊢
  generalize w1.heap.size = bX at H1 ⊢
  go_upto_region 4 with fail
  obtain ⟨a, c, hok, h3⟩ := Pm.opens H1.out.drew
  have HOK := Lib.hid hok
  clear H1 hok
  obtain ⟨n, hn⟩ : ∃ n, n = o.q.length := ⟨_, rfl⟩
  rw [show o.obj a c = Pm.head o.n o.t a n c by rw [hn]; rfl, HX.out] at h3
  have HN : Hid (n = q.length + 1 ∧ n ≤ 1000000) := Lib.hid ⟨by rw [hn, HX.out]; rfl, by rw [hn]; exact HQ.out⟩
  have H5 := Lib.hid h3
  clear h3 hn
  refine wp_region_Z_drew 11 (S := fun w' => w'.heap[P]? = some (Pm.head o.n o.t a n c) ∧ w'.heap[bX]? = some (.cells x.cells.toArray 27 (0, 0))) (by kernel_rfl) ⟨H5.out.box 0 rfl, H5.out.box 2 rfl⟩ (fun hHeld => ?_)
  generalize w2.drew = w5 at H5 hHeld ⊢
  refine wpAnyZ_yield 0 (.pointer (some ⟨P, 0, none⟩)) rfl (by kernel_rfl) (by kernel_rfl) (by kernel_rfl) (fun d _ _ _ h => by cases d <;> exact h) (by rfl) (by assumption) (fun _ _ => by go_simp) ?_
  simp only [Act.put, List.setIfInBounds_toArray, List.set_cons_zero, List.set_cons_succ]
  refine wpAnyZ_yield 1 (.pointer (some ⟨P, 0, none⟩)) rfl (by kernel_rfl) (by kernel_rfl) (by kernel_rfl) (fun d _ _ _ h => by cases d <;> exact h) (by rfl) (by assumption) (fun _ _ => by go_simp) ?_
  simp only [Act.put, List.setIfInBounds_toArray, List.set_cons_zero, List.set_cons_succ]
  refine wpAnyZ_yield 2 (.pointer (some ⟨P, 0, none⟩)) rfl (by kernel_rfl) (by kernel_rfl) (by kernel_rfl) (fun d _ _ _ h => by cases d <;> exact h) (by rfl) (by assumption) (fun _ _ => by go_simp) ?_
  simp only [Act.put, List.setIfInBounds_toArray, List.set_cons_zero, List.set_cons_succ]
  refine wpAnyZ_yield 3 (.pointer (some ⟨P, 2, none⟩)) rfl (by kernel_rfl) (by kernel_rfl) (by kernel_rfl) (fun d _ _ _ h => by cases d <;> exact h) (by rfl) (by assumption) (fun _ _ => by go_simp) ?_
  simp only [Act.put, List.setIfInBounds_toArray, List.set_cons_zero, List.set_cons_succ]
  refine wpAnyZ_yield 4 (.slice a n c) rfl (by kernel_rfl) (by kernel_rfl) (by kernel_rfl) (fun d _ _ _ h => by cases d <;> exact h) (by rfl) (by assumption) (fun w' hSw => by have hcs : w'.cell? ⟨P, 2, none⟩ = some (.slice a n c) := cell_of_row _ _ _ _ _ _ hSw.1; go_simp) ?_
  simp only [Act.put, List.setIfInBounds_toArray, List.set_cons_zero, List.set_cons_succ]
  refine wpAnyZ_yield 6 (.agg x.cells.toArray) rfl (by kernel_rfl) (by kernel_rfl) (by kernel_rfl) (fun d _ _ _ h => by cases d <;> exact h) (by rfl) (by assumption) (fun _ hSw => exec_load_mid Try.bigFrame (.tmp 3) rfl rfl rfl (range_of_box hSw.2)) ?_
  simp only [Act.put, List.setIfInBounds_toArray, List.set_cons_zero, List.set_cons_succ]
  refine wpAnyZ_ready (rs := [5, 7]) (by kernel_rfl) (by simp) (AllReadyZ.cons rfl (fun K hK => ?_) (AllReadyZ.cons rfl (fun K hK => ?_) AllReadyZ.nil))
  · go_simp
    go_at_call 14
    refine (frdel_own (i := 1) HN.out.1 HN.out.2 H5.out rfl).mono ?_
    rintro e w6 ⟨rfl, h6⟩
    have H6 : Hid (Own F w w6 (.box P (Pm.head o.n o.t a n c) :: .fr a c q :: [.box bX (.cells x.cells.toArray 27 (0, 0))])) := Lib.hid h6
    clear h6 H5 hHeld
    refine hK.out _ _ (fun _ => ⟨H6.out.box 0 rfl, H6.out.box 2 rfl⟩) (fun hZ => ?_)
    clear hZ hK K
    try simp only [Act.put, List.setIfInBounds_toArray, List.set_cons_zero, List.set_cons_succ]
    refine wpAnyZ_ready (rs := [7]) (by kernel_rfl) (by simp) (AllReadyZ.cons rfl (fun K hK => ?_) AllReadyZ.nil)
    refine step_slice_one Try.bigFrame (by decide) (by decide) Try.underlying32 rfl (.tmp 18) rfl rfl rfl ?_
    have H7 := Lib.hid (H6.out.lay (.cells x.cells.toArray 27))
    clear H6
    generalize w6.alloc _ = w7 at H7 ⊢
    generalize w6.heap.size = bN at H7 ⊢
    refine hK.out _ _ (fun _ => ⟨H7.out.box 1 rfl, H7.out.box 3 rfl⟩) (fun hZ => ?_)
    clear hZ hK K
    try simp only [Act.put, List.setIfInBounds_toArray]
    obtain ⟨a', c', w8, hrun, h8⟩ := H7.out.fr_add 2 rfl rfl (by have := HN.out; omega) x (H7.out.box 0 rfl) 32
    have h8 : Own F w w8 (.box P (Pm.head o.n o.t a n c) :: .fr a' c' (q ++ [x]) :: [.box bX (.cells x.cells.toArray 27 (0, 0))]) := h8.tail
    have hS8 : _ ∧ _ := ⟨h8.box 0 rfl, h8.box 2 rfl⟩
    have c8 : w8.cell? ⟨P, 2, none⟩ = some (.slice a n c) := cell_of_row _ _ _ _ _ _ hS8.1
    have z8 := frozen_of_row _ _ 2 _ _ hS8.1
    have h9 := Pm.wrote (n := o.n) (t := o.t) (q := q ++ [x]) ⟨HOK.out.n0, HOK.out.n4, HOK.out.t0, HOK.out.tn⟩ h8
    rw [List.length_append, List.length_singleton] at h9
    have HE := Lib.hid h9
    clear H7 h8 h9
    refine wpAnyZ_ready (rs := [8]) (by kernel_rfl) (by simp) (AllReadyZ.cons rfl (fun K hK => ?_) AllReadyZ.nil)
    refine step_append_run rfl _ _ 32 rfl rfl rfl hrun ?_
    refine hK.out _ _ (fun _ => hS8) (fun hZ => ?_)
    have hHeld := hZ (by decide)
    clear hK K hZ hrun
    try simp only [Act.put]
    refine wpAnyZ_yieldc [10] 9 (.pointer (some ⟨P, 0, none⟩)) rfl (by kernel_rfl) (by kernel_rfl) (by kernel_rfl) (fun d _ _ _ h => by cases d <;> exact h) (by rfl) (by assumption) (fun _ _ => by go_simp) ?_
    simp only [Act.put]
    refine wpAnyZ_yield 10 (.pointer (some ⟨P, 2, none⟩)) rfl (by kernel_rfl) (by kernel_rfl) (by kernel_rfl) (fun d _ _ _ h => by cases d <;> exact h) (by rfl) (by assumption) (fun _ _ => by go_simp) ?_
    simp only [Act.put]
    refine wpAnyZ_ready (rs := [11]) (by kernel_rfl) (by simp) (AllReadyZ.cons rfl (fun K hK => ?_) AllReadyZ.nil)
    go_simp
    refine hK.out _ _ (fun h => absurd rfl h) (fun _ => ?_)
    clear hK K
    try simp only [Act.put, List.setIfInBounds_toArray, List.set_cons_zero, List.set_cons_succ]
    refine wpAnyZ_done (by kernel_rfl) ?_ _
    clear hHeld hS8 c8 z8
    go_wp2_with fail
    go_ret
    exact ⟨rfl, HB.out _ (Own.drops (r := [_]) HE.out)⟩
  · refine step_slice_one Try.bigFrame (by decide) (by decide) Try.underlying32 rfl (.tmp 18) rfl rfl rfl ?_
    have H6 := Lib.hid (H5.out.lay (.cells x.cells.toArray 27))
    clear H5 hHeld
    generalize w5.alloc _ = w6 at H6 ⊢
    generalize w5.heap.size = bN at H6 ⊢
    refine hK.out _ _ (fun _ => ⟨H6.out.box 1 rfl, H6.out.box 3 rfl⟩) (fun hZ => ?_)
    clear hZ hK K
    try simp only [Act.put, List.setIfInBounds_toArray]
    refine wpAnyZ_ready (rs := [5]) (by kernel_rfl) (by simp) (AllReadyZ.cons rfl (fun K hK => ?_) AllReadyZ.nil)
    go_simp
    go_at_call 14
    refine (frdel_own (i := 2) HN.out.1 HN.out.2 H6.out rfl).mono ?_
    rintro e w7 ⟨rfl, h7⟩
    have H7 : Hid (Own F w w7 (.box bN (.cells x.cells.toArray 27 (0, 0)) :: .box P (Pm.head o.n o.t a n c) :: .fr a c q :: [.box bX (.cells x.cells.toArray 27 (0, 0))])) := Lib.hid h7
    clear h7 H6
    refine hK.out _ _ (fun _ => ⟨H7.out.box 1 rfl, H7.out.box 3 rfl⟩) (fun hZ => ?_)
    clear hZ hK K
    try simp only [Act.put, List.setIfInBounds_toArray, List.set_cons_zero, List.set_cons_succ]
    obtain ⟨a', c', w8, hrun, h8⟩ := H7.out.fr_add 2 rfl rfl (by have := HN.out; omega) x (H7.out.box 0 rfl) 32
    have h8 : Own F w w8 (.box P (Pm.head o.n o.t a n c) :: .fr a' c' (q ++ [x]) :: [.box bX (.cells x.cells.toArray 27 (0, 0))]) := h8.tail
    have hS8 : _ ∧ _ := ⟨h8.box 0 rfl, h8.box 2 rfl⟩
    have c8 : w8.cell? ⟨P, 2, none⟩ = some (.slice a n c) := cell_of_row _ _ _ _ _ _ hS8.1
    have z8 := frozen_of_row _ _ 2 _ _ hS8.1
    have h9 := Pm.wrote (n := o.n) (t := o.t) (q := q ++ [x]) ⟨HOK.out.n0, HOK.out.n4, HOK.out.t0, HOK.out.tn⟩ h8
    rw [List.length_append, List.length_singleton] at h9
    have HE := Lib.hid h9
    clear H7 h8 h9
    refine wpAnyZ_ready (rs := [8]) (by kernel_rfl) (by simp) (AllReadyZ.cons rfl (fun K hK => ?_) AllReadyZ.nil)
    refine step_append_run rfl _ _ 32 rfl rfl rfl hrun ?_
    refine hK.out _ _ (fun _ => hS8) (fun hZ => ?_)
    have hHeld := hZ (by decide)
    clear hK K hZ hrun
    try simp only [Act.put, List.setIfInBounds_toArray]
    refine wpAnyZ_yieldc [10] 9 (.pointer (some ⟨P, 0, none⟩)) rfl (by kernel_rfl) (by kernel_rfl) (by kernel_rfl) (fun d _ _ _ h => by cases d <;> exact h) (by rfl) (by assumption) (fun _ _ => by go_simp) ?_
    simp only [Act.put]
    refine wpAnyZ_yield 10 (.pointer (some ⟨P, 2, none⟩)) rfl (by kernel_rfl) (by kernel_rfl) (by kernel_rfl) (fun d _ _ _ h => by cases d <;> exact h) (by rfl) (by assumption) (fun _ _ => by go_simp) ?_
    simp only [Act.put]
    refine wpAnyZ_ready (rs := [11]) (by kernel_rfl) (by simp) (AllReadyZ.cons rfl (fun K hK => ?_) AllReadyZ.nil)
    go_simp
    refine hK.out _ _ (fun h => absurd rfl h) (fun _ => ?_)
    clear hK K
    try simp only [Act.put, List.setIfInBounds_toArray, List.set_cons_zero, List.set_cons_succ]
    refine wpAnyZ_done (by kernel_rfl) ?_ _
    clear hHeld hS8 c8 z8
    go_wp2_with fail
    go_ret
    exact ⟨rfl, HB.out _ (Own.drops (r := [_]) HE.out)⟩
end
end Go.Proofs.Ytpognlidhppnaaa
