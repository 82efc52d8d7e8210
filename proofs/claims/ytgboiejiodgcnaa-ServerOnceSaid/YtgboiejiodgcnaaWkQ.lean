/- WkF, WkG, WkH, WkI, WkJ: several texts in one. -/
import Derived.Test.YtgboiejiodgcnaaWkP
import Derived.Test.YtgboiejiodgcnaaCopyK
/- The contract of a worker's Put. -/
namespace Go.Proofs.Ytgboiejiodgcnaa
open Go.RowKit Go.Sort

/-- One is put behind the row, or into the first one. -/
theorem Wd.add {w : World} {P : Nat} {o : Wk.Wo} {L : Option Nat} (h : Wd w P o L) (hq : o.q.length ≤ 1000) (x : Wk.Fr) {b : Nat} (hb : w.heap[b]? = some (.cells x.cells.toArray 29 (0, 0))) {a : Option Addr} {c : Nat} (hP : w.heap[P]? = some (.cells (o.cells a c).toArray 68 (0, 0))) (ty : TypeId) :
    ∃ g' off' cap' w', (Builtin.append_ #[37, 37] ty #[.slice a o.q.length c, .slice (some ⟨b, 0, none⟩) 1 1]).run Try.prog w = .ok (.slice (some ⟨g', off', none⟩) (o.q.length + 1) cap') w' ∧ w'.heap[P]? = w.heap[P]? ∧ Rest (fun k => L = some k) w w' ∧ w'.frozen? ⟨P, 1, none⟩ = false ∧
      Wd (w'.setCell ⟨P, 1, none⟩ (.slice (some ⟨g', off', none⟩) (o.q.length + 1) cap')) P { o with q := o.q ++ [x] } (some g') ∧ (L = some g' ∨ w.heap.size ≤ g') ∧ Rest (fun k => k = P ∨ L = some k) w (w'.setCell ⟨P, 1, none⟩ (.slice (some ⟨g', off', none⟩) (o.q.length + 1) cap')) := by
  obtain ⟨i, z, hi, hz, hzs, hs, hby⟩ := Try.bigFrame.info
  have hl : (o.q ++ [x]).length = o.q.length + 1 := by simp
  have hPl := lt_of_block hP
  obtain ⟨a', c', hP2, hrow⟩ := h
  rw [hP] at hP2
  obtain ⟨rfl, rfl⟩ : a = a' ∧ c = c' := by simpa [Wk.Wo.cells] using hP2
  rcases hrow with ⟨rfl, rfl, rfl, hnil⟩ | ⟨g, off, rfl, rfl, hne, hr⟩
  · have h0 : o.q.length = 0 := by rw [hnil]; rfl
    obtain ⟨g', off', cap', w', h1, h2, h3, h4⟩ := run_append_nilK (P := Try.prog) w 37 ty 0 11 29 i z i.bytes Try.underlying37 hi hz hs rfl hzs (by decide) ⟨b, 0, none⟩ 1 1 (Wk.fitm.flat [x]) (by rw [Wk.fitm.flat_length]; rfl) (by decide) (Wk.fitm.box x hb) (Wk.fitm.flat_ones _) (by unfold maxLen; omega) (by omega) (Nat.zero_le _)
    have hP' : w'.heap[P]? = w.heap[P]? := h3.block P hPl (fun e => by cases e)
    have hgP : g' ≠ P := by omega
    refine ⟨g', off', cap', w', by rw [h0]; exact h1, hP', Rest.grown h3 (fun _ e => by cases e), frozen_of_row _ _ _ _ _ (hP'.trans hP), ⟨some ⟨g', off', none⟩, cap', ?_, .inr ⟨g', off', rfl, rfl, hgP, ?_⟩⟩, .inr h4, ?_⟩
    · rw [show (Wk.Wo.cells { o with q := o.q ++ [x] } (some ⟨g', off', none⟩) cap') = (o.cells none 0).set 1 (.slice (some ⟨g', off', none⟩) (o.q.length + 1) cap') by simp [Wk.Wo.cells]]
      exact heap_setCell_same _ P 1 _ _ _ (hP'.trans hP)
    · have h5 : RowK (w'.setCell ⟨P, 1, none⟩ (.slice (some ⟨g', off', none⟩) (o.q.length + 1) cap')) 0 29 11 g' off' 1 cap' (Wk.fitm.flat [x]) := h2.kept (heap_setCell_other _ _ _ _ hgP)
      rw [show ({ o with q := o.q ++ [x] } : Wk.Wo).q = [x] by simp [hnil]]
      exact h5
    · exact (Rest.grown (own := fun _ => False) h3 (fun _ e => by cases e)).trans (o3 := fun k => k = P ∨ none = some k) (Rest.setCell (own := fun k => k = P) _ _ _ rfl) (fun _ _ => False.elim) (fun _ _ => .inl)
  · obtain ⟨g', off', cap', w', h1, h2, h3, h4⟩ := Wk.fitm.run_add (P := Try.prog) (ts := 37) (ty := ty) Try.underlying37 hi hz hs rfl hzs (by decide) hby hr (by omega) (ys := [x]) (m := 1) (c := 1) rfl (by decide) (ad := ⟨b, 0, none⟩) (Wk.fitm.box x hb) (Nat.zero_le _)
    have hP' : w'.heap[P]? = w.heap[P]? := h3.block P hPl (fun e => by cases e; exact hne rfl)
    have hgP : g' ≠ P := by
      rcases h4 with e | e
      · rw [e]; exact hne
      · omega
    refine ⟨g', off', cap', w', h1, hP', Rest.grown h3 (fun _ e => e), frozen_of_row _ _ _ _ _ (hP'.trans hP), ⟨some ⟨g', off', none⟩, cap', ?_, .inr ⟨g', off', rfl, rfl, hgP, ?_⟩⟩, ?_, ?_⟩
    · rw [show (Wk.Wo.cells { o with q := o.q ++ [x] } (some ⟨g', off', none⟩) cap') = (o.cells (some ⟨g, off, none⟩) c).set 1 (.slice (some ⟨g', off', none⟩) (o.q.length + 1) cap') by simp [Wk.Wo.cells]]
      exact heap_setCell_same _ P 1 _ _ _ (hP'.trans hP)
    · show RowK _ 0 _ 11 g' off' (o.q ++ [x]).length cap' (Wk.fitm.flat (o.q ++ [x]))
      rw [hl]; exact h2.kept (heap_setCell_other _ _ _ _ hgP)
    · exact h4.imp (fun e => by rw [e]) id
    · exact (Rest.grown (own := fun k => some g = some k) h3 (fun _ e => e)).trans (o3 := fun k => k = P ∨ some g = some k) (Rest.setCell (own := fun k => k = P) _ _ _ rfl) (fun _ _ => .inr) (fun _ _ => .inl)

/-- Put. -/
theorem wkput_nil (f : Wk.Fr) (w : World) : Calls Try.prog 41 #[.pointer none, .agg #[.int .i64 f.k, .int .i64 f.c, .int .i64 f.s, .int .i64 f.t, .int .i64 f.g, .int .u32 f.a, .int .i64 f.r, .bool f.su, .bool f.st, .int .i64 f.q, .int .u32 f.v]] w fun e w' => e = .returned (.bool false) ∧ Below w.heap.size w w' := by
  have H := Lib.hid ((Upon.start (fun _ => False) w).lay (.cells #[.int .i64 f.k, .int .i64 f.c, .int .i64 f.s, .int .i64 f.t, .int .i64 f.g, .int .u32 f.a, .int .i64 f.r, .bool f.su, .bool f.st, .int .i64 f.q, .int .u32 f.v] 29))
  go_enter Try.func41, Try.ntmps41
  go_upto_region 1 with fail
  generalize w.alloc _ = w1 at H ⊢
  generalize w.heap.size = bF at H ⊢
  go_wp2_with fail
  refine (wkload_nil w1).mono ?_
  rintro e w2 ⟨rfl, rfl⟩
  go_wp2_with fail
  refine (wkroom_nil w1).mono ?_
  rintro e w2 ⟨rfl, rfl⟩
  go_wp2_with fail
  go_ret
  exact ⟨rfl, H.out.below (fun _ => id)⟩
theorem wkput_no {P : Nat} {o : Wk.Wo} {L : Option Nat} {m : Int} (f : Wk.Fr) (hm : IntKind.i64.wrap (o.m + 1) = m) (hl : m ≤ o.load) (hq : o.q.length ≤ 1000) (w : World) (h : Wd w P o L) : Calls Try.prog 41 #[.pointer (some ⟨P, 0, none⟩), .agg #[.int .i64 f.k, .int .i64 f.c, .int .i64 f.s, .int .i64 f.t, .int .i64 f.g, .int .u32 f.a, .int .i64 f.r, .bool f.su, .bool f.st, .int .i64 f.q, .int .u32 f.v]] w fun e w' => e = .returned (.bool false) ∧ Below w.heap.size w w' := by
  have H := Lib.hid ((Upon.start (fun _ => False) w).lay (.cells #[.int .i64 f.k, .int .i64 f.c, .int .i64 f.s, .int .i64 f.t, .int .i64 f.g, .int .u32 f.a, .int .i64 f.r, .bool f.su, .bool f.st, .int .i64 f.q, .int .u32 f.v] 29))
  have HW := Lib.hid (h.call (H.out.below (fun _ => id)))
  have hd : decide (m ≤ o.load) = true := decide_eq_true hl
  clear h
  go_enter Try.func41, Try.ntmps41
  go_upto_region 1 with fail
  generalize w.alloc _ = w1 at HW H ⊢
  generalize w.heap.size = bF at H ⊢
  go_wp2_with fail
  refine (wkload_any (by omega) w1 HW.out).mono ?_
  rintro e w2 ⟨rfl, rfl⟩
  go_wp2_with fail
  refine (wkroom_any hm w1 HW.out).mono ?_
  rintro e w2 ⟨rfl, rfl⟩
  go_wp2_with fail
  go_ret
  exact ⟨rfl, H.out.below (fun _ => id)⟩
set_option maxRecDepth 10000 in
set_option maxHeartbeats 2000000 in
theorem wkput_yes {P : Nat} {o : Wk.Wo} {L : Option Nat} {m : Int} (f : Wk.Fr) (hm : IntKind.i64.wrap (o.m + 1) = m) (hl : o.load < m) (hq : o.q.length ≤ 1000) (w : World) (h : Wd w P o L) : Calls Try.prog 41 #[.pointer (some ⟨P, 0, none⟩), .agg #[.int .i64 f.k, .int .i64 f.c, .int .i64 f.s, .int .i64 f.t, .int .i64 f.g, .int .u32 f.a, .int .i64 f.r, .bool f.su, .bool f.st, .int .i64 f.q, .int .u32 f.v]] w fun e w' => e = .returned (.bool true) ∧ ∃ L', Wd w' P { o with q := o.q ++ [f] } L' ∧ (L' = L ∨ ∀ j, L' = some j → w.heap.size ≤ j) ∧ Rest (fun j => j = P ∨ L = some j) w w' := by
  have H := Lib.hid ((Upon.start (fun _ => False) w).lay (.cells #[.int .i64 f.k, .int .i64 f.c, .int .i64 f.s, .int .i64 f.t, .int .i64 f.g, .int .u32 f.a, .int .i64 f.r, .bool f.su, .bool f.st, .int .i64 f.q, .int .u32 f.v] 29))
  have HC := Lib.hid (h.call (H.out.below (fun _ => id)))
  have hd : decide (m ≤ o.load) = false := decide_eq_false (by omega)
  have HLR := Lib.hid (show ∀ g, L = some g → g < w.heap.size from fun g e => (h.row e).1)
  clear h hl
  go_enter Try.func41, Try.ntmps41
  go_upto_region 1 with fail
  generalize w.alloc _ = w1 at HC H ⊢
  have HBF := Lib.hid (Nat.le_refl w.heap.size)
  generalize hbf : w.heap.size = bF at H HBF ⊢
  go_wp2_with fail
  refine (wkload_any (by omega) w1 HC.out).mono ?_
  rintro e w2 ⟨rfl, rfl⟩
  go_wp2_with fail
  refine (wkroom_any hm w1 HC.out).mono ?_
  rintro e w2 ⟨rfl, rfl⟩
  go_upto_region 3 with fail
  obtain ⟨sa, sc, hP⟩ := HC.out.shape
  refine wp_region_Z_drew 10 (S := fun w' => w'.heap[P]? = some (.cells (o.cells sa sc).toArray 68 (0, 0)) ∧ w'.heap[bF]? = some (.cells f.cells.toArray 29 (0, 0))) (by kernel_rfl) ⟨hP, H.out.get 0 rfl⟩ (fun hHeld => ?_)
  have HC5 := Lib.hid HC.out.drew
  have HR5 := Lib.hid H.out.drew.rest
  clear H HC hP
  generalize w1.drew = w5 at HC5 HR5 hHeld ⊢
  refine wpAnyZ_yield 0 (.pointer (some ⟨P, 0, none⟩)) rfl (by kernel_rfl) (by kernel_rfl) (by kernel_rfl) (fun d _ _ _ h => by cases d <;> exact h) (by rfl) (by assumption) (fun _ _ => by go_simp) ?_
  simp only [Act.put, List.setIfInBounds_toArray, List.set_cons_zero, List.set_cons_succ]
  refine wpAnyZ_yield 1 (.pointer (some ⟨P, 0, none⟩)) rfl (by kernel_rfl) (by kernel_rfl) (by kernel_rfl) (fun d _ _ _ h => by cases d <;> exact h) (by rfl) (by assumption) (fun _ _ => by go_simp) ?_
  simp only [Act.put, List.setIfInBounds_toArray, List.set_cons_zero, List.set_cons_succ]
  refine wpAnyZ_yield 2 (.pointer (some ⟨P, 0, none⟩)) rfl (by kernel_rfl) (by kernel_rfl) (by kernel_rfl) (fun d _ _ _ h => by cases d <;> exact h) (by rfl) (by assumption) (fun _ _ => by go_simp) ?_
  simp only [Act.put, List.setIfInBounds_toArray, List.set_cons_zero, List.set_cons_succ]
  refine wpAnyZ_yield 3 (.pointer (some ⟨P, 1, none⟩)) rfl (by kernel_rfl) (by kernel_rfl) (by kernel_rfl) (fun d _ _ _ h => by cases d <;> exact h) (by rfl) (by assumption) (fun _ _ => by go_simp) ?_
  simp only [Act.put, List.setIfInBounds_toArray, List.set_cons_zero, List.set_cons_succ]
  refine wpAnyZ_yield 4 (.slice sa o.q.length sc) rfl (by kernel_rfl) (by kernel_rfl) (by kernel_rfl) (fun d _ _ _ h => by cases d <;> exact h) (by rfl) (by assumption) (fun _ hSw => by have hcs := (wk_cells hSw.1).2.1; go_simp) ?_
  simp only [Act.put, List.setIfInBounds_toArray, List.set_cons_zero, List.set_cons_succ]
  refine wpAnyZ_yield 5 (.agg f.cells.toArray) rfl (by kernel_rfl) (by kernel_rfl) (by kernel_rfl) (fun d _ _ _ h => by cases d <;> exact h) (by rfl) (by assumption) (fun _ hSw => exec_load_mid Try.bigFrame (.tmp 3) rfl rfl rfl (range_of_box hSw.2)) ?_
  simp only [Act.put, List.setIfInBounds_toArray, List.set_cons_zero, List.set_cons_succ]
  refine wpAnyZ_ready (rs := [6]) (by kernel_rfl) (by simp) (AllReadyZ.cons rfl (fun K hK => ?_) AllReadyZ.nil)
  refine step_slice_one Try.bigFrame (by decide) (by decide) Try.underlying37 rfl (.tmp 15) rfl rfl rfl ?_
  have hb6 := below_box w5 (.cells f.cells.toArray 29)
  have hB6 := heap_alloc_new w5 (.cells f.cells.toArray 29)
  have hS6 : _ ∧ _ := ⟨keep hHeld.1 hb6, keep hHeld.2 hb6⟩
  have hc6 := HC5.out.call hb6
  have hr6 := HR5.out.trans (o3 := fun _ => False) (Rest.of_below (own := fun _ => False) hb6) (fun _ _ => id) (fun _ _ => id)
  generalize w5.alloc _ = w6 at hB6 hS6 hc6 hr6 ⊢
  generalize w5.heap.size = bN at hB6 ⊢
  clear hb6 HC5 HR5 hHeld
  refine hK.out _ _ (fun _ => hS6) (fun hZ => ?_)
  have hHeld := hZ (by decide)
  clear hK K hZ
  try simp only [Act.put, List.setIfInBounds_toArray]
  obtain ⟨g', off', cap', w7, hrun, hP7, hx7, hf7, hc7, hl7, hr7⟩ := hc6.add hq f hB6 hS6.1 37
  have hLF : L ≠ some bF := fun e => by
    have h1 := HLR.out _ e
    omega
  have hS7 : _ ∧ _ := ⟨hP7.trans hS6.1, (hx7.block _ (lt_of_block hS6.2) hLF).trans hS6.2⟩
  have HE := Lib.hid (And.intro hc7 (And.intro hl7 (And.intro hr7 hr6)))
  have c7 := (wk_cells hS7.1).2.1
  clear hc7 hl7 hr7 hr6 hLF hc6 hP7 hx7 hS6 hB6
  refine wpAnyZ_ready (rs := [7]) (by kernel_rfl) (by simp) (AllReadyZ.cons rfl (fun K hK => ?_) AllReadyZ.nil)
  refine step_append_run rfl _ _ 37 rfl rfl rfl hrun ?_
  refine hK.out _ _ (fun _ => hS7) (fun hZ => ?_)
  have hHeld := hZ (by decide)
  clear hK K hZ hrun
  try simp only [Act.put]
  refine wpAnyZ_ready (rs := [8]) (by kernel_rfl) (by simp) (AllReadyZ.cons rfl (fun K hK => ?_) AllReadyZ.nil)
  go_simp
  refine hK.out _ _ (fun _ => hHeld) (fun hZ => ?_)
  have hHeld := hZ (by decide)
  clear hK K hZ
  try simp only [Act.put, List.setIfInBounds_toArray, List.set_cons_zero, List.set_cons_succ]
  refine wpAnyZ_yield 9 (.pointer (some ⟨P, 1, none⟩)) rfl (by kernel_rfl) (by kernel_rfl) (by kernel_rfl) (fun d _ _ _ h => by cases d <;> exact h) (by rfl) (by assumption) (fun _ _ => by go_simp) ?_
  simp only [Act.put, List.setIfInBounds_toArray, List.set_cons_zero, List.set_cons_succ]
  refine wpAnyZ_ready (rs := [10]) (by kernel_rfl) (by simp) (AllReadyZ.cons rfl (fun K hK => ?_) AllReadyZ.nil)
  go_simp
  refine hK.out _ _ (fun h => absurd rfl h) (fun _ => ?_)
  clear hK K
  try simp only [Act.put, List.setIfInBounds_toArray, List.set_cons_zero, List.set_cons_succ]
  refine wpAnyZ_done (by kernel_rfl) ?_ _
  clear hHeld hS7 c7 hf7
  go_wp2_with fail
  go_ret
  obtain ⟨hc7, hl7, hr7, hr6⟩ := HE.out
  refine ⟨rfl, some g', hc7, ?_, hr6.trans hr7 (fun _ _ => False.elim) (fun _ _ => id)⟩
  rcases hl7 with e | e
  · exact .inl e.symm
  · exact .inr (fun j hj => by cases hj; have := hr6.size; omega)
end Go.Proofs.Ytgboiejiodgcnaa

/- The contract of slices.Delete of the first frame: what waits moves up, the last place is cleared. -/
namespace Go.Proofs.Ytgboiejiodgcnaa
open Go.RowKit Go.Sort

set_option maxRecDepth 10000 in
theorem Try.elemFr : Try.prog.elem 37 = 29 := by kernel_rfl
set_option maxRecDepth 10000 in
theorem fr_size (w : World) : (sizeOf 29).run Try.prog w = .ok 11 w := by
  obtain ⟨i, z, hi, hz, hzs, hs, -⟩ := Try.bigFrame.info
  simp [sizeOf, typeInfo, hi, hs]
set_option maxRecDepth 10000 in
theorem fr_s3 (g off n c : Nat) (h1 : 1 ≤ n) (h2 : n ≤ c) : ∃ v : Value, ∀ w, Sem.run Try.prog (Instr.sliceAt 37 (.slice (some ⟨g, off, none⟩) n c) (some (.int .i64 0)) (some (.int .i64 1)) (some (.int .i64 (n : Int)))) w = .ok v w := by
  refine ⟨sliced (some ⟨g, off, none⟩) 0 1 n 11, fun w => ?_⟩
  rw [run_sliceAt_slice w _ _ _ _ _ Try.underlying37, run_slice_lhm w _ _ _ _ Try.underlying37 .i64 .i64 .i64 0 1 (n : Int) (by omega) (by omega) (by omega) (by omega), Try.elemFr, fr_size]
  rfl
set_option maxRecDepth 10000 in
theorem fr_tail (g off n c : Nat) (h1 : 1 ≤ n) (h2 : n ≤ c) : ∃ (ad : Addr) (cp : Nat), (∀ w, Sem.run Try.prog (Instr.sliceAt 37 (.slice (some ⟨g, off, none⟩) n c) (some (.int .i64 1)) none none) w = .ok (.slice (some ad) (n - 1) cp) w) ∧ (n = 1 ∨ ad = ⟨g, off + 11, none⟩) := by
  have hrun : ∀ w, Sem.run Try.prog (Instr.sliceAt 37 (.slice (some ⟨g, off, none⟩) n c) (some (.int .i64 1)) none none) w = .ok (sliced (some ⟨g, off, none⟩) 1 n c 11) w := fun w => by
    rw [run_sliceAt_slice w _ _ _ _ _ Try.underlying37, run_slice_l w _ _ _ _ Try.underlying37 .i64 1 (by omega) (by omega), Try.elemFr, fr_size]
    rfl
  by_cases hc : c = 1
  · exact ⟨⟨g, off, none⟩, c - 1, fun w => by rw [hrun w]; unfold sliced; rw [if_pos hc], .inl (by omega)⟩
  · exact ⟨⟨g, off + 11, none⟩, c - 1, fun w => by rw [hrun w]; unfold sliced; rw [if_neg hc]; rfl, .inr rfl⟩
set_option maxRecDepth 10000 in
theorem fr_last (g off m n c : Nat) (h1 : n = m + 1) (h2 : n ≤ c) (w : World) : Sem.run Try.prog (Instr.sliceAt 37 (.slice (some ⟨g, off, none⟩) m c) (some (.int .i64 (m : Int))) (some (.int .i64 (n : Int))) none) w = .ok (.slice (some ⟨g, off + m * 11, none⟩) 1 (c - m)) w := by
  rw [run_sliceAt_slice w _ _ _ _ _ Try.underlying37, run_slice_lh w _ _ _ _ Try.underlying37 .i64 .i64 (m : Int) (n : Int) (by omega) (by omega) (by omega), Try.elemFr, fr_size]
  simp only [Result.andThen, sliced, Int.toNat_natCast]
  rw [if_neg (by omega), show n - m = 1 by omega]
  simp only [Option.map_some, Addr.add_lit]

set_option maxRecDepth 10000 in
/-- What moved up lies there; the last place is cleared. -/
theorem fr_shift {w : World} {B g off c : Nat} {x : Wk.Fr} {q : List Wk.Fr} (h : RowK w B 29 11 g off (q.length + 1) c (Wk.fitm.flat (x :: q))) : RowK (w.setCells g off (Wk.fitm.flat q)) B 29 11 g off q.length c (Wk.fitm.flat q) := by
  obtain ⟨cur, hg, hs, hc⟩ := h.block
  have hr := h.room
  have hm := Nat.mul_le_mul_right 11 hr
  obtain ⟨c1, k1, k2, k3⟩ := setCells_all g (t := 29) (Wk.fitm.flat q) off w cur hg (by rw [Wk.fitm.flat_length]; omega)
  refine ⟨by rw [Wk.fitm.flat_length], h.from_, by omega, h.most, c1, k1, by omega, fun j u hj => ?_⟩
  have hjl := (List.getElem?_eq_some_iff.1 hj).1
  rw [k3, if_pos ⟨by omega, by omega⟩, Nat.add_sub_cancel_left]
  exact hj
set_option maxRecDepth 10000 in
theorem fr_clear {w : World} {B g off c : Nat} {q : List Wk.Fr} (h : RowK w B 29 11 g off q.length c (Wk.fitm.flat q)) (hc : q.length + 1 ≤ c) : ∃ w', (∀ ty, (Builtin.clear_ #[37] ty #[.slice (some ⟨g, off + q.length * 11, none⟩) 1 (c - q.length)]).run Try.prog w = .ok (.tuple #[]) w') ∧ RowK w' B 29 11 g off q.length c (Wk.fitm.flat q) ∧ Rest (fun k => k = g) w w' := by
  obtain ⟨cur, hg, hs, hcur⟩ := h.block
  obtain ⟨i, z, hi, hz, hzs, hsz, -⟩ := Try.bigFrame.info
  have hm := Nat.mul_le_mul_right 11 hc
  have hlen : ((Builtin.zeroCells z.cells 1).toList).length = 11 := by simp [Builtin.zeroCells, hzs]
  have hone : ∀ v ∈ (Builtin.zeroCells z.cells 1).toList, v.oneCell' = true := by
    have hzz : (Try.prog.info? 29).map (fun i => i.zero.map (fun z => (Builtin.zeroCells z.cells 1).toList.all (·.oneCell'))) = some (some true) := by kernel_rfl
    rw [hi] at hzz
    simp only [Option.map_some, hz, Option.some.injEq] at hzz
    intro v hv
    exact List.all_eq_true.1 hzz v hv
  have hfit : off + q.length * 11 + ((Builtin.zeroCells z.cells 1).toList).length ≤ cur.size := by rw [hlen]; omega
  refine ⟨_, fun ty => run_clear_rowK (P := Try.prog) w 37 ty 29 i z g (off + q.length * 11) 1 (c - q.length) cur 29 _ Try.underlying37 hi hz rfl (fun e => by cases e) hg hfit hone, ?_, Rest.setRow _ _ _ rfl⟩
  refine ⟨h.len, h.from_, h.room, h.most, _, setRow_heap w g cur _ _ _ hg, ?_, fun j u hj => ?_⟩
  · simp only [List.size_toArray, List.length_append, List.length_take, List.length_drop, Array.length_toList, hlen]
    omega
  · have hjl := (List.getElem?_eq_some_iff.1 hj).1
    rw [Wk.fitm.flat_length] at hjl
    have hcl : cur.toList.length = cur.size := Array.length_toList
    rw [List.getElem?_toArray, List.append_assoc, List.getElem?_append_left (by rw [List.length_take]; omega), List.getElem?_take_of_lt (by omega), Array.getElem?_toList]
    exact hcur j u hj

set_option maxRecDepth 10000 in
theorem fr_moved {w : World} {B g off c n m : Nat} {x : Wk.Fr} {q : List Wk.Fr} (h : RowK w B 29 11 g off n c (Wk.fitm.flat (x :: q))) (hn : n = m + 1) (hm : q.length = m) {ad : Addr} (cp : Nat) (had : n = 1 ∨ ad = ⟨g, off + 11, none⟩) (ty : TypeId) :
    (Builtin.append_ #[37, 37] ty #[.slice (some ⟨g, off, none⟩) 0 c, .slice (some ad) (n - 1) cp]).run Try.prog w = .ok (.slice (some ⟨g, off, none⟩) m c) (w.setCells g off (Wk.fitm.flat q)) := by
  obtain ⟨i, z, hi, hz, hzs, hs, -⟩ := Try.bigFrame.info
  obtain ⟨cur, hg, hsz, hc⟩ := h.block
  have hr := h.room
  have hmul := Nat.mul_le_mul_right 11 hr
  have hfl : (Wk.fitm.flat q).length = m * 11 := by rw [Wk.fitm.flat_length, hm]
  have h1 := run_append_room_cells (P := Try.prog) w 37 ty 29 i Try.underlying37 hi g off 0 c ad (n - 1) cp (Wk.fitm.flat q) (by rw [hfl, hs, show n - 1 = m by omega]) (fun j u hu => by
    have hj := (List.getElem?_eq_some_iff.1 hu).1
    rcases had with e | rfl
    · omega
    · rw [Addr.add_lit]
      have := h.cell (j := 11 + j) (u := u) (by
        show (x.cells ++ Wk.fitm.flat q)[11 + j]? = some u
        rw [List.getElem?_append_right (by show 11 ≤ 11 + j; omega), show 11 + j - x.cells.length = j by show 11 + j - 11 = j; omega]
        exact hu)
      rw [← Nat.add_assoc] at this
      exact this) (Wk.fitm.flat_ones q) (by omega) (fun j hj => by
      rw [hs, Nat.zero_mul, Nat.add_zero, cell_of_row _ _ _ _ _ _ hg, Array.getElem?_eq_getElem (by omega)]; rfl) (fun j hj => frozen_of_row _ _ _ _ _ hg)
  rw [Nat.zero_mul, Nat.add_zero, Nat.zero_add, show n - 1 = m by omega] at h1
  rw [show n - 1 = m by omega]
  exact h1

set_option maxRecDepth 10000 in
set_option maxHeartbeats 1000000 in
/-- The first one goes. -/
theorem frdel_first {B g off c n : Nat} {x : Wk.Fr} {q : List Wk.Fr} (hn : n = q.length + 1) (hq : n ≤ 1000000) (w : World) (h : RowK w B 29 11 g off n c (Wk.fitm.flat (x :: q))) : Calls Try.prog 23 #[.slice (some ⟨g, off, none⟩) n c, .int .i64 0, .int .i64 1] w fun e w' => e = .returned (.slice (some ⟨g, off, none⟩) q.length c) ∧ RowK w' B 29 11 g off q.length c (Wk.fitm.flat q) ∧ Rest (fun k => k = g) w w' := by
  have hr := h.room
  obtain ⟨v3, hs3⟩ := fr_s3 g off n c (by omega) hr
  obtain ⟨ad, cp, hs1, had⟩ := fr_tail g off n c (by omega) hr
  have hs2 := fr_last g off q.length n c hn hr
  have HN := Lib.hid hn
  have HH := Lib.hid h
  have HA := Lib.hid had
  have hc0 : (0 : Int) ≤ (c : Int) := by omega
  have HR := Lib.hid hr
  clear h had hr hn hq
  generalize hm : q.length = m at *
  have HM := Lib.hid hm
  have h1n : (1 : Int) ≤ (n : Int) := by have := HN.out; omega
  clear hm
  go_enter Try.func23, Try.ntmps23
  go_upto_region 5 with fail
  refine wp_region_held_drew (S := fun _ => True) (by kernel_rfl) trivial (fun hHeld => ?_)
  have HH2 : Hid (RowK w.drew B 29 11 g off n c (Wk.fitm.flat (x :: q))) := Lib.hid (HH.out.kept rfl)
  have HRS := Lib.hid (Rest.drew (fun k => k = g) w)
  clear HH
  generalize w.drew = w2 at HH2 HRS ⊢
  refine wpAnyH_yield 0 (.slice (some ⟨g, off, none⟩) n c) rfl (by kernel_rfl) (by kernel_rfl) (by kernel_rfl) (fun d _ _ _ h => by cases d <;> exact h) (by rfl) (by assumption) (fun _ _ => by go_simp) ?_
  simp only [Act.put, List.setIfInBounds_toArray, List.set_cons_zero, List.set_cons_succ]
  refine wpAnyH_yield 1 (.int .i64 0) rfl (by kernel_rfl) (by kernel_rfl) (by kernel_rfl) (fun d _ _ _ h => by cases d <;> exact h) (by rfl) (by assumption) (fun _ _ => by go_simp) ?_
  simp only [Act.put, List.setIfInBounds_toArray, List.set_cons_zero, List.set_cons_succ]
  refine wpAnyH_yield 2 (.slice (some ⟨g, off, none⟩) 0 c) rfl (by kernel_rfl) (by kernel_rfl) (by kernel_rfl) (fun d _ _ _ h => by cases d <;> exact h) (by rfl) (by assumption) (fun _ _ => by go_simp) ?_
  simp only [Act.put, List.setIfInBounds_toArray, List.set_cons_zero, List.set_cons_succ]
  refine wpAnyH_yield 3 (.slice (some ⟨g, off, none⟩) n c) rfl (by kernel_rfl) (by kernel_rfl) (by kernel_rfl) (fun d _ _ _ h => by cases d <;> exact h) (by rfl) (by assumption) (fun _ _ => by go_simp) ?_
  simp only [Act.put, List.setIfInBounds_toArray, List.set_cons_zero, List.set_cons_succ]
  refine wpAnyH_yield 4 (.int .i64 1) rfl (by kernel_rfl) (by kernel_rfl) (by kernel_rfl) (fun d _ _ _ h => by cases d <;> exact h) (by rfl) (by assumption) (fun _ _ => by go_simp) ?_
  simp only [Act.put, List.setIfInBounds_toArray, List.set_cons_zero, List.set_cons_succ]
  refine wpAnyH_yield 5 (.slice (some ad) (n - 1) cp) rfl (by kernel_rfl) (by kernel_rfl) (by kernel_rfl) (fun d _ _ _ h => by cases d <;> exact h) (by rfl) (by assumption) (fun _ _ => by go_simp) ?_
  simp only [Act.put, List.setIfInBounds_toArray, List.set_cons_zero, List.set_cons_succ]
  refine wpAnyH_ready (rs := [6]) (by kernel_rfl) (by simp) (AllReadyH.cons rfl (fun K hK => ?_) AllReadyH.nil)
  refine step_append_run rfl _ _ 37 rfl rfl rfl (fr_moved HH2.out HN.out HM.out cp HA.out _) ?_
  refine hK.out _ _ (trivial) (fun hHeld => ?_)
  clear hK K
  try simp only [Act.put, List.setIfInBounds_toArray]
  have hsh := HM.out
  subst hsh
  have HH3 := Lib.hid (fr_shift (x := x) (by have := HH2.out; rwa [HN.out] at this))
  have HRS3 := Lib.hid (HRS.out.trans (o3 := fun k => k = g) (Rest.cells (own := fun k => k = g) w2 g off (Wk.fitm.flat q) rfl) (fun _ _ => id) (fun _ _ => id))
  clear HH2 HRS hHeld
  generalize w2.setCells _ _ _ = w3 at HH3 HRS3 ⊢
  have hHeld : True := trivial
  refine wpAnyH_yield 7 (.slice (some ⟨g, off, none⟩) q.length c) rfl (by kernel_rfl) (by kernel_rfl) (by kernel_rfl) (fun d _ _ _ h => by cases d <;> exact h) (by rfl) (by assumption) (fun _ _ => by go_simp) ?_
  simp only [Act.put]
  refine wpAnyH_done (by kernel_rfl) ?_ _
  obtain ⟨w4, hcl, h4, hr4⟩ := fr_clear HH3.out (by have := HN.out; have := HR.out; omega)
  have HH4 := Lib.hid h4
  have HR4 := Lib.hid hr4
  clear h4 hr4 hHeld hs1 hs3
  go_wp2_with fail
  go_ret
  exact ⟨rfl, HH4.out, HRS3.out.trans HR4.out (fun _ _ => id) (fun _ _ => id)⟩
end Go.Proofs.Ytgboiejiodgcnaa

/- The contract of a worker's Begin. -/
namespace Go.Proofs.Ytgboiejiodgcnaa
open Go.RowKit Go.Sort

set_option maxRecDepth 10000 in
theorem wkbegin_nil (n : Int) (w : World) : Calls Try.prog 32 #[.pointer none, .int .i64 n] w fun e w' => e = .returned (.bool false) ∧ w = w' := by
  go_enter Try.func32, Try.ntmps32
  go_wp2
  go_ret
  exact ⟨rfl, rfl⟩
set_option maxRecDepth 10000 in
theorem wkbegin_no {P : Nat} {o : Wk.Wo} {L : Option Nat} (n : Int) (ho : o.b = true ∨ o.q = []) (w : World) (h : Wd w P o L) : Calls Try.prog 32 #[.pointer (some ⟨P, 0, none⟩), .int .i64 n] w fun e w' => e = .returned (.bool false) ∧ w = w' := by
  obtain ⟨a, c, hP⟩ := h.shape
  obtain ⟨p0, p1, p2, p14, p15⟩ := wk_cells hP
  clear h hP
  cases hb : o.b with
  | true =>
    rw [hb] at p2
    clear hb ho
    go_enter Try.func32, Try.ntmps32
    go_wp2
    go_ret
    exact ⟨rfl, rfl⟩
  | false =>
    have hq : o.q = [] := by
      rcases ho with e | e
      · rw [hb] at e; cases e
      · exact e
    rw [hb] at p2
    rw [hq] at p1
    simp only [List.length_nil] at p1
    clear hb ho hq
    go_enter Try.func32, Try.ntmps32
    go_wp2
    go_ret
    exact ⟨rfl, rfl⟩

set_option maxRecDepth 10000 in
/-- It does the first one: what its block is then. -/
theorem wk_begun {w : World} {P : Nat} {o : Wk.Wo} {a : Option Addr} {c : Nat} {t : TypeId} (x : Wk.Fr) (h : w.heap[P]? = some (.cells (o.cells a c).toArray t (0, 0))) : ((((((((((((w.setCell ⟨P, 2, none⟩ (.bool true)).setCell ⟨P, 3, none⟩ (.int .i64 x.k)).setCell ⟨P, 4, none⟩ (.int .i64 x.c)).setCell ⟨P, 5, none⟩ (.int .i64 x.s)).setCell ⟨P, 6, none⟩ (.int .i64 x.t)).setCell ⟨P, 7, none⟩ (.int .i64 x.g)).setCell ⟨P, 8, none⟩ (.int .u32 x.a)).setCell ⟨P, 9, none⟩ (.int .i64 x.r)).setCell ⟨P, 10, none⟩ (.bool x.su)).setCell ⟨P, 11, none⟩ (.bool x.st)).setCell ⟨P, 12, none⟩ (.int .i64 x.q)).setCell ⟨P, 13, none⟩ (.int .u32 x.v)).heap[P]? = some (.cells ((⟨o.m, o.q, true, x, o.l, o.n⟩ : Wk.Wo).cells a c).toArray t (0, 0)) ∧ Rest (fun i => i = P) w ((((((((((((w.setCell ⟨P, 2, none⟩ (.bool true)).setCell ⟨P, 3, none⟩ (.int .i64 x.k)).setCell ⟨P, 4, none⟩ (.int .i64 x.c)).setCell ⟨P, 5, none⟩ (.int .i64 x.s)).setCell ⟨P, 6, none⟩ (.int .i64 x.t)).setCell ⟨P, 7, none⟩ (.int .i64 x.g)).setCell ⟨P, 8, none⟩ (.int .u32 x.a)).setCell ⟨P, 9, none⟩ (.int .i64 x.r)).setCell ⟨P, 10, none⟩ (.bool x.su)).setCell ⟨P, 11, none⟩ (.bool x.st)).setCell ⟨P, 12, none⟩ (.int .i64 x.q)).setCell ⟨P, 13, none⟩ (.int .u32 x.v)) :=
  ⟨(heap_setCells_list (o := 2) (vs := .bool true :: x.cells) h (by show 14 ≤ 16; decide)).trans rfl, Rest.cells w P 2 (.bool true :: x.cells) rfl⟩

set_option maxRecDepth 10000 in
set_option maxHeartbeats 2000000 in
theorem wkbegin_yes {P : Nat} {o : Wk.Wo} {L : Option Nat} {x : Wk.Fr} {q : List Wk.Fr} {l' : Int} (n : Int) (hb : o.b = false) (hq : o.q = x :: q) (hql : q.length ≤ 1000) (hl : (x.st = true ∧ IntKind.i64.wrap (o.l + Cr.cut 0 (Cr.cut 1 n)) = l') ∨ (x.st = false ∧ l' = o.l)) (w : World) (h : Wd w P o L) :
    Calls Try.prog 32 #[.pointer (some ⟨P, 0, none⟩), .int .i64 n] w fun e w' => e = .returned (.bool true) ∧ Wd w' P ⟨o.m, q, true, x, l', o.n⟩ L ∧ Rest (fun k => k = P ∨ L = some k) w w' := by
  obtain ⟨a, c, hP, hrow⟩ := h
  rcases hrow with ⟨-, -, -, e⟩ | ⟨g, off, rfl, rfl, hne, hr⟩
  · rw [hq] at e; cases e
  obtain ⟨k, hk⟩ : ∃ k, k = o.q.length := ⟨_, rfl⟩
  have hkq : k = q.length + 1 := by rw [hk, hq]; rfl
  obtain ⟨p0, p1, p2, p14, p15⟩ := wk_cells hP
  obtain ⟨p3, p4, p5, p6, p7, p8, p9, p10, p11, p12, p13⟩ := wk_job hP
  have fz := fun i => frozen_of_row _ _ i _ _ hP
  rw [hb] at p2
  rw [← hk] at p1 hr
  have hx : o.q[0]? = some x := by rw [hq]; rfl
  have y0 := Wk.fitm.cell hr hx 0 (by decide) rfl
  have y1 := Wk.fitm.cell hr hx 1 (by decide) rfl
  have y2 := Wk.fitm.cell hr hx 2 (by decide) rfl
  have y3 := Wk.fitm.cell hr hx 3 (by decide) rfl
  have y4 := Wk.fitm.cell hr hx 4 (by decide) rfl
  have y5 := Wk.fitm.cell hr hx 5 (by decide) rfl
  have y6 := Wk.fitm.cell hr hx 6 (by decide) rfl
  have y7 := Wk.fitm.cell hr hx 7 (by decide) rfl
  have y8 := Wk.fitm.cell hr hx 8 (by decide) rfl
  have y9 := Wk.fitm.cell hr hx 9 (by decide) rfl
  have y10 := Wk.fitm.cell hr hx 10 (by decide) rfl
  simp only [Nat.zero_mul, Nat.add_zero] at y0 y1 y2 y3 y4 y5 y6 y7 y8 y9 y10
  rw [hq] at hr
  have HR := Lib.hid hr
  have HP := Lib.hid hP
  have HK := Lib.hid hkq
  have HN := Lib.hid hne
  have HL := Lib.hid hl
  have HQ := Lib.hid hql
  have HOQ := Lib.hid hq
  have HKO := Lib.hid hk
  have hk0 : ¬(k : Int) = 0 := by omega
  have hk1 : (0 : Int) < (k : Int) := by omega
  have hd0 : decide ((k : Int) = 0) = false := decide_eq_false hk0
  clear hr hP hkq hne hl hql hb hx hq hk
  go_enter Try.func32, Try.ntmps32
  go_upto_region 4 with fail
  obtain ⟨e2, r2⟩ := wk_begun x HP.out
  generalize World.setCell _ ⟨P, 13, none⟩ _ = w2 at e2 r2 ⊢
  have hr2 := HR.out.kept (r2.block _ HR.out.lt HN.out)
  clear p0 p1 p2 p3 p4 p5 p6 p7 p8 p9 p10 p11 p12 p13 p14 p15 y0 y1 y2 y3 y4 y5 y6 y7 y8 y9 y10 fz hk0 hk1 hd0
  obtain ⟨p0, p1, p2, p14, p15⟩ := wk_cells e2
  dsimp only at p1
  rw [← HKO.out] at p1
  have HR2 := Lib.hid hr2
  have HE2 := Lib.hid e2
  have HS2 := Lib.hid r2
  clear hr2 e2 r2 HR HP
  go_wp2_with fail
  refine (frdel_first HK.out (by have := HK.out; have := HQ.out; omega) w2 HR2.out).mono ?_
  rintro e w3 ⟨rfl, h3, r3⟩
  dsimp only
  have e3 := (r3.block P (lt_of_block HE2.out) (Ne.symm HN.out)).trans HE2.out
  have HR3 := Lib.hid h3
  have HE3 := Lib.hid e3
  have HS3 := Lib.hid (HS2.out.trans (o3 := fun i => i = P ∨ some g = some i) r3 (fun _ _ => .inl) (fun _ _ e => .inr (by rw [e])))
  clear h3 r3 e3 HR2 HE2 HS2 p0 p1 p2 p14 p15
  obtain ⟨p0, p1, p2, p14, p15⟩ := wk_cells HE3.out
  have fz := fun i => frozen_of_row _ _ i _ _ HE3.out
  go_upto_region 5 with fail
  have e4 : (w3.setCell ⟨P, 1, none⟩ (.slice (some ⟨g, off, none⟩) q.length c)).heap[P]? = some (.cells ((⟨o.m, q, true, x, o.l, o.n⟩ : Wk.Wo).cells (some ⟨g, off, none⟩) c).toArray 68 (0, 0)) := heap_setCell_same _ P 1 _ _ _ HE3.out
  have h4 := HR3.out.kept (w' := w3.setCell ⟨P, 1, none⟩ (.slice (some ⟨g, off, none⟩) q.length c)) (heap_setCell_other _ _ _ _ HN.out)
  have r4 := HS3.out.trans (o3 := fun i => i = P ∨ some g = some i) (Rest.setCell (own := fun i => i = P ∨ some g = some i) w3 ⟨P, 1, none⟩ (.slice (some ⟨g, off, none⟩) q.length c) (.inl rfl)) (fun _ _ => id) (fun _ _ => id)
  generalize w3.setCell _ _ = w4 at e4 h4 r4 ⊢
  clear p0 p1 p2 p14 p15 fz HR3 HE3 HS3
  have HE4 := Lib.hid e4
  have HR4 := Lib.hid h4
  have HS4 := Lib.hid r4
  clear e4 h4 r4
  have p11 := (wk_job HE4.out).2.2.2.2.2.2.2.2.1
  dsimp only at p11
  rcases HL.out with ⟨hst, hl⟩ | ⟨hst, hl⟩
  · rw [hst] at p11
    have HST := Lib.hid hst
    have HLL := Lib.hid hl
    clear hst hl
    go_upto_region 6 with fail
    clear p11
    refine wp_region_Z_drew 10 (S := fun w' => w'.heap[P]? = some (.cells ((⟨o.m, q, true, x, o.l, o.n⟩ : Wk.Wo).cells (some ⟨g, off, none⟩) c).toArray 68 (0, 0))) (by kernel_rfl) HE4.out (fun hHeld => ?_)
    have HR5 : Hid (RowK w4.drew 0 29 11 g off q.length c (Wk.fitm.flat q)) := Lib.hid (HR4.out.kept rfl)
    have HS5 := Lib.hid (HS4.out.trans (o3 := fun i => i = P ∨ some g = some i) (Rest.drew (fun _ => False) w4) (fun _ _ => id) (fun _ _ => False.elim))
    clear HR4 HS4 HE4
    generalize w4.drew = w5 at HR5 HS5 hHeld ⊢
    refine wpAnyZ_yield 0 (.pointer (some ⟨P, 0, none⟩)) rfl (by kernel_rfl) (by kernel_rfl) (by kernel_rfl) (fun d _ _ _ h => by cases d <;> exact h) (by rfl) (by assumption) (fun _ _ => by go_simp) ?_
    simp only [Act.put, List.setIfInBounds_toArray, List.set_cons_zero, List.set_cons_succ]
    refine wpAnyZ_yield 1 (.pointer (some ⟨P, 0, none⟩)) rfl (by kernel_rfl) (by kernel_rfl) (by kernel_rfl) (fun d _ _ _ h => by cases d <;> exact h) (by rfl) (by assumption) (fun _ _ => by go_simp) ?_
    simp only [Act.put, List.setIfInBounds_toArray, List.set_cons_zero, List.set_cons_succ]
    refine wpAnyZ_yield 2 (.pointer (some ⟨P, 0, none⟩)) rfl (by kernel_rfl) (by kernel_rfl) (by kernel_rfl) (fun d _ _ _ h => by cases d <;> exact h) (by rfl) (by assumption) (fun _ _ => by go_simp) ?_
    simp only [Act.put, List.setIfInBounds_toArray, List.set_cons_zero, List.set_cons_succ]
    refine wpAnyZ_yield 3 (.pointer (some ⟨P, 14, none⟩)) rfl (by kernel_rfl) (by kernel_rfl) (by kernel_rfl) (fun d _ _ _ h => by cases d <;> exact h) (by rfl) (by assumption) (fun _ _ => by go_simp) ?_
    simp only [Act.put, List.setIfInBounds_toArray, List.set_cons_zero, List.set_cons_succ]
    refine wpAnyZ_yield 4 (.agg #[.int .i64 o.l, .int .i64 o.n]) rfl (by kernel_rfl) (by kernel_rfl) (by kernel_rfl) (fun d _ _ _ h => by cases d <;> exact h) (by rfl) (by assumption) (fun _ hSw => by have p14 := (wk_cells hSw).2.2.2.1; have p15 := (wk_cells hSw).2.2.2.2; dsimp only at p14 p15; go_simp) ?_
    simp only [Act.put, List.setIfInBounds_toArray, List.set_cons_zero, List.set_cons_succ]
    refine wpAnyZ_yield 5 (.int .i64 n) rfl (by kernel_rfl) (by kernel_rfl) (by kernel_rfl) (fun d _ _ _ h => by cases d <;> exact h) (by rfl) (by assumption) (fun _ _ => by go_simp) ?_
    simp only [Act.put, List.setIfInBounds_toArray, List.set_cons_zero, List.set_cons_succ]
    refine wpAnyZ_ready (rs := [6]) (by kernel_rfl) (by simp) (AllReadyZ.cons rfl (fun K hK => ?_) AllReadyZ.nil)
    go_simp
    go_at_call 50
    refine (crwin_any n _).mono ?_
    rintro e w6 ⟨rfl, rfl⟩
    refine hK.out _ _ (fun _ => hHeld) (fun hZ => ?_)
    have hHeld := hZ (by decide)
    clear hK K hZ
    try simp only [Act.put, List.setIfInBounds_toArray, List.set_cons_zero, List.set_cons_succ]
    refine wpAnyZ_ready (rs := [7]) (by kernel_rfl) (by simp) (AllReadyZ.cons rfl (fun K hK => ?_) AllReadyZ.nil)
    go_simp
    go_at_call 48
    refine (crmore_any (L := o.l) (S := o.n) HLL.out w5).mono ?_
    rintro e w6 ⟨rfl, hb⟩
    have h6 := keep hHeld hb
    have HR6 := Lib.hid (HR5.out.kept (hb.block _ HR5.out.lt))
    have HS6 := Lib.hid (HS5.out.trans (o3 := fun i => i = P ∨ some g = some i) (Rest.of_below (own := fun _ => False) hb) (fun _ _ => id) (fun _ _ => False.elim))
    clear hb hHeld HR5 HS5
    refine hK.out _ _ (fun _ => h6) (fun hZ => ?_)
    have hHeld := hZ (by decide)
    clear hK K hZ
    try simp only [Act.put, List.setIfInBounds_toArray, List.set_cons_zero, List.set_cons_succ]
    clear h6
    refine wpAnyZ_ready (rs := [8]) (by kernel_rfl) (by simp) (AllReadyZ.cons rfl (fun K hK => ?_) AllReadyZ.nil)
    go_simp
    refine hK.out _ _ (fun _ => hHeld) (fun hZ => ?_)
    have hHeld := hZ (by decide)
    clear hK K hZ
    try simp only [Act.put, List.setIfInBounds_toArray, List.set_cons_zero, List.set_cons_succ]
    refine wpAnyZ_yield 9 (.pointer (some ⟨P, 14, none⟩)) rfl (by kernel_rfl) (by kernel_rfl) (by kernel_rfl) (fun d _ _ _ h => by cases d <;> exact h) (by rfl) (by assumption) (fun _ _ => by go_simp) ?_
    simp only [Act.put, List.setIfInBounds_toArray, List.set_cons_zero, List.set_cons_succ]
    have HE6 := Lib.hid hHeld
    obtain ⟨p0, p1, p2, p14, p15⟩ := wk_cells hHeld
    have fz := fun i => frozen_of_row _ _ i _ _ hHeld
    refine wpAnyZ_ready (rs := [10]) (by kernel_rfl) (by simp) (AllReadyZ.cons rfl (fun K hK => ?_) AllReadyZ.nil)
    go_simp
    refine hK.out _ _ (fun h => absurd rfl h) (fun _ => ?_)
    clear hK K
    try simp only [Act.put, List.setIfInBounds_toArray, List.set_cons_zero, List.set_cons_succ]
    clear p0 p1 p2 p14 p15 fz hHeld
    refine wpAnyZ_done (by kernel_rfl) ?_ _
    go_wp2_with fail
    go_ret
    refine ⟨rfl, ⟨some ⟨g, off, none⟩, c, heap_setCell_same _ P 15 _ _ _ (heap_setCell_same _ P 14 _ _ _ HE6.out), .inr ⟨g, off, rfl, rfl, HN.out, HR6.out.kept ((heap_setCell_other _ _ _ _ HN.out).trans (heap_setCell_other _ _ _ _ HN.out))⟩⟩, ?_⟩
    exact (HS6.out.trans (o3 := fun i => i = P ∨ some g = some i) (Rest.setCell (own := fun i => i = P) _ _ _ rfl) (fun _ _ => id) (fun _ _ => .inl)).trans (Rest.setCell (own := fun i => i = P) _ _ _ rfl) (fun _ _ => id) (fun _ _ => .inl)
  · rw [hst] at p11
    have HLL := Lib.hid hl
    clear hst hl
    go_wp2_with fail
    go_ret
    refine ⟨rfl, ?_, HS4.out⟩
    rw [HLL.out]
    exact ⟨_, _, HE4.out, .inr ⟨g, off, rfl, rfl, HN.out, HR4.out⟩⟩
end Go.Proofs.Ytgboiejiodgcnaa

/- The contracts of a worker's chunk where it may send one, of does and Credit. -/
namespace Go.Proofs.Ytgboiejiodgcnaa
open Go.RowKit Go.Sort

namespace Wk
/-- The n-th chunk of a stream. -/
def ch (m x n : Int) : Int := if n < 0 then 0 else if m = 4 then (x + n) % 4294967296 else if m = 5 then Hn.pw x n.toNat else 0
end Wk
set_option maxRecDepth 10000 in
theorem wkch_any (m x n : Int) (hn : n ≤ 9223372036854775807) (w : World) : Calls Try.prog 66 #[.int .i64 m, .int .u32 x, .int .i64 n] w fun e w' => e = .returned (.int .u32 (Wk.ch m x n)) ∧ w = w' := by
  unfold Wk.ch
  by_cases h0 : n < 0
  · rw [if_pos h0]
    exact hnchunk_below m x n h0 w
  · rw [if_neg h0]
    by_cases h4 : m = 4
    · subst h4
      rw [if_pos rfl]
      exact hnchunk_count x n (by omega) w
    · rw [if_neg h4]
      by_cases h5 : m = 5
      · subst h5
        rw [if_pos rfl]
        obtain ⟨k, rfl⟩ : ∃ k : Nat, n = k := ⟨n.toNat, by omega⟩
        exact hnchunk_power x k hn w
      · rw [if_neg h5]
        exact hnchunk_no ⟨h4, h5⟩ x n w

set_option maxRecDepth 10000 in
set_option maxHeartbeats 2000000 in
/-- chunk, where it may send one. -/
theorem wkchunk_yes {P : Nat} {o : Wk.Wo} {L : Option Nat} {l' n' : Int} (hn : o.n < 65535) (h0 : o.l ≠ 0) (hl : IntKind.i64.wrap (o.l - 1) = l') (hs : IntKind.i64.wrap (o.n + 1) = n') (w : World) (h : Wd w P o L) : Calls Try.prog 53 #[.pointer (some ⟨P, 0, none⟩)] w fun e w' => e = .returned (.tuple #[.agg #[.int .i64 3, .int .i64 o.j.c, .int .i64 o.j.s, .int .i64 o.j.t, .int .i64 o.j.g, .int .u32 o.j.a, .int .i64 o.j.r, .bool o.j.su, .bool o.j.st, .int .i64 o.n, .int .u32 (Wk.ch o.j.q o.j.v o.n)], .bool true]) ∧ Wd w' P { o with l := l', n := n' } L ∧ Rest (fun k => k = P) w w' := by
  have H := Lib.hid ((Upon.start (fun k => k = P) w).lay (.cells #[.int .i64 0, .int .i64 0, .int .i64 0, .int .i64 0, .int .i64 0, .int .u32 0, .int .i64 0, .bool false, .bool false, .int .i64 0, .int .u32 0] 29))
  have HW := Lib.hid (h.call (below_box w (.cells #[.int .i64 0, .int .i64 0, .int .i64 0, .int .i64 0, .int .i64 0, .int .u32 0, .int .i64 0, .bool false, .bool false, .int .i64 0, .int .u32 0] 29)))
  have hPA := Lib.hid (Nat.ne_of_lt h.lt)
  have hLA : Hid (∀ g, L = some g → g ≠ w.heap.size) := Lib.hid fun g e => Nat.ne_of_lt (h.row e).1
  have hd : decide ((65535 : Int) ≤ o.n) = false := decide_eq_false (by omega)
  have HL0 := Lib.hid h0
  have HL := Lib.hid hl
  have HS := Lib.hid hs
  have hC := fun w => wkch_any o.j.q o.j.v o.n (by omega) w
  clear h h0 hl hs hn
  generalize Wk.ch o.j.q o.j.v o.n = y at hC ⊢
  go_enter Try.func53, Try.ntmps53
  go_upto_region 1 with fail
  generalize w.alloc _ = w1 at HW H ⊢
  generalize w.heap.size = bA at H hPA hLA ⊢
  obtain ⟨a, c, hP⟩ := HW.out.shape
  obtain ⟨p0, p1, p2, p14, p15⟩ := wk_cells hP
  clear hP
  go_wp2_with fail
  refine (crsent_any (L := o.l) (S := o.n) w1).mono ?_
  rintro e w2 ⟨rfl, hb⟩
  dsimp only
  have H2 := Lib.hid (H.out.call hb)
  have HW2 := Lib.hid (HW.out.call hb)
  clear hb H HW p0 p1 p2 p14 p15
  obtain ⟨a, c, hP⟩ := HW2.out.shape
  obtain ⟨p0, p1, p2, p14, p15⟩ := wk_cells hP
  clear hP
  go_wp2_with fail
  refine (crsend_yes HL0.out HL.out HS.out w2).mono ?_
  rintro e w3 ⟨rfl, hb⟩
  dsimp only
  have H3 := Lib.hid (H2.out.call hb)
  have HW3 := Lib.hid (HW2.out.call hb)
  clear hb H2 HW2 p0 p1 p2 p14 p15
  go_upto_region 4 with fail
  have H4 := Lib.hid (H3.out.lay (.cells #[.int .i64 l', .int .i64 n'] 66))
  have HW4 := Lib.hid (HW3.out.call (below_box w3 (.cells #[.int .i64 l', .int .i64 n'] 66)))
  have hPS := Lib.hid (Nat.ne_of_lt HW3.out.lt)
  generalize w3.alloc _ = w4 at H4 HW4 ⊢
  generalize w3.heap.size = bS at H4 hPS ⊢
  clear H3 HW3
  obtain ⟨a, c, hP⟩ := HW4.out.shape
  obtain ⟨p0, p1, p2, p14, p15⟩ := wk_cells hP
  have fz := fun i => frozen_of_row _ _ i _ _ hP
  obtain ⟨s0, s1⟩ := two_cells (H4.out.get 0 rfl)
  have HP4 := Lib.hid hP
  clear hP
  go_upto_region 7 with fail
  have e5 : ((w4.setCell ⟨P, 14, none⟩ (.int .i64 l')).setCell ⟨P, 15, none⟩ (.int .i64 n')).heap[P]? = some (.cells (({ o with l := l', n := n' } : Wk.Wo).cells a c).toArray 68 (0, 0)) := heap_setCell_same _ P 15 _ _ _ (heap_setCell_same _ P 14 _ _ _ HP4.out)
  have r5 : Rest (fun k => k = P) w4 ((w4.setCell ⟨P, 14, none⟩ (.int .i64 l')).setCell ⟨P, 15, none⟩ (.int .i64 n')) := (Rest.setCell (own := fun k => k = P) _ _ _ rfl).trans (Rest.setCell (own := fun k => k = P) _ _ _ rfl) (fun _ _ => id) (fun _ _ => id)
  have H5 := Lib.hid (H4.out.wrote r5 (fun p hp => by simp only [List.mem_cons, List.not_mem_nil, or_false] at hp; rcases hp with rfl | rfl <;> first | exact Ne.symm hPS.out | exact Ne.symm hPA.out))
  have HW5 := Lib.hid (HW4.out.anew HP4.out r5 (o' := { o with l := l', n := n' }) rfl e5)
  have HE5 := Lib.hid e5
  clear e5 r5 p0 p1 p2 p14 p15 fz s0 s1 H4 HW4 HP4
  generalize (w4.setCell _ _).setCell _ _ = w5 at H5 HW5 HE5 ⊢
  go_wp2_with fail
  refine wp_region_held_drew (S := fun w' => w'.heap[P]? = some (.cells (({ o with l := l', n := n' } : Wk.Wo).cells a c).toArray 68 (0, 0))) (by kernel_rfl) HE5.out (fun hHeld => ?_)
  have H6 := Lib.hid H5.out.drew
  have HW6 := Lib.hid HW5.out.drew
  clear H5 HW5 HE5
  generalize w5.drew = w6 at H6 HW6 hHeld ⊢
  refine wpAnyH_yield 0 (.pointer (some ⟨P, 0, none⟩)) rfl (by kernel_rfl) (by kernel_rfl) (by kernel_rfl) (fun d _ _ _ h => by cases d <;> exact h) (by rfl) (by assumption) (fun _ _ => by go_simp) ?_
  simp only [Act.put, List.setIfInBounds_toArray, List.set_cons_zero, List.set_cons_succ]
  refine wpAnyH_yield 1 (.int .i64 o.n) rfl (by kernel_rfl) (by kernel_rfl) (by kernel_rfl) (fun d _ _ _ h => by cases d <;> exact h) (by rfl) (by assumption) (fun _ _ => by go_simp) ?_
  simp only [Act.put, List.setIfInBounds_toArray, List.set_cons_zero, List.set_cons_succ]
  refine wpAnyH_yield 2 (.pointer (some ⟨P, 0, none⟩)) rfl (by kernel_rfl) (by kernel_rfl) (by kernel_rfl) (fun d _ _ _ h => by cases d <;> exact h) (by rfl) (by assumption) (fun _ _ => by go_simp) ?_
  simp only [Act.put, List.setIfInBounds_toArray, List.set_cons_zero, List.set_cons_succ]
  refine wpAnyH_yield 3 (.pointer (some ⟨P, 0, none⟩)) rfl (by kernel_rfl) (by kernel_rfl) (by kernel_rfl) (fun d _ _ _ h => by cases d <;> exact h) (by rfl) (by assumption) (fun _ _ => by go_simp) ?_
  simp only [Act.put, List.setIfInBounds_toArray, List.set_cons_zero, List.set_cons_succ]
  refine wpAnyH_yield 4 (.pointer (some ⟨P, 3, none⟩)) rfl (by kernel_rfl) (by kernel_rfl) (by kernel_rfl) (fun d _ _ _ h => by cases d <;> exact h) (by rfl) (by assumption) (fun _ _ => by go_simp) ?_
  simp only [Act.put, List.setIfInBounds_toArray, List.set_cons_zero, List.set_cons_succ]
  refine wpAnyH_yield 5 (.pointer (some ⟨P, 12, none⟩)) rfl (by kernel_rfl) (by kernel_rfl) (by kernel_rfl) (fun d _ _ _ h => by cases d <;> exact h) (by rfl) (by assumption) (fun _ _ => by go_simp) ?_
  simp only [Act.put, List.setIfInBounds_toArray, List.set_cons_zero, List.set_cons_succ]
  refine wpAnyH_yield 6 (.int .i64 o.j.q) rfl (by kernel_rfl) (by kernel_rfl) (by kernel_rfl) (fun d _ _ _ h => by cases d <;> exact h) (by rfl) (by assumption) (fun _ hSw => by have p12 := (wk_job hSw).2.2.2.2.2.2.2.2.2.1; dsimp only at p12; go_simp) ?_
  simp only [Act.put, List.setIfInBounds_toArray, List.set_cons_zero, List.set_cons_succ]
  refine wpAnyH_yield 7 (.pointer (some ⟨P, 0, none⟩)) rfl (by kernel_rfl) (by kernel_rfl) (by kernel_rfl) (fun d _ _ _ h => by cases d <;> exact h) (by rfl) (by assumption) (fun _ _ => by go_simp) ?_
  simp only [Act.put, List.setIfInBounds_toArray, List.set_cons_zero, List.set_cons_succ]
  refine wpAnyH_yield 8 (.pointer (some ⟨P, 0, none⟩)) rfl (by kernel_rfl) (by kernel_rfl) (by kernel_rfl) (fun d _ _ _ h => by cases d <;> exact h) (by rfl) (by assumption) (fun _ _ => by go_simp) ?_
  simp only [Act.put, List.setIfInBounds_toArray, List.set_cons_zero, List.set_cons_succ]
  refine wpAnyH_yield 9 (.pointer (some ⟨P, 3, none⟩)) rfl (by kernel_rfl) (by kernel_rfl) (by kernel_rfl) (fun d _ _ _ h => by cases d <;> exact h) (by rfl) (by assumption) (fun _ _ => by go_simp) ?_
  simp only [Act.put, List.setIfInBounds_toArray, List.set_cons_zero, List.set_cons_succ]
  refine wpAnyH_yield 10 (.pointer (some ⟨P, 13, none⟩)) rfl (by kernel_rfl) (by kernel_rfl) (by kernel_rfl) (fun d _ _ _ h => by cases d <;> exact h) (by rfl) (by assumption) (fun _ _ => by go_simp) ?_
  simp only [Act.put, List.setIfInBounds_toArray, List.set_cons_zero, List.set_cons_succ]
  refine wpAnyH_yield 11 (.int .u32 o.j.v) rfl (by kernel_rfl) (by kernel_rfl) (by kernel_rfl) (fun d _ _ _ h => by cases d <;> exact h) (by rfl) (by assumption) (fun _ hSw => by have p13 := (wk_job hSw).2.2.2.2.2.2.2.2.2.2; dsimp only at p13; go_simp) ?_
  simp only [Act.put, List.setIfInBounds_toArray, List.set_cons_zero, List.set_cons_succ]
  refine wpAnyH_yield 12 (.int .i64 o.n) rfl (by kernel_rfl) (by kernel_rfl) (by kernel_rfl) (fun d _ _ _ h => by cases d <;> exact h) (by rfl) (by assumption) (fun _ _ => by go_simp) ?_
  simp only [Act.put, List.setIfInBounds_toArray, List.set_cons_zero, List.set_cons_succ]
  refine wpAnyH_ready (rs := [13]) (by kernel_rfl) (by simp) (AllReadyH.cons rfl (fun K hK => ?_) AllReadyH.nil)
  go_simp
  go_at_call 66
  refine (hC _).mono ?_
  rintro e w7 ⟨rfl, rfl⟩
  refine hK.out _ _ (hHeld) (fun hHeld => ?_)
  clear hK K
  try simp only [Act.put, List.setIfInBounds_toArray, List.set_cons_zero, List.set_cons_succ]
  refine wpAnyH_ready (rs := [14]) (by kernel_rfl) (by simp) (AllReadyH.cons rfl (fun K hK => ?_) AllReadyH.nil)
  go_simp
  go_at_call 62
  refine (wkanswer_any 3 o.n y w6 HW6.out).mono ?_
  rintro e w7 ⟨rfl, hb⟩
  have h7 := keep hHeld hb
  have H7 := Lib.hid (H6.out.call hb)
  have HW7 := Lib.hid (HW6.out.call hb)
  clear hb H6 HW6 hHeld
  refine hK.out _ _ (h7) (fun hHeld => ?_)
  clear hK K

  have hA := fr_over (o.j.ans 3 o.n y) (H7.out.get 1 rfl) rfl
  have hth : w7.there bA 0 11 := there_of_box (cs := Wk.zero.cells) (H7.out.get 1 rfl) rfl
  have hR := Rest.cells (own := fun k => k = bA) w7 bA 0 (o.j.ans 3 o.n y).cells rfl
  have hS := (hR.block P (lt_of_block h7) hPA.out).trans h7
  have HA := Lib.hid hA
  have H8 := Lib.hid (H7.out.put1 hR hA)
  have HW8 := Lib.hid (HW7.out.kept hR hPA.out hLA.out)
  clear hR h7 hHeld HW7 H7 hA
  refine wpAnyH_ready (rs := [15]) (by kernel_rfl) (by simp) (AllReadyH.cons rfl (fun K hK => ?_) AllReadyH.nil)
  refine step_store_mid Try.bigFrame rfl (.tmp 2) (.tmp 44) rfl rfl (cs := (o.j.ans 3 o.n y).cells) rfl rfl (Wk.fitm.one (o.j.ans 3 o.n y)) hth ?_
  refine hK.out _ _ (hS) (fun hHeld => ?_)
  clear hK K
  try simp only [Act.put, List.setIfInBounds_toArray]
  clear hS hth
  generalize w7.setCells _ _ _ = w8 at H8 HW8 HA hHeld ⊢
  refine wpAnyH_yield 16 (.bool true) rfl (by kernel_rfl) (by kernel_rfl) (by kernel_rfl) (fun d _ _ _ h => by cases d <;> exact h) (by rfl) (by assumption) (fun _ _ => by go_simp) ?_
  simp only [Act.put]
  refine wpAnyH_done (by kernel_rfl) ?_ _
  clear hHeld
  go_wp2_with fail
  exact bodyPost_ret (results_row_tmp Try.results53 _ _ bA 29 _ (0, 0) _ rfl HA.out Try.underlying29 rfl Try.bigFrame.size) rfl ⟨rfl, HW8.out, H8.out.rest⟩
end Go.Proofs.Ytgboiejiodgcnaa

/- The contracts of a worker's Step where it sends a chunk, of does and Credit. -/
namespace Go.Proofs.Ytgboiejiodgcnaa
open Go.RowKit Go.Sort

set_option maxRecDepth 10000 in
set_option maxHeartbeats 1000000 in
/-- A chunk that it may send. -/
theorem wkstep_chunk {P : Nat} {o : Wk.Wo} {L : Option Nat} {l' n' : Int} (hb : o.b = true) (hn : o.n < 65535) (h0 : o.l ≠ 0) (hl : IntKind.i64.wrap (o.l - 1) = l') (hs : IntKind.i64.wrap (o.n + 1) = n') (s : Int) (w : World) (h : Wd w P o L) : Calls Try.prog 33 #[.pointer (some ⟨P, 0, none⟩), .int .i64 3, .int .u32 s] w fun e w' => e = .returned (.tuple #[.agg #[.int .i64 3, .int .i64 o.j.c, .int .i64 o.j.s, .int .i64 o.j.t, .int .i64 o.j.g, .int .u32 o.j.a, .int .i64 o.j.r, .bool o.j.su, .bool o.j.st, .int .i64 o.n, .int .u32 (Wk.ch o.j.q o.j.v o.n)], .int .u32 s, .bool true]) ∧ Wd w' P { o with l := l', n := n' } L ∧ Rest (fun k => k = P) w w' := by
  have H := Lib.hid ((Upon.start (fun k => k = P) w).lay (.cells #[.int .i64 0, .int .i64 0, .int .i64 0, .int .i64 0, .int .i64 0, .int .u32 0, .int .i64 0, .bool false, .bool false, .int .i64 0, .int .u32 0] 29))
  have HW := Lib.hid (h.call (below_box w (.cells #[.int .i64 0, .int .i64 0, .int .i64 0, .int .i64 0, .int .i64 0, .int .u32 0, .int .i64 0, .bool false, .bool false, .int .i64 0, .int .u32 0] 29)))
  have hPA := Lib.hid (Nat.ne_of_lt h.lt)
  have hLA : Hid (∀ g, L = some g → g ≠ w.heap.size) := Lib.hid fun g e => Nat.ne_of_lt (h.row e).1
  have hC := fun w h => wkchunk_yes (P := P) (o := o) (L := L) hn h0 hl hs w h
  clear h hn h0 hl hs
  generalize Wk.ch o.j.q o.j.v o.n = y at hC ⊢
  go_enter Try.func33, Try.ntmps33
  go_upto_region 1 with fail
  generalize w.alloc _ = w1 at HW H ⊢
  generalize w.heap.size = bA at H hPA hLA ⊢
  obtain ⟨a, c, hP⟩ := HW.out.shape
  obtain ⟨p0, p1, p2, p14, p15⟩ := wk_cells hP
  rw [hb] at p2
  clear hP
  have HC := Lib.hid hC
  clear hC
  go_wp2_with fail
  refine (HC.out w1 HW.out).mono ?_
  rintro e w2 ⟨rfl, hw2, hr2⟩
  dsimp only
  have H2 := Lib.hid (H.out.wrote hr2 (fun p hp => by simp only [List.mem_cons, List.not_mem_nil, or_false] at hp; subst hp; exact Ne.symm hPA.out))
  have HW2 := Lib.hid hw2
  clear hw2 hr2 H HW HC p0 p1 p2 p14 p15
  go_upto_region 14 with fail
  have H3 := Lib.hid (H2.out.lay (.cells #[.int .i64 3, .int .i64 o.j.c, .int .i64 o.j.s, .int .i64 o.j.t, .int .i64 o.j.g, .int .u32 o.j.a, .int .i64 o.j.r, .bool o.j.su, .bool o.j.st, .int .i64 o.n, .int .u32 y] 29))
  have HW3 := Lib.hid (HW2.out.call (below_box w2 (.cells #[.int .i64 3, .int .i64 o.j.c, .int .i64 o.j.s, .int .i64 o.j.t, .int .i64 o.j.g, .int .u32 o.j.a, .int .i64 o.j.r, .bool o.j.su, .bool o.j.st, .int .i64 o.n, .int .u32 y] 29)))
  generalize w2.alloc _ = w3 at H3 HW3 ⊢
  generalize w2.heap.size = bF at H3 ⊢
  clear H2 HW2
  obtain ⟨f0, f1, f2, f3, f4, f5, f6, f7, f8, f9, f10⟩ := frame_cells (H3.out.get 0 rfl)
  obtain ⟨g0, g1, g2, g3, g4, g5, g6, g7, g8, g9, g10⟩ := frame_cells (H3.out.get 1 rfl)
  have fz := fun i => frozen_of_row _ _ i _ _ (H3.out.get 1 rfl)
  go_wp2_with fail
  have hA := fr_over (o.j.ans 3 o.n y) (H3.out.get 1 rfl) rfl
  have hRA := Rest.cells (own := fun k => k = bA) w3 bA 0 (o.j.ans 3 o.n y).cells rfl
  have H5 := H3.out.put1 hRA hA
  exact bodyPost_ret (results_row_tmp2 Try.results33 _ _ bA 29 _ (0, 0) _ rfl hA Try.underlying29 rfl Try.bigFrame.size) rfl ⟨rfl, HW3.out.kept hRA hPA.out hLA.out, H5.rest⟩

set_option maxRecDepth 10000 in
theorem turn_eq (a b c d a' b' c' d' : Int) (w : World) : (binOp .eql 75 (.agg #[.int .i64 a, .int .i64 b, .int .i64 c, .int .u32 d]) (.agg #[.int .i64 a', .int .i64 b', .int .i64 c', .int .u32 d'])).run Try.prog w = .ok (.bool (decide (a = a' ∧ b = b' ∧ c = c' ∧ d = d'))) w := by
  go_simp
  by_cases h : a = a' <;> by_cases k : b = b' <;> by_cases l : c = c' <;> by_cases m : d = d' <;> simp [h, k, l, m]
namespace Wk
/-- It is of this call's turn. -/
def Fr.of (f : Fr) (c t g a : Int) : Bool := decide (f.c = c ∧ f.t = t ∧ f.g = g ∧ f.a = a)
/-- It does something of this call's turn. -/
def Wo.does (o : Wo) (c t g a : Int) : Bool := o.b && o.j.of c t g a
end Wk
set_option maxRecDepth 10000 in
/-- does. -/
theorem wkdoes_nil (c t g a : Int) (w : World) : Calls Try.prog 44 #[.pointer none, .agg #[.int .i64 c, .int .i64 t, .int .i64 g, .int .u32 a]] w fun e w' => e = .returned (.bool false) ∧ Below w.heap.size w w' := by
  have H := Lib.hid ((Upon.start (fun _ => False) w).lay (.cells #[.int .i64 c, .int .i64 t, .int .i64 g, .int .u32 a] 75))
  go_enter Try.func44, Try.ntmps44
  go_upto_region 1 with fail
  generalize w.alloc _ = w1 at H ⊢
  generalize w.heap.size = bT at H ⊢
  go_quiet (fail)
  have H2 := Lib.hid (H.out.drewN nq)
  go_wp2_with fail
  go_ret
  exact ⟨rfl, H2.out.below (fun _ => id)⟩
set_option maxRecDepth 10000 in
set_option maxHeartbeats 1000000 in
theorem wkdoes_any {P : Nat} {o : Wk.Wo} {L : Option Nat} (c t g a : Int) (w : World) (h : Wd w P o L) : Calls Try.prog 44 #[.pointer (some ⟨P, 0, none⟩), .agg #[.int .i64 c, .int .i64 t, .int .i64 g, .int .u32 a]] w fun e w' => e = .returned (.bool (o.does c t g a)) ∧ Below w.heap.size w w' := by
  have H := Lib.hid ((Upon.start (fun _ => False) w).lay (.cells #[.int .i64 c, .int .i64 t, .int .i64 g, .int .u32 a] 75))
  have HW := Lib.hid (h.call (H.out.below (fun _ => id)))
  clear h
  unfold Wk.Wo.does
  cases hb : o.b with
  | false =>
    simp only [Bool.false_and]
    go_enter Try.func44, Try.ntmps44
    go_upto_region 1 with fail
    generalize w.alloc _ = w1 at HW H ⊢
    generalize w.heap.size = bT at H ⊢
    obtain ⟨sa, sc, hP⟩ := HW.out.shape
    have p2 := (wk_cells hP).2.2.1
    rw [hb] at p2
    clear hP hb
    go_quiet (fail)
    have H2 := Lib.hid (H.out.drewN nq)
    go_wp2_with fail
    go_ret
    exact ⟨rfl, H2.out.below (fun _ => id)⟩
  | true =>
    simp only [Bool.true_and]
    have heq := fun w => turn_eq o.j.c o.j.t o.j.g o.j.a c t g a w
    rw [show decide (o.j.c = c ∧ o.j.t = t ∧ o.j.g = g ∧ o.j.a = a) = o.j.of c t g a from rfl] at heq
    generalize o.j.of c t g a = d at heq ⊢
    go_enter Try.func44, Try.ntmps44
    go_upto_region 1 with fail
    generalize w.alloc _ = w1 at HW H ⊢
    generalize w.heap.size = bT at H ⊢
    obtain ⟨sa, sc, hP⟩ := HW.out.shape
    have p2 := cell_regrown (wk_cells hP).2.2.1
    rw [hb] at p2
    obtain ⟨q3, q4, q5, q6, q7, q8, q9, q10, q11, q12, q13⟩ := wk_job hP
    have p3 := cell_regrown q3
    have p4 := cell_regrown q4
    have p5 := cell_regrown q5
    have p6 := cell_regrown q6
    have p7 := cell_regrown q7
    have p8 := cell_regrown q8
    have p9 := cell_regrown q9
    have p10 := cell_regrown q10
    have p11 := cell_regrown q11
    have p12 := cell_regrown q12
    have p13 := cell_regrown q13
    have tb := H.out.get 0 rfl
    have t0 := cell_regrown (cell_of_row _ _ 0 _ _ _ tb)
    have t1 := cell_regrown (cell_of_row _ _ 1 _ _ _ tb)
    have t2 := cell_regrown (cell_of_row _ _ 2 _ _ _ tb)
    have t3 := cell_regrown (cell_of_row _ _ 3 _ _ _ tb)
    have cO : ∀ d os, Calls Try.prog 43 #[.agg #[.int .i64 o.j.k, .int .i64 o.j.c, .int .i64 o.j.s, .int .i64 o.j.t, .int .i64 o.j.g, .int .u32 o.j.a, .int .i64 o.j.r, .bool o.j.su, .bool o.j.st, .int .i64 o.j.q, .int .u32 o.j.v]] (grow (redrawn w1 d) os) fun e w'' => e = .returned (.agg #[.int .i64 o.j.c, .int .i64 o.j.t, .int .i64 o.j.g, .int .u32 o.j.a]) ∧ ∃ p : Regrown, w'' = grow (redrawn w1 p.d) p.os := fun d os => Calls.regrown_of (wkof_any o.j _)
    clear hP hb tb q3 q4 q5 q6 q7 q8 q9 q10 q11 q12 q13
    refine wp_region_quiet_below (by kernel_rfl) (by kernel_rfl) ?_
    repeat (quiet_step (first | exact cO _ _))
    refine wpQuiet_nil ?_
    intro _ hw'
    obtain ⟨⟨dq, osq⟩, hw''⟩ := hw'
    subst hw''
    have H2 := Lib.hid (H.out.call (below_regrown w1 dq osq))
    clear p2 p3 p4 p5 p6 p7 p8 p9 p10 p11 p12 p13 t0 t1 t2 t3 cO heq H HW
    generalize grow (redrawn w1 dq) osq = w2 at H2 ⊢
    go_wp2_with fail
    go_ret
    exact ⟨rfl, H2.out.below (fun _ => id)⟩
end Go.Proofs.Ytgboiejiodgcnaa
