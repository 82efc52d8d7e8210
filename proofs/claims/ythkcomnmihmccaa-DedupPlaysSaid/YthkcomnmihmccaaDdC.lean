/- The contracts of first and Meet: what becomes of a request. -/
import Derived.Test.YthkcomnmihmccaaDdB
namespace Go.Proofs.Ythkcomnmihmccaa
open Go.RowKit Go.Sort

/-- One is put behind the row, or into the first one. -/
theorem Dc.add {w : World} {P : Nat} {n : Int} {q : List Dd.Cl} {L : Option Nat} (h : Dc w P n q L) (hq : q.length ≤ 1000) (x : Dd.Cl) {b : Nat} (hb : w.heap[b]? = some (.cells x.cells.toArray 51 (0, 0))) {a : Option Addr} {c : Nat} (hP : w.heap[P]? = some (.cells #[.int .i64 n, .slice a q.length c] 45 (0, 0))) (ty : TypeId) :
    ∃ g' off' cap' w', (Builtin.append_ #[43, 43] ty #[.slice a q.length c, .slice (some ⟨b, 0, none⟩) 1 1]).run Try.prog w = .ok (.slice (some ⟨g', off', none⟩) (q.length + 1) cap') w' ∧ w'.heap[P]? = w.heap[P]? ∧ Rest (fun k => L = some k) w w' ∧ w'.frozen? ⟨P, 1, none⟩ = false ∧
      Dc (w'.setCell ⟨P, 1, none⟩ (.slice (some ⟨g', off', none⟩) (q.length + 1) cap')) P n (q ++ [x]) (some g') ∧ (L = some g' ∨ w.heap.size ≤ g') ∧ Rest (fun k => k = P ∨ L = some k) w (w'.setCell ⟨P, 1, none⟩ (.slice (some ⟨g', off', none⟩) (q.length + 1) cap')) := by
  obtain ⟨i, z, hi, hz, hzs, hs, hby⟩ := Try.bigCall.info
  have hl : (q ++ [x]).length = q.length + 1 := by simp
  have hPl := lt_of_block hP
  rcases h with ⟨rfl, rfl, hblk⟩ | ⟨g, off, cap, rfl, hd⟩
  · rw [hP] at hblk
    obtain ⟨rfl, rfl⟩ : a = none ∧ c = 0 := by simpa using hblk
    obtain ⟨g', off', cap', w', h1, h2, h3, h4⟩ := run_append_nilK (P := Try.prog) w 43 ty 0 22 51 i z i.bytes Try.underlying43 hi hz hs rfl hzs (by decide) ⟨b, 0, none⟩ 1 1 (Dd.itm.flat [x]) (by rw [Dd.itm.flat_length]; rfl) (by decide) (Dd.itm.box x hb) (Dd.itm.flat_ones _) (by unfold maxLen; omega) (by omega) (Nat.zero_le _)
    have hP' : w'.heap[P]? = w.heap[P]? := h3.block P hPl (fun e => by cases e)
    have hgP : g' ≠ P := by omega
    refine ⟨g', off', cap', w', h1, hP', Rest.grown h3 (fun _ e => by cases e), frozen_of_row _ _ _ _ _ (hP'.trans hP), .inr ⟨g', off', cap', rfl, hgP, ?_, ?_⟩, .inr h4, ?_⟩
    · exact heap_setCell_same _ P 1 _ _ _ (hP'.trans hP)
    · exact h2.kept (heap_setCell_other _ _ _ _ hgP)
    · exact (Rest.grown (own := fun _ => False) h3 (fun _ e => by cases e)).trans (o3 := fun k => k = P ∨ none = some k) (Rest.setCell (own := fun k => k = P) _ _ _ rfl) (fun _ _ => False.elim) (fun _ _ => .inl)
  · have hblk := hd.blk
    rw [hP] at hblk
    obtain ⟨rfl, rfl⟩ : a = some ⟨g, off, none⟩ ∧ c = cap := by simpa using hblk
    obtain ⟨g', off', cap', w', h1, h2, h3, h4⟩ := Dd.itm.run_add (P := Try.prog) (ts := 43) (ty := ty) Try.underlying43 hi hz hs rfl hzs (by decide) hby hd.row (by omega) (ys := [x]) (m := 1) (c := 1) rfl (by decide) (ad := ⟨b, 0, none⟩) (Dd.itm.box x hb) (Nat.zero_le _)
    have hP' : w'.heap[P]? = w.heap[P]? := h3.block P hPl (fun e => by cases e; exact hd.ne rfl)
    have hgP : g' ≠ P := by
      rcases h4 with e | e
      · rw [e]; exact hd.ne
      · omega
    refine ⟨g', off', cap', w', h1, hP', Rest.grown h3 (fun _ e => e), frozen_of_row _ _ _ _ _ (hP'.trans hP), .inr ⟨g', off', cap', rfl, hgP, ?_, ?_⟩, ?_, ?_⟩
    · rw [hl]; exact heap_setCell_same _ P 1 _ _ _ (hP'.trans hP)
    · rw [hl]; exact h2.kept (heap_setCell_other _ _ _ _ hgP)
    · exact h4.imp (fun e => by rw [e]) id
    · exact (Rest.grown (own := fun k => some g = some k) h3 (fun _ e => e)).trans (o3 := fun k => k = P ∨ some g = some k) (Rest.setCell (own := fun k => k = P) _ _ _ rfl) (fun _ _ => .inr) (fun _ _ => .inl)

theorem Try.builtCall (c a : Int) : Try.prog.built 51 [(0, .agg #[.int .i64 c, .int .u32 a]), (2, .int .i64 1)] = some (Dd.Cl.cells ⟨c, a, fun _ => false, 1, false, false, 0⟩).toArray := by kernel_rfl
/-- first. -/
theorem dfirst_full {P : Nat} {n : Int} {Q : List Dd.Cl} {L : Option Nat} (k c s t g a r q v : Int) (su st : Bool) (hn : n ≤ (Q.length : Int)) (w : World) (h : Dc w P n Q L) : Calls Try.prog 14 #[.pointer (some ⟨P, 0, none⟩), .agg #[.int .i64 k, .int .i64 c, .int .i64 s, .int .i64 t, .int .i64 g, .int .u32 a, .int .i64 r, .bool su, .bool st, .int .i64 q, .int .u32 v]] w fun e w' => e = .returned (.int .i64 4) ∧ Below w.heap.size w w' := by
  have H := Lib.hid ((Upon.start (fun _ => False) w).lay (.cells #[.int .i64 k, .int .i64 c, .int .i64 s, .int .i64 t, .int .i64 g, .int .u32 a, .int .i64 r, .bool su, .bool st, .int .i64 q, .int .u32 v] 28))
  have HC := Lib.hid (h.call (H.out.below (fun _ => id)))
  have hd : decide (n ≤ (Q.length : Int)) = true := decide_eq_true hn
  clear h
  go_enter Try.func14, Try.ntmps14
  go_upto_region 1 with fail
  generalize w.alloc _ = w1 at HC H ⊢
  generalize w.heap.size = bF at H ⊢
  obtain ⟨sa, sc, hP⟩ := HC.out.shape
  obtain ⟨p0, p1⟩ := two_cells hP
  have hL := fun m => dlen_any (w1.drewN m) (HC.out.call ⟨rfl, rfl, rfl, Nat.le_refl _, fun _ _ => rfl⟩)
  clear hP
  go_quiet (first | (go_at_call 10; exact Calls.quiet_of_same ((hL _).mono (fun _ _ h => And.intro h.1 h.2.symm))) | fail)
  have H3 := Lib.hid (H.out.drewN nq)
  clear H
  go_wp2_with fail
  go_ret
  exact ⟨rfl, H3.out.below (fun _ => id)⟩

set_option maxHeartbeats 2000000 in
theorem dfirst_yes {P : Nat} {n : Int} {Q : List Dd.Cl} {L : Option Nat} {T : Nat} (k c s t g a q v : Int) (su st : Bool) (hT : T < 16) (hn : (Q.length : Int) < n) (hQ : Q.length ≤ 1000) (w : World) (h : Dc w P n Q L) : Calls Try.prog 14 #[.pointer (some ⟨P, 0, none⟩), .agg #[.int .i64 k, .int .i64 c, .int .i64 s, .int .i64 t, .int .i64 g, .int .u32 a, .int .i64 (T : Int), .bool su, .bool st, .int .i64 q, .int .u32 v]] w fun e w' => e = .returned (.int .i64 0) ∧ ∃ L', Dc w' P n (Q ++ [Dd.first c a T]) L' ∧ (L' = L ∨ ∀ j, L' = some j → w.heap.size ≤ j) ∧ Rest (fun j => j = P ∨ L = some j) w w' := by
  have H := Lib.hid ((Upon.start (fun _ => False) w).lay (.cells #[.int .i64 k, .int .i64 c, .int .i64 s, .int .i64 t, .int .i64 g, .int .u32 a, .int .i64 (T : Int), .bool su, .bool st, .int .i64 q, .int .u32 v] 28))
  have HC := Lib.hid (h.call (H.out.below (fun _ => id)))
  have hd : decide (n ≤ (Q.length : Int)) = false := decide_eq_false (by omega)
  have HC0 := Lib.hid h
  have HPL := Lib.hid h.lt
  clear h hn
  go_enter Try.func14, Try.ntmps14
  go_upto_region 1 with fail
  generalize w.alloc _ = w1 at HC H ⊢
  generalize w.heap.size = bF at H ⊢
  obtain ⟨sa, sc, hP⟩ := HC.out.shape
  obtain ⟨p0, p1⟩ := two_cells hP
  have hL := fun m => dlen_any (w1.drewN m) (HC.out.call ⟨rfl, rfl, rfl, Nat.le_refl _, fun _ _ => rfl⟩)
  have HP := Lib.hid hP
  clear hP
  go_quiet (first | (go_at_call 10; exact Calls.quiet_of_same ((hL _).mono (fun _ _ h => And.intro h.1 h.2.symm))) | fail)
  have H2 := Lib.hid (H.out.drewN nq)
  have HC2 := Lib.hid (HC.out.call (w' := w1.drewN nq) ⟨rfl, rfl, rfl, Nat.le_refl _, fun _ _ => rfl⟩)
  have HP2 : Hid ((w1.drewN nq).heap[P]? = _) := HP
  clear H HC p0 p1 hL HP
  generalize w1.drewN nq = w2 at H2 HC2 HP2 ⊢
  obtain ⟨f0, f1, f2, f3, f4, f5, f6, f7, f8, f9, f10⟩ := frame_cells (H2.out.get 0 rfl)
  go_wp2_with fail
  refine (dof_any k c s t g a (T : Int) q v su st w2).mono ?_
  rintro e w3 ⟨rfl, hb⟩
  dsimp only
  refine ‹∀ (a : Act) (w : World), wpList _ _ _ _ a w → _› _ _ ?_
  refine Great.wpList_runTo rfl _ rfl (.agg (Dd.Cl.cells ⟨c, a, fun _ => false, 1, false, false, 0⟩).toArray) _ (exec_build_is [(0, .tmp 14), (2, .const (.int .i64 1))] rfl (by exact Try.builtCall c a)) ?_
  simp only [Act.put, List.setIfInBounds_toArray, List.set_cons_zero, List.set_cons_succ]
  obtain ⟨z, hz, hal⟩ := exec_alloc_big Try.bigCall
  refine Great.wpList_runTo rfl _ rfl _ _ (by exact hal _ _ rfl _) ?_
  simp only [Act.put, List.setIfInBounds_toArray, List.set_cons_zero, List.set_cons_succ]
  refine wpList_store_new Try.bigCall rfl (.tmp 5) (.tmp 15) rfl rfl rfl hz rfl (Dd.itm.one _) ?_
  try simp only [Act.put]
  have H3 := Lib.hid ((H2.out.call hb).lay (.cells (Dd.Cl.cells ⟨c, a, fun _ => false, 1, false, false, 0⟩).toArray 51))
  have hb2 := on hb (below_box w3 (.cells (Dd.Cl.cells ⟨c, a, fun _ => false, 1, false, false, 0⟩).toArray 51))
  have HC3 := Lib.hid (HC2.out.call hb2)
  have HP3 := Lib.hid (keep HP2.out hb2)
  clear hb hb2 H2 HC2 HP2 f0 f1 f2 f3 f4 f5 f6 f7 f8 f9 f10
  go_upto_region 4 with fail
  generalize w3.alloc _ = w4 at H3 HC3 HP3 ⊢
  generalize w3.heap.size = bK at H3 ⊢
  obtain ⟨f0, f1, f2, f3, f4, f5, f6, f7, f8, f9, f10⟩ := frame_cells (H3.out.get 1 rfl)
  have m0 := (cell_of_row _ _ _ _ _ _ (H3.out.get 0 rfl)).trans ((List.getElem?_toArray).trans (Dd.cells_met _ T hT))
  have fz := frozen_of_row _ _ (2 + T) _ _ (H3.out.get 0 rfl)
  go_upto_region 5 with fail
  have hK : (w4.setCell ⟨bK, 2 + T, none⟩ (.bool true)).heap[bK]? = some (.cells (Dd.first c a T).cells.toArray 51 (0, 0)) := by
    refine (heap_setCell_same _ _ (2 + T) _ _ _ (H3.out.get 0 rfl)).trans ?_
    rw [List.setIfInBounds_toArray, ← Dd.cells_tick _ hT]
    rfl
  have h5 := (H3.out.set hK).drew
  have hne : P ≠ bK := by
    have h1 := H3.out.of 0 rfl
    have h2 := HPL.out
    rcases h1 with h1 | h1
    · exact h1.elim
    · omega
  have hP5 := (Below.heap_setCell w4 ⟨bK, 2 + T, none⟩ (.bool true) P hne).trans HP3.out
  have hr5 : Rest (fun _ => False) w (w4.setCell ⟨bK, 2 + T, none⟩ (.bool true)).drew := h5.rest
  have hc5 : Dc (w4.setCell ⟨bK, 2 + T, none⟩ (.bool true)).drew P n Q L := HC0.out.kept hr5 (fun x => x) (fun _ _ x => x)
  have H5 := Lib.hid h5
  have HC5 := Lib.hid hc5
  have HR5 := Lib.hid hr5
  have HSZ := Lib.hid HC0.out.lt
  clear h5 hc5 hr5 H3 HC3 HP3 f0 f1 f2 f3 f4 f5 f6 f7 f8 f9 f10 m0 fz hne HPL
  refine wp_region_Z_drew 10 (S := fun w' => w'.heap[P]? = some (.cells #[.int .i64 n, .slice sa Q.length sc] 45 (0, 0)) ∧ w'.heap[bK]? = some (.cells (Dd.first c a T).cells.toArray 51 (0, 0))) (by kernel_rfl) ⟨hP5, hK⟩ (fun hHeld => ?_)
  generalize (w4.setCell ⟨bK, 2 + T, none⟩ (.bool true)).drew = w5 at H5 HC5 HR5 hHeld ⊢
  clear hK hP5
  refine wpAnyZ_yield 0 (.pointer (some ⟨P, 0, none⟩)) rfl (by kernel_rfl) (by kernel_rfl) (by kernel_rfl) (fun d _ _ _ h => by cases d <;> exact h) (by rfl) (by assumption) (fun _ _ => by go_simp) ?_
  simp only [Act.put, List.setIfInBounds_toArray, List.set_cons_zero, List.set_cons_succ]
  refine wpAnyZ_yield 1 (.pointer (some ⟨P, 0, none⟩)) rfl (by kernel_rfl) (by kernel_rfl) (by kernel_rfl) (fun d _ _ _ h => by cases d <;> exact h) (by rfl) (by assumption) (fun _ _ => by go_simp) ?_
  simp only [Act.put, List.setIfInBounds_toArray, List.set_cons_zero, List.set_cons_succ]
  refine wpAnyZ_yield 2 (.pointer (some ⟨P, 0, none⟩)) rfl (by kernel_rfl) (by kernel_rfl) (by kernel_rfl) (fun d _ _ _ h => by cases d <;> exact h) (by rfl) (by assumption) (fun _ _ => by go_simp) ?_
  simp only [Act.put, List.setIfInBounds_toArray, List.set_cons_zero, List.set_cons_succ]
  refine wpAnyZ_yield 3 (.pointer (some ⟨P, 1, none⟩)) rfl (by kernel_rfl) (by kernel_rfl) (by kernel_rfl) (fun d _ _ _ h => by cases d <;> exact h) (by rfl) (by assumption) (fun _ _ => by go_simp) ?_
  simp only [Act.put, List.setIfInBounds_toArray, List.set_cons_zero, List.set_cons_succ]
  refine wpAnyZ_yield 4 (.slice sa Q.length sc) rfl (by kernel_rfl) (by kernel_rfl) (by kernel_rfl) (fun d _ _ _ h => by cases d <;> exact h) (by rfl) (by assumption) (fun _ hSw => by have hcs := two_cells hSw.1; go_simp) ?_
  simp only [Act.put, List.setIfInBounds_toArray, List.set_cons_zero, List.set_cons_succ]
  refine wpAnyZ_yield 5 (.agg (Dd.first c a T).cells.toArray) rfl (by kernel_rfl) (by kernel_rfl) (by kernel_rfl) (fun d _ _ _ h => by cases d <;> exact h) (by rfl) (by assumption) (fun _ hSw => exec_load_mid Try.bigCall (.tmp 5) rfl rfl rfl (range_of_box hSw.2)) ?_
  simp only [Act.put, List.setIfInBounds_toArray, List.set_cons_zero, List.set_cons_succ]
  refine wpAnyZ_ready (rs := [6]) (by kernel_rfl) (by simp) (AllReadyZ.cons rfl (fun K hK => ?_) AllReadyZ.nil)
  refine step_slice_one Try.bigCall (by decide) (by decide) Try.underlying43 rfl (.tmp 25) rfl rfl rfl ?_
  have hb6 := below_box w5 (.cells (Dd.first c a T).cells.toArray 51)
  have hB6 := heap_alloc_new w5 (.cells (Dd.first c a T).cells.toArray 51)
  have hS6 : _ ∧ _ := ⟨keep hHeld.1 hb6, keep hHeld.2 hb6⟩
  have hc6 := HC5.out.call hb6
  have hr6 := HR5.out.trans (o3 := fun _ => False) (Rest.of_below (own := fun _ => False) hb6) (fun _ _ => id) (fun _ _ => id)
  have hK6 := H5.out.of 0 rfl
  generalize w5.alloc _ = w6 at hB6 hS6 hc6 hr6 ⊢
  generalize w5.heap.size = bN at hB6 ⊢
  clear hb6 HC5 HR5 H5 hHeld
  refine hK.out _ _ (fun _ => hS6) (fun hZ => ?_)
  have hHeld := hZ (by decide)
  clear hK K hZ
  try simp only [Act.put, List.setIfInBounds_toArray]
  obtain ⟨g', off', cap', w7, hrun, hP7, hx7, hf7, hc7, hl7, hr7⟩ := hc6.add hQ (Dd.first c a T) hB6 hS6.1 43
  have hLK : L ≠ some bK := fun e => by
    have h1 := (HC0.out.row e).1
    rcases hK6 with h2 | h2
    · exact h2
    · omega
  have hS7 : _ ∧ _ := ⟨hP7.trans hS6.1, (hx7.block _ (lt_of_block hS6.2) hLK).trans hS6.2⟩
  have HE := Lib.hid (And.intro hc7 (And.intro hl7 (And.intro hr7 hr6)))
  have c7 := (two_cells hS7.1).2
  clear hc7 hl7 hr7 hr6 hK6 hLK hc6 hP7 hx7 hS6 hB6
  refine wpAnyZ_ready (rs := [7]) (by kernel_rfl) (by simp) (AllReadyZ.cons rfl (fun K hK => ?_) AllReadyZ.nil)
  refine step_append_run rfl _ _ 43 rfl rfl rfl hrun ?_
  refine hK.out _ _ (fun _ => hS7) (fun hZ => ?_)
  have hHeld := hZ (by decide)
  clear hK K hZ hrun
  try simp only [Act.put]
  refine wpAnyZ_ready (rs := [8]) (by kernel_rfl) (by simp) (AllReadyZ.cons rfl (fun K hK => ?_) AllReadyZ.nil)
  go_simp
  refine hK.out _ _ (fun _ => hHeld) (fun hZ => ?_)
  have hHeld := hZ (by decide)
  clear hK K hZ
  try simp only [Act.put, List.setIfInBounds_toArray, List.set_cons_zero, List.set_cons_succ]
  refine wpAnyZ_yield 9 (.pointer (some ⟨P, 1, none⟩)) rfl (by kernel_rfl) (by kernel_rfl) (by kernel_rfl) (fun d _ _ _ h => by cases d <;> exact h) (by rfl) (by assumption) (fun _ _ => by go_simp) ?_
  simp only [Act.put, List.setIfInBounds_toArray, List.set_cons_zero, List.set_cons_succ]
  refine wpAnyZ_ready (rs := [10]) (by kernel_rfl) (by simp) (AllReadyZ.cons rfl (fun K hK => ?_) AllReadyZ.nil)
  go_simp
  refine hK.out _ _ (fun h => absurd rfl h) (fun _ => ?_)
  clear hK K
  try simp only [Act.put, List.setIfInBounds_toArray, List.set_cons_zero, List.set_cons_succ]
  refine wpAnyZ_done (by kernel_rfl) ?_ _
  clear hHeld hS7 c7 hf7
  go_wp2_with fail
  go_ret
  obtain ⟨hc7, hl7, hr7, hr6⟩ := HE.out
  refine ⟨rfl, some g', hc7, ?_, hr6.trans hr7 (fun _ _ => False.elim) (fun _ _ => id)⟩
  rcases hl7 with e | e
  · exact .inl e.symm
  · exact .inr (fun j hj => by cases hj; have := hr6.size; omega)
end Go.Proofs.Ythkcomnmihmccaa
