/- DdE, DdF: several texts in one. -/
import Derived.Test.YtgboiejiodgcnaaDdP
/- The contracts of Meet: what becomes of a request. -/
namespace Go.Proofs.Ytgboiejiodgcnaa
open Go.RowKit Go.Sort

theorem dmeet_nil (k c s t g a r q v : Int) (su st : Bool) (w : World) : Calls Try.prog 40 #[.pointer none, .agg #[.int .i64 k, .int .i64 c, .int .i64 s, .int .i64 t, .int .i64 g, .int .u32 a, .int .i64 r, .bool su, .bool st, .int .i64 q, .int .u32 v]] w fun e w' => e = .returned (.int .i64 4) ∧ Below w.heap.size w w' := by
  have H := Lib.hid ((Upon.start (fun _ => False) w).lay (.cells #[.int .i64 k, .int .i64 c, .int .i64 s, .int .i64 t, .int .i64 g, .int .u32 a, .int .i64 r, .bool su, .bool st, .int .i64 q, .int .u32 v] 29))
  go_enter Try.func40, Try.ntmps40
  go_wp2_with fail
  go_ret
  exact ⟨rfl, H.out.below (fun _ => id)⟩
/-- A try that may not be. -/
theorem dmeet_try (P : Nat) (k c s t g a r q v : Int) (su st : Bool) (hr : r < 0 ∨ 15 < r) (w : World) : Calls Try.prog 40 #[.pointer (some ⟨P, 0, none⟩), .agg #[.int .i64 k, .int .i64 c, .int .i64 s, .int .i64 t, .int .i64 g, .int .u32 a, .int .i64 r, .bool su, .bool st, .int .i64 q, .int .u32 v]] w fun e w' => e = .returned (.int .i64 4) ∧ Below w.heap.size w w' := by
  have H := Lib.hid ((Upon.start (fun _ => False) w).lay (.cells #[.int .i64 k, .int .i64 c, .int .i64 s, .int .i64 t, .int .i64 g, .int .u32 a, .int .i64 r, .bool su, .bool st, .int .i64 q, .int .u32 v] 29))
  obtain ⟨f0, f1, f2, f3, f4, f5, f6, f7, f8, f9, f10⟩ := frame_cells (H.out.get 0 rfl)
  by_cases h0 : r < 0
  · clear hr
    go_enter Try.func40, Try.ntmps40
    go_upto_region 1 with fail
    generalize w.alloc _ = w1 at H f0 f1 f2 f3 f4 f5 f6 f7 f8 f9 f10 ⊢
    generalize w.heap.size = bF at H f0 f1 f2 f3 f4 f5 f6 f7 f8 f9 f10 ⊢
    go_wp2_with fail
    go_ret
    exact ⟨rfl, H.out.below (fun _ => id)⟩
  · have h15 : 15 < r := by omega
    clear hr
    go_enter Try.func40, Try.ntmps40
    go_upto_region 1 with fail
    generalize w.alloc _ = w1 at H f0 f1 f2 f3 f4 f5 f6 f7 f8 f9 f10 ⊢
    generalize w.heap.size = bF at H f0 f1 f2 f3 f4 f5 f6 f7 f8 f9 f10 ⊢
    go_wp2_with fail
    go_ret
    exact ⟨rfl, H.out.below (fun _ => id)⟩

/-- One that is not there: no room for it. -/
theorem dmeet_full {P T : Nat} {n : Int} {Q : List Dd.Cl} {L : Option Nat} (k c s t g a q v : Int) (su st : Bool) (hT : T < 16) (hQ : Q.length ≤ 1000000) (hz : Dd.Non Q c a) (hn : n ≤ (Q.length : Int)) (w : World) (h : Dc w P n Q L) : Calls Try.prog 40 #[.pointer (some ⟨P, 0, none⟩), .agg #[.int .i64 k, .int .i64 c, .int .i64 s, .int .i64 t, .int .i64 g, .int .u32 a, .int .i64 (T : Int), .bool su, .bool st, .int .i64 q, .int .u32 v]] w fun e w' => e = .returned (.int .i64 4) ∧ Below w.heap.size w w' := by
  have H := Lib.hid ((Upon.start (fun _ => False) w).lay (.cells #[.int .i64 k, .int .i64 c, .int .i64 s, .int .i64 t, .int .i64 g, .int .u32 a, .int .i64 (T : Int), .bool su, .bool st, .int .i64 q, .int .u32 v] 29))
  obtain ⟨f0, f1, f2, f3, f4, f5, f6, f7, f8, f9, f10⟩ := frame_cells (H.out.get 0 rfl)
  have h0 : ¬(T : Int) < 0 := by omega
  have h15 : ¬(15 : Int) < (T : Int) := by omega
  have HC := Lib.hid (h.call (H.out.below (fun _ => id)))
  have HN := Lib.hid hn
  clear h hn
  go_enter Try.func40, Try.ntmps40
  go_upto_region 1 with fail
  generalize w.alloc _ = w1 at HC H f0 f1 f2 f3 f4 f5 f6 f7 f8 f9 f10 ⊢
  generalize w.heap.size = bF at H f0 f1 f2 f3 f4 f5 f6 f7 f8 f9 f10 ⊢
  go_wp2_with fail
  refine (dfind_no k c s t g a (T : Int) q v su st hQ hz w1 HC.out).mono ?_
  rintro e w2 ⟨rfl, hb⟩
  have H2 := Lib.hid (H.out.call hb)
  have HC2 := Lib.hid (HC.out.call hb)
  clear hb H HC f0 f1 f2 f3 f4 f5 f6 f7 f8 f9 f10
  obtain ⟨f0, f1, f2, f3, f4, f5, f6, f7, f8, f9, f10⟩ := frame_cells (H2.out.get 0 rfl)
  go_wp2_with fail
  refine (dfirst_full k c s t g a (T : Int) q v su st HN.out w2 HC2.out).mono ?_
  rintro e w3 ⟨rfl, hb⟩
  have H3 := Lib.hid (H2.out.call hb)
  clear hb H2 HC2 f0 f1 f2 f3 f4 f5 f6 f7 f8 f9 f10
  go_wp2_with fail
  go_ret
  exact ⟨rfl, H3.out.below (fun _ => id)⟩
/-- .. there is room. -/
theorem dmeet_new {P T : Nat} {n : Int} {Q : List Dd.Cl} {L : Option Nat} (k c s t g a q v : Int) (su st : Bool) (hT : T < 16) (hQ : Q.length ≤ 1000) (hz : Dd.Non Q c a) (hn : (Q.length : Int) < n) (w : World) (h : Dc w P n Q L) : Calls Try.prog 40 #[.pointer (some ⟨P, 0, none⟩), .agg #[.int .i64 k, .int .i64 c, .int .i64 s, .int .i64 t, .int .i64 g, .int .u32 a, .int .i64 (T : Int), .bool su, .bool st, .int .i64 q, .int .u32 v]] w fun e w' => e = .returned (.int .i64 0) ∧ ∃ L', Dc w' P n (Q ++ [Dd.first c a T]) L' ∧ (L' = L ∨ ∀ j, L' = some j → w.heap.size ≤ j) ∧ Rest (fun j => j = P ∨ L = some j) w w' := by
  have H := Lib.hid ((Upon.start (fun _ => False) w).lay (.cells #[.int .i64 k, .int .i64 c, .int .i64 s, .int .i64 t, .int .i64 g, .int .u32 a, .int .i64 (T : Int), .bool su, .bool st, .int .i64 q, .int .u32 v] 29))
  obtain ⟨f0, f1, f2, f3, f4, f5, f6, f7, f8, f9, f10⟩ := frame_cells (H.out.get 0 rfl)
  have h0 : ¬(T : Int) < 0 := by omega
  have h15 : ¬(15 : Int) < (T : Int) := by omega
  have HC := Lib.hid (h.call (H.out.below (fun _ => id)))
  have HN := Lib.hid hn
  clear h hn
  go_enter Try.func40, Try.ntmps40
  go_upto_region 1 with fail
  generalize w.alloc _ = w1 at HC H f0 f1 f2 f3 f4 f5 f6 f7 f8 f9 f10 ⊢
  generalize w.heap.size = bF at H f0 f1 f2 f3 f4 f5 f6 f7 f8 f9 f10 ⊢
  go_wp2_with fail
  refine (dfind_no k c s t g a (T : Int) q v su st (by omega) hz w1 HC.out).mono ?_
  rintro e w2 ⟨rfl, hb⟩
  have H2 := Lib.hid (H.out.call hb)
  have HC2 := Lib.hid (HC.out.call hb)
  clear hb H HC f0 f1 f2 f3 f4 f5 f6 f7 f8 f9 f10
  obtain ⟨f0, f1, f2, f3, f4, f5, f6, f7, f8, f9, f10⟩ := frame_cells (H2.out.get 0 rfl)
  go_wp2_with fail
  refine (dfirst_yes k c s t g a q v su st hT HN.out hQ w2 HC2.out).mono ?_
  rintro e w3 ⟨rfl, L', hc, hl, hr⟩
  have HE := Lib.hid (And.intro hc (And.intro hl (H2.out.rest.trans (o3 := fun j => j = P ∨ L = some j) hr (fun _ _ => False.elim) (fun _ _ => id))))
  have HSZ := Lib.hid H2.out.rest.size
  clear hc hl hr H2 HC2 f0 f1 f2 f3 f4 f5 f6 f7 f8 f9 f10
  go_wp2_with fail
  go_ret
  obtain ⟨hc, hl, hr⟩ := HE.out
  refine ⟨rfl, L', hc, hl.imp id (fun e j hj => ?_), hr⟩
  have h1 := e j hj
  have h2 := HSZ.out
  omega

/-- This try was met. -/
theorem dmeet_seen {P T i : Nat} {n : Int} {Q : List Dd.Cl} {L : Option Nat} {x : Dd.Cl} (k c s t g a q v : Int) (su st : Bool) (hT : T < 16) (hQ : Q.length ≤ 1000000) (hz : Dd.At Q c a i x) (hm : x.m T = true) (w : World) (h : Dc w P n Q L) : Calls Try.prog 40 #[.pointer (some ⟨P, 0, none⟩), .agg #[.int .i64 k, .int .i64 c, .int .i64 s, .int .i64 t, .int .i64 g, .int .u32 a, .int .i64 (T : Int), .bool su, .bool st, .int .i64 q, .int .u32 v]] w fun e w' => e = .returned (.int .i64 1) ∧ Below w.heap.size w w' := by
  obtain ⟨G, off, cap, rfl, hd⟩ := h.some_ hz.lt
  have H := Lib.hid ((Upon.start (fun _ => False) w).lay (.cells #[.int .i64 k, .int .i64 c, .int .i64 s, .int .i64 t, .int .i64 g, .int .u32 a, .int .i64 (T : Int), .bool su, .bool st, .int .i64 q, .int .u32 v] 29))
  obtain ⟨f0, f1, f2, f3, f4, f5, f6, f7, f8, f9, f10⟩ := frame_cells (H.out.get 0 rfl)
  have h0 : ¬(T : Int) < 0 := by omega
  have h15 : ¬(15 : Int) < (T : Int) := by omega
  have HC := Lib.hid (hd.call (H.out.below (fun _ => id)))
  have HZ := Lib.hid hz
  have hT' : (T : Int) < 16 := by omega
  clear h hd hz
  go_enter Try.func40, Try.ntmps40
  go_upto_region 1 with fail
  generalize w.alloc _ = w1 at HC H f0 f1 f2 f3 f4 f5 f6 f7 f8 f9 f10 ⊢
  generalize w.heap.size = bF at H f0 f1 f2 f3 f4 f5 f6 f7 f8 f9 f10 ⊢
  go_wp2_with fail
  refine (dfind_yes k c s t g a (T : Int) q v su st hQ HZ.out w1 HC.out).mono ?_
  rintro e w2 ⟨rfl, hb⟩
  have H2 := Lib.hid (H.out.call hb)
  have HC2 := Lib.hid (HC.out.call hb)
  clear hb H HC f0 f1 f2 f3 f4 f5 f6 f7 f8 f9 f10
  obtain ⟨f0, f1, f2, f3, f4, f5, f6, f7, f8, f9, f10⟩ := frame_cells (H2.out.get 0 rfl)
  obtain ⟨-, -, -, -, -, -, xm, -⟩ := HC2.out.item HZ.out.at_
  have x1 := xm T hT
  clear xm
  rw [hm] at x1
  clear hm
  go_wp2_with fail
  go_quiet (fail)
  have H3 := Lib.hid (H2.out.drewN nq)
  have HC3 := Lib.hid (HC2.out.call (w' := w2.drewN nq) ⟨rfl, rfl, rfl, Nat.le_refl _, fun _ _ => rfl⟩)
  clear H2 HC2 f0 f1 f2 f3 f4 f5 f6 f7 f8 f9 f10 x1
  generalize w2.drewN nq = w3 at H3 HC3 ⊢
  go_wp2_with fail
  go_ret
  exact ⟨rfl, H3.out.below (fun _ => id)⟩
set_option maxHeartbeats 2000000 in
/-- Done once at most: it waits .. -/
theorem dmeet_wait {P T i : Nat} {n : Int} {Q : List Dd.Cl} {L : Option Nat} {x : Dd.Cl} (k c s t g a q v : Int) (st : Bool) (hT : T < 16) (hQ : Q.length ≤ 1000000) (hz : Dd.At Q c a i x) (hm : x.m T = false) (hx : x.d = false) (w : World) (h : Dc w P n Q L) : Calls Try.prog 40 #[.pointer (some ⟨P, 0, none⟩), .agg #[.int .i64 k, .int .i64 c, .int .i64 s, .int .i64 t, .int .i64 g, .int .u32 a, .int .i64 (T : Int), .bool true, .bool st, .int .i64 q, .int .u32 v]] w fun e w' => e = .returned (.int .i64 2) ∧ Dc w' P n (Q.set i (x.tick T)) L ∧ Rest (fun j => L = some j) w w' := by
  obtain ⟨G, off, cap, rfl, hd⟩ := h.some_ hz.lt
  have H := Lib.hid ((Upon.start (fun _ => False) w).lay (.cells #[.int .i64 k, .int .i64 c, .int .i64 s, .int .i64 t, .int .i64 g, .int .u32 a, .int .i64 (T : Int), .bool true, .bool st, .int .i64 q, .int .u32 v] 29))
  obtain ⟨f0, f1, f2, f3, f4, f5, f6, f7, f8, f9, f10⟩ := frame_cells (H.out.get 0 rfl)
  have h0 : ¬(T : Int) < 0 := by omega
  have h15 : ¬(15 : Int) < (T : Int) := by omega
  have HC := Lib.hid (hd.call (H.out.below (fun _ => id)))
  have HZ := Lib.hid hz
  have hT' : (T : Int) < 16 := by omega
  have HSZ := Lib.hid hd.row.lt
  clear h hd hz
  go_enter Try.func40, Try.ntmps40
  go_upto_region 1 with fail
  generalize w.alloc _ = w1 at HC H f0 f1 f2 f3 f4 f5 f6 f7 f8 f9 f10 ⊢
  generalize w.heap.size = bF at H f0 f1 f2 f3 f4 f5 f6 f7 f8 f9 f10 ⊢
  go_wp2_with fail
  refine (dfind_yes k c s t g a (T : Int) q v true st hQ HZ.out w1 HC.out).mono ?_
  rintro e w2 ⟨rfl, hb⟩
  have H2 := Lib.hid (H.out.call hb)
  have HC2 := Lib.hid (HC.out.call hb)
  clear hb H HC f0 f1 f2 f3 f4 f5 f6 f7 f8 f9 f10
  obtain ⟨f0, f1, f2, f3, f4, f5, f6, f7, f8, f9, f10⟩ := frame_cells (H2.out.get 0 rfl)
  obtain ⟨-, -, -, -, -, -, xm, -⟩ := HC2.out.item HZ.out.at_
  have x1 := xm T hT
  clear xm
  rw [hm] at x1
  clear hm
  go_wp2_with fail
  go_quiet (fail)
  have H3 := Lib.hid (H2.out.drewN nq)
  have HC3 := Lib.hid (HC2.out.call (w' := w2.drewN nq) ⟨rfl, rfl, rfl, Nat.le_refl _, fun _ _ => rfl⟩)
  clear H2 HC2 f0 f1 f2 f3 f4 f5 f6 f7 f8 f9 f10 x1
  generalize w2.drewN nq = w3 at H3 HC3 ⊢
  obtain ⟨f0, f1, f2, f3, f4, f5, f6, f7, f8, f9, f10⟩ := frame_cells (H3.out.get 0 rfl)
  obtain ⟨-, -, -, -, -, -, xm, fz⟩ := HC3.out.item HZ.out.at_
  have x1 := xm T hT
  have e1 := fz (off + i * 22 + 2 + T)
  clear xm fz
  go_wp2_with fail
  refine wp_region_Z_drew 6 (S := fun w' => w'.cell? ⟨bF, 6, none⟩ = some (.int .i64 (T : Int))) (by kernel_rfl) f6 (fun hHeld => ?_)
  have hw4 := HC3.out.call (w' := w3.drew) (Below.refl _ _).drew
  have h4 := H3.out.drew
  have x1' : w3.drew.cell? ⟨G, off + i * 22 + 2 + T, none⟩ = some (.bool (x.m T)) := x1
  have e1' : w3.drew.frozen? ⟨G, off + i * 22 + 2 + T, none⟩ = false := e1
  clear x1 e1 f0 f1 f2 f3 f4 f5 f6 f7 f8 f9 f10 H3 HC3
  generalize w3.drew = w4 at hw4 h4 hHeld x1' e1' ⊢
  have HC4 := Lib.hid hw4
  have H4 := Lib.hid h4
  clear hw4 h4
  refine wpAnyZ_yield 0 (.pointer (some ⟨G, off + i * 22, none⟩)) rfl (by kernel_rfl) (by kernel_rfl) (by kernel_rfl) (fun d _ _ _ h => by cases d <;> exact h) (by rfl) (by assumption) (fun _ _ => by go_simp) ?_
  simp only [Act.put, List.setIfInBounds_toArray, List.set_cons_zero, List.set_cons_succ]
  refine wpAnyZ_yield 1 (.pointer (some ⟨bF, 6, none⟩)) rfl (by kernel_rfl) (by kernel_rfl) (by kernel_rfl) (fun d _ _ _ h => by cases d <;> exact h) (by rfl) (by assumption) (fun _ _ => by go_simp) ?_
  simp only [Act.put, List.setIfInBounds_toArray, List.set_cons_zero, List.set_cons_succ]
  refine wpAnyZ_yield 2 (.int .i64 (T : Int)) rfl (by kernel_rfl) (by kernel_rfl) (by kernel_rfl) (fun d _ _ _ h => by cases d <;> exact h) (by rfl) (by assumption) (fun _ hSw => by (try dsimp only at hSw); go_simp) ?_
  simp only [Act.put, List.setIfInBounds_toArray, List.set_cons_zero, List.set_cons_succ]
  refine wpAnyZ_ready (rs := [3]) (by kernel_rfl) (by simp) (AllReadyZ.cons rfl (fun K hK => ?_) AllReadyZ.nil)
  go_simp
  refine hK.out _ _ (fun _ => hHeld) (fun hZ => ?_)
  have hHeld := hZ (by decide)
  clear hK K hZ
  try simp only [Act.put, List.setIfInBounds_toArray, List.set_cons_zero, List.set_cons_succ]
  refine wpAnyZ_ready (rs := [4]) (by kernel_rfl) (by simp) (AllReadyZ.cons rfl (fun K hK => ?_) AllReadyZ.nil)
  go_simp
  refine hK.out _ _ (fun _ => hHeld) (fun hZ => ?_)
  have hHeld := hZ (by decide)
  clear hK K hZ
  try simp only [Act.put, List.setIfInBounds_toArray, List.set_cons_zero, List.set_cons_succ]
  refine wpAnyZ_yield 5 (.pointer (some ⟨G, off + i * 22 + 2 + T, none⟩)) rfl (by kernel_rfl) (by kernel_rfl) (by kernel_rfl) (fun d _ _ _ h => by cases d <;> exact h) (by rfl) (by assumption) (fun _ _ => by go_simp) ?_
  simp only [Act.put, List.setIfInBounds_toArray, List.set_cons_zero, List.set_cons_succ]
  refine wpAnyZ_ready (rs := [6]) (by kernel_rfl) (by simp) (AllReadyZ.cons rfl (fun K hK => ?_) AllReadyZ.nil)
  go_simp
  refine hK.out _ _ (fun h => absurd rfl h) (fun _ => ?_)
  clear hK K
  try simp only [Act.put, List.setIfInBounds_toArray, List.set_cons_zero, List.set_cons_succ]
  refine wpAnyZ_done (by kernel_rfl) ?_ _
  have hc5 := HC4.out.write HZ.out.at_ (x.tick T) (2 + T) (by omega) (o := off + i * 22 + 2 + T) (by omega) (Dd.cells_tick x hT)
  have hr5 := H4.out.rest.trans (o3 := fun j => some G = some j) (Rest.setCell (own := fun j => some G = some j) w4 ⟨G, off + i * 22 + 2 + T, none⟩ (.bool true) rfl) (fun _ _ => False.elim) (fun _ _ => id)
  have hne : G ≠ bF := fun e => by
    have h1 := H4.out.of 0 rfl
    have h2 := HSZ.out
    rcases h1 with h1 | h1
    · exact h1
    · omega
  obtain ⟨f0, f1, f2, f3, f4, f5, f6, f7, f8, f9, f10⟩ := frame_cells ((heap_setCell_other w4 ⟨G, off + i * 22 + 2 + T, none⟩ bF (.bool true) (Ne.symm hne)).trans (H4.out.get 0 rfl))
  have HC5 := Lib.hid hc5
  have HR5 := Lib.hid hr5
  clear hHeld x1' e1' hc5 hr5 H4 HC4 hne
  generalize w4.setCell _ _ = w5 at HC5 HR5 f0 f1 f2 f3 f4 f5 f6 f7 f8 f9 f10 ⊢
  obtain ⟨-, -, y18, y19, -, -, -, fz⟩ := HC5.out.item (List.getElem?_set_self HZ.out.lt)
  have x18 : w5.cell? ⟨G, off + i * 22 + 18, none⟩ = some (.int .i64 x.r) := y18
  have x19 : w5.cell? ⟨G, off + i * 22 + 19, none⟩ = some (.bool x.d) := y19
  have e18 := fz (off + i * 22 + 18)
  clear fz y18 y19
  rw [hx] at x19
  go_wp2_with fail
  go_ret
  exact ⟨rfl, HC5.out.dc, HR5.out⟩
set_option maxHeartbeats 2000000 in
/-- .. or is told again. -/
theorem dmeet_again {P T i : Nat} {n : Int} {Q : List Dd.Cl} {L : Option Nat} {x : Dd.Cl} (k c s t g a q v : Int) (st : Bool) (hT : T < 16) (hQ : Q.length ≤ 1000000) (hz : Dd.At Q c a i x) (hm : x.m T = false) (hx : x.d = true) (w : World) (h : Dc w P n Q L) : Calls Try.prog 40 #[.pointer (some ⟨P, 0, none⟩), .agg #[.int .i64 k, .int .i64 c, .int .i64 s, .int .i64 t, .int .i64 g, .int .u32 a, .int .i64 (T : Int), .bool true, .bool st, .int .i64 q, .int .u32 v]] w fun e w' => e = .returned (.int .i64 3) ∧ Dc w' P n (Q.set i (x.tick T)) L ∧ Rest (fun j => L = some j) w w' := by
  obtain ⟨G, off, cap, rfl, hd⟩ := h.some_ hz.lt
  have H := Lib.hid ((Upon.start (fun _ => False) w).lay (.cells #[.int .i64 k, .int .i64 c, .int .i64 s, .int .i64 t, .int .i64 g, .int .u32 a, .int .i64 (T : Int), .bool true, .bool st, .int .i64 q, .int .u32 v] 29))
  obtain ⟨f0, f1, f2, f3, f4, f5, f6, f7, f8, f9, f10⟩ := frame_cells (H.out.get 0 rfl)
  have h0 : ¬(T : Int) < 0 := by omega
  have h15 : ¬(15 : Int) < (T : Int) := by omega
  have HC := Lib.hid (hd.call (H.out.below (fun _ => id)))
  have HZ := Lib.hid hz
  have hT' : (T : Int) < 16 := by omega
  have HSZ := Lib.hid hd.row.lt
  clear h hd hz
  go_enter Try.func40, Try.ntmps40
  go_upto_region 1 with fail
  generalize w.alloc _ = w1 at HC H f0 f1 f2 f3 f4 f5 f6 f7 f8 f9 f10 ⊢
  generalize w.heap.size = bF at H f0 f1 f2 f3 f4 f5 f6 f7 f8 f9 f10 ⊢
  go_wp2_with fail
  refine (dfind_yes k c s t g a (T : Int) q v true st hQ HZ.out w1 HC.out).mono ?_
  rintro e w2 ⟨rfl, hb⟩
  have H2 := Lib.hid (H.out.call hb)
  have HC2 := Lib.hid (HC.out.call hb)
  clear hb H HC f0 f1 f2 f3 f4 f5 f6 f7 f8 f9 f10
  obtain ⟨f0, f1, f2, f3, f4, f5, f6, f7, f8, f9, f10⟩ := frame_cells (H2.out.get 0 rfl)
  obtain ⟨-, -, -, -, -, -, xm, -⟩ := HC2.out.item HZ.out.at_
  have x1 := xm T hT
  clear xm
  rw [hm] at x1
  clear hm
  go_wp2_with fail
  go_quiet (fail)
  have H3 := Lib.hid (H2.out.drewN nq)
  have HC3 := Lib.hid (HC2.out.call (w' := w2.drewN nq) ⟨rfl, rfl, rfl, Nat.le_refl _, fun _ _ => rfl⟩)
  clear H2 HC2 f0 f1 f2 f3 f4 f5 f6 f7 f8 f9 f10 x1
  generalize w2.drewN nq = w3 at H3 HC3 ⊢
  obtain ⟨f0, f1, f2, f3, f4, f5, f6, f7, f8, f9, f10⟩ := frame_cells (H3.out.get 0 rfl)
  obtain ⟨-, -, -, -, -, -, xm, fz⟩ := HC3.out.item HZ.out.at_
  have x1 := xm T hT
  have e1 := fz (off + i * 22 + 2 + T)
  clear xm fz
  go_wp2_with fail
  refine wp_region_Z_drew 6 (S := fun w' => w'.cell? ⟨bF, 6, none⟩ = some (.int .i64 (T : Int))) (by kernel_rfl) f6 (fun hHeld => ?_)
  have hw4 := HC3.out.call (w' := w3.drew) (Below.refl _ _).drew
  have h4 := H3.out.drew
  have x1' : w3.drew.cell? ⟨G, off + i * 22 + 2 + T, none⟩ = some (.bool (x.m T)) := x1
  have e1' : w3.drew.frozen? ⟨G, off + i * 22 + 2 + T, none⟩ = false := e1
  clear x1 e1 f0 f1 f2 f3 f4 f5 f6 f7 f8 f9 f10 H3 HC3
  generalize w3.drew = w4 at hw4 h4 hHeld x1' e1' ⊢
  have HC4 := Lib.hid hw4
  have H4 := Lib.hid h4
  clear hw4 h4
  refine wpAnyZ_yield 0 (.pointer (some ⟨G, off + i * 22, none⟩)) rfl (by kernel_rfl) (by kernel_rfl) (by kernel_rfl) (fun d _ _ _ h => by cases d <;> exact h) (by rfl) (by assumption) (fun _ _ => by go_simp) ?_
  simp only [Act.put, List.setIfInBounds_toArray, List.set_cons_zero, List.set_cons_succ]
  refine wpAnyZ_yield 1 (.pointer (some ⟨bF, 6, none⟩)) rfl (by kernel_rfl) (by kernel_rfl) (by kernel_rfl) (fun d _ _ _ h => by cases d <;> exact h) (by rfl) (by assumption) (fun _ _ => by go_simp) ?_
  simp only [Act.put, List.setIfInBounds_toArray, List.set_cons_zero, List.set_cons_succ]
  refine wpAnyZ_yield 2 (.int .i64 (T : Int)) rfl (by kernel_rfl) (by kernel_rfl) (by kernel_rfl) (fun d _ _ _ h => by cases d <;> exact h) (by rfl) (by assumption) (fun _ hSw => by (try dsimp only at hSw); go_simp) ?_
  simp only [Act.put, List.setIfInBounds_toArray, List.set_cons_zero, List.set_cons_succ]
  refine wpAnyZ_ready (rs := [3]) (by kernel_rfl) (by simp) (AllReadyZ.cons rfl (fun K hK => ?_) AllReadyZ.nil)
  go_simp
  refine hK.out _ _ (fun _ => hHeld) (fun hZ => ?_)
  have hHeld := hZ (by decide)
  clear hK K hZ
  try simp only [Act.put, List.setIfInBounds_toArray, List.set_cons_zero, List.set_cons_succ]
  refine wpAnyZ_ready (rs := [4]) (by kernel_rfl) (by simp) (AllReadyZ.cons rfl (fun K hK => ?_) AllReadyZ.nil)
  go_simp
  refine hK.out _ _ (fun _ => hHeld) (fun hZ => ?_)
  have hHeld := hZ (by decide)
  clear hK K hZ
  try simp only [Act.put, List.setIfInBounds_toArray, List.set_cons_zero, List.set_cons_succ]
  refine wpAnyZ_yield 5 (.pointer (some ⟨G, off + i * 22 + 2 + T, none⟩)) rfl (by kernel_rfl) (by kernel_rfl) (by kernel_rfl) (fun d _ _ _ h => by cases d <;> exact h) (by rfl) (by assumption) (fun _ _ => by go_simp) ?_
  simp only [Act.put, List.setIfInBounds_toArray, List.set_cons_zero, List.set_cons_succ]
  refine wpAnyZ_ready (rs := [6]) (by kernel_rfl) (by simp) (AllReadyZ.cons rfl (fun K hK => ?_) AllReadyZ.nil)
  go_simp
  refine hK.out _ _ (fun h => absurd rfl h) (fun _ => ?_)
  clear hK K
  try simp only [Act.put, List.setIfInBounds_toArray, List.set_cons_zero, List.set_cons_succ]
  refine wpAnyZ_done (by kernel_rfl) ?_ _
  have hc5 := HC4.out.write HZ.out.at_ (x.tick T) (2 + T) (by omega) (o := off + i * 22 + 2 + T) (by omega) (Dd.cells_tick x hT)
  have hr5 := H4.out.rest.trans (o3 := fun j => some G = some j) (Rest.setCell (own := fun j => some G = some j) w4 ⟨G, off + i * 22 + 2 + T, none⟩ (.bool true) rfl) (fun _ _ => False.elim) (fun _ _ => id)
  have hne : G ≠ bF := fun e => by
    have h1 := H4.out.of 0 rfl
    have h2 := HSZ.out
    rcases h1 with h1 | h1
    · exact h1
    · omega
  obtain ⟨f0, f1, f2, f3, f4, f5, f6, f7, f8, f9, f10⟩ := frame_cells ((heap_setCell_other w4 ⟨G, off + i * 22 + 2 + T, none⟩ bF (.bool true) (Ne.symm hne)).trans (H4.out.get 0 rfl))
  have HC5 := Lib.hid hc5
  have HR5 := Lib.hid hr5
  clear hHeld x1' e1' hc5 hr5 H4 HC4 hne
  generalize w4.setCell _ _ = w5 at HC5 HR5 f0 f1 f2 f3 f4 f5 f6 f7 f8 f9 f10 ⊢
  obtain ⟨-, -, y18, y19, -, -, -, fz⟩ := HC5.out.item (List.getElem?_set_self HZ.out.lt)
  have x18 : w5.cell? ⟨G, off + i * 22 + 18, none⟩ = some (.int .i64 x.r) := y18
  have x19 : w5.cell? ⟨G, off + i * 22 + 19, none⟩ = some (.bool x.d) := y19
  have e18 := fz (off + i * 22 + 18)
  clear fz y18 y19
  rw [hx] at x19
  go_wp2_with fail
  go_ret
  exact ⟨rfl, HC5.out.dc, HR5.out⟩
set_option maxHeartbeats 2000000 in
/-- It may be done again. -/
theorem dmeet_fresh {P T i : Nat} {n : Int} {Q : List Dd.Cl} {L : Option Nat} {x : Dd.Cl} (k c s t g a q v : Int) (st : Bool) (hT : T < 16) (hQ : Q.length ≤ 1000000) (hz : Dd.At Q c a i x) (hm : x.m T = false)  (w : World) (h : Dc w P n Q L) : Calls Try.prog 40 #[.pointer (some ⟨P, 0, none⟩), .agg #[.int .i64 k, .int .i64 c, .int .i64 s, .int .i64 t, .int .i64 g, .int .u32 a, .int .i64 (T : Int), .bool false, .bool st, .int .i64 q, .int .u32 v]] w fun e w' => e = .returned (.int .i64 0) ∧ Dc w' P n (Q.set i (x.tick T).run) L ∧ Rest (fun j => L = some j) w w' := by
  obtain ⟨G, off, cap, rfl, hd⟩ := h.some_ hz.lt
  have H := Lib.hid ((Upon.start (fun _ => False) w).lay (.cells #[.int .i64 k, .int .i64 c, .int .i64 s, .int .i64 t, .int .i64 g, .int .u32 a, .int .i64 (T : Int), .bool false, .bool st, .int .i64 q, .int .u32 v] 29))
  obtain ⟨f0, f1, f2, f3, f4, f5, f6, f7, f8, f9, f10⟩ := frame_cells (H.out.get 0 rfl)
  have h0 : ¬(T : Int) < 0 := by omega
  have h15 : ¬(15 : Int) < (T : Int) := by omega
  have HC := Lib.hid (hd.call (H.out.below (fun _ => id)))
  have HZ := Lib.hid hz
  have hT' : (T : Int) < 16 := by omega
  have HSZ := Lib.hid hd.row.lt
  clear h hd hz
  go_enter Try.func40, Try.ntmps40
  go_upto_region 1 with fail
  generalize w.alloc _ = w1 at HC H f0 f1 f2 f3 f4 f5 f6 f7 f8 f9 f10 ⊢
  generalize w.heap.size = bF at H f0 f1 f2 f3 f4 f5 f6 f7 f8 f9 f10 ⊢
  go_wp2_with fail
  refine (dfind_yes k c s t g a (T : Int) q v false st hQ HZ.out w1 HC.out).mono ?_
  rintro e w2 ⟨rfl, hb⟩
  have H2 := Lib.hid (H.out.call hb)
  have HC2 := Lib.hid (HC.out.call hb)
  clear hb H HC f0 f1 f2 f3 f4 f5 f6 f7 f8 f9 f10
  obtain ⟨f0, f1, f2, f3, f4, f5, f6, f7, f8, f9, f10⟩ := frame_cells (H2.out.get 0 rfl)
  obtain ⟨-, -, -, -, -, -, xm, -⟩ := HC2.out.item HZ.out.at_
  have x1 := xm T hT
  clear xm
  rw [hm] at x1
  clear hm
  go_wp2_with fail
  go_quiet (fail)
  have H3 := Lib.hid (H2.out.drewN nq)
  have HC3 := Lib.hid (HC2.out.call (w' := w2.drewN nq) ⟨rfl, rfl, rfl, Nat.le_refl _, fun _ _ => rfl⟩)
  clear H2 HC2 f0 f1 f2 f3 f4 f5 f6 f7 f8 f9 f10 x1
  generalize w2.drewN nq = w3 at H3 HC3 ⊢
  obtain ⟨f0, f1, f2, f3, f4, f5, f6, f7, f8, f9, f10⟩ := frame_cells (H3.out.get 0 rfl)
  obtain ⟨-, -, -, -, -, -, xm, fz⟩ := HC3.out.item HZ.out.at_
  have x1 := xm T hT
  have e1 := fz (off + i * 22 + 2 + T)
  clear xm fz
  go_wp2_with fail
  refine wp_region_Z_drew 6 (S := fun w' => w'.cell? ⟨bF, 6, none⟩ = some (.int .i64 (T : Int))) (by kernel_rfl) f6 (fun hHeld => ?_)
  have hw4 := HC3.out.call (w' := w3.drew) (Below.refl _ _).drew
  have h4 := H3.out.drew
  have x1' : w3.drew.cell? ⟨G, off + i * 22 + 2 + T, none⟩ = some (.bool (x.m T)) := x1
  have e1' : w3.drew.frozen? ⟨G, off + i * 22 + 2 + T, none⟩ = false := e1
  clear x1 e1 f0 f1 f2 f3 f4 f5 f6 f7 f8 f9 f10 H3 HC3
  generalize w3.drew = w4 at hw4 h4 hHeld x1' e1' ⊢
  have HC4 := Lib.hid hw4
  have H4 := Lib.hid h4
  clear hw4 h4
  refine wpAnyZ_yield 0 (.pointer (some ⟨G, off + i * 22, none⟩)) rfl (by kernel_rfl) (by kernel_rfl) (by kernel_rfl) (fun d _ _ _ h => by cases d <;> exact h) (by rfl) (by assumption) (fun _ _ => by go_simp) ?_
  simp only [Act.put, List.setIfInBounds_toArray, List.set_cons_zero, List.set_cons_succ]
  refine wpAnyZ_yield 1 (.pointer (some ⟨bF, 6, none⟩)) rfl (by kernel_rfl) (by kernel_rfl) (by kernel_rfl) (fun d _ _ _ h => by cases d <;> exact h) (by rfl) (by assumption) (fun _ _ => by go_simp) ?_
  simp only [Act.put, List.setIfInBounds_toArray, List.set_cons_zero, List.set_cons_succ]
  refine wpAnyZ_yield 2 (.int .i64 (T : Int)) rfl (by kernel_rfl) (by kernel_rfl) (by kernel_rfl) (fun d _ _ _ h => by cases d <;> exact h) (by rfl) (by assumption) (fun _ hSw => by (try dsimp only at hSw); go_simp) ?_
  simp only [Act.put, List.setIfInBounds_toArray, List.set_cons_zero, List.set_cons_succ]
  refine wpAnyZ_ready (rs := [3]) (by kernel_rfl) (by simp) (AllReadyZ.cons rfl (fun K hK => ?_) AllReadyZ.nil)
  go_simp
  refine hK.out _ _ (fun _ => hHeld) (fun hZ => ?_)
  have hHeld := hZ (by decide)
  clear hK K hZ
  try simp only [Act.put, List.setIfInBounds_toArray, List.set_cons_zero, List.set_cons_succ]
  refine wpAnyZ_ready (rs := [4]) (by kernel_rfl) (by simp) (AllReadyZ.cons rfl (fun K hK => ?_) AllReadyZ.nil)
  go_simp
  refine hK.out _ _ (fun _ => hHeld) (fun hZ => ?_)
  have hHeld := hZ (by decide)
  clear hK K hZ
  try simp only [Act.put, List.setIfInBounds_toArray, List.set_cons_zero, List.set_cons_succ]
  refine wpAnyZ_yield 5 (.pointer (some ⟨G, off + i * 22 + 2 + T, none⟩)) rfl (by kernel_rfl) (by kernel_rfl) (by kernel_rfl) (fun d _ _ _ h => by cases d <;> exact h) (by rfl) (by assumption) (fun _ _ => by go_simp) ?_
  simp only [Act.put, List.setIfInBounds_toArray, List.set_cons_zero, List.set_cons_succ]
  refine wpAnyZ_ready (rs := [6]) (by kernel_rfl) (by simp) (AllReadyZ.cons rfl (fun K hK => ?_) AllReadyZ.nil)
  go_simp
  refine hK.out _ _ (fun h => absurd rfl h) (fun _ => ?_)
  clear hK K
  try simp only [Act.put, List.setIfInBounds_toArray, List.set_cons_zero, List.set_cons_succ]
  refine wpAnyZ_done (by kernel_rfl) ?_ _
  have hc5 := HC4.out.write HZ.out.at_ (x.tick T) (2 + T) (by omega) (o := off + i * 22 + 2 + T) (by omega) (Dd.cells_tick x hT)
  have hr5 := H4.out.rest.trans (o3 := fun j => some G = some j) (Rest.setCell (own := fun j => some G = some j) w4 ⟨G, off + i * 22 + 2 + T, none⟩ (.bool true) rfl) (fun _ _ => False.elim) (fun _ _ => id)
  have hne : G ≠ bF := fun e => by
    have h1 := H4.out.of 0 rfl
    have h2 := HSZ.out
    rcases h1 with h1 | h1
    · exact h1
    · omega
  obtain ⟨f0, f1, f2, f3, f4, f5, f6, f7, f8, f9, f10⟩ := frame_cells ((heap_setCell_other w4 ⟨G, off + i * 22 + 2 + T, none⟩ bF (.bool true) (Ne.symm hne)).trans (H4.out.get 0 rfl))
  have HC5 := Lib.hid hc5
  have HR5 := Lib.hid hr5
  clear hHeld x1' e1' hc5 hr5 H4 HC4 hne
  generalize w4.setCell _ _ = w5 at HC5 HR5 f0 f1 f2 f3 f4 f5 f6 f7 f8 f9 f10 ⊢
  obtain ⟨-, -, y18, y19, -, -, -, fz⟩ := HC5.out.item (List.getElem?_set_self HZ.out.lt)
  have x18 : w5.cell? ⟨G, off + i * 22 + 18, none⟩ = some (.int .i64 x.r) := y18
  have x19 : w5.cell? ⟨G, off + i * 22 + 19, none⟩ = some (.bool x.d) := y19
  have e18 := fz (off + i * 22 + 18)
  clear fz y18 y19
  have hc6 := HC5.out.write (List.getElem?_set_self HZ.out.lt) (x.tick T).run 18 (by decide) rfl (v := .int .i64 (wrap64 (x.r + 1))) rfl
  rw [List.set_set] at hc6
  have hr6 := HR5.out.trans (o3 := fun j => some G = some j) (Rest.setCell (own := fun j => some G = some j) w5 ⟨G, off + i * 22 + 18, none⟩ (.int .i64 (wrap64 (x.r + 1))) rfl) (fun _ _ => id) (fun _ _ => id)
  have HC6 := Lib.hid hc6
  have HR6 := Lib.hid hr6
  clear hc6 hr6 HC5 HR5
  go_wp2_with fail
  go_ret
  exact ⟨rfl, HC6.out.dc, HR6.out⟩
end Go.Proofs.Ytgboiejiodgcnaa

/- The contracts of Ack: a call goes; the last one takes its place. -/
namespace Go.Proofs.Ytgboiejiodgcnaa
open Go.RowKit Go.Sort

theorem dack_nil (k c s t g a r q v : Int) (su st : Bool) (w : World) : Calls Try.prog 27 #[.pointer none, .agg #[.int .i64 k, .int .i64 c, .int .i64 s, .int .i64 t, .int .i64 g, .int .u32 a, .int .i64 r, .bool su, .bool st, .int .i64 q, .int .u32 v]] w fun e w' => e = .returned (.bool false) ∧ Below w.heap.size w w' := by
  have H := Lib.hid ((Upon.start (fun _ => False) w).lay (.cells #[.int .i64 k, .int .i64 c, .int .i64 s, .int .i64 t, .int .i64 g, .int .u32 a, .int .i64 r, .bool su, .bool st, .int .i64 q, .int .u32 v] 29))
  obtain ⟨f0, f1, f2, f3, f4, f5, f6, f7, f8, f9, f10⟩ := frame_cells (H.out.get 0 rfl)
  go_enter Try.func27, Try.ntmps27
  go_upto_region 1 with fail
  generalize w.alloc _ = w1 at H f0 f1 f2 f3 f4 f5 f6 f7 f8 f9 f10 ⊢
  generalize w.heap.size = bF at H f0 f1 f2 f3 f4 f5 f6 f7 f8 f9 f10 ⊢
  go_wp2_with fail
  refine (dat_nil k c s t g a r q v su st w1).mono ?_
  rintro e w2 ⟨rfl, hb⟩
  have H2 := Lib.hid (H.out.call hb)
  clear hb H f0 f1 f2 f3 f4 f5 f6 f7 f8 f9 f10
  go_wp2_with fail
  go_ret
  exact ⟨rfl, H2.out.below (fun _ => id)⟩
theorem dack_no {P : Nat} {n : Int} {Q : List Dd.Cl} {L : Option Nat} (k c s t g a r q v : Int) (su st : Bool) (hQ : Q.length ≤ 1000000) (hz : Dd.Non Q c a) (w : World) (h : Dc w P n Q L) : Calls Try.prog 27 #[.pointer (some ⟨P, 0, none⟩), .agg #[.int .i64 k, .int .i64 c, .int .i64 s, .int .i64 t, .int .i64 g, .int .u32 a, .int .i64 r, .bool su, .bool st, .int .i64 q, .int .u32 v]] w fun e w' => e = .returned (.bool false) ∧ Below w.heap.size w w' := by
  have H := Lib.hid ((Upon.start (fun _ => False) w).lay (.cells #[.int .i64 k, .int .i64 c, .int .i64 s, .int .i64 t, .int .i64 g, .int .u32 a, .int .i64 r, .bool su, .bool st, .int .i64 q, .int .u32 v] 29))
  obtain ⟨f0, f1, f2, f3, f4, f5, f6, f7, f8, f9, f10⟩ := frame_cells (H.out.get 0 rfl)
  have HC := Lib.hid (h.call (H.out.below (fun _ => id)))
  clear h
  go_enter Try.func27, Try.ntmps27
  go_upto_region 1 with fail
  generalize w.alloc _ = w1 at HC H f0 f1 f2 f3 f4 f5 f6 f7 f8 f9 f10 ⊢
  generalize w.heap.size = bF at H f0 f1 f2 f3 f4 f5 f6 f7 f8 f9 f10 ⊢
  go_wp2_with fail
  refine (dat_any k c s t g a r q v su st hQ (.inr ⟨hz, rfl⟩) w1 HC.out).mono ?_
  rintro e w2 ⟨rfl, hb⟩
  have H2 := Lib.hid (H.out.call hb)
  clear hb H f0 f1 f2 f3 f4 f5 f6 f7 f8 f9 f10
  go_wp2_with fail
  go_ret
  exact ⟨rfl, H2.out.below (fun _ => id)⟩

namespace Dd
/-- The i-th goes, the last one takes its place. -/
def cut (q : List Cl) (i : Nat) (y : Cl) : List Cl := (q.set i y).take (q.length - 1)
theorem cut_length {q : List Cl} {i : Nat} {y : Cl} : (cut q i y).length = q.length - 1 := by simp [cut]
end Dd

set_option maxRecDepth 10000 in
set_option maxHeartbeats 2000000 in
theorem dack_yes {P i : Nat} {n : Int} {Q : List Dd.Cl} {L : Option Nat} {x y : Dd.Cl} (k c s t g a r q v : Int) (su st : Bool) (hQ : Q.length ≤ 1000000) (hz : Dd.At Q c a i x) (hy : Q[Q.length - 1]? = some y) (w : World) (h : Dc w P n Q L) : Calls Try.prog 27 #[.pointer (some ⟨P, 0, none⟩), .agg #[.int .i64 k, .int .i64 c, .int .i64 s, .int .i64 t, .int .i64 g, .int .u32 a, .int .i64 r, .bool su, .bool st, .int .i64 q, .int .u32 v]] w fun e w' => e = .returned (.bool true) ∧ Dc w' P n (Dd.cut Q i y) L ∧ Rest (fun j => j = P ∨ L = some j) w w' := by
  obtain ⟨G, off, cap, rfl, hd⟩ := h.some_ hz.lt
  have hlt := hz.lt
  obtain ⟨m, hm⟩ : ∃ m, Q.length = m + 1 := ⟨Q.length - 1, by omega⟩
  have H := Lib.hid ((Upon.start (fun _ => False) w).lay (.cells #[.int .i64 k, .int .i64 c, .int .i64 s, .int .i64 t, .int .i64 g, .int .u32 a, .int .i64 r, .bool su, .bool st, .int .i64 q, .int .u32 v] 29))
  obtain ⟨f0, f1, f2, f3, f4, f5, f6, f7, f8, f9, f10⟩ := frame_cells (H.out.get 0 rfl)
  have HC := Lib.hid (hd.call (H.out.below (fun _ => id)))
  have HZ := Lib.hid hz
  have HY := Lib.hid hy
  have hi0 : ¬(i : Int) < 0 := by omega
  have hi1 : (0 : Int) ≤ (i : Int) := by omega
  have hi2 : (i : Int) < (Q.length : Int) := by omega
  have hw : IntKind.i64.wrap ((Q.length : Int) - 1) = (m : Int) := by rw [IntKind.wrap_i64]; omega
  have hm2 : (m : Int) < (Q.length : Int) := by omega
  have hmc : (m : Int) ≤ (cap : Int) := by have := hd.row.room; omega
  have HM := Lib.hid hm
  clear h hd hz hy hlt
  go_enter Try.func27, Try.ntmps27
  go_upto_region 1 with fail
  generalize w.alloc _ = w1 at HC H f0 f1 f2 f3 f4 f5 f6 f7 f8 f9 f10 ⊢
  generalize w.heap.size = bF at H f0 f1 f2 f3 f4 f5 f6 f7 f8 f9 f10 ⊢
  go_wp2_with fail
  refine (dat_any k c s t g a r q v su st hQ (.inl ⟨i, x, HZ.out, rfl⟩) w1 HC.out.dc).mono ?_
  rintro e w2 ⟨rfl, hb⟩
  have HR2 := Lib.hid (H.out.call hb).rest
  have HC2 := Lib.hid (HC.out.call hb)
  clear hb H HC f0 f1 f2 f3 f4 f5 f6 f7 f8 f9 f10
  have hblk := HC2.out.blk
  obtain ⟨p0, p1⟩ := two_cells hblk
  have HB := Lib.hid hblk
  clear hblk hm
  go_upto_region 5 with fail
  refine wp_region_Z_drew 13 (S := fun w' => w'.cell? ⟨P, 1, none⟩ = some (.slice (some ⟨G, off, none⟩) Q.length cap) ∧ w'.rangeAt G (off + m * 22) y.cells) (by kernel_rfl) ⟨p1, ?_⟩ (fun hHeld => ?_)
  · intro j u hu
    exact Dd.itm.cell HC2.out.row (by have := HY.out; rw [HM.out] at this; simpa using this) j (by have := (List.getElem?_eq_some_iff.1 hu).1; exact this) hu
  have hc3 := HC2.out.call (w' := w2.drew) (Below.refl _ _).drew
  have hr3 := HR2.out.trans (o3 := fun _ => False) (Rest.drew (fun _ => False) w2) (fun _ _ => id) (fun _ _ => id)
  generalize w2.drew = w3 at hc3 hr3 hHeld ⊢
  have HC3 := Lib.hid hc3
  have HR3 := Lib.hid hr3
  clear hc3 hr3 HC2 HR2 p0 p1 HB
  refine wpAnyZ_yield 0 (.pointer (some ⟨P, 0, none⟩)) rfl (by kernel_rfl) (by kernel_rfl) (by kernel_rfl) (fun d _ _ _ h => by cases d <;> exact h) (by rfl) (by assumption) (fun _ _ => by go_simp) ?_
  simp only [Act.put, List.setIfInBounds_toArray, List.set_cons_zero, List.set_cons_succ]
  refine wpAnyZ_yield 1 (.pointer (some ⟨P, 0, none⟩)) rfl (by kernel_rfl) (by kernel_rfl) (by kernel_rfl) (fun d _ _ _ h => by cases d <;> exact h) (by rfl) (by assumption) (fun _ _ => by go_simp) ?_
  simp only [Act.put, List.setIfInBounds_toArray, List.set_cons_zero, List.set_cons_succ]
  refine wpAnyZ_yield 2 (.pointer (some ⟨P, 1, none⟩)) rfl (by kernel_rfl) (by kernel_rfl) (by kernel_rfl) (fun d _ _ _ h => by cases d <;> exact h) (by rfl) (by assumption) (fun _ _ => by go_simp) ?_
  simp only [Act.put, List.setIfInBounds_toArray, List.set_cons_zero, List.set_cons_succ]
  refine wpAnyZ_yield 3 (.slice (some ⟨G, off, none⟩) Q.length cap) rfl (by kernel_rfl) (by kernel_rfl) (by kernel_rfl) (fun d _ _ _ h => by cases d <;> exact h) (by rfl) (by assumption) (fun _ hSw => by (try dsimp only at hSw); go_simp) ?_
  simp only [Act.put, List.setIfInBounds_toArray, List.set_cons_zero, List.set_cons_succ]
  refine wpAnyZ_yield 4 (.int .i64 (i : Int)) rfl (by kernel_rfl) (by kernel_rfl) (by kernel_rfl) (fun d _ _ _ h => by cases d <;> exact h) (by rfl) (by assumption) (fun _ _ => by go_simp) ?_
  simp only [Act.put, List.setIfInBounds_toArray, List.set_cons_zero, List.set_cons_succ]
  refine wpAnyZ_yield 5 (.pointer (some ⟨P, 0, none⟩)) rfl (by kernel_rfl) (by kernel_rfl) (by kernel_rfl) (fun d _ _ _ h => by cases d <;> exact h) (by rfl) (by assumption) (fun _ _ => by go_simp) ?_
  simp only [Act.put, List.setIfInBounds_toArray, List.set_cons_zero, List.set_cons_succ]
  refine wpAnyZ_yield 6 (.pointer (some ⟨P, 0, none⟩)) rfl (by kernel_rfl) (by kernel_rfl) (by kernel_rfl) (fun d _ _ _ h => by cases d <;> exact h) (by rfl) (by assumption) (fun _ _ => by go_simp) ?_
  simp only [Act.put, List.setIfInBounds_toArray, List.set_cons_zero, List.set_cons_succ]
  refine wpAnyZ_yield 7 (.pointer (some ⟨P, 1, none⟩)) rfl (by kernel_rfl) (by kernel_rfl) (by kernel_rfl) (fun d _ _ _ h => by cases d <;> exact h) (by rfl) (by assumption) (fun _ _ => by go_simp) ?_
  simp only [Act.put, List.setIfInBounds_toArray, List.set_cons_zero, List.set_cons_succ]
  refine wpAnyZ_yield 8 (.slice (some ⟨G, off, none⟩) Q.length cap) rfl (by kernel_rfl) (by kernel_rfl) (by kernel_rfl) (fun d _ _ _ h => by cases d <;> exact h) (by rfl) (by assumption) (fun _ hSw => by (try dsimp only at hSw); go_simp) ?_
  simp only [Act.put, List.setIfInBounds_toArray, List.set_cons_zero, List.set_cons_succ]
  refine wpAnyZ_yield 9 (.int .i64 (m : Int)) rfl (by kernel_rfl) (by kernel_rfl) (by kernel_rfl) (fun d _ _ _ h => by cases d <;> exact h) (by rfl) (by assumption) (fun _ _ => by go_simp) ?_
  simp only [Act.put, List.setIfInBounds_toArray, List.set_cons_zero, List.set_cons_succ]
  refine wpAnyZ_yield 10 (.pointer (some ⟨G, off + m * 22, none⟩)) rfl (by kernel_rfl) (by kernel_rfl) (by kernel_rfl) (fun d _ _ _ h => by cases d <;> exact h) (by rfl) (by assumption) (fun _ _ => by go_simp) ?_
  simp only [Act.put, List.setIfInBounds_toArray, List.set_cons_zero, List.set_cons_succ]
  refine wpAnyZ_yield 11 (.agg y.cells.toArray) rfl (by kernel_rfl) (by kernel_rfl) (by kernel_rfl) (fun d _ _ _ h => by cases d <;> exact h) (by rfl) (by assumption) (fun _ hSw => exec_load_mid Try.bigCall (.tmp 28) rfl rfl rfl hSw.2) ?_
  simp only [Act.put, List.setIfInBounds_toArray, List.set_cons_zero, List.set_cons_succ]
  refine wpAnyZ_yield 12 (.pointer (some ⟨G, off + i * 22, none⟩)) rfl (by kernel_rfl) (by kernel_rfl) (by kernel_rfl) (fun d _ _ _ h => by cases d <;> exact h) (by rfl) (by assumption) (fun _ _ => by go_simp) ?_
  simp only [Act.put, List.setIfInBounds_toArray, List.set_cons_zero, List.set_cons_succ]
  have hov := HC3.out.over HZ.out.lt y
  have hth : w3.there G (off + i * 22) 22 := HC3.out.there HZ.out.at_
  refine wpAnyZ_ready (rs := [13]) (by kernel_rfl) (by simp) (AllReadyZ.cons rfl (fun K hK => ?_) AllReadyZ.nil)
  refine step_store_mid Try.bigCall rfl (.tmp 30) (.tmp 29) rfl rfl rfl rfl (Dd.itm.one y) hth ?_
  refine hK.out _ _ (fun h => absurd rfl h) (fun _ => ?_)
  clear hK K
  try simp only [Act.put, List.setIfInBounds_toArray]
  refine wpAnyZ_done (by kernel_rfl) ?_ _
  have hr4 := HR3.out.trans (o3 := fun j => j = P ∨ some G = some j) (Rest.grown (own := fun j => some G = some j) (grown_setCells G y.cells (off + i * 22) w3) (fun _ e => e)) (fun _ _ => False.elim) (fun _ _ => .inr)
  clear hHeld hth HC3 HR3
  generalize w3.setCells _ _ _ = w4 at hov hr4 ⊢
  have hblk := hov.blk
  rw [List.length_set] at hblk
  obtain ⟨p0, p1⟩ := two_cells hblk
  have f1 := frozen_of_row _ _ 1 _ _ hblk
  have HE := Lib.hid (And.intro hov hr4)
  have HB := Lib.hid hblk
  clear hov hr4 hblk
  go_wp2_with fail
  go_ret
  obtain ⟨hov, hr4⟩ := HE.out
  refine ⟨rfl, ?_, hr4.trans (Rest.setCell (own := fun j => j = P ∨ some G = some j) _ _ _ (.inl rfl)) (fun _ _ => id) (fun _ _ => id)⟩
  have hl : (Dd.cut Q i y).length = m := by rw [Dd.cut_length]; have := HM.out; omega
  have hm1 : Q.length - 1 = m := by have := HM.out; omega
  refine .inr ⟨G, off, cap, rfl, hov.ne, ?_, ?_⟩
  · rw [hl]
    exact heap_setCell_same _ P 1 _ _ _ HB.out
  · rw [hl, Dd.cut, hm1]
    exact (Dd.itm.but hov.row (by rw [List.length_set]; omega) (by rw [List.length_set]; omega)).kept (heap_setCell_other _ _ _ _ hov.ne)
end Go.Proofs.Ytgboiejiodgcnaa
