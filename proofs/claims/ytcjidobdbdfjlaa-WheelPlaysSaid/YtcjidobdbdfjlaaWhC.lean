/- An alarm is cut out of a place. -/
import Derived.Test.YtcjidobdbdfjlaaWhK
import Derived.Test.YtcjidobdbdfjlaaRfD
namespace Go.Proofs.Ytcjidobdbdfjlaa
open Go.RowKit Go.Sort

theorem flatA_cut (l : List En) (i : Nat) : flatA (l.take i ++ l.drop (i + 1)) = flatA (l.take i) ++ flatA (l.drop (i + 1)) := flatA_append _ _

/-- What append comes to, when the i-th is left out. -/
theorem cut_run {B g off c i : Nat} {l : List En} (w : World) (h : RowK w B 30 5 g off l.length c (flatA l)) (hi : i < l.length) (hl : l.length ≤ 1000) (hB : B ≤ w.heap.size) (ad : Addr) (d : Nat) (hd : (c = i + 1 ∧ ad = ⟨g, off, none⟩) ∨ ad = ⟨g, off + (i + 1) * 5, none⟩) :
    ∃ g' off' cap' w', (∀ ty, (Builtin.append_ #[53, 53] ty #[.slice (some ⟨g, off, none⟩) i i, .slice (some ad) (l.length - (i + 1)) d]).run Try.prog w = .ok (.slice (some ⟨g', off', none⟩) (l.length - 1) cap') w') ∧ RowK w' B 30 5 g' off' (l.length - 1) cap' (flatA (l.take i ++ l.drop (i + 1))) ∧ Rest (fun k => k = g) w w' ∧ (g' = g ∨ w.heap.size ≤ g') := by
  obtain ⟨i0, hinf, hz0, hz1, hz2⟩ := info_parts Try.infoA13
  have hroom := h.room
  have hmost := h.most
  have hlt : (l.take i).length = i := by rw [List.length_take]; omega
  have hrow : RowK w B 30 5 g off i i (flatA (l.take i)) := by
    obtain ⟨cur, hg, hs, hc⟩ := h.block
    refine ⟨by rw [flatA_length, hlt], h.from_, Nat.le_refl _, by omega, cur, hg, by omega, fun j u hj => ?_⟩
    rw [flatA_take, List.getElem?_take] at hj
    split at hj
    · exact hc j u hj
    · cases hj
  have hnews : ∀ j u, (flatA (l.drop (i + 1)))[j]? = some u → w.cell? (ad.add j) = some u := fun j u hj => by
    have hjl := (List.getElem?_eq_some_iff.1 hj).1
    rw [flatA_length, List.length_drop] at hjl
    rcases hd with ⟨hc, -⟩ | rfl
    · omega
    · rw [flatA_drop, List.getElem?_drop] at hj
      rw [Addr.add_lit, Nat.add_assoc]
      exact h.cell hj
  obtain ⟨g', off', cap', w', h1, h2, h3, h4⟩ := run_append_rowK (P := Try.prog) w 53 53 B 5 30 i0 _ 40 Try.underlying53 hinf hz0 hz1 hz2 rfl (by decide) g off i i _ hrow ad (l.length - (i + 1)) d (flatA (l.drop (i + 1))) (by rw [flatA_length, List.length_drop]) hnews (flatA_one _) (by unfold maxLen; omega) (by omega) hB
  rw [show i + (l.length - (i + 1)) = l.length - 1 by omega, ← flatA_cut] at h2
  rw [show i + (l.length - (i + 1)) = l.length - 1 by omega] at h1
  exact ⟨g', off', cap', w', fun ty => h1, h2, Rest.grown h3 (fun k e => by cases e; rfl), h4⟩

/-- Five cells of a block, written anew. -/
theorem five_set {w : World} {b : Nat} {t : TypeId} {c0 c1 c2 c3 c4 : Value} (h : w.heap[b]? = some (.cells #[c0, c1, c2, c3, c4] t (0, 0))) (v0 v1 v2 v3 v4 : Int) :
    (((((w.setCell ⟨b, 0, none⟩ (.int .i64 v0)).setCell ⟨b, 1, none⟩ (.int .i64 v1)).setCell ⟨b, 2, none⟩ (.int .i64 v2)).setCell ⟨b, 3, none⟩ (.int .i64 v3)).setCell ⟨b, 4, none⟩ (.int .i64 v4)).heap[b]? = some (.cells #[.int .i64 v0, .int .i64 v1, .int .i64 v2, .int .i64 v3, .int .i64 v4] t (0, 0)) :=
  heap_setCell_same _ b 4 _ _ _ (heap_setCell_same _ b 3 _ _ _ (heap_setCell_same _ b 2 _ _ _ (heap_setCell_same _ b 1 _ _ _ (heap_setCell_same _ b 0 _ _ _ h))))
theorem five_rest (w : World) (b : Nat) (v0 v1 v2 v3 v4 : Value) : Rest (fun k => k = b) w (((((w.setCell ⟨b, 0, none⟩ v0).setCell ⟨b, 1, none⟩ v1).setCell ⟨b, 2, none⟩ v2).setCell ⟨b, 3, none⟩ v3).setCell ⟨b, 4, none⟩ v4) := by
  have h := fun (w : World) (o : Nat) (v : Value) => Rest.setCell (own := fun k => k = b) w ⟨b, o, none⟩ v rfl
  have t := fun {a b' c : World} (x : Rest (fun k => k = b) a b') (y : Rest (fun k => k = b) b' c) => x.trans (o3 := fun k => k = b) y (fun _ _ => id) (fun _ _ => id)
  exact t (t (t (t (h _ _ _) (h _ _ _)) (h _ _ _)) (h _ _ _)) (h _ _ _)
/-- The result's box, which was laid since, is written. -/
theorem hend_cut {B P : Nat} {w w6 : World} {now : Int} {F : Nat → List En} {K : List Nat} {v0 v1 v2 v3 v4 : Value} (h : ∃ V', Whl B w6 P now F V' (w.heap.size :: K) ∧ Rest (fun k => B ≤ k ∧ k ∉ K) w w6) : ∃ V', Whl B (((((w6.setCell ⟨w.heap.size, 0, none⟩ v0).setCell ⟨w.heap.size, 1, none⟩ v1).setCell ⟨w.heap.size, 2, none⟩ v2).setCell ⟨w.heap.size, 3, none⟩ v3).setCell ⟨w.heap.size, 4, none⟩ v4) P now F V' K ∧ Rest (fun k => B ≤ k ∧ k ∉ K) w (((((w6.setCell ⟨w.heap.size, 0, none⟩ v0).setCell ⟨w.heap.size, 1, none⟩ v1).setCell ⟨w.heap.size, 2, none⟩ v2).setCell ⟨w.heap.size, 3, none⟩ v3).setCell ⟨w.heap.size, 4, none⟩ v4) := by
  obtain ⟨V', hW, hr⟩ := h
  exact ⟨V', (hW.wrote (five_rest w6 w.heap.size v0 v1 v2 v3 v4) (fun k e => by subst e; exact List.mem_cons_self)).drop (fun k hk => List.mem_cons_of_mem _ hk), hr.trans (o3 := fun k => B ≤ k ∧ k ∉ K) (five_rest w6 w.heap.size v0 v1 v2 v3 v4) (fun _ _ => id) (fun i hi e => by omega)⟩

set_option maxHeartbeats 2000000 in
set_option maxRecDepth 100000 in
theorem cut_any {B P q i : Nat} {w : World} {now : Int} {F : Nat → List En} {V : Nat → Value} {K : List Nat} (h : Whl B w P now F V K) (hq : q < 50) (hi : i < (F q).length) (hl : (F q).length ≤ 900) :
    Calls Try.prog 22 #[.pointer (some ⟨P, q + 1, none⟩), .int .i64 (i : Nat)] w fun e w' => e = .returned (.agg (Hp.alarm (Hp.e (F q) i)).toArray) ∧ ∃ V', Whl B w' P now (Wh.upd F q ((F q).take i ++ (F q).drop (i + 1))) V' K ∧ Rest (fun k => B ≤ k ∧ k ∉ K) w w' := by
  obtain ⟨g, off, c, hv, hrow⟩ := (h.rows q hq).some_ (by omega)
  have mixed : Try.prog.follows .mixedOrders = true := by kernel_rfl
  have c2 := h.cell hq
  rw [hv] at c2
  have hPl := h.lt
  have hgl := hrow.lt
  obtain ⟨a0, a1, a2, a3, a4⟩ := hrow.al hi
  have c2a : ∀ o, (w.alloc o).cell? ⟨P, q + 1, none⟩ = some (.slice (some ⟨g, off, none⟩) (F q).length c) := fun o => by rw [World.cell?_of_block (Below.heap_alloc _ _ _ hPl)]; exact c2
  have k0 : ∀ o, (w.alloc o).cell? ⟨g, off + i * 5, none⟩ = some (.int .i64 (Hp.e (F q) i).t) := fun o => by rw [World.cell?_of_block (Below.heap_alloc _ _ _ hgl)]; exact a0
  have k1 : ∀ o, (w.alloc o).cell? ⟨g, off + i * 5 + 1, none⟩ = some (.int .i64 (Hp.e (F q) i).c) := fun o => by rw [World.cell?_of_block (Below.heap_alloc _ _ _ hgl)]; exact a1
  have k2 : ∀ o, (w.alloc o).cell? ⟨g, off + i * 5 + 2, none⟩ = some (.int .i64 (Hp.e (F q) i).s) := fun o => by rw [World.cell?_of_block (Below.heap_alloc _ _ _ hgl)]; exact a2
  have k3 : ∀ o, (w.alloc o).cell? ⟨g, off + i * 5 + 3, none⟩ = some (.int .i64 (Hp.e (F q) i).g) := fun o => by rw [World.cell?_of_block (Below.heap_alloc _ _ _ hgl)]; exact a3
  have k4 : ∀ o, (w.alloc o).cell? ⟨g, off + i * 5 + 4, none⟩ = some (.int .i64 (Hp.e (F q) i).x) := fun o => by rw [World.cell?_of_block (Below.heap_alloc _ _ _ hgl)]; exact a4
  clear a0 a1 a2 a3 a4 c2
  have HW := Lib.hid h
  have HRow := Lib.hid hrow
  have HV := Lib.hid hv
  have HL := Lib.hid hl
  have hroom := hrow.room
  have hmost := hrow.most
  clear h hrow hv hl hPl hgl
  generalize hx : Hp.e (F q) i = x at k0 k1 k2 k3 k4 ⊢
  generalize hn : (F q).length = n at *
  have hii : (i : Int) < (n : Int) := by omega
  have hic : (i : Int) ≤ (c : Int) := by omega
  have hic2 : i ≤ c := by omega
  have hii1 : (i : Int) + 1 ≤ (n : Int) := by omega
  have hii2 : i + 1 ≤ n := by omega
  have hii3 : ((i : Int) + 1).toNat = i + 1 := by omega
  have hii4 : (0 : Int) ≤ (i : Int) + 1 := by omega
  have hwi : IntKind.i64.wrap ((i : Int) + 1) = (i : Int) + 1 := by rw [IntKind.wrap_i64]; unfold maxLen at hmost; omega
  simp only [Hp.alarm]
  clear hx
  go_enter Try.func22, Try.ntmps22
  go_wp2_with fail
  clear k0 k1 k2 k3 k4 c2a
  have hr0 : Rest (fun _ => False) w ((w.alloc (.cells #[.int .i64 0, .int .i64 0, .int .i64 0, .int .i64 0, .int .i64 0] 30)).alloc (.cells #[.int .i64 x.t, .int .i64 x.c, .int .i64 x.s, .int .i64 x.g, .int .i64 x.x] 30)) := (Rest.alloc (fun _ => False) w _).trans (o3 := fun _ => False) (Rest.alloc (fun _ => False) _ _) (fun _ _ => id) (fun _ _ => id)
  have hb := @box5 w #[.int .i64 0, .int .i64 0, .int .i64 0, .int .i64 0, .int .i64 0] #[.int .i64 x.t, .int .i64 x.c, .int .i64 x.s, .int .i64 x.g, .int .i64 x.x] 30 30
  generalize (w.alloc (.cells #[.int .i64 0, .int .i64 0, .int .i64 0, .int .i64 0, .int .i64 0] 30)).alloc (.cells #[.int .i64 x.t, .int .i64 x.c, .int .i64 x.s, .int .i64 x.g, .int .i64 x.x] 30) = w2 at hr0 hb ⊢
  obtain ⟨hb1, hb2⟩ := hb
  have hd0 : Rest (fun _ => False) w w2.drew := hr0.trans (o3 := fun _ => False) (Rest.drew (fun _ => False) _) (fun _ _ => id) (fun _ _ => id)
  have HWd := Lib.hid (HW.out.fresh (b := w.heap.size) hd0 (Nat.le_refl _) (lt_of_block hb1))
  have hrowd := HRow.out.kept (hd0.block _ HRow.out.lt (fun x => x))
  have cd : w2.drew.cell? ⟨P, q + 1, none⟩ = some (.slice (some ⟨g, off, none⟩) n c) := by rw [HWd.out.cell hq, HV.out]
  rw [← hn] at hrowd
  have hfin : ∀ w5 g' off' cap', RowK w5 B 30 5 g' off' ((F q).length - 1) cap' (flatA ((F q).take i ++ (F q).drop (i + 1))) → Rest (fun k => k = g) w2.drew w5 → (g' = g ∨ w2.drew.heap.size ≤ g') →
      w5.cell? ⟨P, q + 1, none⟩ = some (.slice (some ⟨g, off, none⟩) n c) ∧ w5.frozen? ⟨P, q + 1, none⟩ = false ∧ w5.heap[w.heap.size]? = some (.cells #[.int .i64 0, .int .i64 0, .int .i64 0, .int .i64 0, .int .i64 0] 30 (0, 0)) ∧ w5.heap[w.heap.size + 1]? = some (.cells #[.int .i64 x.t, .int .i64 x.c, .int .i64 x.s, .int .i64 x.g, .int .i64 x.x] 30 (0, 0)) ∧ w.heap.size ≠ P ∧ w.heap.size + 1 ≠ P ∧
      ∃ V', Whl B (w5.setCell ⟨P, q + 1, none⟩ (.slice (some ⟨g', off', none⟩) (n - 1) cap')) P now (Wh.upd F q ((F q).take i ++ (F q).drop (i + 1))) V' (w.heap.size :: K) ∧ Rest (fun k => B ≤ k ∧ k ∉ K) w (w5.setCell ⟨P, q + 1, none⟩ (.slice (some ⟨g', off', none⟩) (n - 1) cap')) := fun w5 g' off' cap' hrow hr5 hg' => by
    have hgP : P ≠ g := fun e => HW.out.off q hq (by rw [HV.out, e]; rfl)
    have hPl := HW.out.lt
    have hgl := HRow.out.lt
    have hP5 : w5.heap[P]? = w2.drew.heap[P]? := hr5.block P HWd.out.lt hgP
    have hlen : ((F q).take i ++ (F q).drop (i + 1)).length = n - 1 := by rw [List.length_append, List.length_take, List.length_drop]; omega
    rw [hn] at hrow
    have hp' : P ≠ g' := fun e => by
      have := HWd.out.lt
      omega
    refine ⟨by rw [World.cell?_of_block hP5]; exact cd, frozen_of_row _ _ _ _ _ (hP5.trans HWd.out.block), (hr5.block _ (lt_of_block hb1) (by omega)).trans hb1, (hr5.block _ (lt_of_block hb2) (by omega)).trans hb2, by omega, by omega, ?_⟩
    have hbl : (w5.setCell ⟨P, q + 1, none⟩ (.slice (some ⟨g', off', none⟩) (n - 1) cap')).heap[P]? = some (.cells (cellsW now (Wh.upd V q (.slice (some ⟨g', off', none⟩) (n - 1) cap'))) 57 (0, 0)) := by
      have := heap_setCell_same w5 P (q + 1) _ _ (.slice (some ⟨g', off', none⟩) (n - 1) cap') (hP5.trans HWd.out.block)
      rwa [cellsW_set] at this
    have hV : (V q).ownBlock = some g := by rw [HV.out]; rfl
    obtain ⟨k1, k2⟩ := HWd.out.turn (w' := w5.setCell ⟨P, q + 1, none⟩ (.slice (some ⟨g', off', none⟩) (n - 1) cap')) (l := (F q).take i ++ (F q).drop (i + 1)) hq ((hr5.mono (o2 := fun k => k = P ∨ (V q).ownBlock = some k) (fun _ _ e => .inr (by rw [hV, e]))).trans (o3 := fun k => k = P ∨ (V q).ownBlock = some k) (Rest.setCell (own := fun k => k = P ∨ (V q).ownBlock = some k) w5 ⟨P, q + 1, none⟩ _ (.inl rfl)) (fun _ _ => id) (fun _ _ => id)) hbl (.inr ⟨g', off', cap', by rw [hlen], by rw [hlen]; exact hrow.kept (Below.heap_setCell _ _ _ _ (fun e => hp' (by rw [e])))⟩) (fun k e => by
      simp only [Value.ownBlock, Option.some.injEq] at e
      rw [hV, Option.some.injEq]
      omega)
    exact ⟨_, k1, hd0.trans (o3 := fun k => B ≤ k ∧ k ∉ K) k2 (fun _ _ => False.elim) (fun _ _ e => ⟨e.1, fun hk => e.2 (List.mem_cons_of_mem _ hk)⟩)⟩
  have hB2 : B ≤ w2.drew.heap.size := HWd.out.bound
  have hl' : (F q).length ≤ 1000 := by rw [hn]; exact Nat.le_trans HL.out (by decide)
  by_cases hci : c = i + 1
  · subst hci
    have hi7 : (i : Int) ≤ (i : Int) + 1 := by omega
    have hi8 : i ≤ i + 1 := by omega
    obtain ⟨g', off', cap', w5, hrun, h1, h2, h3⟩ := cut_run w2.drew hrowd (by omega) hl' hB2 ⟨g, off, none⟩ 0 (.inl ⟨rfl, rfl⟩)
    rw [hn, show n - (i + 1) = 0 by omega] at hrun
    have HF := Lib.hid (hfin w5 g' off' cap' h1 h2 h3)
    clear hfin h1 h2 h3 hr0 hb1 hb2 hd0 hrowd hB2 hl' hn
    unfold maxLen at hmost
    refine wp_region_held_drew (S := fun _ => True) (by kernel_rfl) trivial (fun hHeld => ?_)
    refine wpAnyH_yield 0 (.pointer (some ⟨P, q + 1, none⟩)) rfl (by kernel_rfl) (by kernel_rfl) (by kernel_rfl) (fun d _ _ _ h => by cases d <;> exact h) (by rfl) (by assumption) (fun _ _ => by go_simp) ?_
    simp only [Act.put, List.setIfInBounds_toArray, List.set_cons_zero, List.set_cons_succ]
    refine wpAnyH_yield 1 (.pointer (some ⟨P, q + 1, none⟩)) rfl (by kernel_rfl) (by kernel_rfl) (by kernel_rfl) (fun d _ _ _ h => by cases d <;> exact h) (by rfl) (by assumption) (fun _ _ => by go_simp) ?_
    simp only [Act.put, List.setIfInBounds_toArray, List.set_cons_zero, List.set_cons_succ]
    refine wpAnyH_yield 2 (.pointer (some ⟨P, q + 1, none⟩)) rfl (by kernel_rfl) (by kernel_rfl) (by kernel_rfl) (fun d _ _ _ h => by cases d <;> exact h) (by rfl) (by assumption) (fun _ _ => by go_simp) ?_
    simp only [Act.put, List.setIfInBounds_toArray, List.set_cons_zero, List.set_cons_succ]
    refine wpAnyH_yield 4 (.int .i64 (i : Nat)) rfl (by kernel_rfl) (by kernel_rfl) (by kernel_rfl) (fun d _ _ _ h => by cases d <;> exact h) (by rfl) (by assumption) (fun _ _ => by go_simp) ?_
    simp only [Act.put, List.setIfInBounds_toArray, List.set_cons_zero, List.set_cons_succ]
    refine wpAnyH_yield 5 (.int .i64 (i : Nat)) rfl (by kernel_rfl) (by kernel_rfl) (by kernel_rfl) (fun d _ _ _ h => by cases d <;> exact h) (by rfl) (by assumption) (fun _ _ => by go_simp) ?_
    simp only [Act.put, List.setIfInBounds_toArray, List.set_cons_zero, List.set_cons_succ]
    refine wpAnyH_yield 7 (.pointer (some ⟨P, q + 1, none⟩)) rfl (by kernel_rfl) (by kernel_rfl) (by kernel_rfl) (fun d _ _ _ h => by cases d <;> exact h) (by rfl) (by assumption) (fun _ _ => by go_simp) ?_
    simp only [Act.put, List.setIfInBounds_toArray, List.set_cons_zero, List.set_cons_succ]
    refine wpAnyH_yield 8 (.pointer (some ⟨P, q + 1, none⟩)) rfl (by kernel_rfl) (by kernel_rfl) (by kernel_rfl) (fun d _ _ _ h => by cases d <;> exact h) (by rfl) (by assumption) (fun _ _ => by go_simp) ?_
    simp only [Act.put, List.setIfInBounds_toArray, List.set_cons_zero, List.set_cons_succ]
    refine wpAnyH_yield 10 (.int .i64 (i : Nat)) rfl (by kernel_rfl) (by kernel_rfl) (by kernel_rfl) (fun d _ _ _ h => by cases d <;> exact h) (by rfl) (by assumption) (fun _ _ => by go_simp) ?_
    simp only [Act.put, List.setIfInBounds_toArray, List.set_cons_zero, List.set_cons_succ]
    refine wpAnyH_yield 11 (.int .i64 ((i : Int) + 1)) rfl (by kernel_rfl) (by kernel_rfl) (by kernel_rfl) (fun d _ _ _ h => by cases d <;> exact h) (by rfl) (by assumption) (fun _ _ => by go_simp) ?_
    simp only [Act.put, List.setIfInBounds_toArray, List.set_cons_zero, List.set_cons_succ]
    refine wpAnyH_ready (rs := [3, 9]) (by kernel_rfl) (by simp) (AllReadyH.cons rfl (fun K hK => ?_) (AllReadyH.cons rfl (fun K hK => ?_) AllReadyH.nil))
    · go_simp
      refine hK.out _ _ trivial (fun hHeld => ?_)
      clear hK K
      try simp only [Act.put, List.setIfInBounds_toArray, List.set_cons_zero, List.set_cons_succ]
      refine wpAnyH_yield 6 (.slice (some ⟨g, off, none⟩) i i) rfl (by kernel_rfl) (by kernel_rfl) (by kernel_rfl) (fun d _ _ _ h => by cases d <;> exact h) (by rfl) (by assumption) (fun _ _ => by go_simp) ?_
      simp only [Act.put, List.setIfInBounds_toArray, List.set_cons_zero, List.set_cons_succ]
      refine wpAnyH_ready (rs := [9]) (by kernel_rfl) (by simp) (AllReadyH.cons rfl (fun K hK => ?_) AllReadyH.nil)
      go_simp
      refine hK.out _ _ trivial (fun hHeld => ?_)
      clear hK K
      try simp only [Act.put, List.setIfInBounds_toArray, List.set_cons_zero, List.set_cons_succ]
      refine wpAnyH_yield 12 (.slice (some ⟨g, off, none⟩) 0 0) rfl (by kernel_rfl) (by kernel_rfl) (by kernel_rfl) (fun d _ _ _ h => by cases d <;> exact h) (by rfl) (by assumption) (fun _ _ => by go_simp) ?_
      simp only [Act.put, List.setIfInBounds_toArray, List.set_cons_zero, List.set_cons_succ]
      refine wpAnyH_ready (rs := [13]) (by kernel_rfl) (by simp) (AllReadyH.cons rfl (fun K hK => ?_) AllReadyH.nil)
      refine step_append_run rfl _ _ 53 rfl rfl rfl (hrun _) ?_
      clear cd
      have cP := HF.out.1
      have fP := HF.out.2.1
      refine hK.out _ _ trivial (fun hHeld => ?_)
      clear hK K
      try simp only [Act.put, List.setIfInBounds_toArray]
      refine wpAnyH_yield 14 (.pointer (some ⟨P, q + 1, none⟩)) rfl (by kernel_rfl) (by kernel_rfl) (by kernel_rfl) (fun d _ _ _ h => by cases d <;> exact h) (by rfl) (by assumption) (fun _ _ => by go_simp) ?_
      simp only [Act.put]
      refine wpAnyH_ready (rs := [15]) (by kernel_rfl) (by simp) (AllReadyH.cons rfl (fun K hK => ?_) AllReadyH.nil)
      go_simp
      refine hK.out _ _ trivial (fun hHeld => ?_)
      clear hK K
      try simp only [Act.put, List.setIfInBounds_toArray, List.set_cons_zero, List.set_cons_succ]
      refine wpAnyH_done (by kernel_rfl) ?_ _
      obtain ⟨-, -, hb5, hb6, hP1, hP2, hend⟩ := HF.out
      have HE := Lib.hid hend
      have h5 : (w5.setCell ⟨P, q + 1, none⟩ (.slice (some ⟨g', off', none⟩) (n - 1) cap')).heap[w.heap.size]? = some (.cells #[.int .i64 0, .int .i64 0, .int .i64 0, .int .i64 0, .int .i64 0] 30 (0, 0)) := by rw [heap_setCell_other _ _ _ _ hP1]; exact hb5
      have h6 : (w5.setCell ⟨P, q + 1, none⟩ (.slice (some ⟨g', off', none⟩) (n - 1) cap')).heap[w.heap.size + 1]? = some (.cells #[.int .i64 x.t, .int .i64 x.c, .int .i64 x.s, .int .i64 x.g, .int .i64 x.x] 30 (0, 0)) := by rw [heap_setCell_other _ _ _ _ hP2]; exact hb6
      clear hb5 hb6 hP1 hP2 hend HF cP fP
      generalize w5.setCell ⟨P, q + 1, none⟩ (.slice (some ⟨g', off', none⟩) (n - 1) cap') = w6 at HE h5 h6 ⊢
      obtain ⟨x0, x1, x2, x3, x4⟩ := five_cells13 h6
      have f5 : ∀ i, w6.frozen? ⟨w.heap.size, i, none⟩ = false := fun _ => frozen_of_row _ _ _ _ _ h5
      obtain ⟨z0, z1, z2, z3, z4⟩ := five_cells13 h5
      have H5 := Lib.hid h5
      clear h5 h6
      go_wp2_with fail
      exact bodyPost_ret (results_cell_row Try.results22 _ _ w.heap.size 30 _ (0, 0) _ rfl (five_set H5.out x.t x.c x.s x.g x.x) Try.underlying30 rfl Try.sizeA13) rfl ⟨rfl, hend_cut HE.out⟩
    · go_simp
      refine hK.out _ _ trivial (fun hHeld => ?_)
      clear hK K
      try simp only [Act.put, List.setIfInBounds_toArray, List.set_cons_zero, List.set_cons_succ]
      refine wpAnyH_yield 12 (.slice (some ⟨g, off, none⟩) 0 0) rfl (by kernel_rfl) (by kernel_rfl) (by kernel_rfl) (fun d _ _ _ h => by cases d <;> exact h) (by rfl) (by assumption) (fun _ _ => by go_simp) ?_
      simp only [Act.put, List.setIfInBounds_toArray, List.set_cons_zero, List.set_cons_succ]
      refine wpAnyH_ready (rs := [3]) (by kernel_rfl) (by simp) (AllReadyH.cons rfl (fun K hK => ?_) AllReadyH.nil)
      go_simp
      refine hK.out _ _ trivial (fun hHeld => ?_)
      clear hK K
      try simp only [Act.put, List.setIfInBounds_toArray, List.set_cons_zero, List.set_cons_succ]
      refine wpAnyH_yield 6 (.slice (some ⟨g, off, none⟩) i i) rfl (by kernel_rfl) (by kernel_rfl) (by kernel_rfl) (fun d _ _ _ h => by cases d <;> exact h) (by rfl) (by assumption) (fun _ _ => by go_simp) ?_
      simp only [Act.put, List.setIfInBounds_toArray, List.set_cons_zero, List.set_cons_succ]
      refine wpAnyH_ready (rs := [13]) (by kernel_rfl) (by simp) (AllReadyH.cons rfl (fun K hK => ?_) AllReadyH.nil)
      refine step_append_run rfl _ _ 53 rfl rfl rfl (hrun _) ?_
      clear cd
      have cP := HF.out.1
      have fP := HF.out.2.1
      refine hK.out _ _ trivial (fun hHeld => ?_)
      clear hK K
      try simp only [Act.put, List.setIfInBounds_toArray]
      refine wpAnyH_yield 14 (.pointer (some ⟨P, q + 1, none⟩)) rfl (by kernel_rfl) (by kernel_rfl) (by kernel_rfl) (fun d _ _ _ h => by cases d <;> exact h) (by rfl) (by assumption) (fun _ _ => by go_simp) ?_
      simp only [Act.put]
      refine wpAnyH_ready (rs := [15]) (by kernel_rfl) (by simp) (AllReadyH.cons rfl (fun K hK => ?_) AllReadyH.nil)
      go_simp
      refine hK.out _ _ trivial (fun hHeld => ?_)
      clear hK K
      try simp only [Act.put, List.setIfInBounds_toArray, List.set_cons_zero, List.set_cons_succ]
      refine wpAnyH_done (by kernel_rfl) ?_ _
      obtain ⟨-, -, hb5, hb6, hP1, hP2, hend⟩ := HF.out
      have HE := Lib.hid hend
      have h5 : (w5.setCell ⟨P, q + 1, none⟩ (.slice (some ⟨g', off', none⟩) (n - 1) cap')).heap[w.heap.size]? = some (.cells #[.int .i64 0, .int .i64 0, .int .i64 0, .int .i64 0, .int .i64 0] 30 (0, 0)) := by rw [heap_setCell_other _ _ _ _ hP1]; exact hb5
      have h6 : (w5.setCell ⟨P, q + 1, none⟩ (.slice (some ⟨g', off', none⟩) (n - 1) cap')).heap[w.heap.size + 1]? = some (.cells #[.int .i64 x.t, .int .i64 x.c, .int .i64 x.s, .int .i64 x.g, .int .i64 x.x] 30 (0, 0)) := by rw [heap_setCell_other _ _ _ _ hP2]; exact hb6
      clear hb5 hb6 hP1 hP2 hend HF cP fP
      generalize w5.setCell ⟨P, q + 1, none⟩ (.slice (some ⟨g', off', none⟩) (n - 1) cap') = w6 at HE h5 h6 ⊢
      obtain ⟨x0, x1, x2, x3, x4⟩ := five_cells13 h6
      have f5 : ∀ i, w6.frozen? ⟨w.heap.size, i, none⟩ = false := fun _ => frozen_of_row _ _ _ _ _ h5
      obtain ⟨z0, z1, z2, z3, z4⟩ := five_cells13 h5
      have H5 := Lib.hid h5
      clear h5 h6
      go_wp2_with fail
      exact bodyPost_ret (results_cell_row Try.results22 _ _ w.heap.size 30 _ (0, 0) _ rfl (five_set H5.out x.t x.c x.s x.g x.x) Try.underlying30 rfl Try.sizeA13) rfl ⟨rfl, hend_cut HE.out⟩
  · have hci2 : ¬ i + 1 = c := fun e => hci e.symm
    obtain ⟨g', off', cap', w5, hrun, h1, h2, h3⟩ := cut_run w2.drew hrowd (by omega) hl' hB2 ⟨g, off + (i + 1) * 5, none⟩ (c - (i + 1)) (.inr rfl)
    have HF := Lib.hid (hfin w5 g' off' cap' h1 h2 h3)
    rw [hn] at hrun
    clear hfin h1 h2 h3 hr0 hb1 hb2 hd0 hrowd hB2 hl' hn
    unfold maxLen at hmost
    refine wp_region_held_drew (S := fun _ => True) (by kernel_rfl) trivial (fun hHeld => ?_)
    refine wpAnyH_yield 0 (.pointer (some ⟨P, q + 1, none⟩)) rfl (by kernel_rfl) (by kernel_rfl) (by kernel_rfl) (fun d _ _ _ h => by cases d <;> exact h) (by rfl) (by assumption) (fun _ _ => by go_simp) ?_
    simp only [Act.put, List.setIfInBounds_toArray, List.set_cons_zero, List.set_cons_succ]
    refine wpAnyH_yield 1 (.pointer (some ⟨P, q + 1, none⟩)) rfl (by kernel_rfl) (by kernel_rfl) (by kernel_rfl) (fun d _ _ _ h => by cases d <;> exact h) (by rfl) (by assumption) (fun _ _ => by go_simp) ?_
    simp only [Act.put, List.setIfInBounds_toArray, List.set_cons_zero, List.set_cons_succ]
    refine wpAnyH_yield 2 (.pointer (some ⟨P, q + 1, none⟩)) rfl (by kernel_rfl) (by kernel_rfl) (by kernel_rfl) (fun d _ _ _ h => by cases d <;> exact h) (by rfl) (by assumption) (fun _ _ => by go_simp) ?_
    simp only [Act.put, List.setIfInBounds_toArray, List.set_cons_zero, List.set_cons_succ]
    refine wpAnyH_yield 4 (.int .i64 (i : Nat)) rfl (by kernel_rfl) (by kernel_rfl) (by kernel_rfl) (fun d _ _ _ h => by cases d <;> exact h) (by rfl) (by assumption) (fun _ _ => by go_simp) ?_
    simp only [Act.put, List.setIfInBounds_toArray, List.set_cons_zero, List.set_cons_succ]
    refine wpAnyH_yield 5 (.int .i64 (i : Nat)) rfl (by kernel_rfl) (by kernel_rfl) (by kernel_rfl) (fun d _ _ _ h => by cases d <;> exact h) (by rfl) (by assumption) (fun _ _ => by go_simp) ?_
    simp only [Act.put, List.setIfInBounds_toArray, List.set_cons_zero, List.set_cons_succ]
    refine wpAnyH_yield 7 (.pointer (some ⟨P, q + 1, none⟩)) rfl (by kernel_rfl) (by kernel_rfl) (by kernel_rfl) (fun d _ _ _ h => by cases d <;> exact h) (by rfl) (by assumption) (fun _ _ => by go_simp) ?_
    simp only [Act.put, List.setIfInBounds_toArray, List.set_cons_zero, List.set_cons_succ]
    refine wpAnyH_yield 8 (.pointer (some ⟨P, q + 1, none⟩)) rfl (by kernel_rfl) (by kernel_rfl) (by kernel_rfl) (fun d _ _ _ h => by cases d <;> exact h) (by rfl) (by assumption) (fun _ _ => by go_simp) ?_
    simp only [Act.put, List.setIfInBounds_toArray, List.set_cons_zero, List.set_cons_succ]
    refine wpAnyH_yield 10 (.int .i64 (i : Nat)) rfl (by kernel_rfl) (by kernel_rfl) (by kernel_rfl) (fun d _ _ _ h => by cases d <;> exact h) (by rfl) (by assumption) (fun _ _ => by go_simp) ?_
    simp only [Act.put, List.setIfInBounds_toArray, List.set_cons_zero, List.set_cons_succ]
    refine wpAnyH_yield 11 (.int .i64 ((i : Int) + 1)) rfl (by kernel_rfl) (by kernel_rfl) (by kernel_rfl) (fun d _ _ _ h => by cases d <;> exact h) (by rfl) (by assumption) (fun _ _ => by go_simp) ?_
    simp only [Act.put, List.setIfInBounds_toArray, List.set_cons_zero, List.set_cons_succ]
    refine wpAnyH_ready (rs := [3, 9]) (by kernel_rfl) (by simp) (AllReadyH.cons rfl (fun K hK => ?_) (AllReadyH.cons rfl (fun K hK => ?_) AllReadyH.nil))
    · go_simp
      refine hK.out _ _ trivial (fun hHeld => ?_)
      clear hK K
      try simp only [Act.put, List.setIfInBounds_toArray, List.set_cons_zero, List.set_cons_succ]
      refine wpAnyH_yield 6 (.slice (some ⟨g, off, none⟩) i i) rfl (by kernel_rfl) (by kernel_rfl) (by kernel_rfl) (fun d _ _ _ h => by cases d <;> exact h) (by rfl) (by assumption) (fun _ _ => by go_simp) ?_
      simp only [Act.put, List.setIfInBounds_toArray, List.set_cons_zero, List.set_cons_succ]
      refine wpAnyH_ready (rs := [9]) (by kernel_rfl) (by simp) (AllReadyH.cons rfl (fun K hK => ?_) AllReadyH.nil)
      go_simp
      refine hK.out _ _ trivial (fun hHeld => ?_)
      clear hK K
      try simp only [Act.put, List.setIfInBounds_toArray, List.set_cons_zero, List.set_cons_succ]
      refine wpAnyH_yield 12 (.slice (some ⟨g, off + (i + 1) * 5, none⟩) (n - (i + 1)) (c - (i + 1))) rfl (by kernel_rfl) (by kernel_rfl) (by kernel_rfl) (fun d _ _ _ h => by cases d <;> exact h) (by rfl) (by assumption) (fun _ _ => by go_simp) ?_
      simp only [Act.put, List.setIfInBounds_toArray, List.set_cons_zero, List.set_cons_succ]
      refine wpAnyH_ready (rs := [13]) (by kernel_rfl) (by simp) (AllReadyH.cons rfl (fun K hK => ?_) AllReadyH.nil)
      refine step_append_run rfl _ _ 53 rfl rfl rfl (hrun _) ?_
      clear cd
      have cP := HF.out.1
      have fP := HF.out.2.1
      refine hK.out _ _ trivial (fun hHeld => ?_)
      clear hK K
      try simp only [Act.put, List.setIfInBounds_toArray]
      refine wpAnyH_yield 14 (.pointer (some ⟨P, q + 1, none⟩)) rfl (by kernel_rfl) (by kernel_rfl) (by kernel_rfl) (fun d _ _ _ h => by cases d <;> exact h) (by rfl) (by assumption) (fun _ _ => by go_simp) ?_
      simp only [Act.put]
      refine wpAnyH_ready (rs := [15]) (by kernel_rfl) (by simp) (AllReadyH.cons rfl (fun K hK => ?_) AllReadyH.nil)
      go_simp
      refine hK.out _ _ trivial (fun hHeld => ?_)
      clear hK K
      try simp only [Act.put, List.setIfInBounds_toArray, List.set_cons_zero, List.set_cons_succ]
      refine wpAnyH_done (by kernel_rfl) ?_ _
      obtain ⟨-, -, hb5, hb6, hP1, hP2, hend⟩ := HF.out
      have HE := Lib.hid hend
      have h5 : (w5.setCell ⟨P, q + 1, none⟩ (.slice (some ⟨g', off', none⟩) (n - 1) cap')).heap[w.heap.size]? = some (.cells #[.int .i64 0, .int .i64 0, .int .i64 0, .int .i64 0, .int .i64 0] 30 (0, 0)) := by rw [heap_setCell_other _ _ _ _ hP1]; exact hb5
      have h6 : (w5.setCell ⟨P, q + 1, none⟩ (.slice (some ⟨g', off', none⟩) (n - 1) cap')).heap[w.heap.size + 1]? = some (.cells #[.int .i64 x.t, .int .i64 x.c, .int .i64 x.s, .int .i64 x.g, .int .i64 x.x] 30 (0, 0)) := by rw [heap_setCell_other _ _ _ _ hP2]; exact hb6
      clear hb5 hb6 hP1 hP2 hend HF cP fP
      generalize w5.setCell ⟨P, q + 1, none⟩ (.slice (some ⟨g', off', none⟩) (n - 1) cap') = w6 at HE h5 h6 ⊢
      obtain ⟨x0, x1, x2, x3, x4⟩ := five_cells13 h6
      have f5 : ∀ i, w6.frozen? ⟨w.heap.size, i, none⟩ = false := fun _ => frozen_of_row _ _ _ _ _ h5
      obtain ⟨z0, z1, z2, z3, z4⟩ := five_cells13 h5
      have H5 := Lib.hid h5
      clear h5 h6
      go_wp2_with fail
      exact bodyPost_ret (results_cell_row Try.results22 _ _ w.heap.size 30 _ (0, 0) _ rfl (five_set H5.out x.t x.c x.s x.g x.x) Try.underlying30 rfl Try.sizeA13) rfl ⟨rfl, hend_cut HE.out⟩
    · go_simp
      refine hK.out _ _ trivial (fun hHeld => ?_)
      clear hK K
      try simp only [Act.put, List.setIfInBounds_toArray, List.set_cons_zero, List.set_cons_succ]
      refine wpAnyH_yield 12 (.slice (some ⟨g, off + (i + 1) * 5, none⟩) (n - (i + 1)) (c - (i + 1))) rfl (by kernel_rfl) (by kernel_rfl) (by kernel_rfl) (fun d _ _ _ h => by cases d <;> exact h) (by rfl) (by assumption) (fun _ _ => by go_simp) ?_
      simp only [Act.put, List.setIfInBounds_toArray, List.set_cons_zero, List.set_cons_succ]
      refine wpAnyH_ready (rs := [3]) (by kernel_rfl) (by simp) (AllReadyH.cons rfl (fun K hK => ?_) AllReadyH.nil)
      go_simp
      refine hK.out _ _ trivial (fun hHeld => ?_)
      clear hK K
      try simp only [Act.put, List.setIfInBounds_toArray, List.set_cons_zero, List.set_cons_succ]
      refine wpAnyH_yield 6 (.slice (some ⟨g, off, none⟩) i i) rfl (by kernel_rfl) (by kernel_rfl) (by kernel_rfl) (fun d _ _ _ h => by cases d <;> exact h) (by rfl) (by assumption) (fun _ _ => by go_simp) ?_
      simp only [Act.put, List.setIfInBounds_toArray, List.set_cons_zero, List.set_cons_succ]
      refine wpAnyH_ready (rs := [13]) (by kernel_rfl) (by simp) (AllReadyH.cons rfl (fun K hK => ?_) AllReadyH.nil)
      refine step_append_run rfl _ _ 53 rfl rfl rfl (hrun _) ?_
      clear cd
      have cP := HF.out.1
      have fP := HF.out.2.1
      refine hK.out _ _ trivial (fun hHeld => ?_)
      clear hK K
      try simp only [Act.put, List.setIfInBounds_toArray]
      refine wpAnyH_yield 14 (.pointer (some ⟨P, q + 1, none⟩)) rfl (by kernel_rfl) (by kernel_rfl) (by kernel_rfl) (fun d _ _ _ h => by cases d <;> exact h) (by rfl) (by assumption) (fun _ _ => by go_simp) ?_
      simp only [Act.put]
      refine wpAnyH_ready (rs := [15]) (by kernel_rfl) (by simp) (AllReadyH.cons rfl (fun K hK => ?_) AllReadyH.nil)
      go_simp
      refine hK.out _ _ trivial (fun hHeld => ?_)
      clear hK K
      try simp only [Act.put, List.setIfInBounds_toArray, List.set_cons_zero, List.set_cons_succ]
      refine wpAnyH_done (by kernel_rfl) ?_ _
      obtain ⟨-, -, hb5, hb6, hP1, hP2, hend⟩ := HF.out
      have HE := Lib.hid hend
      have h5 : (w5.setCell ⟨P, q + 1, none⟩ (.slice (some ⟨g', off', none⟩) (n - 1) cap')).heap[w.heap.size]? = some (.cells #[.int .i64 0, .int .i64 0, .int .i64 0, .int .i64 0, .int .i64 0] 30 (0, 0)) := by rw [heap_setCell_other _ _ _ _ hP1]; exact hb5
      have h6 : (w5.setCell ⟨P, q + 1, none⟩ (.slice (some ⟨g', off', none⟩) (n - 1) cap')).heap[w.heap.size + 1]? = some (.cells #[.int .i64 x.t, .int .i64 x.c, .int .i64 x.s, .int .i64 x.g, .int .i64 x.x] 30 (0, 0)) := by rw [heap_setCell_other _ _ _ _ hP2]; exact hb6
      clear hb5 hb6 hP1 hP2 hend HF cP fP
      generalize w5.setCell ⟨P, q + 1, none⟩ (.slice (some ⟨g', off', none⟩) (n - 1) cap') = w6 at HE h5 h6 ⊢
      obtain ⟨x0, x1, x2, x3, x4⟩ := five_cells13 h6
      have f5 : ∀ i, w6.frozen? ⟨w.heap.size, i, none⟩ = false := fun _ => frozen_of_row _ _ _ _ _ h5
      obtain ⟨z0, z1, z2, z3, z4⟩ := five_cells13 h5
      have H5 := Lib.hid h5
      clear h5 h6
      go_wp2_with fail
      exact bodyPost_ret (results_cell_row Try.results22 _ _ w.heap.size 30 _ (0, 0) _ rfl (five_set H5.out x.t x.c x.s x.g x.x) Try.underlying30 rfl Try.sizeA13) rfl ⟨rfl, hend_cut HE.out⟩
end Go.Proofs.Ytcjidobdbdfjlaa
