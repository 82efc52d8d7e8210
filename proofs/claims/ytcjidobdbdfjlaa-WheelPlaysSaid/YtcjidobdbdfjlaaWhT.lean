/- A wheel that was made since a world, with its alarms in one list; Put. -/
import Derived.Test.YtcjidobdbdfjlaaWhS
namespace Go.Proofs.Ytcjidobdbdfjlaa
open Go.RowKit Go.Sort

namespace Wh
theorem alone_eq {M : List En} (h : Alone M) {a b : En} (ha : a ∈ M) (hb : b ∈ M) (hs : Rf.same a b = true) : a = b := by
  induction M with
  | nil => simp at ha
  | cons m r ih =>
    have h' := List.pairwise_cons.1 h
    rcases List.mem_cons.1 ha with rfl | ha' <;> rcases List.mem_cons.1 hb with rfl | hb'
    · rfl
    · rw [h'.1 b hb'] at hs; cases hs
    · rw [same_symm, h'.1 a ha'] at hs; cases hs
    · exact ih h'.2 ha' hb'
theorem e_mem {l : List En} {i : Nat} (h : i < l.length) : Hp.e l i ∈ l := by rw [Hp.e_in h]; exact List.getElem_mem h
theorem same_of {a b x : En} (h : Rf.same a x = true) (k : Rf.same b x = true) : Rf.same a b = true := by
  rw [same_iff] at *
  exact ⟨by omega, by omega, by omega⟩
/-- What was found is cut out. -/
theorem cut_found {M : List En} {now : Int} {x : En} {q i : Nat} (h : Alone M) (hf : Found (spread M (home now)) x q i) : upd (spread M (home now)) q ((spread M (home now) q).take i ++ (spread M (home now) q).drop (i + 1)) = spread (Rf.without x M) (home now) := by
  obtain ⟨hq, hi, hs⟩ := hf
  rw [same_symm] at hs
  have hm := spread_mem.1 (e_mem hi)
  funext r
  rw [spread_without]
  by_cases e : r = q
  · subst e
    rw [upd_same]
    exact (without_at (show Alone (spread M (home now) r) from h.filter _) hi hs).symm
  · rw [upd_other e, without_none]
    intro a ha
    have ha' := spread_mem.1 ha
    cases hc : Rf.same a x
    · rfl
    · have := alone_eq h ha'.1 hm.1 (same_of hc hs)
      exact absurd (by rw [← ha'.2, this]; exact hm.2) e
theorem missed_none {M : List En} {now : Int} {x : En} (hf : Missed (spread M (home now)) x) : ∀ a ∈ M, Rf.same a x = false := by
  intro a ha
  have hm : a ∈ spread M (home now) (home now a.t) := spread_mem.2 ⟨ha, rfl⟩
  obtain ⟨j, hj, he⟩ := List.getElem_of_mem hm
  have := hf _ (home_lt now a.t) j hj
  rw [Hp.e_in hj, he] at this
  rw [same_symm]; exact this
theorem without_less {M : List En} {x y : En} (hy : y ∈ M) (hs : Rf.same y x = true) : (Rf.without x M).length < M.length := by
  unfold Rf.without
  have := List.length_filter_lt_length_iff_exists (l := M) (p := fun b => !Rf.same b x)
  exact this.2 ⟨y, hy, by simp [hs]⟩
end Wh

/-- A wheel at P, of these alarms, made since the world w0; beside it lie one's own blocks K. -/
structure Wl (w0 w : World) (P : Nat) (now : Int) (M : List En) (K : List Nat) : Prop where
  whl : ∃ V, Whl w0.heap.size w P now (Wh.spread M (Wh.home now)) V K
  rest : Rest (fun _ => False) w0 w
  asc : Wh.Asc M
  alone : Wh.Alone M
  few : M.length ≤ 256
  time : 0 ≤ now ∧ now < 1099511627776
  times : ∀ a ∈ M, 0 ≤ a.t ∧ a.t < 1099511627776

namespace Wl
variable {w0 w w' : World} {P : Nat} {now : Int} {M : List En} {K : List Nat}
theorem size (h : Wl w0 w P now M K) : w0.heap.size ≤ w.heap.size := h.rest.size
theorem wrote {own : Nat → Prop} (h : Wl w0 w P now M K) (hr : Rest own w w') (ho : ∀ k, own k → k ∈ K) (hb : ∀ k, own k → w0.heap.size ≤ k) : Wl w0 w' P now M K := by
  obtain ⟨V, hV⟩ := h.whl
  exact ⟨⟨V, hV.wrote hr ho⟩, h.rest.trans (o3 := fun _ => False) hr (fun _ _ => id) (fun i hi o => by have := hb i o; omega), h.asc, h.alone, h.few, h.time, h.times⟩
theorem past (h : Wl w0 w P now M K) (hr : Rest (fun _ => False) w w') : Wl w0 w' P now M K := h.wrote hr (fun _ => False.elim) (fun _ => False.elim)
theorem own (h : Wl w0 w P now M K) (hr : Rest (fun _ => False) w w') {b : Nat} (h1 : w.heap.size ≤ b) (h2 : b < w'.heap.size) : Wl w0 w' P now M (b :: K) := by
  obtain ⟨V, hV⟩ := h.whl
  have h' := h.past hr
  exact ⟨⟨V, hV.fresh hr h1 h2⟩, h'.rest, h.asc, h.alone, h.few, h.time, h.times⟩
theorem drop (h : Wl w0 w P now M K) {K' : List Nat} (hs : ∀ k, k ∈ K' → k ∈ K) : Wl w0 w P now M K' := by
  obtain ⟨V, hV⟩ := h.whl
  exact ⟨⟨V, hV.drop hs⟩, h.rest, h.asc, h.alone, h.few, h.time, h.times⟩
theorem lens (h : Wl w0 w P now M K) (q : Nat) : (Wh.spread M (Wh.home now) q).length ≤ 300 := Nat.le_trans (Wh.spread_le _ _ _) (Nat.le_trans h.few (by decide))
end Wl
theorem same_of_rest {B : Nat} {K : List Nat} {w w' : World} (hK : ∀ k, k ∈ K → k < w.heap.size) (hr : Rest (fun k => B ≤ k ∧ k ∉ K) w w') : Same K w w' := ⟨hr.size, fun k hk => hr.block k (hK k hk) (fun e => e.2 hk)⟩
theorem rest0_of {w0 w w' : World} {K : List Nat} (h : Rest (fun _ => False) w0 w) (hr : Rest (fun k => w0.heap.size ≤ k ∧ k ∉ K) w w') : Rest (fun _ => False) w0 w' := h.trans (o3 := fun _ => False) hr (fun _ _ => id) (fun i hi e => by omega)

set_option maxHeartbeats 2000000 in
set_option maxRecDepth 100000 in
/-- One is laid; one for the same of the same slot is gone. -/
theorem wl_put {w0 w : World} {P : Nat} {now : Int} {M : List En} {K : List Nat} (x : En) (n : Int) (h : Wl w0 w P now M K) (hx : Tk.clamp x.t ≠ 1099511627776) (hm : (Rf.without x M).length < 256) :
    Calls Try.prog 12 #[.pointer (some ⟨P, 0, none⟩), .agg #[.int .i64 x.t, .int .i64 x.c, .int .i64 x.s, .int .i64 x.g, .int .i64 x.x]] w fun e w' => e = .returned (.bool true) ∧ Wl w0 w' P now (Rf.put ⟨Tk.clamp x.t, x.c, x.s, x.g, x.x, n⟩ (Rf.without x M)) K ∧ Same K w w' := by
  have mixed : Try.prog.follows .mixedOrders = true := by kernel_rfl
  have hcl := fun w => clamp_any x.t w
  have hy0 := Tk.clamp_lo x.t
  have hy1 := Tk.clamp_hi x.t
  generalize hy : Tk.clamp x.t = y at hcl hx hy0 hy1 ⊢
  clear hy
  have hyb : (y == 1099511627776) = false := by simpa using hx
  have HW := Lib.hid h
  have HM := Lib.hid hm
  have HY := Lib.hid (⟨hy0, by omega⟩ : 0 ≤ y ∧ y < 1099511627776)
  clear h hm hx hy0 hy1
  -- the alarm's box, with its time cut
  have hs := Rest.alloc (fun _ => False) w (.cells #[.int .i64 x.t, .int .i64 x.c, .int .i64 x.s, .int .i64 x.g, .int .i64 x.x] 30)
  have h9 := heap_alloc_new w (.cells #[.int .i64 x.t, .int .i64 x.c, .int .i64 x.s, .int .i64 x.g, .int .i64 x.x] 30)
  have hz : w.heap.size < (w.alloc (.cells #[.int .i64 x.t, .int .i64 x.c, .int .i64 x.s, .int .i64 x.g, .int .i64 x.x] 30)).heap.size := by simp
  go_enter Try.func12, Try.ntmps12
  go_wp2_with fail
  refine (hcl _).mono ?_
  rintro e w1 ⟨rfl, rfl⟩
  generalize w.alloc (.cells #[.int .i64 x.t, .int .i64 x.c, .int .i64 x.s, .int .i64 x.g, .int .i64 x.x] 30) = w1 at hs h9 hz ⊢
  have h10 := heap_setCell_same w1 w.heap.size 0 _ _ (.int .i64 y) h9
  have hs1 : Rest (fun _ => False) w (w1.setCell ⟨w.heap.size, 0, none⟩ (.int .i64 y)) := hs.trans (o3 := fun _ => False) (Rest.setCell (own := fun k => k = w.heap.size) w1 ⟨w.heap.size, 0, none⟩ _ rfl) (fun _ _ => id) (fun i hi e => by omega)
  have hz1 : w.heap.size < (w1.setCell ⟨w.heap.size, 0, none⟩ (.int .i64 y)).heap.size := by simpa using hz
  obtain ⟨x0, x1, x2, x3, x4⟩ := five_cells13 h9
  have f0 : w1.frozen? ⟨w.heap.size, 0, none⟩ = false := frozen_of_row _ _ _ _ _ h9
  obtain ⟨y0, y1, y2, y3, y4⟩ := five_cells13 (c0 := .int .i64 y) h10
  have H10 := Lib.hid (⟨h10, hs1, hz1⟩ : (w1.setCell ⟨w.heap.size, 0, none⟩ (.int .i64 y)).heap[w.heap.size]? = some (.cells #[.int .i64 y, .int .i64 x.c, .int .i64 x.s, .int .i64 x.g, .int .i64 x.x] 30 (0, 0)) ∧ _ ∧ _)
  clear h9 hs hz h10 hs1 hz1
  go_wp2_with fail
  clear x0 x1 x2 x3 x4 f0 y0 y1 y2 y3 y4
  generalize w1.setCell ⟨w.heap.size, 0, none⟩ (.int .i64 y) = w2 at H10 ⊢
  have HW2 := Lib.hid (HW.out.own H10.out.2.1 (Nat.le_refl _) H10.out.2.2)
  obtain ⟨V, hV⟩ := HW2.out.whl
  have HV := Lib.hid hV
  clear hV
  refine (find_any (⟨y, x.c, x.s, x.g, x.x, n⟩ : En) HV.out HW.out.lens).mono ?_
  -- what is done behind: the alarm is laid where it belongs
  have hsx : ∀ a, Rf.same a (⟨y, x.c, x.s, x.g, x.x, n⟩ : En) = Rf.same a x := fun a => rfl
  have hwx : ∀ L, Rf.without (⟨y, x.c, x.s, x.g, x.x, n⟩ : En) L = Rf.without x L := fun L => rfl
  have HFin : Hid (∀ w3 w4 V3 V4, Whl w0.heap.size w3 P now (Wh.spread (Rf.without x M) (Wh.home now)) V3 (w.heap.size :: K) → Rest (fun k => w0.heap.size ≤ k ∧ k ∉ w.heap.size :: K) w2 w3 →
      Whl w0.heap.size w4 P now (Wh.upd (Wh.spread (Rf.without x M) (Wh.home now)) (Wh.home now y) (Rf.put ⟨y, x.c, x.s, x.g, x.x, n⟩ (Wh.spread (Rf.without x M) (Wh.home now) (Wh.home now y)))) V4 (w.heap.size :: K) → Rest (fun k => w0.heap.size ≤ k ∧ k ∉ w.heap.size :: K) w3 w4 →
      Wl w0 w4 P now (Rf.put ⟨y, x.c, x.s, x.g, x.x, n⟩ (Rf.without x M)) K ∧ Same K w w4) := Lib.hid (fun w3 w4 V3 V4 _ hr3 h4 hr4 => by
    have ha := Wh.asc_without x HW.out.asc
    have hall := hr3.trans (o3 := fun k => w0.heap.size ≤ k ∧ k ∉ w.heap.size :: K) hr4 (fun _ _ => id) (fun _ _ => id)
    have hall2 : Rest (fun k => w0.heap.size ≤ k ∧ k ∉ K) w w4 := H10.out.2.1.trans (o3 := fun k => w0.heap.size ≤ k ∧ k ∉ K) hall (fun _ _ => False.elim) (fun _ _ e => ⟨e.1, fun hk => e.2 (List.mem_cons_of_mem _ hk)⟩)
    have hsp := Wh.spread_put ha (Wh.home now) (⟨y, x.c, x.s, x.g, x.x, n⟩ : En)
    obtain ⟨VW, hVW⟩ := HW.out.whl
    refine ⟨⟨⟨V4, ?_⟩, rest0_of HW.out.rest hall2, Wh.asc_put _ ha, Wh.alone_put (HW.out.alone.filter _) (fun a ha => ?_), ?_, HW.out.time, fun a ha => ?_⟩, same_of_rest (fun k hk => (hVW.own k hk).1) hall2⟩
    · rw [hsp]; exact h4.drop (fun k hk => List.mem_cons_of_mem _ hk)
    · unfold Rf.without at ha
      have := (List.mem_filter.1 ha).2
      rw [hsx]
      simpa using this
    · rw [Rf.put_length]; exact HM.out
    · rcases Wh.put_mem.1 ha with rfl | ha
      · exact HY.out
      · exact HW.out.times a (List.mem_filter.1 ha).1)
  have HA := Lib.hid (fun q => Wh.asc_spread (Wh.asc_without x HW.out.asc) (Wh.home now) q)
  have HL := Lib.hid (fun q => Nat.le_trans (Wh.spread_le (Rf.without x M) (Wh.home now) q) (Nat.le_trans (Nat.le_of_lt HM.out) (by decide : 256 ≤ 900)))
  rintro e w3 ⟨⟨q, i, hf, rfl⟩ | ⟨rfl, hmiss⟩, hr3⟩
  · have HV3 := Lib.hid (HV.out.past hr3)
    have HR3 := Lib.hid hr3
    have HB3 := Lib.hid ((hr3.block _ (lt_of_block H10.out.1) (fun x => x)).trans H10.out.1)
    have HF := Lib.hid hf
    clear hr3 hf
    go_wp2_with fail
    go_at_call 22
    refine (cut_any HV3.out HF.out.1 HF.out.2.1 (Nat.le_trans (HW.out.lens q) (by decide))).mono ?_
    rintro e w4 ⟨rfl, V4, h4, hr4⟩
    rw [Wh.cut_found HW.out.alone HF.out, hwx] at h4
    have HV4 := Lib.hid h4
    have HR4 : Hid (Rest (fun k => w0.heap.size ≤ k ∧ k ∉ w.heap.size :: K) w2 w4) := Lib.hid (HR3.out.trans (o3 := fun k => w0.heap.size ≤ k ∧ k ∉ w.heap.size :: K) hr4 (fun _ _ => False.elim) (fun _ _ => id))
    have HB4 := Lib.hid ((hr4.block _ (lt_of_block HB3.out) (fun e => e.2 List.mem_cons_self)).trans HB3.out)
    clear h4 hr4 HV3 HR3 HB3 HF
    obtain ⟨x0, x1, x2, x3, x4⟩ := five_cells13 HB4.out
    go_wp2_with fail
    refine wp_region_held_drew (S := fun w' => w'.cell? ⟨w.heap.size, 0, none⟩ = some (.int .i64 y) ∧ w'.cell? ⟨w.heap.size, 1, none⟩ = some (.int .i64 x.c) ∧ w'.cell? ⟨w.heap.size, 2, none⟩ = some (.int .i64 x.s) ∧ w'.cell? ⟨w.heap.size, 3, none⟩ = some (.int .i64 x.g) ∧ w'.cell? ⟨w.heap.size, 4, none⟩ = some (.int .i64 x.x)) (by kernel_rfl) ⟨x0, x1, x2, x3, x4⟩ (fun hHeld => ?_)
    clear x0 x1 x2 x3 x4
    have HVd := Lib.hid (HV4.out.past (Rest.drew (fun _ => False) w4))
    have HBd : Hid (w4.drew.heap[w.heap.size]? = some (.cells #[.int .i64 y, .int .i64 x.c, .int .i64 x.s, .int .i64 x.g, .int .i64 x.x] 30 (0, 0))) := HB4.out
    have HRd : Hid (Rest (fun k => w0.heap.size ≤ k ∧ k ∉ w.heap.size :: K) w2 w4.drew) := Lib.hid (HR4.out.trans (o3 := fun k => w0.heap.size ≤ k ∧ k ∉ w.heap.size :: K) (Rest.drew (fun _ => False) w4) (fun _ _ => id) (fun _ _ => False.elim))
    clear HV4 HB4 HR4
    generalize w4.drew = wd at HVd HBd HRd hHeld ⊢
    refine wpAnyH_yield 0 (.pointer (some ⟨P, 0, none⟩)) rfl (by kernel_rfl) (by kernel_rfl) (by kernel_rfl) (fun d _ _ _ h => by cases d <;> exact h) (by rfl) (by assumption) (fun _ _ => by go_simp) ?_
    simp only [Act.put, List.setIfInBounds_toArray, List.set_cons_zero, List.set_cons_succ]
    refine wpAnyH_yield 1 (.pointer (some ⟨w.heap.size, 0, none⟩)) rfl (by kernel_rfl) (by kernel_rfl) (by kernel_rfl) (fun d _ _ _ h => by cases d <;> exact h) (by rfl) (by assumption) (fun _ _ => by go_simp) ?_
    simp only [Act.put, List.setIfInBounds_toArray, List.set_cons_zero, List.set_cons_succ]
    refine wpAnyH_yield 2 (.int .i64 y) rfl (by kernel_rfl) (by kernel_rfl) (by kernel_rfl) (fun d _ _ _ h => by cases d <;> exact h) (by rfl) (by assumption) (fun _ hSw => by (try dsimp only at hSw); go_simp) ?_
    simp only [Act.put, List.setIfInBounds_toArray, List.set_cons_zero, List.set_cons_succ]
    refine wpAnyH_yield 4 (.agg #[.int .i64 y, .int .i64 x.c, .int .i64 x.s, .int .i64 x.g, .int .i64 x.x]) rfl (by kernel_rfl) (by kernel_rfl) (by kernel_rfl) (fun d _ _ _ h => by cases d <;> exact h) (by rfl) (by assumption) (fun _ hSw => by (try dsimp only at hSw); go_simp) ?_
    simp only [Act.put, List.setIfInBounds_toArray, List.set_cons_zero, List.set_cons_succ]
    refine wpAnyH_ready (rs := [3]) (by kernel_rfl) (by simp) (AllReadyH.cons rfl (fun K hK => ?_) AllReadyH.nil)
    go_simp
    go_at_call 26
    refine (home_any y HVd.out HW.out.time.1 HW.out.time.2 HY.out.1 HY.out.2).mono ?_
    rintro e w5 ⟨rfl, m, rfl⟩
    refine hK.out _ _ (hHeld) (fun hHeld => ?_)
    clear hK K
    try simp only [Act.put, List.setIfInBounds_toArray, List.set_cons_zero, List.set_cons_succ]
    refine wpAnyH_ready (rs := [5]) (by kernel_rfl) (by simp) (AllReadyH.cons rfl (fun K hK => ?_) AllReadyH.nil)
    go_simp
    go_at_call 27
    refine (lay_any (⟨y, x.c, x.s, x.g, x.x, n⟩ : En) (HVd.out.past (Rest.drewN (fun _ => False) _ m)) (Wh.home_lt now y) (HA.out _) (HL.out _)).mono ?_
    rintro e w6 ⟨rfl, V6, hW6, hR6⟩
    refine hK.out _ _ (five_cells13 ((hR6.block _ (lt_of_block HBd.out) (fun e => e.2 List.mem_cons_self)).trans HBd.out)) (fun hHeld => ?_)
    clear hK K
    try simp only [Act.put, List.setIfInBounds_toArray, List.set_cons_zero, List.set_cons_succ]
    refine wpAnyH_done (by kernel_rfl) ?_ _
    have HE := Lib.hid (HFin.out _ w6 V4 V6 (HVd.out.past (Rest.drewN (fun _ => False) _ m)) (HRd.out.trans (o3 := fun k => w0.heap.size ≤ k ∧ k ∉ w.heap.size :: K) (Rest.drewN (fun _ => False) _ m) (fun _ _ => id) (fun _ _ => False.elim)) hW6 hR6)
    clear hW6 hR6
    go_wp2_with fail
    go_ret
    exact ⟨rfl, HE.out⟩
  · have hno := Wh.missed_none hmiss
    have hwm : Rf.without x M = M := Wh.without_none hno
    have HV4 : Hid (Whl w0.heap.size w3 P now (Wh.spread (Rf.without x M) (Wh.home now)) V (w.heap.size :: K)) := Lib.hid (by rw [hwm]; exact HV.out.past hr3)
    have HR4 : Hid (Rest (fun k => w0.heap.size ≤ k ∧ k ∉ w.heap.size :: K) w2 w3) := Lib.hid (hr3.mono (fun _ _ => False.elim))
    have HB4 := Lib.hid ((hr3.block _ (lt_of_block H10.out.1) (fun x => x)).trans H10.out.1)
    have hlM : M.length < 256 := by have := HM.out; rw [hwm] at this; exact this
    have hlt : ¬ (256 : Int) ≤ ((M.length : Nat) : Int) := by omega
    have HWM := Lib.hid hwm
    clear hno hwm hmiss hr3
    go_wp2_with fail
    go_at_call 13
    have hlen := wlen_any HV4.out (fun q => Nat.le_trans (Wh.spread_le _ _ _) (Nat.le_trans (Nat.le_of_lt HM.out) (by decide)))
    rw [Wh.total_all, HWM.out] at hlen
    refine hlen.mono ?_
    rintro e w4 ⟨rfl, hr5⟩
    replace HR4 : Hid (Rest (fun k => w0.heap.size ≤ k ∧ k ∉ w.heap.size :: K) w2 w4) := Lib.hid (HR4.out.trans (o3 := fun k => w0.heap.size ≤ k ∧ k ∉ w.heap.size :: K) hr5 (fun _ _ => id) (fun _ _ => False.elim))
    replace HB4 := Lib.hid ((hr5.block _ (lt_of_block HB4.out) (fun x => x)).trans HB4.out)
    replace HV4 := Lib.hid (HV4.out.past hr5)
    clear hr5 hlen
    obtain ⟨x0, x1, x2, x3, x4⟩ := five_cells13 HB4.out
    go_wp2_with fail
    refine wp_region_held_drew (S := fun w' => w'.cell? ⟨w.heap.size, 0, none⟩ = some (.int .i64 y) ∧ w'.cell? ⟨w.heap.size, 1, none⟩ = some (.int .i64 x.c) ∧ w'.cell? ⟨w.heap.size, 2, none⟩ = some (.int .i64 x.s) ∧ w'.cell? ⟨w.heap.size, 3, none⟩ = some (.int .i64 x.g) ∧ w'.cell? ⟨w.heap.size, 4, none⟩ = some (.int .i64 x.x)) (by kernel_rfl) ⟨x0, x1, x2, x3, x4⟩ (fun hHeld => ?_)
    clear x0 x1 x2 x3 x4
    have HVd := Lib.hid (HV4.out.past (Rest.drew (fun _ => False) w4))
    have HBd : Hid (w4.drew.heap[w.heap.size]? = some (.cells #[.int .i64 y, .int .i64 x.c, .int .i64 x.s, .int .i64 x.g, .int .i64 x.x] 30 (0, 0))) := HB4.out
    have HRd : Hid (Rest (fun k => w0.heap.size ≤ k ∧ k ∉ w.heap.size :: K) w2 w4.drew) := Lib.hid (HR4.out.trans (o3 := fun k => w0.heap.size ≤ k ∧ k ∉ w.heap.size :: K) (Rest.drew (fun _ => False) w4) (fun _ _ => id) (fun _ _ => False.elim))
    clear HV4 HB4 HR4
    generalize w4.drew = wd at HVd HBd HRd hHeld ⊢
    refine wpAnyH_yield 0 (.pointer (some ⟨P, 0, none⟩)) rfl (by kernel_rfl) (by kernel_rfl) (by kernel_rfl) (fun d _ _ _ h => by cases d <;> exact h) (by rfl) (by assumption) (fun _ _ => by go_simp) ?_
    simp only [Act.put, List.setIfInBounds_toArray, List.set_cons_zero, List.set_cons_succ]
    refine wpAnyH_yield 1 (.pointer (some ⟨w.heap.size, 0, none⟩)) rfl (by kernel_rfl) (by kernel_rfl) (by kernel_rfl) (fun d _ _ _ h => by cases d <;> exact h) (by rfl) (by assumption) (fun _ _ => by go_simp) ?_
    simp only [Act.put, List.setIfInBounds_toArray, List.set_cons_zero, List.set_cons_succ]
    refine wpAnyH_yield 2 (.int .i64 y) rfl (by kernel_rfl) (by kernel_rfl) (by kernel_rfl) (fun d _ _ _ h => by cases d <;> exact h) (by rfl) (by assumption) (fun _ hSw => by (try dsimp only at hSw); go_simp) ?_
    simp only [Act.put, List.setIfInBounds_toArray, List.set_cons_zero, List.set_cons_succ]
    refine wpAnyH_yield 4 (.agg #[.int .i64 y, .int .i64 x.c, .int .i64 x.s, .int .i64 x.g, .int .i64 x.x]) rfl (by kernel_rfl) (by kernel_rfl) (by kernel_rfl) (fun d _ _ _ h => by cases d <;> exact h) (by rfl) (by assumption) (fun _ hSw => by (try dsimp only at hSw); go_simp) ?_
    simp only [Act.put, List.setIfInBounds_toArray, List.set_cons_zero, List.set_cons_succ]
    refine wpAnyH_ready (rs := [3]) (by kernel_rfl) (by simp) (AllReadyH.cons rfl (fun K hK => ?_) AllReadyH.nil)
    go_simp
    go_at_call 26
    refine (home_any y HVd.out HW.out.time.1 HW.out.time.2 HY.out.1 HY.out.2).mono ?_
    rintro e w5 ⟨rfl, m, rfl⟩
    refine hK.out _ _ (hHeld) (fun hHeld => ?_)
    clear hK K
    try simp only [Act.put, List.setIfInBounds_toArray, List.set_cons_zero, List.set_cons_succ]
    refine wpAnyH_ready (rs := [5]) (by kernel_rfl) (by simp) (AllReadyH.cons rfl (fun K hK => ?_) AllReadyH.nil)
    go_simp
    go_at_call 27
    refine (lay_any (⟨y, x.c, x.s, x.g, x.x, n⟩ : En) (HVd.out.past (Rest.drewN (fun _ => False) _ m)) (Wh.home_lt now y) (HA.out _) (HL.out _)).mono ?_
    rintro e w6 ⟨rfl, V6, hW6, hR6⟩
    refine hK.out _ _ (five_cells13 ((hR6.block _ (lt_of_block HBd.out) (fun e => e.2 List.mem_cons_self)).trans HBd.out)) (fun hHeld => ?_)
    clear hK K
    try simp only [Act.put, List.setIfInBounds_toArray, List.set_cons_zero, List.set_cons_succ]
    refine wpAnyH_done (by kernel_rfl) ?_ _
    have HE := Lib.hid (HFin.out _ w6 V V6 (HVd.out.past (Rest.drewN (fun _ => False) _ m)) (HRd.out.trans (o3 := fun k => w0.heap.size ≤ k ∧ k ∉ w.heap.size :: K) (Rest.drewN (fun _ => False) _ m) (fun _ _ => id) (fun _ _ => False.elim)) hW6 hR6)
    clear hW6 hR6
    go_wp2_with fail
    go_ret
    exact ⟨rfl, HE.out⟩
end Go.Proofs.Ytcjidobdbdfjlaa
