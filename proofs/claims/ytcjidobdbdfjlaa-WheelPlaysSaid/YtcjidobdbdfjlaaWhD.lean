/- What is in a place is laid anew. -/
import Derived.Test.YtcjidobdbdfjlaaWhC
namespace Go.Proofs.Ytcjidobdbdfjlaa
open Go.RowKit Go.Sort

/-- A place is emptied; its row is kept beside the wheel. -/
theorem Whl.emptied {B P q : Nat} {w : World} {now : Int} {F : Nat → List En} {V : Nat → Value} {K : List Nat} (h : Whl B w P now F V K) (hq : q < 50) :
    Whl B (w.setCell ⟨P, q + 1, none⟩ (.slice none 0 0)) P now (Wh.upd F q []) (Wh.upd V q (.slice none 0 0)) ((V q).ownBlock.toList ++ K) ∧ Az (w.setCell ⟨P, q + 1, none⟩ (.slice none 0 0)) B (V q) (F q) ∧ Rest (fun k => k = P) w (w.setCell ⟨P, q + 1, none⟩ (.slice none 0 0)) := by
  have hr := Rest.setCell (own := fun k => k = P) w ⟨P, q + 1, none⟩ (.slice none 0 0) rfl
  have hb : (w.setCell ⟨P, q + 1, none⟩ (.slice none 0 0)).heap[P]? = some (.cells (cellsW now (Wh.upd V q (.slice none 0 0))) 57 (0, 0)) := by
    have := heap_setCell_same w P (q + 1) _ _ (.slice none 0 0) h.block
    rwa [cellsW_set] at this
  obtain ⟨k1, k2⟩ := h.turn (v := .slice none 0 0) (l := []) hq (hr.mono (fun k _ e => .inl e)) hb (Az.nil _ _) (fun k e => by simp [Value.ownBlock] at e)
  refine ⟨⟨k1.from_, k1.block, k1.rows, k1.apart, k1.off, fun k hk => ?_⟩, (h.rows q hq).past hr (fun k hk e => h.off q hq (by rw [hk, e])), hr⟩
  rcases List.mem_append.1 hk with hk | hk
  · have e : (V q).ownBlock = some k := by simpa using hk
    refine ⟨Nat.lt_of_lt_of_le ((h.rows q hq).lt e).2 hr.size, fun e' => h.off q hq (by rw [e, e']), fun r hr0 => ?_⟩
    by_cases er : r = q
    · subst er; rw [Wh.upd_same]; simp [Value.ownBlock]
    · rw [Wh.upd_other er]
      exact fun e2 => h.apart q r hq hr0 (fun e => er e.symm) k e e2
  · exact k1.own k hk
theorem Whl.own_old {B P : Nat} {w : World} {now : Int} {F : Nat → List En} {V : Nat → Value} {K : List Nat} {v : Value} {l : List En} (_ : Whl B w P now F V (v.ownBlock.toList ++ K)) (ha : Az w B v l) {w' : World} (hr : Rest (fun k => B ≤ k ∧ k ∉ v.ownBlock.toList ++ K) w w') : Az w' B v l :=
  ha.past hr (fun k hk e => e.2 (List.mem_append_left _ (by simp [hk])))

set_option maxHeartbeats 2000000 in
set_option maxRecDepth 100000 in
theorem again_any {B P q : Nat} {w : World} {now : Int} {F : Nat → List En} {V : Nat → Value} {K : List Nat} (h : Whl B w P now F V K) (hq : q < 50) (n0 : 0 ≤ now) (n1 : now < 1099511627776) (ha : ∀ r, Wh.Asc (F r)) (hl : ∀ r, (F r).length ≤ 300) (ht : ∀ a ∈ F q, 0 ≤ a.t ∧ a.t < 1099511627776) :
    Calls Try.prog 20 #[.pointer (some ⟨P, 0, none⟩), .pointer (some ⟨P, q + 1, none⟩)] w fun e w' => e = .returned (.tuple #[]) ∧ ∃ V', Whl B w' P now (Wh.part F (Wh.home now) q (F q) (F q).length) V' K ∧ Rest (fun k => B ≤ k ∧ k ∉ K) w w' := by
  have mixed : Try.prog.follows .mixedOrders = true := by kernel_rfl
  obtain ⟨a0, c, hv⟩ := (h.rows q hq).shape
  have c2 := h.cell hq
  rw [hv] at c2
  have fP := h.frozen (q + 1)
  obtain ⟨h1, haz, hr1⟩ := h.emptied hq
  rw [← Wh.part_zero F (Wh.home now) q (F q)] at h1
  have HW := Lib.hid h1
  have HAz := Lib.hid haz
  have HR0 : Hid (Rest (fun k => B ≤ k ∧ k ∉ K) w (w.setCell ⟨P, q + 1, none⟩ (.slice none 0 0))) := Lib.hid (hr1.mono (fun k _ e => ⟨by rw [e]; exact h.from_, fun hk => (h.own _ hk).2.1 e⟩))
  have HA := Lib.hid ha
  have HL := Lib.hid hl
  have HT := Lib.hid ht
  have HN := Lib.hid (⟨n0, n1⟩ : 0 ≤ now ∧ now < 1099511627776)
  have hln := hl q
  have HV := Lib.hid hv
  clear h h1 haz hr1 ha hl ht n0 n1 hv
  generalize hn : (F q).length = n at *
  go_enter Try.func20, Try.ntmps20
  go_wp2_with fail
  clear c2 fP
  generalize w.setCell ⟨P, q + 1, none⟩ (.slice none 0 0) = w1 at HW HAz HR0 ⊢
  go_loopg [14] (300 : Nat) (fun g1 s14 wr => ∃ (k : Nat) (V' : Nat → Value), s14 = .int .i64 k ∧ k ≤ n ∧ 300 - k ≤ g1 ∧ Hid (Whl B wr P now (Wh.part F (Wh.home now) q (F q) k) V' ((V q).ownBlock.toList ++ K) ∧ Az wr B (V q) (F q) ∧ Rest (fun k => B ≤ k ∧ k ∉ K) w wr))
  case atStart => exact ⟨0, _, rfl, Nat.zero_le _, by omega, ⟨HW.out, HAz.out, HR0.out⟩⟩
  case round =>
    obtain ⟨k, V', rfl, hk, hg, HI⟩ := hrel
    clear HW HAz HR0
    by_cases hlt : k < n
    · have hlt' : (k : Int) < (n : Int) := by omega
      obtain ⟨hW, haz, hR⟩ := HI.out
      obtain ⟨g, off, c', hv', hrow⟩ := haz.some_ (by omega)
      have hv2 := hv'
      rw [HV.out, hn] at hv'
      simp only [Value.slice.injEq, true_and] at hv'
      obtain ⟨rfl, rfl⟩ := hv'
      obtain ⟨a0, a1, a2, a3, a4⟩ := hrow.al (i := k) (by omega)
      have hxt := HT.out (Hp.e (F q) k) (by rw [Hp.e_in (by omega)]; exact List.getElem_mem _)
      have hnx := Lib.hid (Wh.part_next F (Wh.home now) q (ys := F q) (k := k) (by omega))
      have hpa := Lib.hid (fun r => Wh.part_asc HA.out (Wh.home now) q (F q) k r)
      have hpl := Lib.hid (fun r => Wh.part_len F (Wh.home now) q (F q) k r)
      clear haz hrow hW hR
      generalize hx : Hp.e (F q) k = x at a0 a1 a2 a3 a4 hxt hnx
      clear hx
      have HX := Lib.hid hxt
      clear hxt
      have hs := Rest.alloc (fun _ => False) wr (.cells #[.int .i64 x.t, .int .i64 x.c, .int .i64 x.s, .int .i64 x.g, .int .i64 x.x] 30)
      have h9 := heap_alloc_new wr (.cells #[.int .i64 x.t, .int .i64 x.c, .int .i64 x.s, .int .i64 x.g, .int .i64 x.x] 30)
      have hsz : wr.heap.size < (wr.alloc (.cells #[.int .i64 x.t, .int .i64 x.c, .int .i64 x.s, .int .i64 x.g, .int .i64 x.x] 30)).heap.size := by simp
      have HS := Lib.hid (⟨hs, h9, hsz⟩ : Rest (fun _ => False) wr (wr.alloc (.cells #[.int .i64 x.t, .int .i64 x.c, .int .i64 x.s, .int .i64 x.g, .int .i64 x.x] 30)) ∧ _ ∧ _)
      clear hs h9 hsz
      go_wp2_with fail
      clear a0 a1 a2 a3 a4
      generalize wr.alloc (.cells #[.int .i64 x.t, .int .i64 x.c, .int .i64 x.s, .int .i64 x.g, .int .i64 x.x] 30) = wa at HS ⊢
      obtain ⟨x0, x1, x2, x3, x4⟩ := five_cells13 HS.out.2.1
      refine wp_region_held_drew (S := fun w' => w'.cell? ⟨wr.heap.size, 0, none⟩ = some (.int .i64 x.t) ∧ w'.cell? ⟨wr.heap.size, 1, none⟩ = some (.int .i64 x.c) ∧ w'.cell? ⟨wr.heap.size, 2, none⟩ = some (.int .i64 x.s) ∧ w'.cell? ⟨wr.heap.size, 3, none⟩ = some (.int .i64 x.g) ∧ w'.cell? ⟨wr.heap.size, 4, none⟩ = some (.int .i64 x.x)) (by kernel_rfl) ⟨x0, x1, x2, x3, x4⟩ (fun hHeld => ?_)
      clear x0 x1 x2 x3 x4
      have HWd := Lib.hid ((HI.out.1.fresh HS.out.1 (Nat.le_refl _) HS.out.2.2).past (Rest.drew (fun _ => False) _))
      have HBd : Hid (wa.drew.heap[wr.heap.size]? = some (.cells #[.int .i64 x.t, .int .i64 x.c, .int .i64 x.s, .int .i64 x.g, .int .i64 x.x] 30 (0, 0))) := HS.out.2.1
      have HRd : Hid (Rest (fun _ => False) wr wa.drew) := HS.out.1.trans (o3 := fun _ => False) (Rest.drew (fun _ => False) _) (fun _ _ => id) (fun _ _ => id)
      generalize wa.drew = wd at HWd HBd HRd hHeld ⊢
      refine wpAnyH_yield 0 (.pointer (some ⟨P, 0, none⟩)) rfl (by kernel_rfl) (by kernel_rfl) (by kernel_rfl) (fun d _ _ _ h => by cases d <;> exact h) (by rfl) (by assumption) (fun _ _ => by go_simp) ?_
      simp only [Act.put, List.setIfInBounds_toArray, List.set_cons_zero, List.set_cons_succ]
      refine wpAnyH_yield 1 (.pointer (some ⟨wr.heap.size, 0, none⟩)) rfl (by kernel_rfl) (by kernel_rfl) (by kernel_rfl) (fun d _ _ _ h => by cases d <;> exact h) (by rfl) (by assumption) (fun _ _ => by go_simp) ?_
      simp only [Act.put, List.setIfInBounds_toArray, List.set_cons_zero, List.set_cons_succ]
      refine wpAnyH_yield 2 (.int .i64 x.t) rfl (by kernel_rfl) (by kernel_rfl) (by kernel_rfl) (fun d _ _ _ h => by cases d <;> exact h) (by rfl) (by assumption) (fun _ hSw => by (try dsimp only at hSw); go_simp) ?_
      simp only [Act.put, List.setIfInBounds_toArray, List.set_cons_zero, List.set_cons_succ]
      refine wpAnyH_yield 4 (.agg #[.int .i64 x.t, .int .i64 x.c, .int .i64 x.s, .int .i64 x.g, .int .i64 x.x]) rfl (by kernel_rfl) (by kernel_rfl) (by kernel_rfl) (fun d _ _ _ h => by cases d <;> exact h) (by rfl) (by assumption) (fun _ hSw => by (try dsimp only at hSw); go_simp) ?_
      simp only [Act.put, List.setIfInBounds_toArray, List.set_cons_zero, List.set_cons_succ]
      refine wpAnyH_ready (rs := [3]) (by kernel_rfl) (by simp) (AllReadyH.cons rfl (fun K hK => ?_) AllReadyH.nil)
      go_simp
      go_at_call 26
      refine (home_any x.t HWd.out HN.out.1 HN.out.2 HX.out.1 HX.out.2).mono ?_
      rintro e w3 ⟨rfl, m, rfl⟩
      refine hK.out _ _ (hHeld) (fun hHeld => ?_)
      clear hK K
      try simp only [Act.put, List.setIfInBounds_toArray, List.set_cons_zero, List.set_cons_succ]
      refine wpAnyH_ready (rs := [5]) (by kernel_rfl) (by simp) (AllReadyH.cons rfl (fun K hK => ?_) AllReadyH.nil)
      go_simp
      go_at_call 27
      refine (lay_any x (HWd.out.past (Rest.drewN (fun _ => False) _ m)) (Wh.home_lt now x.t) (hpa.out _) (by have h1 := hpl.out (Wh.home now x.t); have h2 := HL.out (Wh.home now x.t); have h3 := HL.out q; omega)).mono ?_
      rintro e w4 ⟨rfl, V2, hW4, hR4⟩
      refine hK.out _ _ (five_cells13 ((hR4.block _ (lt_of_block HBd.out) (fun e => e.2 List.mem_cons_self)).trans HBd.out)) (fun hHeld => ?_)
      clear hK K
      try simp only [Act.put, List.setIfInBounds_toArray, List.set_cons_zero, List.set_cons_succ]
      refine wpAnyH_done (by kernel_rfl) ?_ _
      have HE : Hid (Whl B w4 P now (Wh.part F (Wh.home now) q (F q) (k + 1)) V2 ((V q).ownBlock.toList ++ K) ∧ Az w4 B (V q) (F q) ∧ Rest (fun k => B ≤ k ∧ k ∉ K) w w4) := by
        refine ⟨by rw [hnx.out]; exact hW4.drop (fun k hk => List.mem_cons_of_mem _ hk), ?_, ?_⟩
        · exact ((HI.out.2.1.past HRd.out (fun _ _ => id)).past (Rest.drewN (fun _ => False) _ m) (fun _ _ => id)).past hR4 (fun k hk e => e.2 (List.mem_cons_of_mem _ (List.mem_append_left _ (by simp [hk]))))
        · exact ((HI.out.2.2.trans (o3 := fun k => B ≤ k ∧ k ∉ K) HRd.out (fun _ _ => id) (fun _ _ => False.elim)).trans (o3 := fun k => B ≤ k ∧ k ∉ K) (Rest.drewN (fun _ => False) _ m) (fun _ _ => id) (fun _ _ => False.elim)).trans (o3 := fun k => B ≤ k ∧ k ∉ K) hR4 (fun _ _ => id) (fun i _ e => ⟨e.1, fun hk => e.2 (List.mem_cons_of_mem _ (List.mem_append_right _ hk))⟩)
      clear hW4 hR4 HI
      go_wp2
      go_roundg (300 - (k + 1))
      case measure => omega
      case rel => exact ⟨k + 1, V2, by go_num, by omega, by omega, HE⟩
    · obtain rfl : k = n := by omega
      go_wp2
      go_end0
      exact ⟨rfl, V', by rw [hn] at *; exact HI.out.1.drop (fun k hk => List.mem_append_right _ hk), HI.out.2.2⟩
end Go.Proofs.Ytcjidobdbdfjlaa
