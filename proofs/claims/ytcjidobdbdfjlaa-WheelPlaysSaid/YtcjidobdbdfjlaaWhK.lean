/- An alarm is laid in a place. -/
import Derived.Test.YtcjidobdbdfjlaaWhJ
import Derived.Test.YtcjidobdbdfjlaaWhB
import Derived.Test.YtcjidobdbdfjlaaSkip
import Derived.BigQuiet
import Derived.Deep.LoopGhost
import Derived.Deep.RegionHeld3
namespace Go.Proofs.Ytcjidobdbdfjlaa
open Go.RowKit Go.Sort

/-- A row is another one, behind a call. -/
theorem Whl.turn {B P q : Nat} {w w' : World} {now : Int} {F : Nat → List En} {V : Nat → Value} {K : List Nat} {v : Value} {l : List En} (h : Whl B w P now F V K) (hq : q < 50) (hr : Rest (fun k => k = P ∨ (V q).ownBlock = some k) w w') (hb : w'.heap[P]? = some (.cells (cellsW now (Wh.upd V q v)) 57 (0, 0)))
    (ha : Az w' B v l) (ho : ∀ k, v.ownBlock = some k → (V q).ownBlock = some k ∨ w.heap.size ≤ k) : Whl B w' P now (Wh.upd F q l) (Wh.upd V q v) K ∧ Rest (fun k => B ≤ k ∧ k ∉ K) w w' :=
  ⟨(h.turned hq hr hb ha ho).1, hr.mono (fun k _ e => by
    rcases e with rfl | e
    · exact ⟨h.from_, fun hk => (h.own _ hk).2.1 rfl⟩
    · exact ⟨((h.rows q hq).lt e).1, fun hk => (h.own _ hk).2.2 q hq e⟩)⟩

namespace Wh
/-- How many come no later. -/
theorem put_at {x : En} : ∀ {l : List En} {r : Nat}, r ≤ l.length → (∀ j, j < r → (Hp.e l j).t ≤ x.t) → (∀ j, r ≤ j → j < l.length → x.t < (Hp.e l j).t) → Rf.put x l = l.take r ++ x :: l.drop r
  | [], r, hr, _, _ => by
    obtain rfl : r = 0 := by simpa using hr
    rfl
  | b :: l, 0, _, _, h2 => by
    have : x.t < b.t := h2 0 (Nat.le_refl _) (by simp)
    simp [Rf.put, this]
  | b :: l, r + 1, hr, h1, h2 => by
    have hb : ¬ x.t < b.t := by have : b.t ≤ x.t := h1 0 (by omega); omega
    have := put_at (x := x) (l := l) (r := r) (by simpa using hr) (fun j hj => h1 (j + 1) (by omega)) (fun j h3 h4 => h2 (j + 1) (by omega) (by simpa using h4))
    simp [Rf.put, hb, this]
theorem asc_le {l : List En} (h : Asc l) {i j : Nat} (hij : i ≤ j) (hj : j < l.length) : (Hp.e l i).t ≤ (Hp.e l j).t := by
  rw [Hp.e_in hj, Hp.e_in (by omega)]
  by_cases e : i = j
  · subst e; exact Int.le_refl _
  · exact List.pairwise_iff_getElem.1 h i j (by omega) hj (by omega)
end Wh

/-- Comes the i-th one later? -/
theorem later_any {W : World} {b1 b2 P q g off c n i : Nat} {t x : Int} (c1 : W.cell? ⟨b1, 0, none⟩ = some (.pointer (some ⟨P, q, none⟩))) (c2 : W.cell? ⟨P, q, none⟩ = some (.slice (some ⟨g, off, none⟩) n c)) (c3 : W.cell? ⟨b2, 0, none⟩ = some (.int .i64 x)) (hi : i < n) (c4 : W.cell? ⟨g, off + i * 5, none⟩ = some (.int .i64 t)) :
    Calls Try.prog 35 #[.int .i64 (i : Nat), .pointer (some ⟨b1, 0, none⟩), .pointer (some ⟨b2, 0, none⟩)] W fun e w' => e = .returned (.bool (decide (x < t))) ∧ ∃ m, w' = W.drewN m := by
  have hi' : (i : Int) < (n : Int) := by omega
  have mixed : Try.prog.follows .mixedOrders = true := by kernel_rfl
  go_enter Try.func35, Try.ntmps35
  go_wp2_with fail
  go_quiet (fail)
  go_wp2_with fail
  go_ret
  exact ⟨rfl, _, rfl⟩

/-- sort.Search over a place: how many come no later. -/
theorem search_any {W : World} {B b1 b2 P q : Nat} {v : Value} {l : List En} {x : En} (h : Az W B v l) (ha : Wh.Asc l) (hl : l.length ≤ 1000) (c1 : W.cell? ⟨b1, 0, none⟩ = some (.pointer (some ⟨P, q, none⟩))) (c2 : W.cell? ⟨P, q, none⟩ = some v) (c3 : W.cell? ⟨b2, 0, none⟩ = some (.int .i64 x.t)) :
    Calls Try.prog 34 #[.int .i64 (l.length : Nat), .func (.func 35) #[] #[.pointer (some ⟨b1, 0, none⟩), .pointer (some ⟨b2, 0, none⟩)]] W fun e w' => ∃ r : Nat, r ≤ l.length ∧ e = .returned (.int .i64 (r : Nat)) ∧ Rf.put x l = l.take r ++ x :: l.drop r ∧ ∃ m, w' = W.drewN m := by
  have mixed : Try.prog.follows .mixedOrders = true := by kernel_rfl
  have HA := Lib.hid ha
  have HL : Hid (∀ m i, i < l.length → Calls Try.prog 35 #[.int .i64 (i : Nat), .pointer (some ⟨b1, 0, none⟩), .pointer (some ⟨b2, 0, none⟩)] (W.drewN m) fun e w' => e = .returned (.bool (decide (x.t < (Hp.e l i).t))) ∧ ∃ n, w' = (W.drewN m).drewN n) := by
    intro m i hi
    obtain ⟨g, off, c, rfl, hrow⟩ := h.some_ (by omega)
    exact later_any (W := W.drewN m) c1 c2 c3 hi (hrow.al hi).1
  clear h c1 c2 c3 ha
  go_enter Try.func34, Try.ntmps34
  go_wp2
  go_loopg [5, 6] (1001 : Nat) (fun kx s5 s6 wr => ∃ lo hi m : Nat, s5 = .int .i64 lo ∧ s6 = .int .i64 hi ∧ lo ≤ hi ∧ hi ≤ l.length ∧ hi - lo ≤ kx ∧ wr = W.drewN m ∧ Hid ((∀ j, j < lo → (Hp.e l j).t ≤ x.t) ∧ (∀ j, hi ≤ j → j < l.length → x.t < (Hp.e l j).t)))
  case atStart => exact ⟨0, l.length, 0, rfl, rfl, Nat.zero_le _, Nat.le_refl _, by omega, rfl, Lib.hid ⟨fun j hj => absurd hj (Nat.not_lt_zero _), fun j h1 h2 => by omega⟩⟩
  case round =>
    obtain ⟨lo, hi, m, rfl, rfl, hlh, hin, hg, rfl, HI⟩ := hrel
    by_cases hlt : lo < hi
    · have hc := HL.out m ((lo + hi) / 2) (by omega)
      rw [show (((lo + hi) / 2 : Nat) : Int) = ((lo : Int) + (hi : Int)) / 2 by omega] at hc
      by_cases hp : x.t < (Hp.e l ((lo + hi) / 2)).t
      · rw [decide_eq_true hp] at hc
        have HP := Lib.hid hp
        clear hp HL
        go_wp2_with (go_at_call 35; refine hc.mono ?_; rintro e w' ⟨rfl, nq, rfl⟩)
        go_roundg ((lo + hi) / 2 - lo)
        case measure => omega
        case rel => exact ⟨lo, (lo + hi) / 2, _, rfl, by go_num, by omega, by omega, by omega, rfl, Lib.hid ⟨HI.out.1, fun j h1 h2 => Int.lt_of_lt_of_le HP.out (Wh.asc_le HA.out h1 h2)⟩⟩
      · rw [decide_eq_false hp] at hc
        have HP := Lib.hid hp
        clear hp HL
        go_wp2_with (go_at_call 35; refine hc.mono ?_; rintro e w' ⟨rfl, nq, rfl⟩)
        go_roundg (hi - ((lo + hi) / 2 + 1))
        case measure => omega
        case rel => exact ⟨(lo + hi) / 2 + 1, hi, _, by go_num, rfl, by omega, by omega, by omega, rfl, Lib.hid ⟨fun j hj => Int.le_trans (Wh.asc_le HA.out (i := j) (j := (lo + hi) / 2) (by omega) (by omega)) (HP.out), HI.out.2⟩⟩
    · obtain rfl : lo = hi := by omega
      clear HL
      go_wp2
      go_ret
      exact ⟨lo, hin, rfl, Wh.put_at hin HI.out.1 HI.out.2, _, rfl⟩

theorem Whl.lt_own {B P q : Nat} {w : World} {now : Int} {F : Nat → List En} {V : Nat → Value} {K : List Nat} {v : Value} (h : Whl B w P now F V K) (hv : V q = v) (hq : q < 50) {k : Nat} (e : v.ownBlock = some k) : k < w.heap.size := ((h.rows q hq).lt (by rw [hv]; exact e)).2
theorem one_cell {w : World} {b : Nat} {t : TypeId} {v : Value} (h : w.heap[b]? = some (.cells #[v] t (0, 0))) : w.cell? ⟨b, 0, none⟩ = some v := cell_of_row _ _ _ _ _ _ h
theorem Whl.bound {B P : Nat} {w : World} {now : Int} {F : Nat → List En} {V : Nat → Value} {K : List Nat} (h : Whl B w P now F V K) : B ≤ w.heap.size := Nat.le_of_lt (Nat.lt_of_le_of_lt h.from_ h.lt)

set_option maxHeartbeats 2000000 in
set_option maxRecDepth 100000 in
/-- An alarm is laid in a place. -/
theorem lay_any {B P q : Nat} {w : World} {now : Int} {F : Nat → List En} {V : Nat → Value} {K : List Nat} (x : En) (h : Whl B w P now F V K) (hq : q < 50) (ha : Wh.Asc (F q)) (hl : (F q).length ≤ 900) :
    Calls Try.prog 27 #[.pointer (some ⟨P, q + 1, none⟩), .agg #[.int .i64 x.t, .int .i64 x.c, .int .i64 x.s, .int .i64 x.g, .int .i64 x.x]] w fun e w' => e = .returned (.tuple #[]) ∧ ∃ V', Whl B w' P now (Wh.upd F q (Rf.put x (F q))) V' K ∧ Rest (fun k => B ≤ k ∧ k ∉ K) w w' := by
  have hB := h.bound
  obtain ⟨a0, c, hv⟩ := (h.rows q hq).shape
  have mixed : Try.prog.follows .mixedOrders = true := by kernel_rfl
  -- the two boxes
  have hr0 : Rest (fun _ => False) w ((w.alloc (.cells #[.pointer (some ⟨P, q + 1, none⟩)] 60)).alloc (.cells (Hp.alarm x).toArray 30)) := (Rest.alloc (fun _ => False) w _).trans (o3 := fun _ => False) (Rest.alloc (fun _ => False) _ _) (fun _ _ => id) (fun _ _ => id)
  have hb1 : ((w.alloc (.cells #[.pointer (some ⟨P, q + 1, none⟩)] 60)).alloc (.cells (Hp.alarm x).toArray 30)).heap[w.heap.size]? = some (.cells #[.pointer (some ⟨P, q + 1, none⟩)] 60 (0, 0)) := (Below.heap_alloc _ _ _ (by simp)).trans (heap_alloc_new _ _)
  have hb2 : ((w.alloc (.cells #[.pointer (some ⟨P, q + 1, none⟩)] 60)).alloc (.cells (Hp.alarm x).toArray 30)).heap[w.heap.size + 1]? = some (.cells (Hp.alarm x).toArray 30 (0, 0)) := by
    have := heap_alloc_new (w.alloc (.cells #[.pointer (some ⟨P, q + 1, none⟩)] 60)) (.cells (Hp.alarm x).toArray 30)
    simpa using this
  have HW0 := Lib.hid h
  simp only [Hp.alarm] at hr0 hb1 hb2
  have c1 := one_cell hb1
  have c2 := (h.past hr0).cell hq
  rw [hv] at c2
  go_enter Try.func27, Try.ntmps27
  go_wp2_with fail
  clear c1 c2
  generalize (w.alloc (.cells #[.pointer (some ⟨P, q + 1, none⟩)] 60)).alloc (.cells #[.int .i64 x.t, .int .i64 x.c, .int .i64 x.s, .int .i64 x.g, .int .i64 x.x] 30) = w2 at hr0 hb1 hb2 ⊢
  have h2 := h.past hr0
  have c1 : w2.cell? ⟨w.heap.size, 0, none⟩ = some (.pointer (some ⟨P, q + 1, none⟩)) := cell_of_row _ _ _ _ _ _ hb1
  have c2 := h2.cell hq
  obtain ⟨x0, x1, x2, x3, x4⟩ := five_cells13 hb2
  have hS := search_any (x := x) (h2.rows q hq) ha (by omega) c1 c2 x0
  rw [hv] at c2
  have HRow := Lib.hid (h2.rows q hq)
  have HW2 := Lib.hid h2
  have HB1 := Lib.hid hb1
  have HB2 := Lib.hid hb2
  have HR0 := Lib.hid hr0
  have HV := Lib.hid hv
  have HFl := Lib.hid hl
  clear h h2 hb1 hb2 hr0 hv ha
  generalize hn : (F q).length = n at hS c2 HV ⊢
  have HN := Lib.hid hn
  clear hn hl
  refine hS.mono ?_
  rintro e w3 ⟨r, hrn, rfl, hput, m, rfl⟩
  have HP := Lib.hid hput
  have HRn := Lib.hid hrn
  clear hS hput hrn
  go_wp2_with fail
  refine wp_region_held_drew (S := fun w' => w'.cell? ⟨w.heap.size, 0, none⟩ = some (.pointer (some ⟨P, q + 1, none⟩)) ∧ w'.cell? ⟨w.heap.size + 1, 0, none⟩ = some (.int .i64 x.t) ∧ w'.cell? ⟨w.heap.size + 1, 1, none⟩ = some (.int .i64 x.c) ∧ w'.cell? ⟨w.heap.size + 1, 2, none⟩ = some (.int .i64 x.s) ∧ w'.cell? ⟨w.heap.size + 1, 3, none⟩ = some (.int .i64 x.g) ∧ w'.cell? ⟨w.heap.size + 1, 4, none⟩ = some (.int .i64 x.x)) (by kernel_rfl) ⟨c1, x0, x1, x2, x3, x4⟩ (fun hHeld => ?_)
  have HWd := Lib.hid ((HW2.out.past (Rest.drewN (fun _ => False) _ m)).past (Rest.drew (fun _ => False) _))
  have HRd : Hid (Rest (fun _ => False) w (w2.drewN m).drew) := (HR0.out.trans (o3 := fun _ => False) (Rest.drewN (fun _ => False) _ m) (fun _ _ => id) (fun _ _ => id)).trans (o3 := fun _ => False) (Rest.drew (fun _ => False) _) (fun _ _ => id) (fun _ _ => id)
  have HBd1 : Hid ((w2.drewN m).drew.heap[w.heap.size]? = some (.cells #[.pointer (some ⟨P, q + 1, none⟩)] 60 (0, 0))) := HB1.out
  have HBd2 : Hid ((w2.drewN m).drew.heap[w.heap.size + 1]? = some (.cells #[.int .i64 x.t, .int .i64 x.c, .int .i64 x.s, .int .i64 x.g, .int .i64 x.x] 30 (0, 0))) := HB2.out
  clear HW2 HR0 HRow c1 c2 x0 x1 x2 x3 x4 HB1 HB2
  generalize (w2.drewN m).drew = wd at HWd HRd HBd1 HBd2 hHeld ⊢
  have c2d := HWd.out.cell hq
  rw [HV.out] at c2d
  refine wpAnyH_yield 0 (.pointer (some ⟨P, q + 1, none⟩)) rfl (by kernel_rfl) (by kernel_rfl) (by kernel_rfl) (fun d _ _ _ h => by cases d <;> exact h) (by rfl) (by assumption) (fun _ hSw => by (try dsimp only at hSw); go_simp) ?_
  simp only [Act.put, List.setIfInBounds_toArray, List.set_cons_zero, List.set_cons_succ]
  refine wpAnyH_yield 1 (.pointer (some ⟨P, q + 1, none⟩)) rfl (by kernel_rfl) (by kernel_rfl) (by kernel_rfl) (fun d _ _ _ h => by cases d <;> exact h) (by rfl) (by assumption) (fun _ hSw => by (try dsimp only at hSw); go_simp) ?_
  simp only [Act.put, List.setIfInBounds_toArray, List.set_cons_zero, List.set_cons_succ]
  refine wpAnyH_yield 2 (.pointer (some ⟨P, q + 1, none⟩)) rfl (by kernel_rfl) (by kernel_rfl) (by kernel_rfl) (fun d _ _ _ h => by cases d <;> exact h) (by rfl) (by assumption) (fun _ _ => by go_simp) ?_
  simp only [Act.put, List.setIfInBounds_toArray, List.set_cons_zero, List.set_cons_succ]
  refine wpAnyH_yield 4 (.int .i64 (r : Nat)) rfl (by kernel_rfl) (by kernel_rfl) (by kernel_rfl) (fun d _ _ _ h => by cases d <;> exact h) (by rfl) (by assumption) (fun _ _ => by go_simp) ?_
  simp only [Act.put, List.setIfInBounds_toArray, List.set_cons_zero, List.set_cons_succ]
  refine wpAnyH_yield 5 (.agg #[.int .i64 x.t, .int .i64 x.c, .int .i64 x.s, .int .i64 x.g, .int .i64 x.x]) rfl (by kernel_rfl) (by kernel_rfl) (by kernel_rfl) (fun d _ _ _ h => by cases d <;> exact h) (by rfl) (by assumption) (fun _ hSw => by (try dsimp only at hSw); go_simp) ?_
  simp only [Act.put, List.setIfInBounds_toArray, List.set_cons_zero, List.set_cons_succ]
  have HFin : Hid (∀ w4 w5 v', Rest (fun _ => False) wd w4 → Az w5 B v' ((F q).take r ++ x :: (F q).drop r) → Rest (fun k => (Value.slice a0 n c).ownBlock = some k) w4 w5 → (∀ k, v'.ownBlock = some k → (Value.slice a0 n c).ownBlock = some k ∨ w4.heap.size ≤ k) → ∃ V', Whl B (w5.setCell ⟨P, q + 1, none⟩ v') P now (Wh.upd F q (Rf.put x (F q))) V' K ∧ Rest (fun k => B ≤ k ∧ k ∉ K) w (w5.setCell ⟨P, q + 1, none⟩ v')) := Lib.hid (fun w4 w5 v' hr4 haz hr5 ho => by
    have h4 := HWd.out.past hr4
    rw [← HV.out] at hr5 ho
    rw [← HP.out] at haz
    have hP5 : w5.heap[P]? = w4.heap[P]? := hr5.block P h4.lt (h4.off q hq)
    have hb : (w5.setCell ⟨P, q + 1, none⟩ v').heap[P]? = some (.cells (cellsW now (Wh.upd V q v')) 57 (0, 0)) := by
      have := heap_setCell_same w5 P (q + 1) _ _ v' (hP5.trans h4.block)
      rwa [cellsW_set] at this
    have hv' : v'.ownBlock ≠ some P := fun e => by
      rcases ho P e with o | o
      · exact h4.off q hq o
      · have := h4.lt; omega
    obtain ⟨k1, k2⟩ := h4.turn (w' := w5.setCell ⟨P, q + 1, none⟩ v') hq ((hr5.mono (o2 := fun k => k = P ∨ (V q).ownBlock = some k) (fun _ _ => .inr)).trans (o3 := fun k => k = P ∨ (V q).ownBlock = some k) (Rest.setCell (own := fun k => k = P ∨ (V q).ownBlock = some k) w5 ⟨P, q + 1, none⟩ v' (.inl rfl)) (fun _ _ => id) (fun _ _ => id)) hb (haz.kept (fun k hk => Below.heap_setCell _ _ _ _ (fun e => hv' (by rw [hk, e])))) ho
    exact ⟨_, k1, (HRd.out.trans (o3 := fun _ => False) hr4 (fun _ _ => id) (fun _ _ => id)).trans (o3 := fun k => B ≤ k ∧ k ∉ K) k2 (fun _ _ => False.elim) (fun _ _ => id)⟩)
  refine wpAnyH_ready (rs := [3, 6]) (by kernel_rfl) (by simp) (AllReadyH.cons rfl (fun K hK => ?_) (AllReadyH.cons rfl (fun K hK => ?_) AllReadyH.nil))
  · go_simp
    refine hK.out _ _ hHeld (fun hHeld => ?_)
    clear hK K
    try simp only [Act.put, List.setIfInBounds_toArray, List.set_cons_zero, List.set_cons_succ]
    refine wpAnyH_ready (rs := [6]) (by kernel_rfl) (by simp) (AllReadyH.cons rfl (fun K hK => ?_) AllReadyH.nil)
    go_simp
    have hs := Rest.alloc (fun _ => False) wd (.cells #[.int .i64 x.t, .int .i64 x.c, .int .i64 x.s, .int .i64 x.g, .int .i64 x.x] 30)
    have h9 := heap_alloc_new wd (.cells #[.int .i64 x.t, .int .i64 x.c, .int .i64 x.s, .int .i64 x.g, .int .i64 x.x] 30)
    generalize wd.alloc (.cells #[.int .i64 x.t, .int .i64 x.c, .int .i64 x.s, .int .i64 x.g, .int .i64 x.x] 30) = wa at hs h9 ⊢
    have HB9 := Lib.hid h9
    have HS := Lib.hid hs
    clear h9 hs c2d
    refine hK.out _ _ ⟨one_cell ((HS.out.block _ (lt_of_block HBd1.out) (fun x => x)).trans HBd1.out), five_cells13 ((HS.out.block _ (lt_of_block HBd2.out) (fun x => x)).trans HBd2.out)⟩ (fun hHeld => ?_)
    clear hK K
    try simp only [Act.put, List.setIfInBounds_toArray, List.set_cons_zero, List.set_cons_succ]
    refine wpAnyH_ready (rs := [7]) (by kernel_rfl) (by simp) (AllReadyH.cons rfl (fun K hK => ?_) AllReadyH.nil)
    go_simp
    go_at_call 36
    have hrw := (HWd.out.past HS.out).rows q hq
    rw [HV.out] at hrw
    have hins := insert_any (i := r) x wa hrw (by rw [HN.out]; exact HRn.out) (Nat.le_trans HFl.out (by decide)) (HWd.out.past HS.out).bound HB9.out (fun e => by
      have := ((HWd.out.rows q hq).lt (by rw [HV.out]; exact e)).2
      omega)
    refine hins.mono ?_
    clear hrw hins
    rintro e w5 ⟨v', rfl, haz, hr5, ho⟩
    have hoff : ∀ b, w.heap.size ≤ b → (Value.slice a0 n c).ownBlock ≠ some b := fun b hb e => by
      have h1 := HW0.out.lt_own HV.out hq e
      omega
    have hP5 : w5.heap[P]? = wa.heap[P]? := hr5.block P (HWd.out.past HS.out).lt (by rw [← HV.out]; exact HWd.out.off q hq)
    have cP : w5.cell? ⟨P, q + 1, none⟩ = some (.slice a0 n c) := by rw [World.cell?_of_block hP5, (HWd.out.past HS.out).cell hq, HV.out]
    have fP : w5.frozen? ⟨P, q + 1, none⟩ = false := frozen_of_row _ _ _ _ _ (hP5.trans (HWd.out.past HS.out).block)
    have hB5 : w5.heap[w.heap.size]? = some (.cells #[.pointer (some ⟨P, q + 1, none⟩)] 60 (0, 0)) := (hr5.block _ (Nat.lt_of_lt_of_le (lt_of_block HBd1.out) HS.out.size) (hoff _ (Nat.le_refl _))).trans ((HS.out.block _ (lt_of_block HBd1.out) (fun x => x)).trans HBd1.out)
    have hB6 : w5.heap[w.heap.size + 1]? = some (.cells #[.int .i64 x.t, .int .i64 x.c, .int .i64 x.s, .int .i64 x.g, .int .i64 x.x] 30 (0, 0)) := (hr5.block _ (Nat.lt_of_lt_of_le (lt_of_block HBd2.out) HS.out.size) (hoff _ (by omega))).trans ((HS.out.block _ (lt_of_block HBd2.out) (fun x => x)).trans HBd2.out)
    have HE := Lib.hid (HFin.out wa w5 v' HS.out haz hr5 ho)
    have hPn := HW0.out.lt
    obtain ⟨a2, n2, m2, hv2⟩ : ∃ a2 n2 m2, v' = .slice a2 n2 m2 := haz.shape.elim (fun a h => h.elim (fun c h => ⟨a, _, c, h⟩))
    have hS6 : w5.cell? ⟨w.heap.size, 0, none⟩ = some (.pointer (some ⟨P, q + 1, none⟩)) ∧ w5.cell? ⟨w.heap.size + 1, 0, none⟩ = some (.int .i64 x.t) ∧ w5.cell? ⟨w.heap.size + 1, 1, none⟩ = some (.int .i64 x.c) ∧ w5.cell? ⟨w.heap.size + 1, 2, none⟩ = some (.int .i64 x.s) ∧ w5.cell? ⟨w.heap.size + 1, 3, none⟩ = some (.int .i64 x.g) ∧ w5.cell? ⟨w.heap.size + 1, 4, none⟩ = some (.int .i64 x.x) := ⟨one_cell hB5, five_cells13 hB6⟩
    clear hoff hP5 haz hr5 ho
    refine hK.out _ _ (hS6) (fun hHeld => ?_)
    clear hK K
    try simp only [Act.put, List.setIfInBounds_toArray, List.set_cons_zero, List.set_cons_succ]
    rw [hv2] at HE ⊢
    refine wpAnyH_yield 8 (.pointer (some ⟨P, q + 1, none⟩)) rfl (by kernel_rfl) (by kernel_rfl) (by kernel_rfl) (fun d _ _ _ h => by cases d <;> exact h) (by rfl) (by assumption) (fun _ _ => by go_simp) ?_
    simp only [Act.put, List.setIfInBounds_toArray, List.set_cons_zero, List.set_cons_succ]
    refine wpAnyH_ready (rs := [9]) (by kernel_rfl) (by simp) (AllReadyH.cons rfl (fun K hK => ?_) AllReadyH.nil)
    go_simp
    refine hK.out _ _ ⟨one_cell (by rw [heap_setCell_other _ _ _ _ (by show w.heap.size ≠ P; omega)]; exact hB5), five_cells13 (by rw [heap_setCell_other _ _ _ _ (by show w.heap.size + 1 ≠ P; omega)]; exact hB6)⟩ (fun hHeld => ?_)
    clear hK K
    refine wpAnyH_done (by kernel_rfl) ?_ _
    go_wp2
    go_end0
    exact ⟨rfl, HE.out⟩
  · go_simp
    have hs := Rest.alloc (fun _ => False) wd (.cells #[.int .i64 x.t, .int .i64 x.c, .int .i64 x.s, .int .i64 x.g, .int .i64 x.x] 30)
    have h9 := heap_alloc_new wd (.cells #[.int .i64 x.t, .int .i64 x.c, .int .i64 x.s, .int .i64 x.g, .int .i64 x.x] 30)
    generalize wd.alloc (.cells #[.int .i64 x.t, .int .i64 x.c, .int .i64 x.s, .int .i64 x.g, .int .i64 x.x] 30) = wa at hs h9 ⊢
    have HB9 := Lib.hid h9
    have HS := Lib.hid hs
    clear h9 hs c2d
    refine hK.out _ _ ⟨one_cell ((HS.out.block _ (lt_of_block HBd1.out) (fun x => x)).trans HBd1.out), five_cells13 ((HS.out.block _ (lt_of_block HBd2.out) (fun x => x)).trans HBd2.out)⟩ (fun hHeld => ?_)
    clear hK K
    try simp only [Act.put, List.setIfInBounds_toArray, List.set_cons_zero, List.set_cons_succ]
    have c2d := (HWd.out.past HS.out).cell hq
    rw [HV.out] at c2d
    refine wpAnyH_ready (rs := [3]) (by kernel_rfl) (by simp) (AllReadyH.cons rfl (fun K hK => ?_) AllReadyH.nil)
    go_simp
    refine hK.out _ _ hHeld (fun hHeld => ?_)
    clear hK K c2d
    try simp only [Act.put, List.setIfInBounds_toArray, List.set_cons_zero, List.set_cons_succ]
    refine wpAnyH_ready (rs := [7]) (by kernel_rfl) (by simp) (AllReadyH.cons rfl (fun K hK => ?_) AllReadyH.nil)
    go_simp
    go_at_call 36
    have hrw := (HWd.out.past HS.out).rows q hq
    rw [HV.out] at hrw
    have hins := insert_any (i := r) x wa hrw (by rw [HN.out]; exact HRn.out) (Nat.le_trans HFl.out (by decide)) (HWd.out.past HS.out).bound HB9.out (fun e => by
      have := ((HWd.out.rows q hq).lt (by rw [HV.out]; exact e)).2
      omega)
    refine hins.mono ?_
    clear hrw hins
    rintro e w5 ⟨v', rfl, haz, hr5, ho⟩
    have hoff : ∀ b, w.heap.size ≤ b → (Value.slice a0 n c).ownBlock ≠ some b := fun b hb e => by
      have h1 := HW0.out.lt_own HV.out hq e
      omega
    have hP5 : w5.heap[P]? = wa.heap[P]? := hr5.block P (HWd.out.past HS.out).lt (by rw [← HV.out]; exact HWd.out.off q hq)
    have cP : w5.cell? ⟨P, q + 1, none⟩ = some (.slice a0 n c) := by rw [World.cell?_of_block hP5, (HWd.out.past HS.out).cell hq, HV.out]
    have fP : w5.frozen? ⟨P, q + 1, none⟩ = false := frozen_of_row _ _ _ _ _ (hP5.trans (HWd.out.past HS.out).block)
    have hB5 : w5.heap[w.heap.size]? = some (.cells #[.pointer (some ⟨P, q + 1, none⟩)] 60 (0, 0)) := (hr5.block _ (Nat.lt_of_lt_of_le (lt_of_block HBd1.out) HS.out.size) (hoff _ (Nat.le_refl _))).trans ((HS.out.block _ (lt_of_block HBd1.out) (fun x => x)).trans HBd1.out)
    have hB6 : w5.heap[w.heap.size + 1]? = some (.cells #[.int .i64 x.t, .int .i64 x.c, .int .i64 x.s, .int .i64 x.g, .int .i64 x.x] 30 (0, 0)) := (hr5.block _ (Nat.lt_of_lt_of_le (lt_of_block HBd2.out) HS.out.size) (hoff _ (by omega))).trans ((HS.out.block _ (lt_of_block HBd2.out) (fun x => x)).trans HBd2.out)
    have HE := Lib.hid (HFin.out wa w5 v' HS.out haz hr5 ho)
    have hPn := HW0.out.lt
    obtain ⟨a2, n2, m2, hv2⟩ : ∃ a2 n2 m2, v' = .slice a2 n2 m2 := haz.shape.elim (fun a h => h.elim (fun c h => ⟨a, _, c, h⟩))
    have hS6 : w5.cell? ⟨w.heap.size, 0, none⟩ = some (.pointer (some ⟨P, q + 1, none⟩)) ∧ w5.cell? ⟨w.heap.size + 1, 0, none⟩ = some (.int .i64 x.t) ∧ w5.cell? ⟨w.heap.size + 1, 1, none⟩ = some (.int .i64 x.c) ∧ w5.cell? ⟨w.heap.size + 1, 2, none⟩ = some (.int .i64 x.s) ∧ w5.cell? ⟨w.heap.size + 1, 3, none⟩ = some (.int .i64 x.g) ∧ w5.cell? ⟨w.heap.size + 1, 4, none⟩ = some (.int .i64 x.x) := ⟨one_cell hB5, five_cells13 hB6⟩
    clear hoff hP5 haz hr5 ho
    refine hK.out _ _ (hS6) (fun hHeld => ?_)
    clear hK K
    try simp only [Act.put, List.setIfInBounds_toArray, List.set_cons_zero, List.set_cons_succ]
    rw [hv2] at HE ⊢
    refine wpAnyH_yield 8 (.pointer (some ⟨P, q + 1, none⟩)) rfl (by kernel_rfl) (by kernel_rfl) (by kernel_rfl) (fun d _ _ _ h => by cases d <;> exact h) (by rfl) (by assumption) (fun _ _ => by go_simp) ?_
    simp only [Act.put, List.setIfInBounds_toArray, List.set_cons_zero, List.set_cons_succ]
    refine wpAnyH_ready (rs := [9]) (by kernel_rfl) (by simp) (AllReadyH.cons rfl (fun K hK => ?_) AllReadyH.nil)
    go_simp
    refine hK.out _ _ ⟨one_cell (by rw [heap_setCell_other _ _ _ _ (by show w.heap.size ≠ P; omega)]; exact hB5), five_cells13 (by rw [heap_setCell_other _ _ _ _ (by show w.heap.size + 1 ≠ P; omega)]; exact hB6)⟩ (fun hHeld => ?_)
    clear hK K
    refine wpAnyH_done (by kernel_rfl) ?_ _
    go_wp2
    go_end0
    exact ⟨rfl, HE.out⟩
end Go.Proofs.Ytcjidobdbdfjlaa
