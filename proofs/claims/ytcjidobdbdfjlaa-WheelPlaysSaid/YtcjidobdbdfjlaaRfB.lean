/- The document's own list of alarms: Without. -/
import Derived.Test.YtcjidobdbdfjlaaRfA
namespace Go.Proofs.Ytcjidobdbdfjlaa
open Go.RowKit Go.Sort

theorem Try.infoE13 : (Try.prog.info? 63).map (fun i => (i.zero, i.size, i.bytes)) = some (some (.agg #[.int .i64 0, .int .i64 0, .int .i64 0, .int .i64 0, .int .i64 0, .int .i64 0]), 6, 48) := by kernel_rfl
theorem Try.sizeL13 : (Try.prog.info? 28).map (·.size) = some 2 := by kernel_rfl

/-- One entry is put behind a row of one's own. -/
theorem grow_one {w : World} {B g off n cap : Nat} {l : List En} (hr : RowK w B 63 6 g off n cap (flat l)) (hn : n ≤ 1000) (x : En) {b : Nat} {t : TypeId} (hb : w.heap[b]? = some (.cells (Hp.enc x).toArray t (0, 0))) (hB : B ≤ w.heap.size) (ty : TypeId) :
    ∃ g' off' cap' w', (Builtin.append_ #[26, 26] ty #[.slice (some ⟨g, off, none⟩) n cap, .slice (some ⟨b, 0, none⟩) 1 1]).run Try.prog w = .ok (.slice (some ⟨g', off', none⟩) (n + 1) cap') w' ∧ RowK w' B 63 6 g' off' (n + 1) cap' (flat (l ++ [x])) ∧ Rest (fun k => k = g) w w' := by
  obtain ⟨i0, hinf, hz0, hz1, hz2⟩ := info_parts Try.infoE13
  obtain ⟨g', off', cap', w', h1, h2, h3, -⟩ := run_append_rowK (P := Try.prog) w 26 ty B 6 63 i0 _ 48 Try.underlying26 hinf hz0 hz1 hz2 rfl (by decide) g off n cap (flat l) hr ⟨b, 0, none⟩ 1 1 (Hp.enc x) rfl (fun j u hu => by
    rw [Addr.add_lit, Nat.zero_add, cell_of_row _ _ _ _ _ _ hb]
    simpa using hu) (enc_one x) (by unfold maxLen; omega) (by omega) hB
  exact ⟨g', off', cap', w', h1, by rw [flat_append]; exact h2, Rest.grown (own := fun k => k = g) h3 (fun k e => by cases e; rfl)⟩

/-- A list that is made anew behind the world w. -/
structure Nw (w w' : World) (g off cap : Nat) (l : List En) : Prop where
  row : RowK w' w.heap.size 63 6 g off l.length cap (flat l)
  rest : Rest (fun _ => False) w w'
theorem Nw.start (w : World) : Nw w (w.alloc (.cells #[] 63)) w.heap.size 0 0 [] := ⟨RowK.nil _ _ _ _ (Nat.le_refl _), Rest.alloc _ _ _⟩
theorem Nw.past {w w1 w2 : World} {g off cap : Nat} {l : List En} (h : Nw w w1 g off cap l) (hr : Rest (fun _ => False) w1 w2) : Nw w w2 g off cap l :=
  ⟨h.row.kept (hr.block _ h.row.lt (fun x => x)), h.rest.trans (o3 := fun _ => False) hr (fun _ _ => id) (fun _ _ => id)⟩
theorem Nw.more {w w1 : World} {g off cap : Nat} {l : List En} (h : Nw w w1 g off cap l) (hn : l.length ≤ 1000) (x : En) {b : Nat} {t : TypeId} (hb : w1.heap[b]? = some (.cells (Hp.enc x).toArray t (0, 0))) (ty : TypeId) :
    ∃ g' off' cap' w', (Builtin.append_ #[26, 26] ty #[.slice (some ⟨g, off, none⟩) l.length cap, .slice (some ⟨b, 0, none⟩) 1 1]).run Try.prog w1 = .ok (.slice (some ⟨g', off', none⟩) (l.length + 1) cap') w' ∧ Nw w w' g' off' cap' (l ++ [x]) := by
  obtain ⟨g', off', cap', w', h1, h2, h3⟩ := grow_one h.row hn x hb h.rest.size ty
  exact ⟨g', off', cap', w', h1, ⟨by rw [List.length_append]; exact h2, h.rest.trans (o3 := fun _ => False) h3 (fun _ _ => id) (fun i hi e => by have := h.row.from_; omega)⟩⟩

theorem without_next {l : List En} {k : Nat} (a : En) (h : k < l.length) : Rf.without a (l.take (k + 1)) = Rf.without a (l.take k) ++ if Rf.same (Hp.e l k) a then [] else [Hp.e l k] := by
  rw [Rf.take_next h]
  unfold Rf.without
  rw [List.filter_append]
  congr 1
  cases hs : Rf.same (Hp.e l k) a <;> simp [hs]

theorem three_boxes (w : World) (p q r : Obj) : (((w.alloc p).alloc q).alloc r).heap[w.heap.size]? = some p ∧ (((w.alloc p).alloc q).alloc r).heap[w.heap.size + 1]? = some q ∧ (((w.alloc p).alloc q).alloc r).heap[w.heap.size + 1 + 1]? = some r ∧ (((w.alloc p).alloc q).alloc r).heap.size = w.heap.size + 1 + 1 + 1 ∧ Rest (fun _ => False) w (((w.alloc p).alloc q).alloc r) := by
  have s1 : (w.alloc p).heap.size = w.heap.size + 1 := by simp
  have s2 : ((w.alloc p).alloc q).heap.size = w.heap.size + 1 + 1 := by simp
  have h1 := heap_alloc_new (w.alloc p) q
  have h2 := heap_alloc_new ((w.alloc p).alloc q) r
  rw [s1] at h1
  rw [s2] at h2
  refine ⟨(Below.heap_alloc _ _ _ (by omega)).trans ((Below.heap_alloc _ _ _ (by omega)).trans (heap_alloc_new _ _)), (Below.heap_alloc _ _ _ (by omega)).trans h1, h2, by simp, ?_⟩
  exact ((Rest.alloc (fun _ => False) w p).trans (o3 := fun _ => False) (Rest.alloc (fun _ => False) _ q) (fun _ _ => id) (fun _ _ => id)).trans (o3 := fun _ => False) (Rest.alloc (fun _ => False) _ r) (fun _ _ => id) (fun _ _ => id)
/-- Five cells of a block. -/
theorem five_cells13 {w : World} {B : Nat} {t : TypeId} {c0 c1 c2 c3 c4 : Value} (h : w.heap[B]? = some (.cells #[c0, c1, c2, c3, c4] t (0, 0))) :
    w.cell? ⟨B, 0, none⟩ = some c0 ∧ w.cell? ⟨B, 1, none⟩ = some c1 ∧ w.cell? ⟨B, 2, none⟩ = some c2 ∧ w.cell? ⟨B, 3, none⟩ = some c3 ∧ w.cell? ⟨B, 4, none⟩ = some c4 :=
  ⟨cell_of_row _ _ _ _ _ _ h, cell_of_row _ _ _ _ _ _ h, cell_of_row _ _ _ _ _ _ h, cell_of_row _ _ _ _ _ _ h, cell_of_row _ _ _ _ _ _ h⟩

/-- What is given out lies in a box of two cells, behind one that was written. -/
theorem two_out {w : World} {b r : Nat} {t : TypeId} {c0 c1 : Value} (h : w.heap[r]? = some (.cells #[c0, c1] t (0, 0))) (hbr : b ≠ r) (u0 u v : Value) :
    (((w.setCell ⟨b, 0, none⟩ u0).setCell ⟨r, 0, none⟩ u).setCell ⟨r, 1, none⟩ v).heap[r]? = some (.cells #[u, v] t (0, 0)) ∧ Rest (fun k => k = b ∨ k = r) w (((w.setCell ⟨b, 0, none⟩ u0).setCell ⟨r, 0, none⟩ u).setCell ⟨r, 1, none⟩ v) := by
  have h0 : (w.setCell ⟨b, 0, none⟩ u0).heap[r]? = some (.cells #[c0, c1] t (0, 0)) := by rw [heap_setCell_other _ _ _ _ (fun e => hbr e.symm)]; exact h
  have h1 := heap_setCell_same _ r 0 _ _ u h0
  have h2 := heap_setCell_same _ r 1 _ _ v h1
  refine ⟨h2, ?_⟩
  exact ((Rest.setCell (own := fun k => k = b ∨ k = r) w ⟨b, 0, none⟩ u0 (.inl rfl)).trans (o3 := fun k => k = b ∨ k = r) (Rest.setCell (own := fun k => k = b ∨ k = r) _ ⟨r, 0, none⟩ u (.inr rfl)) (fun _ _ => id) (fun _ _ => id)).trans (o3 := fun k => k = b ∨ k = r) (Rest.setCell (own := fun k => k = b ∨ k = r) _ ⟨r, 1, none⟩ v (.inr rfl)) (fun _ _ => id) (fun _ _ => id)

set_option maxHeartbeats 2000000 in
set_option maxRecDepth 100000 in
/-- Without those for the same of the same slot. -/
theorem without_any {B : Nat} {a : Option Addr} {c : Nat} {l : List En} (n : Int) (x : En) (w : World) (h : Lz w B a c l) (hm : l.length ≤ 1000) :
    Calls Try.prog 10 #[.agg #[.slice a l.length c, .int .i64 n], .agg (Hp.alarm x).toArray] w fun e w' => ∃ g off cap, e = .returned (.agg #[.slice (some ⟨g, off, none⟩) (Rf.without x l).length cap, .int .i64 n]) ∧ RowK w' w.heap.size 63 6 g off (Rf.without x l).length cap (flat (Rf.without x l)) ∧ Rest (fun _ => False) w w' := by
  have hsm := fun b w => same_any b x w
  simp only [Hp.alarm] at hsm ⊢
  have HWn := Lib.hid (fun k (hk : k < l.length) => without_next x hk)
  have hw0 : Rf.without x (l.take 0) = [] := by simp [Rf.without]
  have HW0 := Lib.hid hw0
  have HWl := Lib.hid (show Rf.without x (l.take l.length) = Rf.without x l by rw [List.take_length])
  have HWs := Lib.hid (show ∀ k, (Rf.without x (l.take k)).length ≤ 1000 from fun k => Nat.le_trans (List.length_filter_le _ _) (by rw [List.length_take]; omega))
  clear hw0
  generalize hWx : (fun k => Rf.without x (l.take k)) = W at *
  have hWk : ∀ k, Rf.without x (l.take k) = W k := fun k => by rw [← hWx]
  simp only [hWk] at HWn HW0 HWl HWs
  have HLz := Lib.hid h
  clear h hWx hWk
  go_enter Try.func10, Try.ntmps10
  go_wp2_with fail
  obtain ⟨hb1, hb2, hb3, hsz, hrs⟩ := three_boxes w (.cells #[.slice a l.length c, .int .i64 n] 28) (.cells #[.int .i64 x.t, .int .i64 x.c, .int .i64 x.s, .int .i64 x.g, .int .i64 x.x] 30) (.cells #[.slice none 0 0, .int .i64 0] 28)
  generalize ((w.alloc (.cells #[.slice a l.length c, .int .i64 n] 28)).alloc (.cells #[.int .i64 x.t, .int .i64 x.c, .int .i64 x.s, .int .i64 x.g, .int .i64 x.x] 30)).alloc (.cells #[.slice none 0 0, .int .i64 0] 28) = w3 at hb1 hb2 hb3 hsz hrs ⊢
  have hnw := Nw.start w3
  rw [show w3.heap.size = w.heap.size + 1 + 1 + 1 by omega] at hnw
  generalize w3.alloc (.cells #[] 63) = w4 at hnw ⊢
  have HN4 := Lib.hid hnw
  have HB1 := Lib.hid hb1
  have HB2 := Lib.hid hb2
  have HB3 := Lib.hid hb3
  have HRs := Lib.hid hrs
  have HSz := Lib.hid hsz
  clear hnw hb1 hb2 hb3 hrs hsz
  go_loopg [5, 6] (1000 : Nat) (fun g1 s5 s6 wx => ∃ k g o q : Nat, s6 = .int .i64 k ∧ s5 = .slice (some ⟨g, o, none⟩) (W k).length q ∧ k ≤ l.length ∧ 1000 - k ≤ g1 ∧ Hid (Nw w3 wx g o q (W k)))
  case atStart => exact ⟨0, _, 0, 0, rfl, by rw [HW0.out]; rfl, by omega, by omega, by rw [HW0.out]; exact HN4⟩
  case round =>
    obtain ⟨k, g, o, q, rfl, rfl, hkl, hk1, HNk⟩ := hrel
    clear HN4 HW0
    have c0 : wr.cell? ⟨w.heap.size, 0, none⟩ = some (.slice a l.length c) := by
      rw [World.cell?_of_block (HNk.out.rest.block _ (lt_of_block HB1.out) (fun x => x)), cell_of_row _ _ _ _ _ _ HB1.out]; rfl
    by_cases hk : k < l.length
    · have hk' : (k : Int) < ((l.length : Nat) : Int) := by omega
      have hwk : IntKind.i64.wrap ((k : Int) + 1) = (k : Int) + 1 := by rw [IntKind.wrap_i64]; omega
      obtain ⟨gl, ol, rfl, hrow⟩ := HLz.out.some_ (by omega)
      have HRow := Lib.hid (hrow.kept ((HNk.out.rest.block _ (Nat.lt_of_lt_of_le hrow.lt HRs.out.size) (fun x => x)).trans (HRs.out.block _ hrow.lt (fun x => x))))
      clear hrow
      have hbl := HRow.out.lt
      obtain ⟨a0, a1, a2, a3, a4, a5⟩ := HRow.out.en hk
      have hnx := HWn.out k hk
      have HS := Lib.hid (hsm (Hp.e l k))
      have hbox := (HNk.out.rest.block _ (lt_of_block HB2.out) (fun x => x)).trans HB2.out
      have hb1w : w.heap.size < wr.heap.size := Nat.lt_of_lt_of_le (lt_of_block HB1.out) HNk.out.rest.size
      have hb2w : w.heap.size + 1 < wr.heap.size := lt_of_block hbox
      obtain ⟨z0, z1, z2, z3, z4⟩ := five_cells13 hbox
      have c0' := cell_grown (w := wr) (a := ⟨w.heap.size, 0, none⟩) hb1w c0
      have a0' := cell_grown (w := wr) (a := ⟨gl, ol + k * 6, none⟩) hbl a0
      have a1' := cell_grown (w := wr) (a := ⟨gl, ol + k * 6 + 1, none⟩) hbl a1
      have a2' := cell_grown (w := wr) (a := ⟨gl, ol + k * 6 + 2, none⟩) hbl a2
      have a3' := cell_grown (w := wr) (a := ⟨gl, ol + k * 6 + 3, none⟩) hbl a3
      have a4' := cell_grown (w := wr) (a := ⟨gl, ol + k * 6 + 4, none⟩) hbl a4
      have z0' := cell_grown (w := wr) (a := ⟨w.heap.size + 1, 0, none⟩) hb2w z0
      have z1' := cell_grown (w := wr) (a := ⟨w.heap.size + 1, 1, none⟩) hb2w z1
      have z2' := cell_grown (w := wr) (a := ⟨w.heap.size + 1, 2, none⟩) hb2w z2
      have z3' := cell_grown (w := wr) (a := ⟨w.heap.size + 1, 3, none⟩) hb2w z3
      have z4' := cell_grown (w := wr) (a := ⟨w.heap.size + 1, 4, none⟩) hb2w z4
      have mixed : Try.prog.follows .mixedOrders = true := by kernel_rfl
      clear a1 a2 a3 a4 a5 z0 z1 z2 z3 z4 hbox a0
      cases hs : Rf.same (Hp.e l k) x with
      | true =>
        have HWe := Lib.hid (show W (k + 1) = W k by rw [hnx, hs, if_pos rfl, List.append_nil])
        rw [hs] at HS
        clear hnx
        go_wp2_with fail
        go_quiet_grown (first | (go_at_call 23; exact Calls.grown_of (HS.out _)))
        have HNn := Lib.hid (HNk.out.past (Rest.grow (fun _ => False) wr nq osq))
        clear HNk c0 c0' a0' a1' a2' a3' a4' z0' z1' z2' z3' z4'
        go_wp2_with fail
        go_roundg (1000 - (k + 1))
        case measure => omega
        case rel => exact ⟨k + 1, g, o, q, by go_num, by rw [HWe.out], by omega, by omega, by rw [HWe.out]; exact HNn⟩
      | false =>
        have HWe := Lib.hid (show W (k + 1) = W k ++ [Hp.e l k] by rw [hnx, hs]; rfl)
        rw [hs] at HS
        clear hnx
        go_wp2_with fail
        go_quiet_grown (first | (go_at_call 23; exact Calls.grown_of (HS.out _)))
        have hrq := Rest.grow (fun _ => False) wr nq osq
        have d0 := c0' nq osq
        have HRq := Lib.hid (HRow.out.kept (hrq.block _ hbl (fun x => x)))
        have HNq := Lib.hid (HNk.out.past hrq)
        clear HNk HRow c0 c0' a0' a1' a2' a3' a4' z0' z1' z2' z3' z4' hrq
        generalize grow (wr.drewN nq) osq = wq at d0 HRq HNq ⊢
        obtain ⟨a0, a1, a2, a3, a4, a5⟩ := HRq.out.en hk
        have hnq := HNq.out.past (Rest.alloc (fun _ => False) wq (.cells (Hp.enc (Hp.e l k)).toArray 63))
        obtain ⟨g', o', q', w6, hrun, hnw6⟩ := hnq.more (HWs.out k) (Hp.e l k) (heap_alloc_new wq _) 26
        have HN6 := Lib.hid hnw6
        simp only [Hp.enc] at hrun
        clear hnq hnw6
        go_wp2_with (at_builtin; refine wpList_append_run rfl _ _ 26 rfl rfl rfl hrun ?_)
        go_roundg (1000 - (k + 1))
        case measure => omega
        case rel => exact ⟨k + 1, g', o', q', by go_num, by rw [HWe.out, List.length_append]; rfl, by omega, by omega, by rw [HWe.out]; exact HN6⟩
    · obtain rfl : k = l.length := by omega
      rw [HWl.out] at HNk ⊢
      have hnk := HNk.out.rest
      have hB3 := (hnk.block _ (lt_of_block HB3.out) (fun x => x)).trans HB3.out
      have hB1 := (hnk.block _ (lt_of_block HB1.out) (fun x => x)).trans HB1.out
      have c1 : wr.cell? ⟨w.heap.size, 1, none⟩ = some (.int .i64 n) := by rw [cell_of_row _ _ _ _ _ _ hB1]; rfl
      have f1 : ∀ i, wr.frozen? ⟨w.heap.size, i, none⟩ = false := fun _ => frozen_of_row _ _ _ _ _ hB1
      have f3 : ∀ i, wr.frozen? ⟨w.heap.size + 1 + 1, i, none⟩ = false := fun _ => frozen_of_row _ _ _ _ _ hB3
      have z0 : wr.cell? ⟨w.heap.size + 1 + 1, 0, none⟩ = some (.slice none 0 0) := by rw [cell_of_row _ _ _ _ _ _ hB3]; rfl
      have z1 : wr.cell? ⟨w.heap.size + 1 + 1, 1, none⟩ = some (.int .i64 0) := by rw [cell_of_row _ _ _ _ _ _ hB3]; rfl
      have HN := Lib.hid HNk.out
      clear HNk
      go_wp2_with fail
      obtain ⟨hb, hr⟩ := two_out (b := w.heap.size) hB3 (by omega) (.slice (some ⟨g, o, none⟩) (Rf.without x l).length q) (.slice (some ⟨g, o, none⟩) (Rf.without x l).length q) (.int .i64 n)
      have hlt := HN.out.row.from_
      have hz3 := HSz.out
      exact bodyPost_ret (results_cell_row Try.results10 _ _ (w.heap.size + 1 + 1) 28 _ (0, 0) _ rfl hb Try.underlying28 rfl Try.sizeL13) rfl ⟨g, o, q, rfl,
        (HN.out.row.kept (hr.block _ HN.out.row.lt (fun e => by omega))).lower (by omega),
        (HRs.out.trans (o3 := fun k => w.heap.size ≤ k ∧ k < w3.heap.size) HN.out.rest (fun _ _ => False.elim) (fun _ _ => False.elim)).trans (o3 := fun _ => False) hr (fun i hi e => by omega) (fun i hi e => by omega)⟩
end Go.Proofs.Ytcjidobdbdfjlaa
