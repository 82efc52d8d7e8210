/- Where the alarm for the same of one slot is. -/
import Derived.Test.YtcjidobdbdfjlaaWhR
import Derived.RangeFuncCalls
namespace Go.Proofs.Ytcjidobdbdfjlaa
open Go.RowKit Go.Sort Go.Shelf

attribute [local go_sem] Oper.semAt_some

theorem Rest.keeps {W W' : World} (h : Rest (fun _ => False) W W') : KeepsOthers W W' := ⟨h.size, fun k _ hk _ => (h.block k (Array.getElem?_eq_some_iff.1 hk).1 (fun x => x)).trans hk⟩
/-- Three boxes: an alarm, a pointer, a number. -/
theorem boxes3 (w : World) (x p q : Obj) : (((w.alloc x).alloc p).alloc q).heap[w.heap.size]? = some x ∧ (((w.alloc x).alloc p).alloc q).heap[w.heap.size + 1]? = some p ∧ (((w.alloc x).alloc p).alloc q).heap[w.heap.size + 1 + 1]? = some q ∧ (((w.alloc x).alloc p).alloc q).heap.size = w.heap.size + 1 + 1 + 1 ∧ Rest (fun _ => False) w (((w.alloc x).alloc p).alloc q) := three_boxes w x p q

/-- None there is, or where it is. -/
def Found (F : Nat → List En) (x : En) (q i : Nat) : Prop := q < 50 ∧ i < (F q).length ∧ Rf.same x (Hp.e (F q) i) = true
def Missed (F : Nat → List En) (x : En) : Prop := ∀ q, q < 50 → ∀ j, j < (F q).length → Rf.same x (Hp.e (F q) j) = false
theorem upto_mem {q : Nat} (h : q < 50) : (⟨q, h⟩ : Fin 50) ∈ Wh.upto 50 := by
  have : ∀ y : Fin 50, y ∈ Wh.upto 50 := by decide
  exact this _

/-- Two boxes of one cell, written. -/
theorem set_two_boxes {W : World} {a b : Nat} {t u : TypeId} {v0 u0 : Value} (ha : W.heap[a]? = some (.cells #[v0] t (0, 0))) (hb : W.heap[b]? = some (.cells #[u0] u (0, 0))) (hab : a ≠ b) (v1 u1 : Value) :
    ((W.setCell ⟨a, 0, none⟩ v1).setCell ⟨b, 0, none⟩ u1).heap[a]? = some (.cells #[v1] t (0, 0)) ∧ ((W.setCell ⟨a, 0, none⟩ v1).setCell ⟨b, 0, none⟩ u1).heap[b]? = some (.cells #[u1] u (0, 0)) ∧ KeepsOthers W ((W.setCell ⟨a, 0, none⟩ v1).setCell ⟨b, 0, none⟩ u1) ∧ Rest (fun k => k = a ∨ k = b) W ((W.setCell ⟨a, 0, none⟩ v1).setCell ⟨b, 0, none⟩ u1) := by
  have h1 := heap_setCell_same W a 0 _ _ v1 ha
  have h2 : (W.setCell ⟨a, 0, none⟩ v1).heap[b]? = some (.cells #[u0] u (0, 0)) := by rw [heap_setCell_other _ _ _ _ (fun e => hab e.symm)]; exact hb
  refine ⟨by rw [heap_setCell_other _ _ _ _ hab]; exact h1, heap_setCell_same _ b 0 _ _ u1 h2, (KeepsOthers.setCell _ _ _).trans (KeepsOthers.setCell _ _ _), ?_⟩
  exact (Rest.setCell (own := fun k => k = a ∨ k = b) W ⟨a, 0, none⟩ v1 (.inl rfl)).trans (o3 := fun k => k = a ∨ k = b) (Rest.setCell (own := fun k => k = a ∨ k = b) _ ⟨b, 0, none⟩ u1 (.inr rfl)) (fun _ _ => id) (fun _ _ => id)

set_option maxRecDepth 100000 in
set_option maxHeartbeats 4000000 in
theorem find_in {B P : Nat} {w : World} {now : Int} {F : Nat → List En} {V : Nat → Value} {K : List Nat} (x : En) (h : Whl B w P now F V K) (hl : ∀ q, (F q).length ≤ 300) :
    CallsIn Fence.wide 6 Try.prog 25 #[.pointer (some ⟨P, 0, none⟩), .agg #[.int .i64 x.t, .int .i64 x.c, .int .i64 x.s, .int .i64 x.g, .int .i64 x.x]] w fun e w' =>
      ((∃ q i : Nat, Found F x q i ∧ e = .returned (.tuple #[.pointer (some ⟨P, q + 1, none⟩), .int .i64 (i : Nat)])) ∨ (e = .returned (.tuple #[.pointer none, .int .i64 0]) ∧ Missed F x)) ∧ Rest (fun _ => False) w w' := by
  refine callsIn_of_wp_marks Try.func25 rfl trivial ?_ rfl
  simp only [Try.ntmps25, List.size_toArray, List.length_cons, List.length_nil, Nat.reduceAdd, Nat.reduceSub, Array.replicate_succ, Array.replicate_zero, List.push_toArray, List.append_toArray, List.nil_append, List.cons_append]
  gi_wp2
  obtain ⟨hb1, hb2, hb3, hsz, hr⟩ := boxes3 w (.cells #[.int .i64 x.t, .int .i64 x.c, .int .i64 x.s, .int .i64 x.g, .int .i64 x.x] 30) (.cells #[.pointer none] 60) (.cells #[.int .i64 0] 3)
  generalize (((w.alloc (.cells #[.int .i64 x.t, .int .i64 x.c, .int .i64 x.s, .int .i64 x.g, .int .i64 x.x] 30)).alloc (.cells #[.pointer none] 60)).alloc (.cells #[.int .i64 0] 3)) = w1 at hb1 hb2 hb3 hsz hr ⊢
  refine range_bound (w := w1) rfl (by decide) (gf := 28) (bs := #[.pointer (some ⟨P, 0, none⟩)]) rfl trivial (enters_of Try.func28 (by kernel_rfl) rfl)
    (places_iter Fence.wide _ trivial rfl (by decide) P) (fun _ => rfl)
    (fun pre W => (W.heap[w.heap.size]? = some (.cells (Hp.alarm x).toArray 30 (0, 0)) ∧ W.heap[w.heap.size + 1]? = some (.cells #[.pointer none] 60 (0, 0)) ∧ W.heap[w.heap.size + 1 + 1]? = some (.cells #[.int .i64 0] 3 (0, 0))) ∧ (∀ y ∈ pre, ∀ j, j < (F y.val).length → Rf.same x (Hp.e (F y.val) j) = false) ∧ Rest (fun _ => False) w W)
    (fun _ W => ∃ q i : Nat, Found F x q i ∧ W.heap[w.heap.size + 1]? = some (.cells #[.pointer (some ⟨P, q + 1, none⟩)] 60 (0, 0)) ∧ W.heap[w.heap.size + 1 + 1]? = some (.cells #[.int .i64 (i : Nat)] 3 (0, 0)) ∧ Rest (fun _ => False) w W)
    (fun s W W' hk hs => ⟨⟨hk.block _ _ hs.1.1 (.inl (by omega)), hk.block _ _ hs.1.2.1 (.inl (by omega)), hk.block _ _ hs.1.2.2 (.inl (by omega))⟩, hs.2.1, hs.2.2.book hk (by omega)⟩)
    (fun s W W' hk ⟨q, i, hf, h1, h2, h3⟩ => ⟨q, i, hf, hk.block _ _ h1 (.inl (by omega)), hk.block _ _ h2 (.inl (by omega)), h3.book hk (by omega)⟩) ⟨⟨hb1, hb2, hb3⟩, fun y hy => by simp at hy, hr⟩
    (fun y => { tmps := #[.pointer (some ⟨P, 0, none⟩), .agg #[.int .i64 x.t, .int .i64 x.c, .int .i64 x.s, .int .i64 x.g, .int .i64 x.x], undef, .pointer (some ⟨w.heap.size, 0, none⟩), .pointer (some ⟨w.heap.size + 1, 0, none⟩), .pointer (some ⟨w.heap.size + 1 + 1, 0, none⟩), .pointer (some ⟨P, y.val + 1, none⟩), undef, .pointer (some ⟨P, 0, none⟩), .func (.func 28) #[.pointer (some ⟨P, 0, none⟩)] #[], .pointer (some ⟨P, y.val + 1, none⟩), undef, undef, undef, undef, undef, undef, undef, undef, undef], defers := [] }) ?assign ?body ?done ?stop
  case assign =>
    intro l y W K hK
    dsimp only [placeAt]
    gi_wp2
    exact hK
  case body =>
    rintro l pre y W ⟨⟨hc1, hc2, hc3⟩, hpre, hR⟩ hlen
    have hW := h.past hR
    have cP := hW.cell (q := y.val) y.isLt
    obtain ⟨a, c, hv⟩ := (hW.rows y.val y.isLt).shape
    have hix := index_any (hW.rows y.val y.isLt) (Nat.le_trans (hl y.val) (by decide)) hc1
    rw [hv] at cP hix
    have HC := Lib.hid (⟨hc1, hc2, hc3⟩ : W.heap[w.heap.size]? = some (.cells (Hp.alarm x).toArray 30 (0, 0)) ∧ W.heap[w.heap.size + 1]? = some (.cells #[.pointer none] 60 (0, 0)) ∧ W.heap[w.heap.size + 1 + 1]? = some (.cells #[.int .i64 0] 3 (0, 0)))
    have HP := Lib.hid hpre
    have HR := Lib.hid hR
    clear hW hv hc1 hc2 hc3 hpre hR hb1 hb2 hb3 hr
    gi_wp2
    refine ⟨trivial, ?_⟩
    refine (CallsIn.inRound l (callsIn_wide.2 hix)).mono ?_
    rintro e w' ⟨⟨i, hi, rfl, hs⟩ | ⟨rfl, hno⟩, hr2⟩
    · have hi0 : (0 : Int) ≤ (i : Int) := by omega
      have h2 := (hr2.block _ (lt_of_block HC.out.2.1) (fun x => x)).trans HC.out.2.1
      have h3 := (hr2.block _ (lt_of_block HC.out.2.2) (fun x => x)).trans HC.out.2.2
      have f2 : w'.frozen? ⟨w.heap.size + 1, 0, none⟩ = false := frozen_of_row _ _ _ _ _ h2
      have f3 : w'.frozen? ⟨w.heap.size + 1 + 1, 0, none⟩ = false := frozen_of_row _ _ _ _ _ h3
      have c2 := one_cell h2
      have c3 := one_cell h3
      have s2 := set_two_boxes h2 h3 (by omega) (.pointer (some ⟨P, y.val + 1, none⟩)) (.int .i64 (i : Nat))
      have HS := Lib.hid (⟨hi, hs, s2⟩ : _ ∧ _ ∧ _)
      have HR2 := Lib.hid hr2
      clear hi hs s2 h2 h3 hr2 hix cP
      gi_wp2
      obtain ⟨hi, hs, s2, s3, s4, s5⟩ := HS.out
      exact ⟨HR2.out.keeps.trans s4, y.val, i, ⟨y.isLt, hi, hs⟩, s2, s3, (HR.out.trans (o3 := fun _ => False) HR2.out (fun _ _ => id) (fun _ _ => id)).trans (o3 := fun _ => False) s5 (fun _ _ => id) (fun i hi e => by omega)⟩
    · have HN := Lib.hid hno
      have HR2 := Lib.hid hr2
      clear hno hr2 hix cP
      gi_wp2
      refine ⟨HR2.out.keeps, ⟨(HR2.out.block _ (lt_of_block HC.out.1) (fun x => x)).trans HC.out.1, (HR2.out.block _ (lt_of_block HC.out.2.1) (fun x => x)).trans HC.out.2.1, (HR2.out.block _ (lt_of_block HC.out.2.2) (fun x => x)).trans HC.out.2.2⟩, fun z hz => ?_, HR.out.trans (o3 := fun _ => False) HR2.out (fun _ _ => id) (fun _ _ => id)⟩
      rcases List.mem_append.1 hz with hz | hz
      · exact HP.out z hz
      · obtain rfl : z = y := by simpa using hz
        exact HN.out
  case done =>
    rintro D ys W hD rfl ⟨⟨hc1, hc2, hc3⟩, hpre, hR⟩ hK
    have f2 : W.frozen? ⟨w.heap.size + 1, 0, none⟩ = false := frozen_of_row _ _ _ _ _ hc2
    have f3 : W.frozen? ⟨w.heap.size + 1 + 1, 0, none⟩ = false := frozen_of_row _ _ _ _ _ hc3
    have c2 := one_cell hc2
    have c3 := one_cell hc3
    obtain ⟨s2, s3, s4, s5⟩ := set_two_boxes hc2 hc3 (by omega) (.pointer none) (.int .i64 0)
    gi_wp2
    have hK' := s4.same D _ hK rfl
    have hbk := Book.put hK' hD rfl (.deferred none)
    refine ⟨by simp, .inl ⟨_, _, rfl, run_takeDeferred hK', ?_⟩⟩
    have e2 := one_cell (hbk.block _ _ s2 (.inl (by omega)))
    have e3 := one_cell (hbk.block _ _ s3 (.inl (by omega)))
    refine ⟨.tuple #[.pointer none, .int .i64 0], ?_, .inr ⟨rfl, fun q hq => hpre ⟨q, hq⟩ (upto_mem hq)⟩, (hR.trans (o3 := fun _ => False) s5 (fun _ _ => id) (fun i hi e => by omega)).book hbk (by omega)⟩
    simp [results, Try.f25, go_sem, e2, e3]
  case stop =>
    rintro D pre W hD ⟨q, i, hf, h1, h2, hR⟩ hK
    gi_wp2
    have hbk := Book.put hK hD rfl (.deferred none)
    refine ⟨by simp, .inl ⟨_, _, rfl, run_takeDeferred hK, ?_⟩⟩
    have e2 := one_cell (hbk.block _ _ h1 (.inl (by omega)))
    have e3 := one_cell (hbk.block _ _ h2 (.inl (by omega)))
    refine ⟨.tuple #[.pointer (some ⟨P, q + 1, none⟩), .int .i64 (i : Nat)], ?_, .inl ⟨q, i, hf, rfl⟩, hR.book hbk (by omega)⟩
    simp [results, Try.f25, go_sem, e2, e3]

theorem find_any {B P : Nat} {w : World} {now : Int} {F : Nat → List En} {V : Nat → Value} {K : List Nat} (x : En) (h : Whl B w P now F V K) (hl : ∀ q, (F q).length ≤ 300) :
    Calls Try.prog 25 #[.pointer (some ⟨P, 0, none⟩), .agg #[.int .i64 x.t, .int .i64 x.c, .int .i64 x.s, .int .i64 x.g, .int .i64 x.x]] w fun e w' =>
      ((∃ q i : Nat, Found F x q i ∧ e = .returned (.tuple #[.pointer (some ⟨P, q + 1, none⟩), .int .i64 (i : Nat)])) ∨ (e = .returned (.tuple #[.pointer none, .int .i64 0]) ∧ Missed F x)) ∧ Rest (fun _ => False) w w' := callsIn_wide.1 (find_in x h hl)
end Go.Proofs.Ytcjidobdbdfjlaa
