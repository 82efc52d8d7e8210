/- The document's own list of alarms: Take. -/
import Derived.Test.YtcjidobdbdfjlaaRfC
import Derived.Deep.RegionWith
namespace Go.Proofs.Ytcjidobdbdfjlaa
open Go.RowKit Go.Sort

theorem Try.sizeA13 : (Try.prog.info? 30).map (·.size) = some 5 := by kernel_rfl
/-- Three results, the first two of them blocks. -/
theorem results_cell_cell_tmp {fn : Func} {p q u : Tmp} {ty ty2 : TypeId} (h : fn.results = #[.cell p ty, .cell q ty2, .tmp u]) (tmps : Array Value) (P : Program) (w : World) :
    (results fn tmps).run P w =
      ((asAddr (tmps.getD p undef)).run P w).andThen fun a w₁ => ((loadVar ty a).run P w₁).andThen fun v w₂ => ((asAddr (tmps.getD q undef)).run P w₂).andThen fun a2 w₃ => ((loadVar ty2 a2).run P w₃).andThen fun v2 w₄ => .ok (.tuple #[v, v2, tmps.getD u undef]) w₄ := by
  simp only [results, h]
  simp [Sem.run_bind, Result.andThen]
/-- Three results, the first two of them blocks that are structs or arrays. -/
theorem results_row_row_tmp {P : Program} {fn : Func} {p q u : Tmp} {ty ty2 : TypeId} (h : fn.results = #[.cell p ty, .cell q ty2, .tmp u]) (tmps : Array Value) (w : World) (g g2 : Nat) (t t2 : TypeId) (cs cs2 : Array Value) (fr fr2 : Nat × Nat) (d d2 : TypeDesc)
    (hp : tmps.getD p undef = .pointer (some ⟨g, 0, none⟩)) (hg : w.heap[g]? = some (.cells cs t fr))
    (hu : P.underlying ty = some d) (hd : (match d with | .struct _ | .array _ _ => true | _ => false) = true) (hi : (P.info? ty).map (·.size) = some cs.size)
    (hp2 : tmps.getD q undef = .pointer (some ⟨g2, 0, none⟩)) (hg2 : w.heap[g2]? = some (.cells cs2 t2 fr2))
    (hu2 : P.underlying ty2 = some d2) (hd2 : (match d2 with | .struct _ | .array _ _ => true | _ => false) = true) (hi2 : (P.info? ty2).map (·.size) = some cs2.size) :
    (results fn tmps).run P w = .ok (.tuple #[.agg cs, .agg cs2, tmps.getD u undef]) w := by
  rw [results_cell_cell_tmp h, hp, hp2]
  simp [asAddr, run_loadVar_row w g t ty cs fr d hg hu hd hi, run_loadVar_row w g2 t2 ty2 cs2 fr2 d2 hg2 hu2 hd2 hi2]

/-- A box of two cells, written anew. -/
theorem two_set {w : World} {r : Nat} {t : TypeId} {c0 c1 : Value} (h : w.heap[r]? = some (.cells #[c0, c1] t (0, 0))) (u v : Value) :
    ((w.setCell ⟨r, 0, none⟩ u).setCell ⟨r, 1, none⟩ v).heap[r]? = some (.cells #[u, v] t (0, 0)) ∧ Rest (fun k => k = r) w ((w.setCell ⟨r, 0, none⟩ u).setCell ⟨r, 1, none⟩ v) :=
  ⟨heap_setCell_same _ r 1 _ _ v (heap_setCell_same _ r 0 _ _ u h), (Rest.setCell (own := fun k => k = r) w ⟨r, 0, none⟩ u rfl).trans (o3 := fun k => k = r) (Rest.setCell (own := fun k => k = r) _ ⟨r, 1, none⟩ v rfl) (fun _ _ => id) (fun _ _ => id)⟩

set_option maxHeartbeats 2000000 in
set_option maxRecDepth 100000 in
/-- None has come. -/
theorem rtake_no {B : Nat} {a : Option Addr} {c : Nat} {l : List En} (n now : Int) (w : World) (h : Lz w B a c l) (hm : l.length ≤ 1000) (hx : l.length = 0 ∨ Tk.past now (Hp.e l 0).t = false) :
    Calls Try.prog 8 #[.agg #[.slice a l.length c, .int .i64 n], .int .i64 now] w fun e w' => e = .returned (.tuple #[.agg #[.slice a l.length c, .int .i64 n], .agg #[.int .i64 0, .int .i64 0, .int .i64 0, .int .i64 0, .int .i64 0], .bool false]) ∧ Rest (fun _ => False) w w' := by
  by_cases h0 : l.length = 0
  · clear h hx
    go_enter Try.func8, Try.ntmps8
    go_wp2_with fail
    obtain ⟨hb1, hb2, hb3, hsz, hrs⟩ := three_boxes w (.cells #[.slice a 0 c, .int .i64 n] 28) (.cells #[.slice a 0 c, .int .i64 n] 28) (.cells #[.int .i64 0, .int .i64 0, .int .i64 0, .int .i64 0, .int .i64 0] 30)
    exact bodyPost_ret (results_row_row_tmp Try.results8 _ _ (w.heap.size + 1) (w.heap.size + 1 + 1) 28 30 _ _ (0, 0) (0, 0) _ _ rfl hb2 Try.underlying28 rfl Try.sizeL13 rfl hb3 Try.underlying30 rfl Try.sizeA13) rfl ⟨by rw [h0]; rfl, hrs⟩
  · have hp := hx.resolve_left h0
    have hp0 : 0 < l.length := by omega
    have hpi : (0 : Int) < ((l.length : Nat) : Int) := by omega
    have hpn : (((l.length : Nat) : Int) == 0) = false := beq_eq_false_iff_ne.mpr (by omega)
    have hpst : ∀ w', Calls Try.prog 21 #[.int .i64 now, .int .i64 (Hp.e l 0).t] w' fun e w2 => e = .returned (.bool (Tk.past now (Hp.e l 0).t)) ∧ w2 = w' := fun w' => (rpast_any now (Hp.e l 0).t w').mono (fun e w2 ⟨h1, h2⟩ => ⟨h1, h2.symm⟩)
    rw [hp] at hpst
    obtain ⟨hb1, hb2, hb3, hsz, hrs⟩ := three_boxes w (.cells #[.slice a l.length c, .int .i64 n] 28) (.cells #[.slice none 0 0, .int .i64 0] 28) (.cells #[.int .i64 0, .int .i64 0, .int .i64 0, .int .i64 0, .int .i64 0] 30)
    obtain ⟨g, off, rfl, hrow⟩ := (h.past hrs).some_ hp0
    obtain ⟨a0, -⟩ := hrow.en hp0
    simp only [Nat.zero_mul, Nat.add_zero] at a0
    clear h hx hrow hp
    clear hb1 hb2 hb3 hrs hsz
    go_enter Try.func8, Try.ntmps8
    go_wp2_with fail
    refine (hpst _).mono ?_
    rintro e w1 ⟨rfl, rfl⟩
    go_wp2_with fail
    obtain ⟨hb1, hb2, hb3, hsz, hrs⟩ := three_boxes w (.cells #[.slice (some ⟨g, off, none⟩) l.length c, .int .i64 n] 28) (.cells #[.slice (some ⟨g, off, none⟩) l.length c, .int .i64 n] 28) (.cells #[.int .i64 0, .int .i64 0, .int .i64 0, .int .i64 0, .int .i64 0] 30)
    exact bodyPost_ret (results_row_row_tmp Try.results8 _ _ (w.heap.size + 1) (w.heap.size + 1 + 1) 28 30 _ _ (0, 0) (0, 0) _ _ rfl hb2 Try.underlying28 rfl Try.sizeL13 rfl hb3 Try.underlying30 rfl Try.sizeA13) rfl ⟨rfl, hrs⟩

/-- Four boxes, and a number drawn. -/
theorem four_boxes (w : World) (p q r s : Obj) : ((((w.alloc p).alloc q).alloc r).alloc s).drew.heap[w.heap.size + 1]? = some q ∧ ((((w.alloc p).alloc q).alloc r).alloc s).drew.heap[w.heap.size + 1 + 1]? = some r ∧ Rest (fun _ => False) w ((((w.alloc p).alloc q).alloc r).alloc s).drew := by
  obtain ⟨-, h2, h3, hs, hr⟩ := three_boxes w p q r
  refine ⟨(Below.heap_alloc _ _ _ (by omega)).trans h2, (Below.heap_alloc _ _ _ (by omega)).trans h3, ?_⟩
  exact (hr.trans (o3 := fun _ => False) (Rest.alloc (fun _ => False) _ s) (fun _ _ => id) (fun _ _ => id)).trans (o3 := fun _ => False) (Rest.drewN (fun _ => False) _ 1) (fun _ _ => id) (fun _ _ => id)

set_option maxHeartbeats 2000000 in
set_option maxRecDepth 100000 in
/-- The first one is taken. -/
theorem rtake_yes {B : Nat} {a : Option Addr} {c : Nat} {x : En} {l : List En} (n now : Int) (w : World) (h : Lz w B a c (x :: l)) (hm : l.length ≤ 1000) (hp : Tk.past now x.t = true) :
    Calls Try.prog 8 #[.agg #[.slice a (l.length + 1) c, .int .i64 n], .int .i64 now] w fun e w' => ∃ g off0 off, a = some ⟨g, off0, none⟩ ∧ e = .returned (.tuple #[.agg #[.slice (some ⟨g, off, none⟩) l.length (c - 1), .int .i64 n], .agg (Hp.alarm x).toArray, .bool true]) ∧ RowK w' B 63 6 g off l.length (c - 1) (flat l) ∧ Rest (fun _ => False) w w' := by
  have hpn : (((l.length + 1 : Nat) : Int) == 0) = false := beq_eq_false_iff_ne.mpr (by omega)
  have hpi : (0 : Int) < ((l.length + 1 : Nat) : Int) := by omega
  have hpst : ∀ w', Calls Try.prog 21 #[.int .i64 now, .int .i64 x.t] w' fun e w2 => e = .returned (.bool (Tk.past now x.t)) ∧ w2 = w' := fun w' => (rpast_any now x.t w').mono (fun e w2 ⟨h1, h2⟩ => ⟨h1, h2.symm⟩)
  rw [hp] at hpst
  obtain ⟨g, off, rfl, hrow0⟩ := h.some_ (by simp)
  obtain ⟨off', hcut, hrow'⟩ := RowK.tail hrow0
  have HRow := Lib.hid (show RowK w B 63 6 g off' l.length (c - 1) (flat l) from hrow')
  have hof : off' = if c = 1 then off else off + 6 := by
    unfold sliced at hcut
    by_cases hc : c = 1
    · simp [hc] at hcut ⊢; omega
    · simp [hc, Addr.add] at hcut ⊢; omega
  have HO := Lib.hid hof
  clear hcut hof
  obtain ⟨hb1, hb2, hb3, hsz, hrs⟩ := three_boxes w (.cells #[.slice (some ⟨g, off, none⟩) (l.length + 1) c, .int .i64 n] 28) (.cells #[.slice none 0 0, .int .i64 0] 28) (.cells #[.int .i64 0, .int .i64 0, .int .i64 0, .int .i64 0, .int .i64 0] 30)
  have hrow := hrow0.kept (hrs.block _ hrow0.lt (fun x => x))
  obtain ⟨a0, a1, a2, a3, a4, -⟩ := hrow.en (show 0 < (x :: l).length by simp)
  simp only [Nat.zero_mul, Nat.add_zero] at a0 a1 a2 a3 a4
  clear h hrow0 hrow' hrow hp
  go_enter Try.func8, Try.ntmps8
  go_wp2_with fail
  refine (hpst _).mono ?_
  rintro e w1 ⟨rfl, rfl⟩
  go_wp2_with fail
  case inl =>
    clear hb1 hb2 hb3 hsz hrs
    go_region_with fail
    all_goals
      go_wp2_with fail
      clear a0 a1 a2 a3 a4
      obtain ⟨hb2, hb3, hr⟩ := four_boxes w (.cells #[.slice (some ⟨g, off, none⟩) l.length 0, .int .i64 n] 28) (.cells #[.slice (some ⟨g, off, none⟩) l.length 0, .int .i64 n] 28) (.cells #[.int .i64 x.t, .int .i64 x.c, .int .i64 x.s, .int .i64 x.g, .int .i64 x.x] 30) (.cells #[.int .i64 x.t, .int .i64 x.c, .int .i64 x.s, .int .i64 x.g, .int .i64 x.x] 30)
      refine bodyPost_ret (results_row_row_tmp Try.results8 _ _ (w.heap.size + 1) (w.heap.size + 1 + 1) 28 30 _ _ (0, 0) (0, 0) _ _ rfl hb2 Try.underlying28 rfl Try.sizeL13 rfl hb3 Try.underlying30 rfl Try.sizeA13) rfl ⟨g, off, off', rfl, ?_, HRow.out.kept (hr.block _ HRow.out.lt (fun x => x)), hr⟩
      have ho := HO.out
      rw [if_pos h] at ho
      rw [ho, show c - 1 = 0 by omega]
      rfl
  case inr =>
    clear hb1 hb2 hb3 hsz hrs
    go_region_with fail
    all_goals
      go_wp2_with fail
      clear a0 a1 a2 a3 a4
      obtain ⟨hb2, hb3, hr⟩ := four_boxes w (.cells #[.slice (some ⟨g, off + 6, none⟩) l.length (c - 1), .int .i64 n] 28) (.cells #[.slice (some ⟨g, off + 6, none⟩) l.length (c - 1), .int .i64 n] 28) (.cells #[.int .i64 x.t, .int .i64 x.c, .int .i64 x.s, .int .i64 x.g, .int .i64 x.x] 30) (.cells #[.int .i64 x.t, .int .i64 x.c, .int .i64 x.s, .int .i64 x.g, .int .i64 x.x] 30)
      refine bodyPost_ret (results_row_row_tmp Try.results8 _ _ (w.heap.size + 1) (w.heap.size + 1 + 1) 28 30 _ _ (0, 0) (0, 0) _ _ rfl hb2 Try.underlying28 rfl Try.sizeL13 rfl hb3 Try.underlying30 rfl Try.sizeA13) rfl ⟨g, off, off', rfl, ?_, HRow.out.kept (hr.block _ HRow.out.lt (fun x => x)), hr⟩
      have ho := HO.out
      rw [if_neg h] at ho
      rw [ho]
      rfl
end Go.Proofs.Ytcjidobdbdfjlaa
