/- slices.Insert of one alarm amid a row of alarms. -/
import Derived.Test.YtcjidobdbdfjlaaWhI
import Derived.RegionTactic
import Derived.BigRegion
namespace Go.Proofs.Ytcjidobdbdfjlaa
open Go.RowKit Go.Sort Go.Shelf

/-- copy into a block, behind what stands there. -/
theorem copy_into {P : Program} (W : World) (dT sT elem : TypeId) (t : TypeId) (N o dLen : Nat) (a : Addr) (sLen k m : Nat) (X C Z : List Value)
    (hu : P.underlying dT = some (.slice elem)) (hs : (P.info? elem).map (·.size) = some k)
    (hg : W.heap[N]? = some (.cells (X ++ Z).toArray t (0, 0))) (ho : X.length = o) (hm : Nat.min sLen dLen = m) (hn : C.length = m * k) (hz : C.length ≤ Z.length)
    (hsrc : ∀ j v, C[j]? = some v → W.cell? (a.add j) = some v) (h1 : ∀ v ∈ C, v.oneCell' = true) :
    ∃ W2, (∀ ty dc sc, (Builtin.copy_ #[dT, sT] ty #[.slice (some ⟨N, o, none⟩) dLen dc, .slice (some a) sLen sc]).run P W = .ok (goInt m) W2) ∧ W2.heap[N]? = some (.cells (X ++ C ++ Z.drop C.length).toArray t (0, 0)) ∧ Rest (fun k => k = N) W W2 := by
  refine ⟨_, fun ty dc sc => run_copy_rowK (P := P) W dT sT ty elem N o dLen dc a sLen sc k m _ t C hu hs hg hm hn hsrc (by simp; omega) h1, ?_, Rest.setRow _ _ _ rfl⟩
  rw [setRow_heap W N _ _ t _ hg]
  subst ho
  simp [List.drop_append]

theorem shape_of_row {w : World} {g : Nat} {t : TypeId} {cur : Array Value} {f : Nat × Nat} (h : w.heap[g]? = some (.cells cur t f)) : w.shape? g = some (t, cur.size) := by
  unfold World.shape?; rw [h]

set_option maxHeartbeats 4000000 in
set_option maxRecDepth 100000 in
/-- Amid a row without room. -/
theorem insert_grow {B g off c i : Nat} {l : List En} (a : En) (w : World) (h : RowK w B 30 5 g off l.length c (flatA l)) (hi : i < l.length) (hc : c < l.length + 1) (hl : l.length ≤ 1000) (hB : B ≤ w.heap.size) {vb : Nat} (hb : w.heap[vb]? = some (.cells (Hp.alarm a).toArray 30 (0, 0))) :
    Calls Try.prog 36 #[.slice (some ⟨g, off, none⟩) l.length c, .int .i64 (i : Nat), .slice (some ⟨vb, 0, none⟩) 1 1] w fun e w' => ∃ g' off' c', e = .returned (.slice (some ⟨g', off', none⟩) (l.length + 1) c') ∧ RowK w' B 30 5 g' off' (l.length + 1) c' (flatA (l.take i ++ a :: l.drop i)) ∧ Rest (fun _ => False) w w' ∧ w.heap.size ≤ g' := by
  obtain ⟨i0, hinf, hz0, hz1, hz2⟩ := info_parts Try.infoA13
  have hsz : (Try.prog.info? 30).map (·.size) = some 5 := by rw [hinf]; simp [hz1]
  have hgl := h.lt
  have hvl := lt_of_block hb
  have hroom := h.room
  have hX : ((flatA l).take (i * 5)).length = i * 5 := by rw [List.length_take, flatA_length]; omega
  have hD : ((flatA l).drop (i * 5)).length = (l.length - i) * 5 := by rw [List.length_drop, flatA_length]; omega
  have hold : (Builtin.firstCells i0.size i (.slice (some ⟨g, off, none⟩) i c)).run Try.prog w.drew = .ok ((flatA l).take (i * 5)).toArray w.drew := by
    rw [hz1]
    exact run_firstCells_some w.drew 5 i ⟨g, off, none⟩ i c _ hX (fun j v hj => by
      rw [Addr.add_lit]
      rw [List.getElem?_take] at hj
      split at hj
      · exact h.cell hj
      · cases hj)
  have hkk : (l.length : Int) + 1 - (i : Int) = ((l.length + 1 - i : Nat) : Int) := by omega
  have hik : i + (l.length + 1 - i) = l.length + 1 := by omega
  obtain ⟨G, hG⟩ : ∃ G, G = grownCap w (l.length + 1) c 30 := ⟨_, rfl⟩
  have hGn : l.length + 1 ≤ G := by rw [hG]; exact grownCap_ge w _ _ _
  have hGm : G ≤ maxLen := by rw [hG]; exact grownCap_le_maxLen w _ _ _ (by unfold maxLen; omega)
  obtain ⟨W1, Z0, hrz, hb1, hr1, hzl⟩ : ∃ W1 Z0, (∀ ty, (Builtin.append_ #[53, 3] ty #[.slice (some ⟨g, off, none⟩) i c, .int .i64 ((l.length : Int) + 1 - (i : Int))]).run Try.prog w = .ok (.slice (some ⟨w.heap.size, 0, none⟩) (l.length + 1) G) W1) ∧ W1.heap[w.heap.size]? = some (.cells ((flatA l).take (i * 5) ++ Z0).toArray 30 (0, 0)) ∧ Rest (fun _ => False) w W1 ∧ Z0.length = G * 5 - i * 5 := by
    refine ⟨w.drew.alloc (.cells (((flatA l).take (i * 5)).toArray ++ Builtin.zeroCells (Value.agg #[.int .i64 0, .int .i64 0, .int .i64 0, .int .i64 0, .int .i64 0]).cells (l.length + 1 - i) ++ Builtin.zeroCells (Value.agg #[.int .i64 0, .int .i64 0, .int .i64 0, .int .i64 0, .int .i64 0]).cells (G - (l.length + 1))) 30), (Builtin.zeroCells (Value.agg #[.int .i64 0, .int .i64 0, .int .i64 0, .int .i64 0, .int .i64 0]).cells (l.length + 1 - i) ++ Builtin.zeroCells (Value.agg #[.int .i64 0, .int .i64 0, .int .i64 0, .int .i64 0, .int .i64 0]).cells (G - (l.length + 1))).toList, fun ty => ?_, ?_, ?_, ?_⟩
    · have hh := Lib.run_append_grow_zeros w 53 3 ty 30 i0 _ .i64 .i64 Try.underlying53 Try.underlying3 hinf hz0 (some ⟨g, off, none⟩) i c _ hold (l.length + 1 - i) (by omega) (by omega) (by omega) (by omega) (by rw [hz2]; omega) (by rw [hz2, hik]; exact growslice_fits hc (by omega))
      rw [hik, ← hG] at hh
      rw [hkk]
      exact hh
    · have := heap_alloc_new w.drew (.cells (((flatA l).take (i * 5)).toArray ++ Builtin.zeroCells (Value.agg #[.int .i64 0, .int .i64 0, .int .i64 0, .int .i64 0, .int .i64 0]).cells (l.length + 1 - i) ++ Builtin.zeroCells (Value.agg #[.int .i64 0, .int .i64 0, .int .i64 0, .int .i64 0, .int .i64 0]).cells (G - (l.length + 1))) 30)
      refine this.trans ?_
      congr 2
      apply Array.ext'
      simp
    · exact (Rest.drew _ w).trans (o3 := fun _ => False) (Rest.alloc (fun _ => False) _ _) (fun _ _ => id) (fun _ _ => id)
    · simp [Builtin.zeroCells, Value.cells]
      omega
  obtain ⟨W2, hcpA, hb2, hr2⟩ := copy_into (P := Try.prog) W1 53 52 30 30 w.heap.size (i * 5) (l.length + 1 - i) ⟨vb, 0, none⟩ 1 5 1 _ (Hp.alarm a) Z0 Try.underlying53 hsz hb1 hX (by simp only [Nat.min_def]; split <;> omega) rfl (by rw [hzl]; show 5 ≤ _; omega) (fun j v hj => by
    rw [Addr.add_lit, Nat.zero_add, cell_of_row _ _ _ _ _ _ ((hr1.block _ hvl (fun x => x)).trans hb)]
    simpa using hj) (alarm_one a)
  obtain ⟨W3, hcpB, hb3, hr3⟩ := copy_into (P := Try.prog) W2.drew 53 53 30 30 w.heap.size ((i + 1) * 5) (l.length + 1 - (i + 1)) ⟨g, off + i * 5, none⟩ (l.length - i) 5 (l.length - i) _ ((flatA l).drop (i * 5)) _ Try.underlying53 hsz hb2 (by rw [List.length_append, hX]; show _ + 5 = _; omega) (by simp only [Nat.min_def]; split <;> omega) hD (by rw [hD, List.length_drop, hzl]; show _ ≤ _ - 5; omega) (fun j v hj => by
    rw [List.getElem?_drop] at hj
    rw [Addr.add_lit]
    have e1 : W2.drew.cell? ⟨g, off + i * 5 + j, none⟩ = w.cell? ⟨g, off + i * 5 + j, none⟩ := by
      have : W2.drew.heap[g]? = w.heap[g]? := (hr2.block g (Nat.lt_of_lt_of_le hgl hr1.size) (by omega)).trans (hr1.block g hgl (fun x => x))
      exact World.cell?_of_block this
    rw [e1, Nat.add_assoc]
    exact h.cell hj) (fun v hv => flatA_one l v (List.mem_of_mem_drop hv))
  have HF : Hid (RowK W3 B 30 5 w.heap.size 0 (l.length + 1) G (flatA (l.take i ++ a :: l.drop i)) ∧ Rest (fun _ => False) w W3 ∧ w.heap.size ≤ w.heap.size) := by
    refine ⟨?_, ?_, Nat.le_refl _⟩
    · rw [flatA_ins]
      rw [List.append_assoc ((flatA l).take (i * 5))] at hb3
      exact RowK.laid (U := []) hb3 rfl (by rw [List.length_append, List.length_append, hX, hD]; show _ + (5 + _) = _; omega) hB hGn hGm (by
        simp only [List.nil_append, List.length_append, List.length_drop, hX, hD, hzl]
        have : (Hp.alarm a).length = 5 := rfl
        omega)
    · exact (hr1.trans (o3 := fun _ => False) ((hr2.trans (o3 := fun k => k = w.heap.size) (Rest.drew _ W2) (fun _ _ => id) (fun _ _ => id)).trans (o3 := fun k => k = w.heap.size) hr3 (fun _ _ => id) (fun _ _ => id)) (fun _ _ => id) (fun i hi e => by omega))
  have hz2' : ¬ ((i : Int) = (l.length : Int)) := by omega
  have hz3 : (c : Int) < (l.length : Int) + 1 := by omega
  have hw1 : IntKind.i64.wrap ((i : Int) + 1) = (i : Int) + 1 := by rw [IntKind.wrap_i64]; omega
  have hw2 : IntKind.i64.wrap ((l.length : Int) + 1) = (l.length : Int) + 1 := by rw [IntKind.wrap_i64]; omega
  have hw3 : IntKind.i64.wrap ((l.length : Int) + 1 - (i : Int)) = (l.length : Int) + 1 - (i : Int) := by rw [IntKind.wrap_i64]; omega
  have hb1' : (0 : Int) ≤ (i : Int) + 1 := by omega
  have hb3' : (i : Int) ≤ (l.length : Int) := by omega
  have htn : ((i : Int) + 1).toNat = i + 1 := by omega
  have hGi : ¬ (G = i) := by omega
  have hGim : ¬ (G = i + 1) := by omega
  have hci : ¬ (c = i) := by omega
  have mixed : Try.prog.follows .mixedOrders = true := by kernel_rfl
  unfold maxLen at hGm
  clear hkk hik hold hb1 hr1 hzl hb2 hr2 hb3 hr3 hX hD hsz hz0 hz1 hz2 hinf h hG
  generalize l.length = n at *
  go_enter Try.func36, Try.ntmps36
  go_wp2_with (first
    | (at_builtin; refine Lib.wpList_append_run _ rfl _ _ _ _ rfl _ _ rfl rfl _ _ (hrz _) ?_)
    | (at_builtin; refine wpList_copy_runI _ rfl _ _ 53 52 rfl _ _ rfl rfl (hcpA _ _ _) ?_))
  go_region_law_o (refine step_copy_runI rfl _ _ 53 53 rfl (.slice (some ⟨w.heap.size, (i + 1) * 5, none⟩) (n + 1 - (i + 1)) (G - (i + 1))) (.slice (some ⟨g, off + i * 5, none⟩) (n - i) (c - i)) (by simp [Act.eval, Act.put]) (by simp [Act.eval, Act.put]) (hcpB _ _ _) ?_)
  go_wp2
  go_ret
  exact ⟨_, _, _, rfl, HF.out⟩

set_option maxHeartbeats 4000000 in
set_option maxRecDepth 100000 in
/-- Amid a row with room. -/
theorem insert_shift {B g off c i : Nat} {l : List En} (a : En) (w : World) (h : RowK w B 30 5 g off l.length c (flatA l)) (hi : i < l.length) (hc : l.length + 1 ≤ c) (hl : l.length ≤ 1000) {vb : Nat} (hb : w.heap[vb]? = some (.cells (Hp.alarm a).toArray 30 (0, 0))) (hv : vb ≠ g) :
    Calls Try.prog 36 #[.slice (some ⟨g, off, none⟩) l.length c, .int .i64 (i : Nat), .slice (some ⟨vb, 0, none⟩) 1 1] w fun e w' => e = .returned (.slice (some ⟨g, off, none⟩) (l.length + 1) c) ∧ RowK w' B 30 5 g off (l.length + 1) c (flatA (l.take i ++ a :: l.drop i)) ∧ Rest (fun k => k = g) w w' := by
  obtain ⟨i0, hinf, hz0, hz1, hz2⟩ := info_parts Try.infoA13
  have hsz : (Try.prog.info? 30).map (·.size) = some 5 := by rw [hinf]; simp [hz1]
  have hcm := h.most
  have hvl := lt_of_block hb
  have hX : ((flatA l).take (i * 5)).length = i * 5 := by rw [List.length_take, flatA_length]; omega
  have hD : ((flatA l).drop (i * 5)).length = (l.length - i) * 5 := by rw [List.length_drop, flatA_length]; omega
  obtain ⟨cur, hg, hcs, hcc⟩ := h.block
  have hov : ∀ lb cb, (callFunc 37 #[.slice (some ⟨vb, 0, none⟩) 1 1, .slice (some ⟨g, off + (i + 1) * 5, none⟩) lb cb]).run Try.prog w = .ok (.value (.bool false)) w := fun lb cb => by
    rw [run_callFunc_extern Try.func37 (by kernel_rfl) (by kernel_rfl) (by kernel_rfl) (e := Extern.SlicesOverlaps.overlaps #[52, 52] #[4]) (by kernel_rfl),
      Lib.run_overlaps_apart w 52 4 30 Try.underlying52 5 (fun w => by simp [sizeOf, typeInfo, hinf, hz1]) ⟨vb, 0, none⟩ ⟨g, off + (i + 1) * 5, none⟩ 1 1 lb cb hv _ _ _ _ (shape_of_row hb) (shape_of_row hg) (by omega) (frozen_of_row _ _ _ _ _ hb) (frozen_of_row _ _ _ _ _ hb)]
    rfl
  have hcl : cur.toList.length = cur.size := by simp
  have e0 : cur = (cur.toList.take (off + (i + 1) * 5) ++ cur.toList.drop (off + (i + 1) * 5)).toArray := by rw [List.take_append_drop]
  have hg0 := hg
  rw [e0] at hg0
  obtain ⟨W1, hcpA, hb1, hr1⟩ := copy_into (P := Try.prog) w.drew 53 53 30 30 g (off + (i + 1) * 5) (l.length + 1 - (i + 1)) ⟨g, off + i * 5, none⟩ (l.length + 1 - i) 5 (l.length - i) _ ((flatA l).drop (i * 5)) _ Try.underlying53 hsz hg0 (by rw [List.length_take]; omega) (by simp only [Nat.min_def]; split <;> omega) hD (by rw [hD, List.length_drop]; omega) (fun j v hj => by
    rw [List.getElem?_drop] at hj
    rw [Addr.add_lit, Nat.add_assoc]
    exact h.cell hj) (fun v hv => flatA_one l v (List.mem_of_mem_drop hv))
  have e1 : cur.toList.take (off + (i + 1) * 5) = cur.toList.take (off + i * 5) ++ (cur.toList.drop (off + i * 5)).take 5 := by
    rw [show off + (i + 1) * 5 = off + i * 5 + 5 by omega, List.take_add]
  rw [e1, List.append_assoc (cur.toList.take (off + i * 5)), List.append_assoc (cur.toList.take (off + i * 5))] at hb1
  obtain ⟨W2, hcpB, hb2, hr2⟩ := copy_into (P := Try.prog) W1 53 52 30 30 g (off + i * 5) (l.length + 1 - i) ⟨vb, 0, none⟩ 1 5 1 _ (Hp.alarm a) _ Try.underlying53 hsz hb1 (by rw [List.length_take]; omega) (by simp only [Nat.min_def]; split <;> omega) rfl (by simp only [List.length_append, List.length_take, List.length_drop]; show 5 ≤ _; omega) (fun j v hj => by
    rw [Addr.add_lit, Nat.zero_add, cell_of_row _ _ _ _ _ _ ((hr1.block _ hvl hv).trans hb)]
    simpa using hj) (alarm_one a)
  have HF : Hid (RowK W2 B 30 5 g off (l.length + 1) c (flatA (l.take i ++ a :: l.drop i)) ∧ Rest (fun k => k = g) w W2) := by
    refine ⟨?_, ((Rest.drew (fun k => k = g) w).trans (o3 := fun k => k = g) hr1 (fun _ _ => id) (fun _ _ => id)).trans (o3 := fun k => k = g) hr2 (fun _ _ => id) (fun _ _ => id)⟩
    have e2 : cur.toList.take (off + i * 5) = cur.toList.take off ++ (flatA l).take (i * 5) := by
      rw [List.take_add]
      congr 1
      apply List.ext_getElem?
      intro j
      rw [List.getElem?_take, List.getElem?_take]
      split
      · rename_i hj
        rw [List.getElem?_drop, Array.getElem?_toList]
        have hjl : j < (flatA l).length := by rw [flatA_length]; omega
        rw [hcc j _ (List.getElem?_eq_getElem hjl), List.getElem?_eq_getElem hjl]
      · rfl
    have hA : (Hp.alarm a).length = 5 := rfl
    have e3 : (List.take 5 (List.drop (off + i * 5) cur.toList) ++ List.drop (i * 5) (flatA l) ++ List.drop (List.drop (i * 5) (flatA l)).length (List.drop (off + (i + 1) * 5) cur.toList)).drop (Hp.alarm a).length = List.drop (i * 5) (flatA l) ++ List.drop (List.drop (i * 5) (flatA l)).length (List.drop (off + (i + 1) * 5) cur.toList) := by
      rw [hA, List.append_assoc, List.drop_append_of_le_length (by rw [List.length_take, List.length_drop]; omega), List.drop_of_length_le (by rw [List.length_take]; omega), List.nil_append]
    rw [e3, e2] at hb2
    rw [flatA_ins]
    refine RowK.laid (U := cur.toList.take off) (Z := List.drop (List.drop (i * 5) (flatA l)).length (List.drop (off + (i + 1) * 5) cur.toList)) ?_ (by rw [List.length_take]; omega) (by rw [List.length_append, List.length_append, hX, hD, hA]; omega) h.from_ hc hcm (by
      simp only [List.length_append, List.length_drop, List.length_take, hX, hD, hA, hcl]
      omega)
    rw [hb2]
    simp only [List.append_assoc]
  have hz2' : ¬ ((i : Int) = (l.length : Int)) := by omega
  have hz3 : ¬ (c : Int) < (l.length : Int) + 1 := by omega
  have hw1 : IntKind.i64.wrap ((i : Int) + 1) = (i : Int) + 1 := by rw [IntKind.wrap_i64]; omega
  have hw2 : IntKind.i64.wrap ((l.length : Int) + 1) = (l.length : Int) + 1 := by rw [IntKind.wrap_i64]; omega
  have hb1' : (0 : Int) ≤ (i : Int) + 1 := by omega
  have hb3' : (i : Int) ≤ (l.length : Int) + 1 := by omega
  have htn : ((i : Int) + 1).toNat = i + 1 := by omega
  have hin : i ≤ l.length := by omega
  have hb5' : (i : Int) ≤ (l.length : Int) := by omega
  have hb6' : (i : Int) + 1 ≤ (l.length : Int) + 1 := by omega
  have htn2 : ((l.length : Int) + 1).toNat = l.length + 1 := by omega
  have hGim : ¬ (c = i + 1) := by omega
  have hci : ¬ (c = i) := by omega
  have mixed : Try.prog.follows .mixedOrders = true := by kernel_rfl
  unfold maxLen at hcm
  clear e0 e1 hb1 hr1 hb2 hr2 hX hD hsz hz0 hz1 hz2 hinf h hg hg0 hcs hcc hcl
  generalize l.length = n at *
  go_enter Try.func36, Try.ntmps36
  go_wp2_with (simp only [hov])
  go_region_law_o (refine step_copy_runI rfl _ _ 53 53 rfl (.slice (some ⟨g, off + (i + 1) * 5, none⟩) (n + 1 - (i + 1)) (c - (i + 1))) (.slice (some ⟨g, off + i * 5, none⟩) (n + 1 - i) (c - i)) (by simp [Act.eval, Act.put]) (by simp [Act.eval, Act.put]) (hcpA _ _ _) ?_)
  go_wp2_with (at_builtin; refine wpList_copy_runI _ rfl _ _ 53 52 rfl _ _ rfl rfl (hcpB _ _ _) ?_)
  go_ret
  exact ⟨rfl, HF.out⟩

/-- slices.Insert of one alarm into a place. -/
theorem insert_any {B i : Nat} {v : Value} {l : List En} (a : En) (w : World) (h : Az w B v l) (hi : i ≤ l.length) (hl : l.length ≤ 1000) (hB : B ≤ w.heap.size) {vb : Nat} (hb : w.heap[vb]? = some (.cells (Hp.alarm a).toArray 30 (0, 0))) (hv : v.ownBlock ≠ some vb) :
    Calls Try.prog 36 #[v, .int .i64 (i : Nat), .slice (some ⟨vb, 0, none⟩) 1 1] w fun e w' => ∃ v', e = .returned v' ∧ Az w' B v' (l.take i ++ a :: l.drop i) ∧ Rest (fun k => v.ownBlock = some k) w w' ∧ (∀ k, v'.ownBlock = some k → v.ownBlock = some k ∨ w.heap.size ≤ k) := by
  have hlen : (l.take i ++ a :: l.drop i).length = l.length + 1 := by rw [List.length_append, List.length_take, List.length_cons, List.length_drop]; omega
  rcases h with ⟨rfl, rfl⟩ | ⟨g, off, c, rfl, h⟩
  · obtain rfl : i = 0 := by simpa using hi
    refine (insert_nil a w hB hb).mono ?_
    rintro e w' ⟨g, off, c, rfl, hrow, hr, hg⟩
    refine ⟨_, rfl, .inr ⟨g, off, c, by rw [hlen]; rfl, by rw [hlen]; exact hrow⟩, hr.mono (fun _ _ => False.elim), fun k e => .inr ?_⟩
    simp only [Value.ownBlock, Option.some.injEq] at e
    omega
  · have hv' : vb ≠ g := fun e => hv (by rw [e]; rfl)
    by_cases he : i = l.length
    · subst he
      refine (insert_end a w h hl hB hb).mono ?_
      rintro e w' ⟨g', off', c', rfl, hrow, hr, hg⟩
      refine ⟨_, rfl, .inr ⟨g', off', c', by rw [hlen], by rw [hlen, List.take_length, List.drop_length]; exact hrow⟩, hr.mono (fun k _ e => by rw [e]; rfl), fun k e => ?_⟩
      simp only [Value.ownBlock, Option.some.injEq] at e ⊢
      omega
    · by_cases hc : c < l.length + 1
      · refine (insert_grow a w h (by omega) hc hl hB hb).mono ?_
        rintro e w' ⟨g', off', c', rfl, hrow, hr, hg⟩
        refine ⟨_, rfl, .inr ⟨g', off', c', by rw [hlen], by rw [hlen]; exact hrow⟩, hr.mono (fun _ _ => False.elim), fun k e => .inr ?_⟩
        simp only [Value.ownBlock, Option.some.injEq] at e
        omega
      · refine (insert_shift a w h (by omega) (by omega) hl hb hv').mono ?_
        rintro e w' ⟨rfl, hrow, hr⟩
        refine ⟨_, rfl, .inr ⟨g, off, c, by rw [hlen], by rw [hlen]; exact hrow⟩, hr.mono (fun k _ e => by rw [e]; rfl), fun k e => .inl e⟩
end Go.Proofs.Ytcjidobdbdfjlaa
