/- slices.Insert of one alarm into a row of alarms. -/
import Derived.Test.YtcjidobdbdfjlaaWhMem
import Derived.Shelf.Spec.SlicesInsert
import Derived.Lib.AppendZerosOnto
import Derived.Laws.NewBlocks
import Derived.Laws.CopyRow
namespace Go.Proofs.Ytcjidobdbdfjlaa
open Go.RowKit Go.Sort

/-- What is appended may be of another name. -/
theorem run_append_types {P : Program} (w : World) (t tx e e' ty : TypeId) (ht : P.underlying t = some (.slice e)) (hx : P.underlying tx = some (.slice e')) (i : TypeInfo) (hi : P.info? e = some i) (p q : Option Addr) (n c m d : Nat) :
    (Builtin.append_ #[t, tx] ty #[.slice p n c, .slice q m d]).run P w = (Builtin.append_ #[t, t] ty #[.slice p n c, .slice q m d]).run P w := by
  simp [Builtin.append_, run_underlying ht, run_underlying hx, sizeOf, typeInfo, hi]

/-- copy, of items of k cells each. -/
theorem run_copy_rowK {P : Program} (w : World) (dT sT ty elem : TypeId) (g o dLen dCap : Nat) (a : Addr) (sLen sCap k m : Nat) (cur : Array Value) (t : TypeId) (cs : List Value)
    (hu : P.underlying dT = some (.slice elem)) (hs : (P.info? elem).map (·.size) = some k)
    (hg : w.heap[g]? = some (.cells cur t (0, 0))) (hm : Nat.min sLen dLen = m) (hn : cs.length = m * k)
    (hsrc : ∀ j v, cs[j]? = some v → w.cell? (a.add j) = some v) (hfit : o + cs.length ≤ cur.size) (h1 : ∀ v ∈ cs, v.oneCell' = true) :
    (Builtin.copy_ #[dT, sT] ty #[.slice (some ⟨g, o, none⟩) dLen dCap, .slice (some a) sLen sCap]).run P w =
      .ok (goInt m) (w.setRow g (cur.toList.take o ++ cs ++ cur.toList.drop (o + cs.length)).toArray) := by
  have hl := run_loadCells_list (P := P) w a cs hsrc
  have hst := run_storeCells_at P g o t cs 0 cur w hg (by simpa using hfit) h1
  cases hq : P.info? elem with
  | none => simp [hq] at hs
  | some i =>
    have hi : i.size = k := by simpa [hq] using hs
    simp [Builtin.copy_, run_underlying hu, Builtin.lenOf, Builtin.firstCells, sizeOf, typeInfo, hq, hi, hm, ← hn, hl, hst]

theorem setRow_size (w : World) (g : Nat) (cs : Array Value) : (w.setRow g cs).heap.size = w.heap.size := by simp [World.setRow]
theorem Rest.setRow {own : Nat → Prop} (w : World) (g : Nat) (cs : Array Value) (h : own g) : Rest own w (w.setRow g cs) :=
  ⟨rfl, rfl, rfl, by rw [setRow_size]; exact Nat.le_refl _, fun k _ hn => setRow_other w g k cs (fun e => hn (e ▸ h))⟩
/-- Values in a block, behind others. -/
theorem RowK.laid {w : World} {B k g off n cap : Nat} {t : TypeId} {U xs Z : List Value} (hg : w.heap[g]? = some (.cells (U ++ xs ++ Z).toArray t (0, 0))) (hU : U.length = off) (hn : xs.length = n * k) (hB : B ≤ g) (hc : n ≤ cap) (hm : cap ≤ maxLen) (hs : off + cap * k ≤ (U ++ xs ++ Z).length) : RowK w B t k g off n cap xs :=
  ⟨hn, hB, hc, hm, _, hg, by simpa using hs, fun j u hj => by
    have := (List.getElem?_eq_some_iff.1 hj).1
    rw [List.getElem?_toArray, List.append_assoc, List.getElem?_append_right (by omega), List.getElem?_append_left (by omega), show off + j - U.length = j by omega]
    exact hj⟩
theorem Try.infoA13 : (Try.prog.info? 30).map (fun i => (i.zero, i.size, i.bytes)) = some (some (.agg #[.int .i64 0, .int .i64 0, .int .i64 0, .int .i64 0, .int .i64 0]), 5, 40) := by kernel_rfl
theorem alarm_one (a : En) : ∀ u ∈ Hp.alarm a, u.oneCell' = true := by
  intro u hu
  simp only [Hp.alarm, List.mem_cons, List.not_mem_nil, or_false] at hu
  rcases hu with rfl | rfl | rfl | rfl | rfl <;> rfl
theorem flatA_ins (a : En) (l : List En) (i : Nat) : flatA (l.take i ++ a :: l.drop i) = (flatA l).take (i * 5) ++ (Hp.alarm a ++ (flatA l).drop (i * 5)) := by
  rw [flatA_append, flatA_take]
  show _ ++ flatA ([a] ++ l.drop i) = _
  rw [flatA_append, flatA_drop]
  rfl

set_option maxHeartbeats 4000000 in
set_option maxRecDepth 100000 in
/-- Onto nil. -/
theorem insert_nil {B : Nat} (a : En) (w : World) (hB : B ≤ w.heap.size) {vb : Nat} (hb : w.heap[vb]? = some (.cells (Hp.alarm a).toArray 30 (0, 0))) :
    Calls Try.prog 36 #[.slice none 0 0, .int .i64 0, .slice (some ⟨vb, 0, none⟩) 1 1] w fun e w' => ∃ g off c, e = .returned (.slice (some ⟨g, off, none⟩) 1 c) ∧ RowK w' B 30 5 g off 1 c (flatA [a]) ∧ Rest (fun _ => False) w w' ∧ w.heap.size ≤ g := by
  obtain ⟨i0, hinf, hz0, hz1, hz2⟩ := info_parts Try.infoA13
  obtain ⟨g', off', cap', w', h1, h2, h3, h4⟩ := run_append_nilK (P := Try.prog) w 53 53 B 5 30 i0 _ 40 Try.underlying53 hinf hz0 hz1 hz2 rfl (by decide) ⟨vb, 0, none⟩ 1 1 (Hp.alarm a) rfl (by decide) (fun j u hu => by
    rw [Addr.add_lit, Nat.zero_add, cell_of_row _ _ _ _ _ _ hb]
    simpa using hu) (alarm_one a) (by unfold maxLen; omega) (by omega) hB
  have hrun : ∀ ty, (Builtin.append_ #[53, 52] ty #[.slice none 0 0, .slice (some ⟨vb, 0, none⟩) 1 1]).run Try.prog w = .ok (.slice (some ⟨g', off', none⟩) 1 cap') w' := fun ty => by
    rw [run_append_types w _ _ _ _ _ Try.underlying53 Try.underlying52 i0 hinf]
    exact h1
  have HF := Lib.hid (show RowK w' B 30 5 g' off' 1 cap' (flatA [a]) ∧ Rest (fun _ => False) w w' ∧ w.heap.size ≤ g' from ⟨by rw [show flatA [a] = Hp.alarm a from rfl]; exact h2, Rest.grown h3 (fun k e => by cases e), h4⟩)
  clear h1 h2 h3 h4 hz0 hz1 hz2 hinf
  go_enter Try.func36, Try.ntmps36
  go_wp2_with (at_builtin; refine Lib.wpList_append_run _ rfl _ _ _ _ rfl _ _ rfl rfl _ _ (hrun _) ?_)
  go_ret
  exact ⟨g', off', cap', rfl, HF.out⟩

set_option maxHeartbeats 4000000 in
set_option maxRecDepth 100000 in
/-- At the end. -/
theorem insert_end {B g off c : Nat} {l : List En} (a : En) (w : World) (h : RowK w B 30 5 g off l.length c (flatA l)) (hl : l.length ≤ 1000) (hB : B ≤ w.heap.size) {vb : Nat} (hb : w.heap[vb]? = some (.cells (Hp.alarm a).toArray 30 (0, 0))) :
    Calls Try.prog 36 #[.slice (some ⟨g, off, none⟩) l.length c, .int .i64 (l.length : Nat), .slice (some ⟨vb, 0, none⟩) 1 1] w fun e w' => ∃ g' off' c', e = .returned (.slice (some ⟨g', off', none⟩) (l.length + 1) c') ∧ RowK w' B 30 5 g' off' (l.length + 1) c' (flatA (l ++ [a])) ∧ Rest (fun k => k = g) w w' ∧ (g' = g ∨ w.heap.size ≤ g') := by
  obtain ⟨i0, hinf, hz0, hz1, hz2⟩ := info_parts Try.infoA13
  obtain ⟨g', off', cap', w', h1, h2, h3, h4⟩ := run_append_rowK (P := Try.prog) w 53 53 B 5 30 i0 _ 40 Try.underlying53 hinf hz0 hz1 hz2 rfl (by decide) g off l.length c (flatA l) h ⟨vb, 0, none⟩ 1 1 (Hp.alarm a) rfl (fun j u hu => by
    rw [Addr.add_lit, Nat.zero_add, cell_of_row _ _ _ _ _ _ hb]
    simpa using hu) (alarm_one a) (by unfold maxLen; omega) (by omega) hB
  have hrun : ∀ ty, (Builtin.append_ #[53, 52] ty #[.slice (some ⟨g, off, none⟩) l.length c, .slice (some ⟨vb, 0, none⟩) 1 1]).run Try.prog w = .ok (.slice (some ⟨g', off', none⟩) (l.length + 1) cap') w' := fun ty => by
    rw [run_append_types w _ _ _ _ _ Try.underlying53 Try.underlying52 i0 hinf]
    exact h1
  have HF := Lib.hid (show RowK w' B 30 5 g' off' (l.length + 1) cap' (flatA (l ++ [a])) ∧ Rest (fun k => k = g) w w' ∧ (g' = g ∨ w.heap.size ≤ g') from ⟨by rw [flatA_append]; exact h2, Rest.grown h3 (fun k e => by cases e; rfl), h4⟩)
  have hcr := h.room
  have hcm := h.most
  have mixed : Try.prog.follows .mixedOrders = true := by kernel_rfl
  clear h1 h2 h3 h4 hz0 hz1 hz2 hinf h
  unfold maxLen at hcm
  generalize l.length = n at *
  go_enter Try.func36, Try.ntmps36
  go_wp2_with (at_builtin; refine Lib.wpList_append_run _ rfl _ _ _ _ rfl _ _ rfl rfl _ _ (hrun _) ?_)
  all_goals (go_ret; exact ⟨g', off', cap', rfl, HF.out⟩)
end Go.Proofs.Ytcjidobdbdfjlaa
