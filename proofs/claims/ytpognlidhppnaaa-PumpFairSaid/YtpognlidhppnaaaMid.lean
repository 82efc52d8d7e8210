/- Whole structs by value, at the steps of a drawn region: loaded out of, stored into the middle of a block; a slice of one of them. The cells stay a list that nobody unrolls. -/
import Derived.Test.YtpognlidhppnaaaEnRow
import Derived.Test.YtpognlidhppnaaaSkipZ
import Derived.Deep.MidRow
import Derived.Great.BuildSlice
import Derived.Great.Walk
import Derived.Deep.WholeRow
namespace Go.Proofs.Ytpognlidhppnaaa
open Go.RowKit

/-- A struct of k cells: what its type's row says. -/
structure Big (P : Program) (t : TypeId) (k : Nat) : Prop where
  under : ∃ d, P.underlying t = some d ∧ d.isRow = true
  info : ∃ (i : TypeInfo) (z : Value), P.info? t = some i ∧ i.zero = some z ∧ z.cells.size = k ∧ i.size = k ∧ i.bytes ≤ 10000
theorem Big.of {P : Program} {t : TypeId} {k b : Nat} {d : TypeDesc} (hu : P.underlying t = some d) (hd : d.isRow = true) (hi : (P.info? t).map (fun i => (i.zero.map (·.cells.size), i.size, i.bytes)) = some (some k, k, b)) (hb : b ≤ 10000) : Big P t k := by
  refine ⟨⟨d, hu, hd⟩, ?_⟩
  cases hq : P.info? t with
  | none => simp [hq] at hi
  | some i =>
    simp only [hq, Option.map_some, Option.some.injEq, Prod.mk.injEq, Option.map_eq_some_iff] at hi
    obtain ⟨⟨z, hz, hzs⟩, hs, hby⟩ := hi
    exact ⟨i, z, rfl, hz, hzs, hs, by omega⟩
theorem Big.size {P : Program} {t : TypeId} {k : Nat} (h : Big P t k) : (P.info? t).map (·.size) = some k := by
  obtain ⟨i, z, hi, -, -, hs, -⟩ := h.info
  rw [hi, Option.map_some, hs]

section
variable {P : Program} {w : World} {t : TypeId} {k : Nat}
/-- A load, executed. -/
theorem exec_load_mid (hB : Big P t k) {o : Oper} {a : Act} (x : Operand) (ho : o.op = .load t x) {b off : Nat} (hx : a.eval x = .pointer (some ⟨b, off, none⟩)) {cs : List Value} (hl : cs.length = k) (hc : w.rangeAt b off cs) :
    (execOp a.eval o).run P w = .ok (.value (.agg cs.toArray)) w := by
  obtain ⟨d, hu, hd⟩ := hB.under
  unfold execOp
  simp only [ho, hx, Instr.loadAt, Instr.sureAddr, Sem.run_bind, Sem.run_pure, Result.andThen_ok, run_loadVar_mid w b off t cs d hc hu hd (hl ▸ hB.size)]
/-- One is built, laid, and stored into what was just laid, executed: for wpList_runTo. -/
theorem exec_build_is {o : Oper} {a : Act} (ps : List (Nat × Operand)) (ho : o.op = .build t ps.toArray) {cs : Array Value} (h : P.built t (ps.map fun x => (x.1, a.eval x.2)) = some cs) : (execOp a.eval o).run P w = .ok (.value (.agg cs)) w := by
  unfold execOp
  have h' : P.built t (ps.toArray.map fun (i, x) => (i, a.eval x)).toList = some cs := by simpa using h
  simp only [ho, Sem.run_bind, run_build w t _ cs h', Result.andThen_ok]
  rfl
theorem exec_alloc_big (hB : Big P t k) : ∃ z : List Value, z.length = k ∧ ∀ (o : Oper) (a : Act), o.op = .alloc t → ∀ w, (execOp a.eval o).run P w = .ok (.value (.pointer (some ⟨w.heap.size, 0, none⟩))) (w.alloc (.cells z.toArray t)) := by
  obtain ⟨i, z, hi, hz, hzs, hs, -⟩ := hB.info
  refine ⟨z.cells.toList, by simpa using hzs, fun o a ho w => ?_⟩
  unfold execOp
  simp [ho, Instr.alloc, zeroValue, typeInfo, hi, hz, newVar, newRow]
theorem wpList_store_new (hB : Big P t k) {ops : Array Oper} {rest : List Oper} {o : Oper} {a : Act} {Q : Exit → Act → World → Prop} (hgd : o.guard = none) (x y : Operand) (ho : o.op = .store t x y) {z cs : List Value} (hx : a.eval x = .pointer (some ⟨w.heap.size, 0, none⟩)) (hy : a.eval y = .agg cs.toArray) (hz : z.length = k) (hl : cs.length = k) (h1 : ∀ u ∈ cs, u.oneCell' = true)
    (h : wpList P ops Q rest (a.put o.dst undef) (w.alloc (.cells cs.toArray t))) : wpList P ops Q (o :: rest) a (w.alloc (.cells z.toArray t)) := wpList_plain hgd fun K hK => by
  unfold Oper.wp execOp
  have := run_storeVar_new (P := P) w t z.toArray cs.toArray (by simpa [hl] using hB.size) (by simp [hz, hl]) (all_oneCell_toArray h1)
  simp only [ho, hx, hy, Instr.storeAt, Instr.sureAddr, Sem.run_bind, Sem.run_pure, Result.andThen_ok, this]
  exact hK _ _ h
/-- A store at a step. -/
theorem step_store_mid (hB : Big P t k) {ops : Array Oper} {o : Oper} {a : Act} {K : Act → World → Prop} {Q : Exit → Act → World → Prop} {E : Prop} (hgd : o.guard = none) (x y : Operand) (ho : o.op = .store t x y) {b off : Nat} {cs : List Value} (hx : a.eval x = .pointer (some ⟨b, off, none⟩)) (hy : a.eval y = .agg cs.toArray)
    (hl : cs.length = k) (h1 : ∀ u ∈ cs, u.oneCell' = true) (ht : w.there b off k) (h : K (a.put o.dst undef) (w.setCells b off cs)) : if Region.wanted o (yielded ops a.tmps) = true then Oper.wp P o a w K Q else E := by
  have hw : Region.wanted o (yielded ops a.tmps) = true := by simp [Region.wanted, hgd]
  rw [if_pos hw]
  exact wp_store_mid t x y ho b off cs.toArray hx hy (by simpa [hl] using ht) (by simpa [hl] using hB.size) (all_oneCell_toArray h1) (by simpa using h)
/-- A slice of one at a step. -/
theorem slice_one (hB : Big P t k) (hk : 0 < k) (hk2 : k ≤ 1000) {ts : TypeId} (hu : P.underlying ts = some (.slice t)) {cs : List Value} (hl : cs.length = k) : (Instr.buildSlice ts 1 #[(0, .agg cs.toArray)]).run P w = .ok (.slice (some ⟨w.heap.size, 0, none⟩) 1 1) (w.alloc (.cells cs.toArray t)) := by
  obtain ⟨i, z, hi, hz, hzs, hs, -⟩ := hB.info
  obtain ⟨r, h1, h2, h3⟩ := Great.fill_dense (s := i.size) (by omega) [.agg cs.toArray] 0 ((Array.range (1 * i.size)).map (z.cells[· % z.cells.size]!)) (by simp [Value.cells, hl, hs]) (by simp)
  have hr : r = cs.toArray := by
    apply Array.ext_getElem?
    intro j
    rw [h3 j]
    simp only [List.length_singleton, Nat.zero_add, Nat.one_mul, Nat.zero_mul, Nat.zero_le, true_and]
    by_cases hj : j < i.size
    · rw [if_pos hj, Nat.div_eq_of_lt hj, Nat.mod_eq_of_lt hj]
      rfl
    · rw [if_neg hj]
      have e1 : cs.toArray[j]? = none := Array.getElem?_eq_none (by simp; omega)
      rw [e1]
      exact Array.getElem?_eq_none (by simp; omega)
  subst hr
  exact run_buildSlice w ts t 1 _ cs.toArray i z hu hi hz (by omega) (by omega) h1
theorem exec_slice_one (hB : Big P t k) (hk : 0 < k) (hk2 : k ≤ 1000) {ts : TypeId} (hu : P.underlying ts = some (.slice t)) {o : Oper} {a : Act} (x : Operand) (ho : o.op = .buildSlice ts 1 #[(0, x)]) {cs : List Value} (hx : a.eval x = .agg cs.toArray) (hl : cs.length = k) :
    (execOp a.eval o).run P w = .ok (.value (.slice (some ⟨w.heap.size, 0, none⟩) 1 1)) (w.alloc (.cells cs.toArray t)) := by
  unfold execOp
  have := slice_one (w := w) hB hk hk2 hu hl
  simp only [ho, List.map_toArray, List.map_cons, List.map_nil, hx, Sem.run_bind, this, Result.andThen_ok]
  rfl
theorem step_slice_one (hB : Big P t k) (hk : 0 < k) (hk2 : k ≤ 1000) {ts : TypeId} (hu : P.underlying ts = some (.slice t)) {ops : Array Oper} {o : Oper} {a : Act} {K : Act → World → Prop} {Q : Exit → Act → World → Prop} {E : Prop} (hgd : o.guard = none) (x : Operand) (ho : o.op = .buildSlice ts 1 #[(0, x)]) {cs : List Value} (hx : a.eval x = .agg cs.toArray) (hl : cs.length = k)
    (h : K (a.put o.dst (.slice (some ⟨w.heap.size, 0, none⟩) 1 1)) (w.alloc (.cells cs.toArray t))) : if Region.wanted o (yielded ops a.tmps) = true then Oper.wp P o a w K Q else E := by
  have hw : Region.wanted o (yielded ops a.tmps) = true := by simp [Region.wanted, hgd]
  rw [if_pos hw]
  unfold Oper.wp execOp
  have := slice_one (w := w) hB hk hk2 hu hl
  simp only [ho, List.map_toArray, List.map_cons, List.map_nil, hx, Sem.run_bind, this, Result.andThen_ok]
  exact h
end
/-- A block's cells, from its beginning. -/
theorem range_of_box {w : World} {b : Nat} {t : TypeId} {cs : List Value} (h : w.heap[b]? = some (.cells cs.toArray t (0, 0))) : w.rangeAt b 0 cs := fun j v hv => by
  rw [Nat.zero_add, cell_of_row _ _ _ _ _ _ h]; simpa using hv
theorem there_of_box {w : World} {b k : Nat} {t : TypeId} {cs : List Value} (h : w.heap[b]? = some (.cells cs.toArray t (0, 0))) (hl : cs.length = k) : w.there b 0 k := fun j hj => by
  refine ⟨?_, frozen_of_row _ _ _ _ _ h⟩
  rw [Nat.zero_add, cell_of_row _ _ _ _ _ _ h]
  simp [hl, hj]
end Go.Proofs.Ytpognlidhppnaaa
