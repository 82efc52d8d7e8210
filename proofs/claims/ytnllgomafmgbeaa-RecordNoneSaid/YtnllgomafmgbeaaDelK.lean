/- What slices.Delete does to a row of items of k cells each, whatever the items are, wherever they go: the ones behind move up, the last places are cleared. -/
import Derived.Test.YtnllgomafmgbeaaCopyK
import Derived.Sort.Grow
import Derived.Laws.Slices
import Derived.ArgAppend
import Derived.Test.YtnllgomafmgbeaaEnRow
namespace Go.Proofs.Ytnllgomafmgbeaa
open Go.RowKit Go.Sort

/-- Slices of type ts hold items of k cells of type t. -/
structure ItemK (P : Program) (ts t : TypeId) (k : Nat) : Prop where
  under : P.underlying ts = some (.slice t)
  elem : P.elem ts = t
  info : ∃ (i : TypeInfo) (z : Value), P.info? t = some i ∧ i.zero = some z ∧ i.size = k ∧ z.cells.size = k ∧ ∀ v ∈ z.cells, v.oneCell' = true
theorem ItemK.of {P : Program} {ts t : TypeId} {k : Nat} (h : P.underlying ts = some (.slice t)) (he : P.elem ts = t) (hi : (P.info? t).map (fun i => (i.zero.map (fun z => (z.cells.size, z.cells.toList.all (·.oneCell'))), i.size)) = some (some (k, true), k)) : ItemK P ts t k := by
  refine ⟨h, he, ?_⟩
  cases hq : P.info? t with
  | none => simp [hq] at hi
  | some i =>
    simp only [hq, Option.map_some, Option.some.injEq, Prod.mk.injEq] at hi
    obtain ⟨h1, h2⟩ := hi
    cases hz : i.zero with
    | none => simp [hz] at h1
    | some z =>
      simp only [hz, Option.map_some, Option.some.injEq, Prod.mk.injEq] at h1
      exact ⟨i, z, rfl, hz, h2, h1.1, fun v hv => List.all_eq_true.1 h1.2 v (by simpa using hv)⟩
namespace ItemK
variable {P : Program} {ts t : TypeId} {k : Nat} (e : ItemK P ts t k)
include e
theorem under_ : P.underlying ts = some (.slice (P.elem ts)) := by rw [e.elem]; exact e.under
theorem size (w : World) : (sizeOf t).run P w = .ok k w := by
  obtain ⟨i, z, hi, hz, hs, -⟩ := e.info
  simp [sizeOf, typeInfo, hi, hs]
/-- s[i:j:n], for its bounds alone. -/
theorem s3 (g off n c i j : Nat) (h0 : i ≤ j) (h1 : j ≤ n) (h2 : n ≤ c) : ∃ v : Value, ∀ w, Sem.run P (Instr.sliceAt ts (.slice (some ⟨g, off, none⟩) n c) (some (.int .i64 (i : Int))) (some (.int .i64 (j : Int))) (some (.int .i64 (n : Int)))) w = .ok v w := by
  refine ⟨sliced (some ⟨g, off, none⟩) i j n k, fun w => ?_⟩
  rw [run_sliceAt_slice w _ _ _ _ _ e.under_, run_slice_lhm w _ _ _ _ e.under_ .i64 .i64 .i64 (i : Int) (j : Int) (n : Int) (by omega) (by omega) (by omega) (by omega), e.elem, e.size]
  rfl
/-- s[j:]. -/
theorem tail (g off n c j : Nat) (h1 : j ≤ n) (h2 : n ≤ c) : ∃ (ad : Addr) (cp : Nat), (∀ w, Sem.run P (Instr.sliceAt ts (.slice (some ⟨g, off, none⟩) n c) (some (.int .i64 (j : Int))) none none) w = .ok (.slice (some ad) (n - j) cp) w) ∧ (n = j ∨ ad = ⟨g, off + j * k, none⟩) := by
  have hrun : ∀ w, Sem.run P (Instr.sliceAt ts (.slice (some ⟨g, off, none⟩) n c) (some (.int .i64 (j : Int))) none none) w = .ok (sliced (some ⟨g, off, none⟩) j n c k) w := fun w => by
    rw [run_sliceAt_slice w _ _ _ _ _ e.under_, run_slice_l w _ _ _ _ e.under_ .i64 (j : Int) (by omega) (by omega), e.elem, e.size]
    rfl
  by_cases hc : c = j
  · exact ⟨⟨g, off, none⟩, c - j, fun w => by rw [hrun w]; unfold sliced; rw [if_pos hc], .inl (by omega)⟩
  · exact ⟨⟨g, off + j * k, none⟩, c - j, fun w => by rw [hrun w]; unfold sliced; rw [if_neg hc]; simp only [Option.map_some, Addr.add_lit], .inr rfl⟩
/-- s[m:n], behind its end. -/
theorem last (g off m n c : Nat) (h1 : m < n) (h2 : n ≤ c) (w : World) : Sem.run P (Instr.sliceAt ts (.slice (some ⟨g, off, none⟩) m c) (some (.int .i64 (m : Int))) (some (.int .i64 (n : Int))) none) w = .ok (.slice (some ⟨g, off + m * k, none⟩) (n - m) (c - m)) w := by
  rw [run_sliceAt_slice w _ _ _ _ _ e.under_, run_slice_lh w _ _ _ _ e.under_ .i64 .i64 (m : Int) (n : Int) (by omega) (by omega) (by omega), e.elem, e.size]
  simp only [Result.andThen, sliced, Int.toNat_natCast]
  rw [if_neg (by omega)]
  simp only [Option.map_some, Addr.add_lit]
/-- append(s[:i], s[j:]..): what stands behind moves up. -/
theorem moved {w : World} {B g off c n i j : Nat} {xs : List Value} (h : RowK w B t k g off n c xs) (hij : i ≤ j) (hj : j ≤ n) (h1 : ∀ u ∈ xs, u.oneCell' = true) {ad : Addr} (cp : Nat) (had : n = j ∨ ad = ⟨g, off + j * k, none⟩) (ty : TypeId) :
    (Builtin.append_ #[ts, ts] ty #[.slice (some ⟨g, off, none⟩) i c, .slice (some ad) (n - j) cp]).run P w = .ok (.slice (some ⟨g, off, none⟩) (i + (n - j)) c) (w.setCells g (off + i * k) (xs.drop (j * k))) := by
  obtain ⟨inf, z, hi, hz, hs, -⟩ := e.info
  obtain ⟨cur, hg, hsz, hc⟩ := h.block
  have hr := h.room
  have hl := h.len
  have hfit : i * k + (n - j) * k ≤ c * k := by rw [← Nat.add_mul]; exact Nat.mul_le_mul_right k (by omega)
  have hdl : (xs.drop (j * k)).length = (n - j) * k := by rw [List.length_drop, hl, Nat.sub_mul]
  have h0 := run_append_room_cells (P := P) w ts ty t inf e.under hi g off i c ad (n - j) cp (xs.drop (j * k)) (by rw [hdl, hs]) (fun m u hu => by
    have hm := (List.getElem?_eq_some_iff.1 hu).1
    rw [List.getElem?_drop] at hu
    rcases had with e2 | rfl
    · rw [hdl, e2, Nat.sub_self, Nat.zero_mul] at hm; exact absurd hm (Nat.not_lt_zero _)
    · rw [Addr.add_lit]
      have := h.cell hu
      rw [← Nat.add_assoc] at this
      exact this) (fun u hu => h1 u (List.mem_of_mem_drop hu)) (by omega) (fun m hm => by
      rw [hdl] at hm
      rw [hs, cell_of_row _ _ _ _ _ _ hg, Array.getElem?_eq_getElem (by omega)]; rfl) (fun m hm => frozen_of_row _ _ _ _ _ hg)
  rw [hs] at h0
  exact h0
omit e in
theorem shift {w : World} {B g off c n i j : Nat} {xs : List Value} (h : RowK w B t k g off n c xs) (hij : i ≤ j) (hj : j ≤ n) : RowK (w.setCells g (off + i * k) (xs.drop (j * k))) B t k g off (i + (n - j)) c (xs.take (i * k) ++ xs.drop (j * k)) := by
  obtain ⟨cur, hg, hs, hc⟩ := h.block
  have hr := h.room
  have hl := h.len
  have hfit : i * k + (n - j) * k ≤ c * k := by rw [← Nat.add_mul]; exact Nat.mul_le_mul_right k (by omega)
  have hik : i * k ≤ n * k := Nat.mul_le_mul_right k (by omega)
  have hdl : (xs.drop (j * k)).length = (n - j) * k := by rw [List.length_drop, hl, Nat.sub_mul]
  have htl : (xs.take (i * k)).length = i * k := by rw [List.length_take, hl]; omega
  obtain ⟨c1, k1, k2, k3⟩ := setCells_all g (t := t) (xs.drop (j * k)) (off + i * k) w cur hg (by rw [hdl]; omega)
  refine ⟨by rw [List.length_append, hdl, htl, Nat.add_mul], h.from_, by omega, h.most, c1, k1, by omega, fun m u hm => ?_⟩
  have hml := (List.getElem?_eq_some_iff.1 hm).1
  rw [List.length_append, hdl, htl] at hml
  rw [k3]
  by_cases e1 : i * k ≤ m
  · rw [if_pos ⟨by omega, by rw [hdl]; omega⟩]
    rw [List.getElem?_append_right (by omega), htl] at hm
    rw [show off + m - (off + i * k) = m - i * k by omega]
    exact hm
  · rw [if_neg (by omega)]
    rw [List.getElem?_append_left (by omega), List.getElem?_take_of_lt (by omega)] at hm
    exact hc m u hm
omit e in
theorem zeros (z : Value) (hz : z.cells.size = k) (h1 : ∀ v ∈ z.cells, v.oneCell' = true) : ∀ n, (Builtin.zeroCells z.cells n).toList.length = n * k ∧ ∀ v ∈ (Builtin.zeroCells z.cells n).toList, v.oneCell' = true := by
  intro n
  refine ⟨by simp [Builtin.zeroCells, hz], fun v hv => ?_⟩
  simp only [Builtin.zeroCells, Array.toList_map, List.mem_map] at hv
  obtain ⟨i, hi, rfl⟩ := hv
  have hpos : 0 < z.cells.size := by
    rcases Nat.eq_zero_or_pos z.cells.size with h0 | h0
    · simp [h0] at hi
    · exact h0
  have hlt : i % z.cells.size < z.cells.size := Nat.mod_lt _ hpos
  rw [getElem!_pos z.cells _ hlt]
  exact h1 _ (Array.getElem_mem hlt)
/-- clear(s[m:n]): the places behind its end. -/
theorem clear {w : World} {B g off c m n : Nat} {xs : List Value} (h : RowK w B t k g off m c xs) (hm : m < n) (hn : n ≤ c) : ∃ w', (∀ ty, (Builtin.clear_ #[ts] ty #[.slice (some ⟨g, off + m * k, none⟩) (n - m) (c - m)]).run P w = .ok (.tuple #[]) w') ∧ RowK w' B t k g off m c xs ∧ Rest (fun k => k = g) w w' := by
  obtain ⟨cur, hg, hs, hcur⟩ := h.block
  obtain ⟨i, z, hi, hz, hsz, hzs, hz1⟩ := e.info
  obtain ⟨hlen, hone⟩ := zeros z hzs hz1 (n - m)
  have hfit : m * k + (n - m) * k ≤ c * k := by rw [← Nat.add_mul]; exact Nat.mul_le_mul_right k (by omega)
  have hl := h.len
  have hfit2 : off + m * k + ((Builtin.zeroCells z.cells (n - m)).toList).length ≤ cur.size := by rw [hlen]; omega
  refine ⟨_, fun ty => run_clear_rowK (P := P) w ts ty t i z g (off + m * k) (n - m) (c - m) cur t _ e.under hi hz rfl (fun e0 => absurd e0 (by omega)) hg hfit2 hone, ?_, Rest.setRow _ _ _ rfl⟩
  refine ⟨h.len, h.from_, h.room, h.most, _, setRow_heap w g cur _ _ _ hg, ?_, fun j u hj => ?_⟩
  · simp only [List.size_toArray, List.length_append, List.length_take, List.length_drop, Array.length_toList, hlen]
    omega
  · have hjl := (List.getElem?_eq_some_iff.1 hj).1
    rw [hl] at hjl
    have hcl : cur.toList.length = cur.size := Array.length_toList
    rw [List.getElem?_toArray, List.append_assoc, List.getElem?_append_left (by rw [List.length_take]; omega), List.getElem?_take_of_lt (by omega), Array.getElem?_toList]
    exact hcur j u hj
end ItemK
end Go.Proofs.Ytnllgomafmgbeaa
