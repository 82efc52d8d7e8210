/- A window in memory: its block, and the row of its buckets' counts; what copy and clear leave of that. -/
import Derived.Test.YtieggfnkhpfccaaCopyK
import Derived.Test.YtieggfnkhpfccaaWinM
import Derived.Test.YtieggfnkhpfccaaHeldB
import Derived.WalkKit
namespace Go.Proofs.Ytieggfnkhpfccaa
open Go.RowKit

namespace Wn
/-- The cells of n buckets: how much went well in each, and how much ill. -/
def mix (X Y : Nat → Int) (k : Nat) : Int := if k % 2 = 0 then X (k / 2) else Y (k / 2)
def flat (m : Nat) (F : Nat → Int) : List Value := (List.range m).map fun k => .int .i64 (F k)
def arr (n : Nat) (X Y : Nat → Int) : Array Value := (flat (n * 2) (mix X Y)).toArray
theorem flat_length (m : Nat) (F : Nat → Int) : (flat m F).length = m := by simp [flat]
theorem flat_at {m k : Nat} (F : Nat → Int) (h : k < m) : (flat m F)[k]? = some (.int .i64 (F k)) := by simp [flat, h]
theorem flat_out {m k : Nat} (F : Nat → Int) (h : m ≤ k) : (flat m F)[k]? = none := by simp [flat]; omega
theorem flat_congr {m : Nat} {F G : Nat → Int} (h : ∀ k, k < m → F k = G k) : flat m F = flat m G := by
  apply List.ext_getElem?
  intro k
  by_cases hk : k < m
  · rw [flat_at F hk, flat_at G hk, h k hk]
  · rw [flat_out F (by omega), flat_out G (by omega)]
theorem flat_one (m : Nat) (F : Nat → Int) : ∀ v ∈ flat m F, v.oneCell' = true := by
  intro v hv
  simp only [flat, List.mem_map] at hv
  obtain ⟨k, -, rfl⟩ := hv
  rfl
theorem arr_size (n : Nat) (X Y : Nat → Int) : (arr n X Y).size = n * 2 := by simp [arr, flat_length]
theorem arr_well {n i : Nat} (X Y : Nat → Int) (h : i < n) : (arr n X Y)[i * 2]? = some (.int .i64 (X i)) := by
  unfold arr
  rw [List.getElem?_toArray, flat_at _ (by omega)]
  simp only [mix]
  rw [if_pos (by omega), show i * 2 / 2 = i by omega]
theorem arr_ill {n i : Nat} (X Y : Nat → Int) (h : i < n) : (arr n X Y)[i * 2 + 1]? = some (.int .i64 (Y i)) := by
  unfold arr
  rw [List.getElem?_toArray, flat_at _ (by omega)]
  simp only [mix]
  rw [if_neg (by omega), show (i * 2 + 1) / 2 = i by omega]
theorem arr_congr {n : Nat} {X Y X' Y' : Nat → Int} (hX : ∀ i, i < n → X i = X' i) (hY : ∀ i, i < n → Y i = Y' i) : arr n X Y = arr n X' Y' := by
  unfold arr
  congr 1
  refine flat_congr fun k hk => ?_
  unfold mix
  split
  · exact hX _ (by omega)
  · exact hY _ (by omega)
/-- The first cells are laid over those behind o. -/
theorem flat_copied {m o k : Nat} (F : Nat → Int) (h : o + k = m) : (flat m F).take o ++ flat k F ++ (flat m F).drop (o + k) = flat m (fun j => if j < o then F j else F (j - o)) := by
  apply List.ext_getElem?
  intro j
  rw [List.drop_of_length_le (by rw [flat_length]; omega), List.append_nil]
  by_cases hj : j < m
  · rw [flat_at _ hj]
    by_cases ho : j < o
    · rw [List.getElem?_append_left (by rw [List.length_take, flat_length]; omega), List.getElem?_take, if_pos ho, flat_at F hj, if_pos ho]
    · rw [List.getElem?_append_right (by rw [List.length_take, flat_length]; omega), List.length_take, flat_length, show min o m = o by omega, flat_at F (by omega), if_neg ho]
  · rw [flat_out _ (by omega), List.getElem?_eq_none (by rw [List.length_append, List.length_take, flat_length, flat_length]; omega)]
/-- The first cells are 0. -/
theorem flat_cleared {m k : Nat} (F : Nat → Int) (h : k ≤ m) : (flat m F).take 0 ++ flat k (fun _ => 0) ++ (flat m F).drop (0 + k) = flat m (fun j => if j < k then 0 else F j) := by
  apply List.ext_getElem?
  intro j
  rw [List.take_zero, List.nil_append, Nat.zero_add]
  by_cases hj : j < m
  · rw [flat_at _ hj]
    by_cases hk : j < k
    · rw [List.getElem?_append_left (by rw [flat_length]; omega), flat_at _ hk, if_pos hk]
    · rw [List.getElem?_append_right (by rw [flat_length]; omega), flat_length, List.getElem?_drop, show k + (j - k) = j by omega, flat_at F hj, if_neg hk]
  · rw [flat_out _ (by omega), List.getElem?_eq_none (by rw [List.length_append, List.length_drop, flat_length, flat_length]; omega)]
theorem mix_shift {g : Nat} (X Y : Nat → Int) (k : Nat) : (if k < g * 2 then 0 else if k < g * 2 then mix X Y k else mix X Y (k - g * 2)) = mix (shift g X) (shift g Y) k := by
  unfold mix shift
  by_cases h : k < g * 2
  · rw [if_pos h]; split <;> rw [if_pos (by omega)]
  · rw [if_neg h, if_neg h]
    have e1 : (k - g * 2) % 2 = k % 2 := by omega
    have e2 : (k - g * 2) / 2 = k / 2 - g := by omega
    rw [e1, e2]
    split <;> rw [if_neg (by omega)]
theorem arr_toList (n : Nat) (X Y : Nat → Int) : (arr n X Y).toList = flat (n * 2) (mix X Y) := rfl
theorem zero_cells (n : Nat) : (Builtin.zeroCells (Value.agg #[.int .i64 0, .int .i64 0]).cells n).toList = flat (n * 2) (fun _ => 0) := by
  apply List.ext_getElem?
  intro k
  have : (Builtin.zeroCells (Value.agg #[.int .i64 0, .int .i64 0]).cells n).toList = (List.range (n * 2)).map fun i => (#[Value.int .i64 0, .int .i64 0])[i % 2]! := by
    simp [Builtin.zeroCells, Value.cells, Array.toList_map]
  rw [this]
  by_cases hk : k < n * 2
  · rw [flat_at _ hk]
    simp only [List.getElem?_map, List.getElem?_range hk, Option.map_some]
    rcases Nat.mod_two_eq_zero_or_one k with e | e <;> rw [e] <;> rfl
  · rw [flat_out _ (by omega)]
    simp; omega
theorem arr_zero (n : Nat) : madeCells #[Value.int .i64 0, .int .i64 0] (n * 2) = arr n (fun _ => 0) (fun _ => 0) := by
  apply Array.ext'
  rw [arr_toList, flat_congr (G := fun _ => 0) (fun k _ => by simp [mix]), ← zero_cells]
  simp [madeCells, Builtin.zeroCells, Value.cells]
theorem arr_bump {n : Nat} (X Y : Nat → Int) (_ : 0 < n) : (arr n X Y).setIfInBounds 0 (.int .i64 (X 0 + 1)) = arr n (bump X) Y := by
  apply Array.ext_getElem?
  intro k
  have hh : ∀ Z W : Nat → Int, (arr n Z W)[k]? = (flat (n * 2) (mix Z W))[k]? := fun Z W => by simp [arr]
  rw [Array.getElem?_setIfInBounds, arr_size, hh, hh]
  by_cases hk : k < n * 2
  · rw [flat_at _ hk, flat_at _ hk]
    by_cases h0 : 0 = k
    · subst h0; simp [mix, bump]; omega
    · rw [if_neg h0]
      unfold mix
      split
      · simp only [bump]; rw [if_neg (by omega)]
      · rfl
  · rw [flat_out _ (by omega), flat_out _ (by omega), if_neg (by omega)]
theorem arr_bump1 {n : Nat} (X Y : Nat → Int) (_ : 0 < n) : (arr n X Y).setIfInBounds 1 (.int .i64 (Y 0 + 1)) = arr n X (bump Y) := by
  apply Array.ext_getElem?
  intro k
  have hh : ∀ Z W : Nat → Int, (arr n Z W)[k]? = (flat (n * 2) (mix Z W))[k]? := fun Z W => by simp [arr]
  rw [Array.getElem?_setIfInBounds, arr_size, hh, hh]
  by_cases hk : k < n * 2
  · rw [flat_at _ hk, flat_at _ hk]
    by_cases h0 : 1 = k
    · subst h0; simp [mix, bump]; omega
    · rw [if_neg h0]
      unfold mix
      split
      · rfl
      · simp only [bump]; rw [if_neg (by omega)]
  · rw [flat_out _ (by omega), flat_out _ (by omega), if_neg (by omega)]
end Wn

theorem Try.infoC16 : (Try.prog.info? 33).map (fun i => (i.zero, i.size, i.bytes)) = some (some (.agg #[.int .i64 0, .int .i64 0]), 2, 16) := by kernel_rfl
theorem infoC_parts : ∃ i, Try.prog.info? 33 = some i ∧ i.zero = some (.agg #[.int .i64 0, .int .i64 0]) ∧ i.size = 2 ∧ i.bytes = 16 := by
  have h := Try.infoC16
  cases hq : Try.prog.info? 33 with
  | none => simp [hq] at h
  | some i => simp [hq] at h; exact ⟨i, rfl, h⟩

/-- A window: its width, its latest bucket, and n buckets' counts. -/
structure Win (w : World) (P R n : Nat) (wd last : Int) (X Y : Nat → Int) : Prop where
  win : w.heap[P]? = some (.cells #[.int .i64 wd, .int .i64 last, .slice (some ⟨R, 0, none⟩) n n] 45 (0, 0))
  row : w.heap[R]? = some (.cells (Wn.arr n X Y) 33 (0, 0))
  apart : P ≠ R
  some_ : 0 < n
  few : n ≤ 16
  wide : 1 ≤ wd
  from_ : 0 ≤ last
namespace Win
variable {w w' : World} {P R n : Nat} {wd last : Int} {X Y : Nat → Int}
theorem cells (h : Win w P R n wd last X Y) : w.cell? ⟨P, 0, none⟩ = some (.int .i64 wd) ∧ w.cell? ⟨P, 1, none⟩ = some (.int .i64 last) ∧ w.cell? ⟨P, 2, none⟩ = some (.slice (some ⟨R, 0, none⟩) n n) :=
  ⟨cell_of_row _ _ _ _ _ _ h.win, cell_of_row _ _ _ _ _ _ h.win, cell_of_row _ _ _ _ _ _ h.win⟩
theorem well (h : Win w P R n wd last X Y) {i : Nat} (hi : i < n) : w.cell? ⟨R, i * 2, none⟩ = some (.int .i64 (X i)) := (cell_of_row _ _ _ _ _ _ h.row).trans (Wn.arr_well X Y hi)
theorem ill (h : Win w P R n wd last X Y) {i : Nat} (hi : i < n) : w.cell? ⟨R, i * 2 + 1, none⟩ = some (.int .i64 (Y i)) := (cell_of_row _ _ _ _ _ _ h.row).trans (Wn.arr_ill X Y hi)
theorem kept (h : Win w P R n wd last X Y) (h1 : w'.heap[P]? = w.heap[P]?) (h2 : w'.heap[R]? = w.heap[R]?) : Win w' P R n wd last X Y := { h with win := h1.trans h.win, row := h2.trans h.row }
theorem past {own : Nat → Prop} (h : Win w P R n wd last X Y) (hr : Rest own w w') (h1 : ¬own P) (h2 : ¬own R) : Win w' P R n wd last X Y :=
  h.kept (hr.block _ (heap_lt h.win) h1) (hr.block _ (heap_lt h.row) h2)
theorem below (h : Win w P R n wd last X Y) (hb : Below w.heap.size w w') : Win w' P R n wd last X Y := h.kept (hb.block _ (heap_lt h.win)) (hb.block _ (heap_lt h.row))
theorem congr {X' Y' : Nat → Int} (h : Win w P R n wd last X Y) (hX : ∀ i, i < n → X i = X' i) (hY : ∀ i, i < n → Y i = Y' i) : Win w P R n wd last X' Y' := { h with row := by rw [← Wn.arr_congr hX hY]; exact h.row }
/-- Another latest bucket. -/
theorem turned (h : Win w P R n wd last X Y) {l' : Int} (hl : 0 ≤ l') : Win (w.setCell ⟨P, 1, none⟩ (.int .i64 l')) P R n wd l' X Y ∧ Rest (fun k => k = P ∨ k = R) w (w.setCell ⟨P, 1, none⟩ (.int .i64 l')) :=
  ⟨{ h with win := heap_setCell_same _ _ 1 _ _ _ h.win, row := (heap_setCell_other _ _ _ _ (fun e => h.apart e.symm)).trans h.row, from_ := hl }, Rest.setCell _ _ _ (.inl rfl)⟩
/-- One more went well, ill. -/
theorem more (h : Win w P R n wd last X Y) : Win (w.setCell ⟨R, 0, none⟩ (.int .i64 (X 0 + 1))) P R n wd last (Wn.bump X) Y ∧ Rest (fun k => k = P ∨ k = R) w (w.setCell ⟨R, 0, none⟩ (.int .i64 (X 0 + 1))) :=
  ⟨{ h with row := by rw [heap_setCell_same _ _ 0 _ _ _ h.row, Wn.arr_bump X Y h.some_], win := (heap_setCell_other _ _ _ _ h.apart).trans h.win }, Rest.setCell _ _ _ (.inr rfl)⟩
theorem more1 (h : Win w P R n wd last X Y) : Win (w.setCell ⟨R, 1, none⟩ (.int .i64 (Y 0 + 1))) P R n wd last X (Wn.bump Y) ∧ Rest (fun k => k = P ∨ k = R) w (w.setCell ⟨R, 1, none⟩ (.int .i64 (Y 0 + 1))) :=
  ⟨{ h with row := by rw [heap_setCell_same _ _ 1 _ _ _ h.row, Wn.arr_bump1 X Y h.some_], win := (heap_setCell_other _ _ _ _ h.apart).trans h.win }, Rest.setCell _ _ _ (.inr rfl)⟩
/-- The buckets move on. -/
theorem copied (h : Win w P R n wd last X Y) {g o : Nat} (hg : g ≤ n) (ho : g < n → o = g * 2) (ho2 : o ≤ n * 2) :
    ∃ w1, (∀ ty dc, (Builtin.copy_ #[43, 43] ty #[.slice (some ⟨R, o, none⟩) (n - g) dc, .slice (some ⟨R, 0, none⟩) n n]).run Try.prog w = .ok (.int .i64 ((n - g : Nat) : Int)) w1) ∧
      Rest (fun k => k = R) w w1 ∧ w1.heap[R]? = some (.cells (Wn.flat (n * 2) (fun j => if j < g * 2 then Wn.mix X Y j else Wn.mix X Y (j - g * 2))).toArray 33 (0, 0)) := by
  refine ⟨_, fun ty dc => run_copy_rowK (P := Try.prog) w 43 43 ty 33 R o (n - g) dc ⟨R, 0, none⟩ n n 2 (n - g) _ 33 (Wn.flat ((n - g) * 2) (Wn.mix X Y)) Try.underlying43 (by kernel_rfl) h.row (Nat.min_eq_right (Nat.sub_le _ _)) (Wn.flat_length _ _) (fun j v hv => ?_) ?_ (Wn.flat_one _ _), Rest.setRow _ _ _ rfl, ?_⟩
  · rw [Addr.add_lit, Nat.zero_add, cell_of_row _ _ _ _ _ _ h.row]
    have hj := (List.getElem?_eq_some_iff.1 hv).1
    rw [Wn.flat_length] at hj
    rw [Wn.flat_at _ hj] at hv
    rw [Wn.arr, List.getElem?_toArray, Wn.flat_at _ (by omega)]
    exact hv
  · rw [Wn.flat_length, Wn.arr_size]
    by_cases e : g < n
    · have := ho e; omega
    · omega
  · rw [setRow_heap w R _ _ _ _ h.row]
    congr 2
    rw [Wn.arr_toList, Wn.flat_length]
    by_cases e : g < n
    · rw [ho e, Wn.flat_copied _ (by omega)]
    · obtain rfl : g = n := by omega
      rw [Nat.sub_self, Nat.zero_mul, Nat.add_zero]
      have : Wn.flat 0 (Wn.mix X Y) = [] := rfl
      rw [this, List.append_nil, List.take_append_drop, Wn.flat_congr fun k hk => ?_]
      rw [if_pos hk]
/-- .. and the first ones of them are empty: another latest bucket. -/
theorem moved {w5 w6 : World} {g : Nat} {l' : Int} (h : Win w P R n wd last X Y) (hl : 0 ≤ l') (h5 : Rest (fun k => k = R) w w5) (h6 : Rest (fun k => k = R) w5 w6)
    (hr : w6.heap[R]? = some (.cells (Wn.flat (n * 2) (fun j => if j < g * 2 then 0 else if j < g * 2 then Wn.mix X Y j else Wn.mix X Y (j - g * 2))).toArray 33 (0, 0))) :
    Win (w6.setCell ⟨P, 1, none⟩ (.int .i64 l')) P R n wd l' (Wn.shift g X) (Wn.shift g Y) ∧ Rest (fun k => k = P ∨ k = R) w (w6.setCell ⟨P, 1, none⟩ (.int .i64 l')) := by
  have hR := h5.trans (o3 := fun k => k = R) h6 (fun _ _ => id) (fun _ _ => id)
  have hP := (hR.block P (heap_lt h.win) h.apart).trans h.win
  refine ⟨⟨heap_setCell_same _ _ 1 _ _ _ hP, ?_, h.apart, h.some_, h.few, h.wide, hl⟩, hR.trans (o3 := fun k => k = P ∨ k = R) (Rest.setCell (own := fun k => k = P) _ ⟨P, 1, none⟩ _ rfl) (fun _ _ => .inr) (fun _ _ => .inl)⟩
  rw [heap_setCell_other _ _ _ _ (fun e => h.apart e.symm), hr, Wn.flat_congr fun k _ => Wn.mix_shift X Y k]
  rfl
end Win
/-- The first buckets are emptied. -/
theorem win_cleared {w : World} {R n g : Nat} {F : Nat → Int} (h : w.heap[R]? = some (.cells (Wn.flat (n * 2) F).toArray 33 (0, 0))) (hg : g ≤ n) :
    ∃ w1, (∀ ty dc, (Builtin.clear_ #[43] ty #[.slice (some ⟨R, 0, none⟩) g dc]).run Try.prog w = .ok (.tuple #[]) w1) ∧
      Rest (fun k => k = R) w w1 ∧ w1.heap[R]? = some (.cells (Wn.flat (n * 2) (fun j => if j < g * 2 then 0 else F j)).toArray 33 (0, 0)) := by
  obtain ⟨i0, hinf, hz0, hz1, hz2⟩ := infoC_parts
  refine ⟨_, fun ty dc => run_clear_rowK (P := Try.prog) w 43 ty 33 i0 _ R 0 g dc _ 33 (Wn.flat (g * 2) (fun _ => 0)) Try.underlying43 hinf hz0 (Wn.zero_cells g) (fun e => by subst e; rfl) h ?_ (Wn.flat_one _ _), Rest.setRow _ _ _ rfl, ?_⟩
  · simp [Wn.flat_length]; omega
  · rw [setRow_heap w R _ _ _ _ h]
    congr 2
    rw [Wn.flat_length]
    exact congrArg List.toArray (Wn.flat_cleared F (Nat.mul_le_mul_right 2 hg))
end Go.Proofs.Ytieggfnkhpfccaa
