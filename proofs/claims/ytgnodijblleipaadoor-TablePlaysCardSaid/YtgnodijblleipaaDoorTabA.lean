/- What a client's slots are in memory: the table's struct, the numbers that can be taken, the marks of those that are retired; what the table's calls that only look come to. -/
import Derived.Test.YtgnodijblleipaaDoorFreB
import Derived.Test.YtgnodijblleipaaDoorSltB
namespace Go.Proofs.YtgnodijblleipaaDoor
open Go.RowKit

/-- What a table has: where its cells begin, how many slots, how many turns each; which can be taken, in order; which are retired. -/
structure Tb where
  base : Nat
  slots : Nat
  gens : Nat
  ln : List Nat
  rt : List Nat

/-- Where it lies: its struct, the marks of those that are retired, the numbers that can be taken. -/
structure TSpot where
  P : Nat
  R : Nat
  F : FSpot

def TSpot.has (s : TSpot) (k : Nat) : Prop := k = s.P ∨ k = s.R ∨ s.F.has k
def TSpot.line (s : TSpot) (L : Option Nat) : TSpot := ⟨s.P, s.R, ⟨s.F.P, s.F.M, L⟩⟩

/-- The world bears such, from block B on. -/
structure Tab (w : World) (B : Nat) (s : TSpot) (t : Tb) : Prop where
  hP : w.heap[s.P]? = some (.cells #[.int .i64 (t.base : Int), .int .i64 (t.slots : Int), .int .i64 (t.gens : Int), .pointer (some ⟨s.F.P, 0, none⟩), .slice (some ⟨s.R, 0, none⟩) t.slots t.slots] 51 (0, 0))
  hR : w.heap[s.R]? = some (.cells (markCells t.slots t.rt) 4 (0, 0))
  hF : Free w B s.F ⟨t.ln, t.slots⟩
  dPR : s.P ≠ s.R
  dPF : ¬ s.F.has s.P
  dRF : ¬ s.F.has s.R
  bP : B ≤ s.P
  bR : B ≤ s.R
  nd : t.rt.Nodup
  lt : ∀ i, i ∈ t.rt → i < t.slots
  ap : ∀ i, i ∈ t.rt → i ∉ t.ln
  ma : 1 ≤ t.slots ∧ t.slots ≤ 16 ∧ t.base + t.slots ≤ 16384 ∧ 1 ≤ t.gens ∧ t.gens ≤ 16777215

theorem Tab.from {w : World} {B : Nat} {s : TSpot} {t : Tb} (h : Tab w B s t) : ∀ k, s.has k → B ≤ k := by
  intro k hk
  rcases hk with rfl | rfl | e
  · exact h.bP
  · exact h.bR
  · exact h.hF.from k e
theorem Tab.old {w : World} {B : Nat} {s : TSpot} {t : Tb} (h : Tab w B s t) : ∀ k, s.has k → k < w.heap.size := by
  intro k hk
  rcases hk with rfl | rfl | e
  · exact lt_of_block h.hP
  · exact lt_of_block h.hR
  · exact h.hF.old k e
theorem Tab.size {w : World} {B : Nat} {s : TSpot} {t : Tb} (h : Tab w B s t) : B < w.heap.size := by
  have := h.from s.P (.inl rfl); have := h.old s.P (.inl rfl); omega
/-- What all else does to the world leaves it. -/
theorem Tab.kept {w w' : World} {B : Nat} {s : TSpot} {t : Tb} {own : Nat → Prop} (h : Tab w B s t) (hr : Rest own w w') (hd : ∀ k, s.has k → ¬ own k) : Tab w' B s t :=
  { h with
    hP := (hr.block _ (h.old _ (.inl rfl)) (hd _ (.inl rfl))).trans h.hP
    hR := (hr.block _ (h.old _ (.inr (.inl rfl))) (hd _ (.inr (.inl rfl)))).trans h.hR
    hF := h.hF.kept hr (fun k hk => hd k (.inr (.inr hk))) }
theorem Tab.on {w w' : World} {B : Nat} {s : TSpot} {t : Tb} (h : Tab w B s t) (hb : Below w.heap.size w w') : Tab w' B s t := h.kept (Rest.of_below (own := fun _ => False) hb) (fun _ _ => id)
theorem Tab.lower {w : World} {B B' : Nat} {s : TSpot} {t : Tb} (h : Tab w B s t) (hB : B' ≤ B) : Tab w B' s t :=
  { h with hF := h.hF.lower hB, bP := by have := h.bP; omega, bR := by have := h.bR; omega }

/-- Its cells. -/
theorem Tab.cells {w : World} {B : Nat} {s : TSpot} {t : Tb} (h : Tab w B s t) :
    w.cell? ⟨s.P, 0, none⟩ = some (.int .i64 (t.base : Int)) ∧ w.cell? ⟨s.P, 1, none⟩ = some (.int .i64 (t.slots : Int)) ∧ w.cell? ⟨s.P, 2, none⟩ = some (.int .i64 (t.gens : Int)) ∧
    w.cell? ⟨s.P, 3, none⟩ = some (.pointer (some ⟨s.F.P, 0, none⟩)) ∧ w.cell? ⟨s.P, 4, none⟩ = some (.slice (some ⟨s.R, 0, none⟩) t.slots t.slots) ∧
    ∀ i, i < t.slots → w.cell? ⟨s.R, i, none⟩ = some (.bool (t.rt.contains i)) := by
  refine ⟨?_, ?_, ?_, ?_, ?_, ?_⟩
  · rw [cell_of_row _ _ _ _ _ _ h.hP]; rfl
  · rw [cell_of_row _ _ _ _ _ _ h.hP]; rfl
  · rw [cell_of_row _ _ _ _ _ _ h.hP]; rfl
  · rw [cell_of_row _ _ _ _ _ _ h.hP]; rfl
  · rw [cell_of_row _ _ _ _ _ _ h.hP]; rfl
  · intro i hi; rw [cell_of_row _ _ _ _ _ _ h.hR]; exact markCells_at _ _ _ hi

/-- Behind a call: where the row of those that can be taken lies now; what else turned (nothing). -/
def TNow (w w' : World) (B : Nat) (s : TSpot) (t : Tb) : Prop := ∃ L, (L = s.F.L ∨ ∀ k, L = some k → w.heap.size ≤ k) ∧ Tab w' B (s.line L) t ∧ Rest s.has w w'

theorem TNow.same {w w' : World} {B : Nat} {s : TSpot} {t : Tb} (h : Tab w B s t) (hb : Below w.heap.size w w') : TNow w w' B s t := ⟨s.F.L, .inl rfl, h.on hb, Rest.of_below hb⟩
theorem TNow.below {w w' : World} {B : Nat} {s : TSpot} {t0 t : Tb} (h0 : Tab w B s t0) (h : TNow w w' B s t) : Below B w w' := by
  obtain ⟨L, _, _, hR⟩ := h
  exact hR.below (by have := h0.size; omega) h0.from
/-- Behind one that did nothing to it. -/
theorem TNow.ahead {w w1 w2 : World} {B : Nat} {s : TSpot} {t : Tb} (hb : Below w.heap.size w w1) (h : TNow w1 w2 B s t) : TNow w w2 B s t := by
  obtain ⟨L, hL, hA, hR⟩ := h
  refine ⟨L, ?_, hA, (Rest.of_below (own := fun _ => False) hb).trans hR (fun _ _ x => x.elim) (fun _ _ x => x)⟩
  rcases hL with e | e
  · exact .inl e
  · exact .inr (fun k hk => by have := e k hk; have := hb.size; omega)

/-- A slot was picked, and is not back. -/
def Tb.Out (t : Tb) (i : Nat) : Prop := i < t.slots ∧ i ∉ t.ln ∧ i ∉ t.rt

/-! Of none. -/

theorem tslots_nil (w : World) : Calls Tryd.prog 26 #[.pointer none] w fun e w' => e = .returned (.int .i64 0) ∧ w = w' := by
  go_enter Tryd.func26, Tryd.ntmps26
  go_wp2
  go_ret
  exact ⟨rfl, rfl⟩
theorem thas_nil (i : Int) (w : World) : Calls Tryd.prog 28 #[.pointer none, .int .i64 i] w fun e w' => e = .returned (.bool false) ∧ w = w' := by
  by_cases h : 0 ≤ i
  · go_enter Tryd.func28, Tryd.ntmps28
    go_wp2_with (go_at_call 26; refine (tslots_nil _).mono ?_; rintro e w1 ⟨rfl, rfl⟩)
    go_ret
    exact ⟨retb (by first | (simp; omega) | simp | omega), rfl⟩
  · go_enter Tryd.func28, Tryd.ntmps28
    go_wp2_with fail
    go_ret
    exact ⟨retb (by first | rfl | (simp; omega) | simp), rfl⟩
theorem tcell_nil (i : Int) (w : World) : Calls Tryd.prog 15 #[.pointer none, .int .i64 i] w fun e w' => e = .returned (.int .i64 (-1)) ∧ w = w' := by
  go_enter Tryd.func15, Tryd.ntmps15
  go_wp2_with (go_at_call 28; refine (thas_nil _ _).mono ?_; rintro e w1 ⟨rfl, rfl⟩)
  go_ret
  exact ⟨rfl, rfl⟩
theorem tmost_nil (w : World) : Calls Tryd.prog 18 #[.pointer none] w fun e w' => e = .returned (.int .i64 0) ∧ w = w' := by
  go_enter Tryd.func18, Tryd.ntmps18
  go_wp2
  go_ret
  exact ⟨rfl, rfl⟩
theorem tpick_nil (w : World) : Calls Tryd.prog 8 #[.pointer none] w fun e w' => e = .returned (.tuple #[.int .i64 0, .bool false]) ∧ w = w' := by
  go_enter Tryd.func8, Tryd.ntmps8
  go_wp2
  go_ret2
  exact ⟨rfl, rfl⟩
theorem tpicked_nil (i : Int) (w : World) : Calls Tryd.prog 20 #[.pointer none, .int .i64 i] w fun e w' => e = .returned (.bool false) ∧ w = w' := by
  go_enter Tryd.func20, Tryd.ntmps20
  go_wp2_with (go_at_call 28; refine (thas_nil _ _).mono ?_; rintro e w1 ⟨rfl, rfl⟩)
  go_ret
  exact ⟨rfl, rfl⟩
theorem tback_nil (i x : Int) (w : World) : Calls Tryd.prog 6 #[.pointer none, .int .i64 i, .int .u64 x] w fun e w' => e = .returned (.bool false) ∧ w = w' := by
  go_enter Tryd.func6, Tryd.ntmps6
  go_wp2_with (go_at_call 20; refine (tpicked_nil _ _).mono ?_; rintro e w1 ⟨rfl, rfl⟩)
  go_ret
  exact ⟨rfl, rfl⟩
theorem tfree_nil (w : World) : Calls Tryd.prog 9 #[.pointer none] w fun e w' => e = .returned (.int .i64 0) ∧ w = w' := by
  go_enter Tryd.func9, Tryd.ntmps9
  go_wp2
  go_ret
  exact ⟨rfl, rfl⟩
theorem tretired_nil (w : World) : Calls Tryd.prog 10 #[.pointer none] w fun e w' => e = .returned (.int .i64 0) ∧ w = w' := by
  go_enter Tryd.func10, Tryd.ntmps10
  go_wp2_with (go_at_call 26; refine (tslots_nil _).mono ?_; rintro e w1 ⟨rfl, rfl⟩)
  go_loopg [3, 7] 0 (fun g s3 s7 wr => g = 0 ∧ s3 = .int .i64 0 ∧ s7 = .int .i64 0 ∧ w = wr)
  case atStart => exact ⟨rfl, rfl, rfl, rfl⟩
  case round =>
    obtain ⟨rfl, rfl, rfl, rfl⟩ := hrel
    go_wp2_with fail
    go_ret
    exact ⟨rfl, rfl⟩
theorem tlive_nil (a : Option Addr) (w : World) : Calls Tryd.prog 17 #[.pointer none, .pointer a] w fun e w' => e = .returned (.int .i64 0) ∧ w = w' := by
  go_enter Tryd.func17, Tryd.ntmps17
  go_wp2_with (go_at_call 26; refine (tslots_nil _).mono ?_; rintro e w1 ⟨rfl, rfl⟩)
  go_loopg [5, 10] 0 (fun g s5 s10 wr => g = 0 ∧ s5 = .int .i64 0 ∧ s10 = .int .i64 0 ∧ w = wr)
  case atStart => exact ⟨rfl, rfl, rfl, rfl⟩
  case round =>
    obtain ⟨rfl, rfl, rfl, rfl⟩ := hrel
    go_wp2_with fail
    go_ret
    exact ⟨rfl, rfl⟩

/-! Of one. -/

theorem tslots_any {B : Nat} {s : TSpot} {t : Tb} (w : World) (h : Tab w B s t) : Calls Tryd.prog 26 #[.pointer (some ⟨s.P, 0, none⟩)] w fun e w' => e = .returned (.int .i64 (t.slots : Nat)) ∧ w = w' := by
  obtain ⟨-, c1, -⟩ := h.cells
  clear h
  go_enter Tryd.func26, Tryd.ntmps26
  go_wp2
  go_ret
  exact ⟨rfl, rfl⟩
theorem tmost_any {B : Nat} {s : TSpot} {t : Tb} (w : World) (h : Tab w B s t) : Calls Tryd.prog 18 #[.pointer (some ⟨s.P, 0, none⟩)] w fun e w' => e = .returned (.int .i64 (t.gens : Nat)) ∧ w = w' := by
  obtain ⟨-, -, c2, -⟩ := h.cells
  clear h
  go_enter Tryd.func18, Tryd.ntmps18
  go_wp2
  go_ret
  exact ⟨rfl, rfl⟩
theorem thas_any {B : Nat} {s : TSpot} {t : Tb} (i : Int) (w : World) (h : Tab w B s t) : Calls Tryd.prog 28 #[.pointer (some ⟨s.P, 0, none⟩), .int .i64 i] w fun e w' => e = .returned (.bool (decide (0 ≤ i ∧ i < t.slots))) ∧ w = w' := by
  have H := Lib.hid h
  clear h
  by_cases h0 : 0 ≤ i
  · go_enter Tryd.func28, Tryd.ntmps28
    go_wp2_with (go_at_call 26; refine (tslots_any _ H.out).mono ?_; rintro e w1 ⟨rfl, rfl⟩)
    go_ret
    exact ⟨retb (by simp [h0]), rfl⟩
  · go_enter Tryd.func28, Tryd.ntmps28
    go_wp2_with fail
    go_ret
    exact ⟨retb (by simp; omega), rfl⟩
theorem tcell_in {B : Nat} {s : TSpot} {t : Tb} (i : Nat) (w : World) (h : Tab w B s t) (hi : i < t.slots) : Calls Tryd.prog 15 #[.pointer (some ⟨s.P, 0, none⟩), .int .i64 (i : Int)] w fun e w' => e = .returned (.int .i64 ((t.base + i : Nat) : Int)) ∧ w = w' := by
  have H := Lib.hid h
  have hd : decide (0 ≤ (i : Int) ∧ (i : Int) < t.slots) = true := by simp; omega
  have HD := Lib.hid hd
  obtain ⟨c0, -⟩ := h.cells
  obtain ⟨-, m1, m2, -⟩ := h.ma
  clear h hd
  go_enter Tryd.func15, Tryd.ntmps15
  go_wp2_with (go_at_call 28; refine (thas_any _ _ H.out).mono ?_; rintro e w1 ⟨rfl, rfl⟩; rw [HD.out])
  go_ret
  exact ⟨reti (by omega), rfl⟩
theorem tcell_out {B : Nat} {s : TSpot} {t : Tb} (i : Int) (w : World) (h : Tab w B s t) (hi : ¬ (0 ≤ i ∧ i < t.slots)) : Calls Tryd.prog 15 #[.pointer (some ⟨s.P, 0, none⟩), .int .i64 i] w fun e w' => e = .returned (.int .i64 (-1)) ∧ w = w' := by
  have H := Lib.hid h
  have HD := Lib.hid (decide_eq_false hi)
  clear h hi
  go_enter Tryd.func15, Tryd.ntmps15
  go_wp2_with (go_at_call 28; refine (thas_any _ _ H.out).mono ?_; rintro e w1 ⟨rfl, rfl⟩; rw [HD.out])
  go_ret
  exact ⟨rfl, rfl⟩
theorem tfree_any {B : Nat} {s : TSpot} {t : Tb} (w : World) (h : Tab w B s t) : Calls Tryd.prog 9 #[.pointer (some ⟨s.P, 0, none⟩)] w fun e w' => e = .returned (.int .i64 (t.ln.length : Nat)) ∧ w = w' := by
  have H := Lib.hid h.hF
  obtain ⟨-, -, -, c3, -⟩ := h.cells
  clear h
  go_enter Tryd.func9, Tryd.ntmps9
  go_wp2_with (go_at_call 25; refine (flen_any _ H.out).mono ?_; rintro e w1 ⟨rfl, rfl⟩)
  go_ret
  exact ⟨rfl, rfl⟩

/-- Was it picked, and is not back? -/
theorem tpicked_yes {B : Nat} {s : TSpot} {t : Tb} (i : Nat) (w : World) (h : Tab w B s t) (hi : t.Out i) : Calls Tryd.prog 20 #[.pointer (some ⟨s.P, 0, none⟩), .int .i64 (i : Int)] w fun e w' => e = .returned (.bool true) ∧ w = w' := by
  obtain ⟨h1, h2, h3⟩ := hi
  have H := Lib.hid h
  have HF := Lib.hid h.hF
  have HD := Lib.hid (show decide (0 ≤ (i : Int) ∧ (i : Int) < t.slots) = true by simp; omega)
  have HC := Lib.hid (show t.ln.contains i = false by simp [h2])
  obtain ⟨-, -, -, c3, c4, c5⟩ := h.cells
  obtain ⟨-, m1, -⟩ := h.ma
  have c6 := c5 i h1
  rw [show t.rt.contains i = false by simp [h3]] at c6
  clear h c5 h2 h3
  go_enter Tryd.func20, Tryd.ntmps20
  go_wp2_with (first
    | (go_at_call 28; refine (thas_any _ _ H.out).mono ?_; rintro e w1 ⟨rfl, rfl⟩; rw [HD.out])
    | (go_at_call 33; refine (fhas_in i _ HF.out h1).mono ?_; rintro e w1 ⟨rfl, rfl⟩; rw [HC.out]))
  go_ret
  exact ⟨rfl, rfl⟩
theorem tpicked_no {B : Nat} {s : TSpot} {t : Tb} (i : Int) (w : World) (h : Tab w B s t) (hi : ∀ n : Nat, i = n → ¬ t.Out n) : Calls Tryd.prog 20 #[.pointer (some ⟨s.P, 0, none⟩), .int .i64 i] w fun e w' => e = .returned (.bool false) ∧ w = w' := by
  by_cases h0 : 0 ≤ i ∧ i < t.slots
  · obtain ⟨n, rfl⟩ := Int.eq_ofNat_of_zero_le h0.1
    have h1 : n < t.slots := by omega
    have hn := hi n rfl
    have H := Lib.hid h
    have HF := Lib.hid h.hF
    have HD := Lib.hid (show decide (0 ≤ (n : Int) ∧ (n : Int) < t.slots) = true by simp; omega)
    obtain ⟨-, -, -, c3, c4, c5⟩ := h.cells
    obtain ⟨-, m1, -⟩ := h.ma
    have c6 := c5 n h1
    by_cases h2 : n ∈ t.ln
    · have HC := Lib.hid (show t.ln.contains n = true by simp [h2])
      clear h c5 hi hn h2 h0
      go_enter Tryd.func20, Tryd.ntmps20
      go_wp2_with (first
        | (go_at_call 28; refine (thas_any _ _ H.out).mono ?_; rintro e w1 ⟨rfl, rfl⟩; rw [HD.out])
        | (go_at_call 33; refine (fhas_in n _ HF.out h1).mono ?_; rintro e w1 ⟨rfl, rfl⟩; rw [HC.out]))
      go_ret
      exact ⟨rfl, rfl⟩
    · have h3 : n ∈ t.rt := Classical.byContradiction fun h3 => hn ⟨h1, h2, h3⟩
      rw [show t.rt.contains n = true by simp [h3]] at c6
      have HC := Lib.hid (show t.ln.contains n = false by simp [h2])
      clear h c5 hi hn h2 h3 h0
      go_enter Tryd.func20, Tryd.ntmps20
      go_wp2_with (first
        | (go_at_call 28; refine (thas_any _ _ H.out).mono ?_; rintro e w1 ⟨rfl, rfl⟩; rw [HD.out])
        | (go_at_call 33; refine (fhas_in n _ HF.out h1).mono ?_; rintro e w1 ⟨rfl, rfl⟩; rw [HC.out]))
      go_ret
      exact ⟨rfl, rfl⟩
  · have H := Lib.hid h
    have HD := Lib.hid (decide_eq_false h0)
    clear h h0 hi
    go_enter Tryd.func20, Tryd.ntmps20
    go_wp2_with (go_at_call 28; refine (thas_any _ _ H.out).mono ?_; rintro e w1 ⟨rfl, rfl⟩; rw [HD.out])
    go_ret
    exact ⟨rfl, rfl⟩

/-- Of so many, so many are marked. -/
def cnt (l : List Nat) (k : Nat) : Nat := ((List.range k).filter fun i => l.contains i).length
theorem cnt_yes {l : List Nat} {k : Nat} (h : l.contains k = true) : cnt l (k + 1) = cnt l k + 1 := by unfold cnt; rw [List.range_succ, List.filter_append, List.length_append]; simp at h; simp [h]
theorem cnt_no {l : List Nat} {k : Nat} (h : l.contains k = false) : cnt l (k + 1) = cnt l k := by unfold cnt; rw [List.range_succ, List.filter_append, List.length_append]; simp at h; simp [h]
theorem cnt_le (l : List Nat) (k : Nat) : cnt l k ≤ k := by
  have := List.length_filter_le (fun i => l.contains i) (List.range k)
  simpa [cnt] using this
theorem cnt_all {l : List Nat} {k : Nat} (hn : l.Nodup) (hl : ∀ i, i ∈ l → i < k) : cnt l k = l.length := by
  unfold cnt
  refine List.Perm.length_eq ((List.perm_ext_iff_of_nodup (List.nodup_range.filter _) hn).2 fun i => ?_)
  simp only [List.mem_filter, List.mem_range, List.contains_iff_mem]
  exact ⟨fun h => h.2, fun h => ⟨hl i h, h⟩⟩

set_option maxHeartbeats 800000 in
theorem tretired_any {B : Nat} {s : TSpot} {t : Tb} (w : World) (h : Tab w B s t) : Calls Tryd.prog 10 #[.pointer (some ⟨s.P, 0, none⟩)] w fun e w' => e = .returned (.int .i64 (t.rt.length : Nat)) ∧ w = w' := by
  have H := Lib.hid h
  have HA := Lib.hid (cnt_all h.nd h.lt)
  obtain ⟨-, -, -, -, c4, c5⟩ := h.cells
  have HC := Lib.hid c5
  obtain ⟨m0, m1, -⟩ := h.ma
  clear h c5
  go_enter Tryd.func10, Tryd.ntmps10
  go_wp2_with (go_at_call 26; refine (tslots_any _ H.out).mono ?_; rintro e w1 ⟨rfl, rfl⟩)
  go_loopg [3, 7] t.slots (fun g s3 s7 wr => ∃ k : Nat, k ≤ t.slots ∧ g = t.slots - k ∧ s3 = .int .i64 (cnt t.rt k : Nat) ∧ s7 = .int .i64 k ∧ w = wr)
  case atStart => exact ⟨0, Nat.zero_le _, rfl, rfl, rfl, rfl⟩
  case round =>
    obtain ⟨k, hk, rfl, rfl, rfl, rfl⟩ := hrel
    have hck := cnt_le t.rt k
    by_cases hlt : k < t.slots
    · have hlt2 : (k : Int) < t.slots := by omega
      have c6 := HC.out k hlt
      generalize hb : t.rt.contains k = b at c6
      cases b with
      | true =>
        have hs := Lib.hid (cnt_yes hb)
        generalize cnt t.rt k = q at *
        clear hb
        go_wp2_with fail
        go_roundg (t.slots - (k + 1))
        case measure => go_light; omega
        case rel => exact ⟨k + 1, by omega, rfl, by rw [hs.out]; go_num, by go_num, rfl⟩
      | false =>
        have hs := Lib.hid (cnt_no hb)
        generalize cnt t.rt k = q at *
        clear hb
        go_wp2_with fail
        go_roundg (t.slots - (k + 1))
        case measure => go_light; omega
        case rel => exact ⟨k + 1, by omega, rfl, by rw [hs.out], by go_num, rfl⟩
    · obtain rfl : k = t.slots := by omega
      go_wp2_with fail
      go_ret
      exact ⟨reti (by rw [HA.out]), rfl⟩

end Go.Proofs.YtgnodijblleipaaDoor
