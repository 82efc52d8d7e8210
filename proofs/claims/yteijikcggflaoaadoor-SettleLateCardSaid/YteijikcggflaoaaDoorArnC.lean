/- What a touch comes to: the mark, the row of what was touched, the count of others; and the calls that touch. -/
import Derived.Test.YteijikcggflaoaaDoorArnB
import Derived.Test.YteijikcggflaoaaDoorOwn
namespace Go.Proofs.YteijikcggflaoaaDoor
open Go.RowKit

theorem Tryd.infoInt : (Tryd.prog.info? 3).map (fun i => (i.zero, i.size, i.bytes)) = some (some (.int .i64 0), 1, 8) := by kernel_rfl

/-- The arena behind a call: where its row lies now, what else turned (nothing). -/
def Now (w w' : World) (B : Nat) (s : Spot) (a : Ar) : Prop := ∃ T, (T = s.T ∨ ∀ k, T = some k → w.heap.size ≤ k) ∧ Arena w' B { s with T := T } a ∧ Rest s.has w w'

theorem Now.same {w : World} {B : Nat} {s : Spot} {a : Ar} (h : Arena w B s a) : Now w w B s a := ⟨s.T, .inl rfl, h, Rest.refl _ _⟩

theorem touch_out {B : Nat} {s : Spot} {a : Ar} (i : Int) (w : World) (h : Arena w B s a) (hi : ¬ (0 ≤ i ∧ i < a.cs.length)) (hs : a.st < 4611686018427387904) :
    Calls Tryd.prog 15 #[.pointer (some ⟨s.P, 0, none⟩), .int .i64 i] w fun e w' => e = .returned (.bool false) ∧ Arena w' B s a.stray ∧ Rest s.has w w' := by
  have H := Lib.hid h
  obtain ⟨tv, h⟩ := h
  obtain ⟨-, -, -, h3, -⟩ := h.cells
  obtain ⟨f0, -⟩ := h.free
  have f3 := f0 3
  have hd : decide (0 ≤ i ∧ i < a.cs.length) = false := decide_eq_false hi
  have HD := Lib.hid hd
  have HH := Lib.hid h
  clear h hi hd f0
  go_enter Tryd.func15, Tryd.ntmps15
  go_wp2_with (go_at_call 23; refine (has_any _ _ H.out).mono ?_; rintro e w1 ⟨rfl, rfl⟩; rw [HD.out])
  go_ret
  obtain ⟨k1, k2⟩ := HH.out.counts (a.st + 1) (by omega)
  exact ⟨rfl, ⟨tv, k1⟩, k2⟩

theorem touch_old {B : Nat} {s : Spot} {a : Ar} (i : Nat) (w : World) (h : Arena w B s a) (hi : i < a.cs.length) (hm : i ∈ a.td) :
    Calls Tryd.prog 15 #[.pointer (some ⟨s.P, 0, none⟩), .int .i64 (i : Int)] w fun e w' => e = .returned (.bool true) ∧ w = w' := by
  have H := Lib.hid h
  obtain ⟨tv, h⟩ := h
  obtain ⟨-, h1, -, -, -, h5⟩ := h.cells
  have hc := h5 i hi
  rw [show a.td.contains i = true by simp [hm]] at hc
  have hn := h.n1
  have hd : decide (0 ≤ (i : Int) ∧ (i : Int) < a.cs.length) = true := by simp; omega
  have HD := Lib.hid hd
  clear h hd h5 hm
  go_enter Tryd.func15, Tryd.ntmps15
  go_wp2_with (go_at_call 23; refine (has_any _ _ H.out).mono ?_; rintro e w1 ⟨rfl, rfl⟩; rw [HD.out])
  go_ret
  exact ⟨rfl, rfl⟩

/-- What the append leaves, and the two stores round it. -/
theorem touched_new {w w2 : World} {B : Nat} {s : Spot} {a : Ar} {tv v' : Value} (h : HasAr w B s a tv) {i : Nat} (hi : i < a.cs.length) (hm : i ∉ a.td)
    (hown : w2.ownsRow B 3 1 v' (a.td.length + 1) (numCells a.td ++ [.int .i64 (i : Int)])) (hg : ((w.setCell ⟨s.M, i, none⟩ (.bool true)).alloc (.cells #[.int .i64 (i : Int)] 3)).grownBy w2 tv.ownBlock)
    (hv : v'.ownBlock = tv.ownBlock ∨ ∀ k, v'.ownBlock = some k → w.heap.size ≤ k) :
    Now w (w2.setCell ⟨s.P, 2, none⟩ v') B s (a.touch i) := by
  have hb : ∀ k, k < w.heap.size → k ≠ s.M → some k ≠ tv.ownBlock → w2.heap[k]? = w.heap[k]? := fun k hk h1 h2 => by
    rw [hg.block k (by simp; omega) h2, Below.heap_alloc _ _ _ (by simpa using hk), Below.heap_setCell _ _ _ _ h1]
  have hM : w2.heap[s.M]? = (w.setCell ⟨s.M, i, none⟩ (.bool true)).heap[s.M]? := by
    rw [hg.block s.M (by have := lt_of_block h.hM; simp; omega) (by rw [← h.eT]; exact Ne.symm h.dMT), Below.heap_alloc _ _ _ (by simpa using lt_of_block h.hM)]
  have hsz : w.heap.size ≤ w2.heap.size := by have := hg.size; simp at this; omega
  have hvP : v'.ownBlock ≠ some s.P := by
    rcases hv with e | e
    · rw [e, ← h.eT]; exact h.dPT
    · intro x; have := e _ x; have := lt_of_block h.hP; omega
  have hvC : v'.ownBlock ≠ some s.C := by
    rcases hv with e | e
    · rw [e, ← h.eT]; exact h.dCT
    · intro x; have := e _ x; have := lt_of_block h.hC; omega
  have hvM : v'.ownBlock ≠ some s.M := by
    rcases hv with e | e
    · rw [e, ← h.eT]; exact h.dMT
    · intro x; have := e _ x; have := lt_of_block h.hM; omega
  refine ⟨v'.ownBlock, ?_, ⟨v', ?_⟩, ?_⟩
  · rcases hv with e | e
    · exact .inl (e.trans h.eT.symm)
    · exact .inr e
  · unfold Ar.touch
    rw [if_neg hm]
    exact {
      hP := by rw [heap_setCell_same w2 s.P 2 _ _ _ ((hb s.P (lt_of_block h.hP) h.dPM (by rw [← h.eT]; exact Ne.symm h.dPT)).trans h.hP)]; rfl
      hC := by rw [heap_setCell_other _ _ _ _ (Ne.symm h.dPC), hb s.C (lt_of_block h.hC) h.dCM (by rw [← h.eT]; exact Ne.symm h.dCT)]; exact h.hC
      hM := by
        rw [heap_setCell_other _ _ _ _ (Ne.symm h.dPM)]
        show w2.heap[s.M]? = _
        rw [hM, heap_setCell_same w s.M i _ _ _ h.hM, markCells_set]
      hT := by
        have := ownsRow_setCell_other hown (a := ⟨s.P, 2, none⟩) hvP v'
        simpa [numCells] using this
      eT := rfl, dPC := h.dPC, dPM := h.dPM, dCM := h.dCM, dPT := hvP, dCT := hvC, dMT := hvM, bP := h.bP, bC := h.bC, bM := h.bM
      nd := by
        rw [List.nodup_append]
        exact ⟨h.nd, by simp, fun x hx y hy e => by simp at hy; subst hy; subst e; exact hm hx⟩
      lt := fun j hj => by
        rcases List.mem_append.1 hj with g | g
        · exact h.lt j g
        · simp at g; subst g; exact hi
      wb := h.wb, n0 := h.n0, n1 := h.n1, sb := h.sb }
  · refine ⟨hg.os, hg.tape, hg.output, by simp [World.setCell]; exact hsz, fun k hk hn => ?_⟩
    rw [heap_setCell_other _ _ _ _ (fun e => hn (.inl e))]
    exact hb k hk (fun e => hn (.inr (.inr (.inl e)))) (fun e => hn (.inr (.inr (.inr (h.eT.trans e.symm)))))

set_option maxHeartbeats 800000 in
theorem touch_new {B : Nat} {s : Spot} {a : Ar} (i : Nat) (w : World) (h : Arena w B s a) (hi : i < a.cs.length) (hm : i ∉ a.td) :
    Calls Tryd.prog 15 #[.pointer (some ⟨s.P, 0, none⟩), .int .i64 (i : Int)] w fun e w' => e = .returned (.bool true) ∧ Now w w' B s (a.touch i) := by
  have H := Lib.hid h
  obtain ⟨tv, h⟩ := h
  obtain ⟨-, h1, h2, -, -, h5⟩ := h.cells
  obtain ⟨f0, -, fm⟩ := h.free
  have f2 := f0 2
  have fi := fm i
  have hc := h5 i hi
  rw [show a.td.contains i = false by simp [hm]] at hc
  have hn := h.n1
  have hl := few h.nd h.lt
  have hd : decide (0 ≤ (i : Int) ∧ (i : Int) < a.cs.length) = true := by simp; omega
  have HD := Lib.hid hd
  have HH := Lib.hid h
  have HM := Lib.hid hm
  have hown := h.hT
  have hMP : s.M ≠ s.P := Ne.symm h.dPM
  have hown2 : (w.setCell ⟨s.M, i, none⟩ (.bool true)).ownsRow B 3 1 tv a.td.length (numCells a.td) := ownsRow_setCell_other hown (by rw [← h.eT]; exact h.dMT) _
  have hB := (show Arena w B s a from ⟨tv, h⟩).size
  have hPs := lt_of_block h.hP
  clear h hd h5 hm f0 fm hown
  obtain ⟨i0, hinf, hz0, hz1, hz2⟩ := info_parts Tryd.infoInt
  go_enter Tryd.func15, Tryd.ntmps15
  go_wp2_with (first
    | (go_at_call 23; refine (has_any _ _ H.out).mono ?_; rintro e w1 ⟨rfl, rfl⟩; rw [HD.out])
    | (at_builtin; refine wpList_append_where _ rfl _ _ 42 rfl B 3 i0 (.int .i64 0) 1 8 Tryd.underlying42 hinf hz0 hz1 hz2 rfl (by decide) _ _ _ rfl (hown2.alloc _) ⟨w.heap.size, 0, none⟩ 1 1 [.int .i64 (i : Int)] rfl rfl ?c1 ?c2 (by decide) ?c3 ?c4 ?c5 ?_))
  case c1 => intro j u hj; match j, hj with | 0, hj => simp at hj; subst hj; rw [show ((⟨w.heap.size, 0, none⟩ : Addr).add 0) = ⟨w.heap.size, 0, none⟩ from rfl, cell_of_row _ w.heap.size 0 #[.int .i64 (i : Int)] 3 (0, 0) (by have := heap_alloc_new (w.setCell ⟨s.M, i, none⟩ (.bool true)) (.cells #[.int .i64 (i : Int)] 3); simpa using this)]; rfl
  case c2 => intro u hu; simp at hu; subst hu; rfl
  case c3 => unfold maxLen; omega
  case c4 => omega
  case c5 => simp; omega
  intro g c' w1 hown' hgrow hwhere
  have hP1 : w1.heap[s.P]? = w.heap[s.P]? := by
    rw [hgrow.block s.P (by simp; omega) (by have := HH.out.dPT; rw [HH.out.eT] at this; exact Ne.symm this), Below.heap_alloc _ _ _ (by simpa using hPs), Below.heap_setCell _ _ _ _ (Ne.symm hMP)]
  have k2 : w1.cell? ⟨s.P, 2, none⟩ = some tv := (World.cell?_of_block hP1).trans h2
  have e2 : w1.frozen? ⟨s.P, 2, none⟩ = false := (World.frozen?_of_block hP1).trans f2
  have hnow := Lib.hid (touched_new HH.out hi HM.out hown' hgrow (by
    rcases hwhere with e | e
    · exact .inl e.symm
    · exact .inr (fun k hk => by simp [Value.ownBlock] at hk; omega)))
  clear hP1 hown' hgrow hwhere
  go_wp2
  go_ret
  exact ⟨rfl, hnow.out⟩

theorem touch_in {B : Nat} {s : Spot} {a : Ar} (i : Nat) (w : World) (h : Arena w B s a) (hi : i < a.cs.length) :
    Calls Tryd.prog 15 #[.pointer (some ⟨s.P, 0, none⟩), .int .i64 (i : Int)] w fun e w' => e = .returned (.bool true) ∧ Now w w' B s (a.touch i) := by
  by_cases hm : i ∈ a.td
  · refine (touch_old i w h hi hm).mono fun e w' ⟨he, hw⟩ => ⟨he, ?_⟩
    subst hw
    have : a.touch i = a := by unfold Ar.touch; rw [if_pos hm]
    rw [this]
    exact Now.same h
  · exact touch_new i w h hi hm

theorem Ar.touch_cs (a : Ar) (i : Nat) : (a.touch i).cs = a.cs := by unfold Ar.touch; split <;> rfl

/-- A further piece behind the first. -/
theorem Now.step {w w1 w2 : World} {B : Nat} {s : Spot} {a : Ar} {T : Option Nat} (hT : T = s.T ∨ ∀ k, T = some k → w.heap.size ≤ k) (hR : Rest s.has w w1) (h : Now w1 w2 B { s with T := T } a) : Now w w2 B s a := by
  obtain ⟨T2, e2, hA, hR2⟩ := h
  refine ⟨T2, ?_, hA, hR.trans hR2 (fun _ _ x => x) (fun i hi x => ?_)⟩
  · rcases e2 with e2 | e2
    · rcases hT with e | e
      · exact .inl (e2.trans e)
      · exact .inr (fun k hk => e k (e2.symm.trans hk))
    · exact .inr (fun k hk => by have := e2 k hk; have := hR.size; omega)
  · rcases x with x | x | x | x
    · exact .inl x
    · exact .inr (.inl x)
    · exact .inr (.inr (.inl x))
    · rcases hT with e | e
      · exact .inr (.inr (.inr (e ▸ x)))
      · exact absurd hi (by have := e i x; omega)

/-- Read: a cell that there is. -/
theorem read_in {B : Nat} {s : Spot} {a : Ar} (i : Nat) (w : World) (h : Arena w B s a) (hi : i < a.cs.length) :
    Calls Tryd.prog 17 #[.pointer (some ⟨s.P, 0, none⟩), .int .i64 (i : Int)] w fun e w' => e = .returned (.int .u64 (a.cs.getD i 0 : Nat)) ∧ Now w w' B s (a.touch i) := by
  have H := Lib.hid h
  have hn : a.cs.length ≤ 16384 := by obtain ⟨tv, h⟩ := h; exact h.n1
  clear h
  go_enter Tryd.func17, Tryd.ntmps17
  go_wp2_with fail
  refine (touch_in i _ H.out hi).mono ?_
  rintro e w1 ⟨rfl, hw⟩
  have HW := Lib.hid hw
  obtain ⟨T, -, ⟨tv, h1⟩, -⟩ := hw
  obtain ⟨c0, -, -, -, c4, -⟩ := h1.cells
  have hc := c4 i (by rw [Ar.touch_cs]; exact hi)
  rw [Ar.touch_cs] at c0 hc
  generalize hx : a.cs.getD i 0 = x at *
  have HX := Lib.hid hx
  clear h1 c4 hx
  go_wp2
  go_ret
  exact ⟨reti (by rw [HX.out]), HW.out⟩

theorem read_out {B : Nat} {s : Spot} {a : Ar} (i : Int) (w : World) (h : Arena w B s a) (hi : ¬ (0 ≤ i ∧ i < a.cs.length)) (hs : a.st < 4611686018427387904) :
    Calls Tryd.prog 17 #[.pointer (some ⟨s.P, 0, none⟩), .int .i64 i] w fun e w' => e = .returned (.int .u64 0) ∧ Arena w' B s a.stray ∧ Rest s.has w w' := by
  have H := Lib.hid h
  have HI := Lib.hid hi
  clear h hi
  go_enter Tryd.func17, Tryd.ntmps17
  go_wp2_with fail
  refine (touch_out i _ H.out HI.out hs).mono ?_
  rintro e w1 ⟨rfl, hw⟩
  have HW := Lib.hid hw
  clear hw
  go_wp2
  go_ret
  exact ⟨rfl, HW.out⟩

/-- Write. -/
theorem write_in {B : Nat} {s : Spot} {a : Ar} (i x : Nat) (w : World) (h : Arena w B s a) (hi : i < a.cs.length) (hx : x < 18446744073709551616) :
    Calls Tryd.prog 6 #[.pointer (some ⟨s.P, 0, none⟩), .int .i64 (i : Int), .int .u64 (x : Int)] w fun e w' => e = .returned (.tuple #[]) ∧ Now w w' B s ((a.touch i).put i x) := by
  have H := Lib.hid h
  have hn : a.cs.length ≤ 16384 := by obtain ⟨tv, h⟩ := h; exact h.n1
  clear h
  go_enter Tryd.func6, Tryd.ntmps6
  go_wp2_with fail
  refine (touch_in i _ H.out hi).mono ?_
  rintro e w1 ⟨rfl, T, hT, ⟨tv, h1⟩, hR⟩
  obtain ⟨c0, -, -, -, c4, -⟩ := h1.cells
  have fi := h1.free.2.1 i
  have hc := c4 i (by rw [Ar.touch_cs]; exact hi)
  rw [Ar.touch_cs] at c0
  obtain ⟨k1, k2⟩ := h1.stores i x hx
  have hnow := Lib.hid (Now.step hT hR ⟨T, .inl rfl, ⟨tv, k1⟩, k2⟩)
  clear h1 c4 hT hR k1 k2
  go_wp2
  go_end0
  exact ⟨rfl, hnow.out⟩

theorem write_out {B : Nat} {s : Spot} {a : Ar} (i x : Int) (w : World) (h : Arena w B s a) (hi : ¬ (0 ≤ i ∧ i < a.cs.length)) (hs : a.st < 4611686018427387904) :
    Calls Tryd.prog 6 #[.pointer (some ⟨s.P, 0, none⟩), .int .i64 i, .int .u64 x] w fun e w' => e = .returned (.tuple #[]) ∧ Arena w' B s a.stray ∧ Rest s.has w w' := by
  have H := Lib.hid h
  have HI := Lib.hid hi
  clear h hi
  go_enter Tryd.func6, Tryd.ntmps6
  go_wp2_with fail
  refine (touch_out i _ H.out HI.out hs).mono ?_
  rintro e w1 ⟨rfl, hw⟩
  have HW := Lib.hid hw
  clear hw
  go_wp2
  go_end0
  exact ⟨rfl, HW.out⟩

/-- Swap: where it has another word, where it has that one, where there is none. -/
theorem swap_no {B : Nat} {s : Spot} {a : Ar} (i u x : Nat) (w : World) (h : Arena w B s a) (hi : i < a.cs.length) (hu : a.cs.getD i 0 ≠ u) :
    Calls Tryd.prog 19 #[.pointer (some ⟨s.P, 0, none⟩), .int .i64 (i : Int), .int .u64 (u : Int), .int .u64 (x : Int)] w fun e w' => e = .returned (.bool false) ∧ Now w w' B s (a.touch i) := by
  have H := Lib.hid h
  have hn : a.cs.length ≤ 16384 := by obtain ⟨tv, h⟩ := h; exact h.n1
  clear h
  generalize hy : a.cs.getD i 0 = y at *
  have HY := Lib.hid hy
  clear hy
  have hd : ((y : Int) != (u : Int)) = true := by rw [bne_iff_ne]; omega
  clear hu
  go_enter Tryd.func19, Tryd.ntmps19
  go_wp2_with fail
  refine (touch_in i _ H.out hi).mono ?_
  rintro e w1 ⟨rfl, hw⟩
  have HW := Lib.hid hw
  obtain ⟨T, -, ⟨tv, h1⟩, -⟩ := hw
  obtain ⟨c0, -, -, -, c4, -⟩ := h1.cells
  have hc := c4 i (by rw [Ar.touch_cs]; exact hi)
  rw [Ar.touch_cs] at c0 hc
  rw [HY.out] at hc
  clear h1 c4
  go_wp2
  go_ret
  exact ⟨rfl, HW.out⟩

theorem swap_yes {B : Nat} {s : Spot} {a : Ar} (i u x : Nat) (w : World) (h : Arena w B s a) (hi : i < a.cs.length) (hu : a.cs.getD i 0 = u) (hx : x < 18446744073709551616) :
    Calls Tryd.prog 19 #[.pointer (some ⟨s.P, 0, none⟩), .int .i64 (i : Int), .int .u64 (u : Int), .int .u64 (x : Int)] w fun e w' => e = .returned (.bool true) ∧ Now w w' B s ((a.touch i).put i x) := by
  have H := Lib.hid h
  have hn : a.cs.length ≤ 16384 := by obtain ⟨tv, h⟩ := h; exact h.n1
  clear h
  have HY := Lib.hid hu
  clear hu
  go_enter Tryd.func19, Tryd.ntmps19
  go_wp2_with fail
  refine (touch_in i _ H.out hi).mono ?_
  rintro e w1 ⟨rfl, T, hT, ⟨tv, h1⟩, hR⟩
  obtain ⟨c0, -, -, -, c4, -⟩ := h1.cells
  have fi := h1.free.2.1 i
  have hc := c4 i (by rw [Ar.touch_cs]; exact hi)
  rw [Ar.touch_cs] at c0 hc
  rw [HY.out] at hc
  obtain ⟨k1, k2⟩ := h1.stores i x hx
  have hnow := Lib.hid (Now.step hT hR ⟨T, .inl rfl, ⟨tv, k1⟩, k2⟩)
  clear h1 c4 hT hR k1 k2
  go_wp2
  go_ret
  exact ⟨rfl, hnow.out⟩

theorem swap_out {B : Nat} {s : Spot} {a : Ar} (i u x : Int) (w : World) (h : Arena w B s a) (hi : ¬ (0 ≤ i ∧ i < a.cs.length)) (hs : a.st < 4611686018427387904) :
    Calls Tryd.prog 19 #[.pointer (some ⟨s.P, 0, none⟩), .int .i64 i, .int .u64 u, .int .u64 x] w fun e w' => e = .returned (.bool false) ∧ Arena w' B s a.stray ∧ Rest s.has w w' := by
  have H := Lib.hid h
  have HI := Lib.hid hi
  clear h hi
  go_enter Tryd.func19, Tryd.ntmps19
  go_wp2_with fail
  refine (touch_out i _ H.out HI.out hs).mono ?_
  rintro e w1 ⟨rfl, hw⟩
  have HW := Lib.hid hw
  clear hw
  go_wp2
  go_ret
  exact ⟨rfl, HW.out⟩

end Go.Proofs.YteijikcggflaoaaDoor
