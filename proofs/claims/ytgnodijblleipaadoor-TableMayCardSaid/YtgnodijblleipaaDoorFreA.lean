/- What numbers that can be taken are in memory; what the calls that only look come to; taking, giving back. -/
import Derived.Test.YtgnodijblleipaaDoorRest
import Derived.WalkSpells
import Derived.WalkLawsBesides
namespace Go.Proofs.YtgnodijblleipaaDoor
open Go.RowKit

/-- What there is: those that can be taken, in order; how many there are in all. -/
structure Fr where
  ln : List Nat
  n : Nat

/-- Where it lies: its struct, its marks; the row of those that can be taken, if there is one. -/
structure FSpot where
  P : Nat
  M : Nat
  L : Option Nat

def FSpot.has (s : FSpot) (k : Nat) : Prop := k = s.P ∨ k = s.M ∨ s.L = some k

structure HasFr (w : World) (B : Nat) (s : FSpot) (a : Fr) (lv : Value) : Prop where
  hP : w.heap[s.P]? = some (.cells #[lv, .slice (some ⟨s.M, 0, none⟩) a.n a.n] 63 (0, 0))
  hM : w.heap[s.M]? = some (.cells (markCells a.n a.ln) 4 (0, 0))
  hL : Line w B 3 lv (numCells a.ln)
  eL : s.L = lv.ownBlock
  dPM : s.P ≠ s.M
  dPL : s.L ≠ some s.P
  dML : s.L ≠ some s.M
  bP : B ≤ s.P
  bM : B ≤ s.M
  nd : a.ln.Nodup
  lt : ∀ i, i ∈ a.ln → i < a.n
  n1 : a.n ≤ 1024

/-- The world bears such, from block B on. -/
def Free (w : World) (B : Nat) (s : FSpot) (a : Fr) : Prop := ∃ lv, HasFr w B s a lv

theorem HasFr.from {w : World} {B : Nat} {s : FSpot} {a : Fr} {lv : Value} (h : HasFr w B s a lv) : ∀ k, s.has k → B ≤ k := by
  intro k hk
  rcases hk with rfl | rfl | e
  · exact h.bP
  · exact h.bM
  · exact (h.hL.lt (h.eL ▸ e)).1
theorem Free.from {w : World} {B : Nat} {s : FSpot} {a : Fr} (h : Free w B s a) : ∀ k, s.has k → B ≤ k := by
  obtain ⟨lv, h⟩ := h; exact h.from
theorem HasFr.old {w : World} {B : Nat} {s : FSpot} {a : Fr} {lv : Value} (h : HasFr w B s a lv) : ∀ k, s.has k → k < w.heap.size := by
  intro k hk
  rcases hk with rfl | rfl | e
  · exact lt_of_block h.hP
  · exact lt_of_block h.hM
  · exact (h.hL.lt (h.eL ▸ e)).2
theorem Free.old {w : World} {B : Nat} {s : FSpot} {a : Fr} (h : Free w B s a) : ∀ k, s.has k → k < w.heap.size := by
  obtain ⟨lv, h⟩ := h; exact h.old
theorem Free.size {w : World} {B : Nat} {s : FSpot} {a : Fr} (h : Free w B s a) : B < w.heap.size := by
  have := h.from s.P (.inl rfl); have := h.old s.P (.inl rfl); omega

/-- What all else does to the world leaves it. -/
theorem Free.kept {w w' : World} {B : Nat} {s : FSpot} {a : Fr} {own : Nat → Prop} (h : Free w B s a) (hr : Rest own w w') (hd : ∀ k, s.has k → ¬ own k) : Free w' B s a := by
  obtain ⟨lv, h⟩ := h
  have hb : ∀ k, s.has k → w'.heap[k]? = w.heap[k]? := fun k hk => hr.block k (h.old k hk) (hd k hk)
  exact ⟨lv, { h with hP := (hb _ (.inl rfl)).trans h.hP, hM := (hb _ (.inr (.inl rfl))).trans h.hM, hL := h.hL.kept fun k hk => hb k (.inr (.inr (h.eL.trans hk))) }⟩
theorem Free.lower {w : World} {B B' : Nat} {s : FSpot} {a : Fr} (h : Free w B s a) (hB : B' ≤ B) : Free w B' s a := by
  obtain ⟨lv, h⟩ := h
  exact ⟨lv, { h with hL := h.hL.lower hB, bP := by have := h.bP; omega, bM := by have := h.bM; omega }⟩
theorem Free.few {w : World} {B : Nat} {s : FSpot} {a : Fr} (h : Free w B s a) : a.ln.length ≤ a.n ∧ a.n ≤ 1024 ∧ a.ln.Nodup ∧ ∀ i, i ∈ a.ln → i < a.n := by
  obtain ⟨lv, h⟩ := h
  exact ⟨_root_.Go.Proofs.YtgnodijblleipaaDoor.few h.nd h.lt, h.n1, h.nd, h.lt⟩

/-- Its cells. -/
theorem HasFr.cells {w : World} {B : Nat} {s : FSpot} {a : Fr} {lv : Value} (h : HasFr w B s a lv) :
    w.cell? ⟨s.P, 0, none⟩ = some lv ∧ w.cell? ⟨s.P, 1, none⟩ = some (.slice (some ⟨s.M, 0, none⟩) a.n a.n) ∧ (∀ i, i < a.n → w.cell? ⟨s.M, i, none⟩ = some (.bool (a.ln.contains i))) := by
  refine ⟨?_, ?_, ?_⟩
  · rw [cell_of_row _ _ _ _ _ _ h.hP]; rfl
  · rw [cell_of_row _ _ _ _ _ _ h.hP]; rfl
  · intro i hi; rw [cell_of_row _ _ _ _ _ _ h.hM]; exact markCells_at _ _ _ hi
theorem HasFr.free {w : World} {B : Nat} {s : FSpot} {a : Fr} {lv : Value} (h : HasFr w B s a lv) : (∀ i, w.frozen? ⟨s.P, i, none⟩ = false) ∧ (∀ i, w.frozen? ⟨s.M, i, none⟩ = false) :=
  ⟨fun _ => frozen_of_row _ _ _ _ _ h.hP, fun _ => frozen_of_row _ _ _ _ _ h.hM⟩

/-- Behind a call: where its row lies now, what else turned (nothing). -/
def FNow (w w' : World) (B : Nat) (s : FSpot) (a : Fr) : Prop := ∃ L, (L = s.L ∨ ∀ k, L = some k → w.heap.size ≤ k) ∧ Free w' B { s with L := L } a ∧ Rest s.has w w'

theorem FNow.same {w : World} {B : Nat} {s : FSpot} {a : Fr} (h : Free w B s a) : FNow w w B s a := ⟨s.L, .inl rfl, h, Rest.refl _ _⟩
theorem FNow.below {w w' : World} {B : Nat} {s : FSpot} {a0 a : Fr} (h0 : Free w B s a0) (h : FNow w w' B s a) : Below B w w' := by
  obtain ⟨L, _, _, hR⟩ := h
  exact hR.below (by have := h0.size; omega) h0.from

/-! Of none. -/

theorem flen_nil (w : World) : Calls Tryd.prog 25 #[.pointer none] w fun e w' => e = .returned (.int .i64 0) ∧ w = w' := by
  go_enter Tryd.func25, Tryd.ntmps25
  go_wp2
  go_ret
  exact ⟨rfl, rfl⟩
theorem there_nil (i : Int) (w : World) : Calls Tryd.prog 35 #[.pointer none, .int .i64 i] w fun e w' => e = .returned (.bool false) ∧ w = w' := by
  go_enter Tryd.func35, Tryd.ntmps35
  go_wp2
  go_ret
  exact ⟨rfl, rfl⟩
theorem fhas_nil (i : Int) (w : World) : Calls Tryd.prog 33 #[.pointer none, .int .i64 i] w fun e w' => e = .returned (.bool false) ∧ w = w' := by
  go_enter Tryd.func33, Tryd.ntmps33
  go_wp2_with (go_at_call 35; refine (there_nil _ _).mono ?_; rintro e w1 ⟨rfl, rfl⟩)
  go_ret
  exact ⟨rfl, rfl⟩
theorem give_nil (i : Int) (w : World) : Calls Tryd.prog 22 #[.pointer none, .int .i64 i] w fun e w' => e = .returned (.bool false) ∧ w = w' := by
  go_enter Tryd.func22, Tryd.ntmps22
  go_wp2_with (go_at_call 35; refine (there_nil _ _).mono ?_; rintro e w1 ⟨rfl, rfl⟩)
  go_ret
  exact ⟨rfl, rfl⟩
theorem take_nil (w : World) : Calls Tryd.prog 24 #[.pointer none] w fun e w' => e = .returned (.tuple #[.int .i64 0, .bool false]) ∧ w = w' := by
  go_enter Tryd.func24, Tryd.ntmps24
  go_wp2_with (go_at_call 25; refine (flen_nil _).mono ?_; rintro e w1 ⟨rfl, rfl⟩)
  go_ret2
  exact ⟨rfl, rfl⟩

/-! Of some. -/

theorem flen_any {B : Nat} {s : FSpot} {a : Fr} (w : World) (h : Free w B s a) : Calls Tryd.prog 25 #[.pointer (some ⟨s.P, 0, none⟩)] w fun e w' => e = .returned (.int .i64 (a.ln.length : Nat)) ∧ w = w' := by
  have hf := h.few
  obtain ⟨lv, h⟩ := h
  obtain ⟨h0, -⟩ := h.cells
  obtain ⟨ao, cap, hv⟩ := h.hL.shape
  rw [numCells_length] at hv
  subst hv
  obtain ⟨hf1, hf2, -⟩ := hf
  clear h
  go_enter Tryd.func25, Tryd.ntmps25
  go_wp2
  go_ret
  exact ⟨rfl, rfl⟩
theorem there_any {B : Nat} {s : FSpot} {a : Fr} (i : Int) (w : World) (h : Free w B s a) : Calls Tryd.prog 35 #[.pointer (some ⟨s.P, 0, none⟩), .int .i64 i] w fun e w' => e = .returned (.bool (decide (0 ≤ i ∧ i < a.n))) ∧ w = w' := by
  obtain ⟨lv, h⟩ := h
  obtain ⟨-, h1, -⟩ := h.cells
  have hn := h.n1
  clear h
  by_cases h0 : 0 ≤ i
  · go_enter Tryd.func35, Tryd.ntmps35
    go_wp2
    go_ret
    exact ⟨retb (by simp [h0]), rfl⟩
  · go_enter Tryd.func35, Tryd.ntmps35
    go_wp2
    go_ret
    exact ⟨retb (by simp; omega), rfl⟩
theorem fhas_out {B : Nat} {s : FSpot} {a : Fr} (i : Int) (w : World) (h : Free w B s a) (hi : ¬ (0 ≤ i ∧ i < a.n)) : Calls Tryd.prog 33 #[.pointer (some ⟨s.P, 0, none⟩), .int .i64 i] w fun e w' => e = .returned (.bool false) ∧ w = w' := by
  have H := Lib.hid h
  have HD := Lib.hid (decide_eq_false hi)
  clear h hi
  go_enter Tryd.func33, Tryd.ntmps33
  go_wp2_with (go_at_call 35; refine (there_any _ _ H.out).mono ?_; rintro e w1 ⟨rfl, rfl⟩; rw [HD.out])
  go_ret
  exact ⟨rfl, rfl⟩
theorem fhas_in {B : Nat} {s : FSpot} {a : Fr} (i : Nat) (w : World) (h : Free w B s a) (hi : i < a.n) : Calls Tryd.prog 33 #[.pointer (some ⟨s.P, 0, none⟩), .int .i64 (i : Int)] w fun e w' => e = .returned (.bool (a.ln.contains i)) ∧ w = w' := by
  have H := Lib.hid h
  have hd : decide (0 ≤ (i : Int) ∧ (i : Int) < a.n) = true := by simp; omega
  have HD := Lib.hid hd
  obtain ⟨lv, h⟩ := h
  obtain ⟨-, h1, h2⟩ := h.cells
  have hc := h2 i hi
  have hn := h.n1
  generalize hb : a.ln.contains i = b at *
  have HB := Lib.hid hb
  clear h h2 hd hb
  go_enter Tryd.func33, Tryd.ntmps33
  go_wp2_with (go_at_call 35; refine (there_any _ _ H.out).mono ?_; rintro e w1 ⟨rfl, rfl⟩; rw [HD.out])
  go_ret
  exact ⟨rfl, rfl⟩

/-- None can be taken. -/
theorem take_no {B : Nat} {s : FSpot} {a : Fr} (w : World) (h : Free w B s a) (hl : a.ln = []) : Calls Tryd.prog 24 #[.pointer (some ⟨s.P, 0, none⟩)] w fun e w' => e = .returned (.tuple #[.int .i64 0, .bool false]) ∧ w = w' := by
  have H := Lib.hid h
  have HE := Lib.hid (show a.ln.length = 0 by rw [hl]; rfl)
  clear h hl
  go_enter Tryd.func24, Tryd.ntmps24
  go_wp2_with (go_at_call 25; refine (flen_any _ H.out).mono ?_; rintro e w1 ⟨rfl, rfl⟩; rw [HE.out])
  go_ret2
  exact ⟨rfl, rfl⟩

theorem Tryd.elemInts : Tryd.prog.elem 27 = 3 := by kernel_rfl
theorem Tryd.infoNum : (Tryd.prog.info? 3).map (fun i => (i.zero, i.size, i.bytes)) = some (some (.int .i64 0), 1, 8) := by kernel_rfl

/-- Numbers but the first. -/
theorem slice_one (g off n cap : Nat) (hn : 1 ≤ n) (w : World) : (Instr.sliceAt 27 (.slice (some ⟨g, off, none⟩) n cap) (some (.int .i64 1)) none none).run Tryd.prog w = .ok (sliced (some ⟨g, off, none⟩) 1 n cap 1) w := by
  obtain ⟨i0, hinf, hz0, hz1, hz2⟩ := info_parts Tryd.infoNum
  rw [run_sliceAt_slice w 27 _ _ _ _ Tryd.underlying27, run_slice_l w 27 _ _ _ Tryd.underlying27 .i64 1 (by omega) (by omega), Tryd.elemInts]
  simp only [sizeOf, typeInfo, Sem.run_bind]
  simp [hinf, hz1]

/-- What both stores leave. -/
theorem taken {w : World} {B : Nat} {s : FSpot} {x : Nat} {r : List Nat} {n g off cap : Nat} (h : HasFr w B s ⟨x :: r, n⟩ (.slice (some ⟨g, off, none⟩) (r.length + 1) cap)) :
    FNow w ((w.setCell ⟨s.P, 0, none⟩ (sliced (some ⟨g, off, none⟩) 1 (r.length + 1) cap 1)).setCell ⟨s.M, x, none⟩ (.bool false)) B s ⟨r, n⟩ := by
  have hg : s.L = some g := h.eL
  have hgP : g ≠ s.P := fun e => h.dPL (by rw [hg, e])
  have hgM : g ≠ s.M := fun e => h.dML (by rw [hg, e])
  have hrow : Row w B 3 (.slice (some ⟨g, off, none⟩) ((numCells r).length + 1) cap) (.int .i64 (x : Int) :: numCells r) := by
    rcases h.hL with ⟨e, _⟩ | h
    · cases e
    · rw [numCells_length]; exact h
  have htail := hrow.tail
  rw [numCells_length] at htail
  refine ⟨s.L, .inl rfl, ⟨sliced (some ⟨g, off, none⟩) 1 (r.length + 1) cap 1, ?_⟩, ?_⟩
  · exact {
      hP := by rw [heap_setCell_other _ _ _ _ h.dPM, heap_setCell_same w s.P 0 _ _ _ h.hP]; rfl
      hM := by
        rw [heap_setCell_same _ s.M x _ _ _ ((heap_setCell_other _ _ _ _ (Ne.symm h.dPM)).trans h.hM)]
        have hnd := List.nodup_cons.1 h.nd
        rw [markCells_clear _ _ _ hnd.1]
      hL := (htail.kept fun k hk => by
        rw [sliced_block] at hk
        cases hk
        rw [heap_setCell_other _ _ _ _ hgM, heap_setCell_other _ _ _ _ hgP]).line
      eL := by rw [sliced_block]; exact hg
      dPM := h.dPM, dPL := h.dPL, dML := h.dML, bP := h.bP, bM := h.bM
      nd := (List.nodup_cons.1 h.nd).2
      lt := fun i hi => h.lt i (List.mem_cons_of_mem _ hi)
      n1 := h.n1 }
  · exact (Rest.setCell (own := s.has) w _ _ (.inl rfl)).trans (Rest.setCell (own := s.has) _ _ _ (.inr (.inl rfl))) (fun _ _ x => x) (fun _ _ x => x)

set_option maxHeartbeats 800000 in
/-- The first one is taken. -/
theorem take_yes {B : Nat} {s : FSpot} {x : Nat} {r : List Nat} {n : Nat} (w : World) (h : Free w B s ⟨x :: r, n⟩) :
    Calls Tryd.prog 24 #[.pointer (some ⟨s.P, 0, none⟩)] w fun e w' => e = .returned (.tuple #[.int .i64 (x : Int), .bool true]) ∧ FNow w w' B s ⟨r, n⟩ := by
  have H := Lib.hid h
  obtain ⟨hf1, hf2, -, hf4⟩ := h.few
  have hxn : x < n := hf4 x (by simp)
  obtain ⟨lv, h⟩ := h
  obtain ⟨h0, h1, h2⟩ := h.cells
  obtain ⟨f0, f1⟩ := h.free
  have hc := h2 x hxn
  rw [show (x :: r).contains x = true by simp] at hc
  have e0 := f0 0
  have e1 := f1 x
  rcases h.hL with ⟨_, hx⟩ | hrow
  · cases hx
  obtain ⟨g, off, cap, rfl, hlc, hcm, hcells⟩ := hrow.cells
  have hx0 := hcells 0 (.int .i64 (x : Int)) rfl
  simp only [Nat.add_zero] at hx0
  have hlen : (numCells (x :: r)).length = r.length + 1 := by simp [numCells]
  rw [hlen] at h0 hlc h
  have hnow := Lib.hid (taken h)
  have dPM := h.dPM
  have dMP := Ne.symm h.dPM
  have hll : (x :: r).length = r.length + 1 := rfl
  have HL := Lib.hid hll
  simp only [List.length_cons] at hf1
  dsimp only at h1 hf1 hf2
  unfold maxLen at hcm
  obtain ⟨ao, hsl⟩ : ∃ ao, sliced (some ⟨g, off, none⟩) 1 (r.length + 1) cap 1 = .slice ao r.length (cap - 1) := ⟨_, rfl⟩
  rw [hsl] at hnow
  generalize cap - 1 = cap1 at *
  have hslice : ∀ w0 : World, (Instr.sliceAt 27 (.slice (some ⟨g, off, none⟩) (r.length + 1) cap) (some (.int .i64 1)) none none).run Tryd.prog w0 = .ok (.slice ao r.length cap1) w0 := by
    intro w0
    rw [slice_one g off _ cap (by omega) w0, hsl]
  clear h hrow hcells h2 f0 f1 hf4 hll hsl hlen
  go_enter Tryd.func24, Tryd.ntmps24
  go_wp2_with (go_at_call 25; refine (flen_any _ H.out).mono ?_; rintro e w1 ⟨rfl, rfl⟩; rw [HL.out])
  go_ret2
  exact ⟨rfl, hnow.out⟩

end Go.Proofs.YtgnodijblleipaaDoor
