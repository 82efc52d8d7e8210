/- A new arena; what was touched, handed out. -/
import Derived.Test.YteijikcggflaoaaDoorArnC
import Derived.RegionTactic
import Derived.BigRegion
namespace Go.Proofs.YteijikcggflaoaaDoor
open Go.RowKit

theorem new_no (n : Int) (w : World) (hn : ¬ (1 ≤ n ∧ n ≤ 16384)) :
    Calls Tryd.prog 5 #[.int .i64 n] w fun e w' => e = .returned (.pointer none) ∧ w = w' := by
  by_cases h : n < 1
  · clear hn
    go_enter Tryd.func5, Tryd.ntmps5
    go_wp2
    go_ret
    exact ⟨rfl, rfl⟩
  · have h2 : 16384 < n := by omega
    clear hn
    go_enter Tryd.func5, Tryd.ntmps5
    go_wp2
    go_ret
    exact ⟨rfl, rfl⟩

/-- The arena is new, behind all that was there. -/
def Fresh (w w' : World) (n : Nat) (e : Ending) : Prop := ∃ s : Spot, e = .returned (.pointer (some ⟨s.P, 0, none⟩)) ∧ Arena w' w.heap.size s (Ar.new n) ∧ Rest (fun _ => False) w w'

theorem Tryd.infoWord : (Tryd.prog.info? 22).map (fun i => (i.zero, i.size, i.bytes)) = some (some (.int .u64 0), 1, 8) := by kernel_rfl
theorem Tryd.infoBool : (Tryd.prog.info? 4).map (fun i => (i.zero, i.size, i.bytes)) = some (some (.bool false), 1, 1) := by kernel_rfl

theorem make_words (n : Nat) (h1 : n ≤ 16384) (w : World) :
    (Instr.makeSlice 40 (.int .i64 (n : Int)) (.int .i64 (n : Int))).run Tryd.prog w = .ok (.slice (some ⟨w.heap.size, 0, none⟩) n n) (w.alloc (.cells (wordCells (List.replicate n 0)) 22)) := by
  obtain ⟨i0, hinf, hz0, hz1, hz2⟩ := info_parts Tryd.infoWord
  have h := run_make (P := Tryd.prog) w 40 22 i0 (.int .u64 0) Tryd.underlying40 hinf hz0 .i64 .i64 n n (by omega) (by omega) (by rw [hz2]; omega) (by omega)
  rw [h, hz1, made_one (.int .u64 0) _ rfl]
  simp [wordCells]

theorem make_marks (n : Nat) (h1 : n ≤ 16384) (w : World) :
    (Instr.makeSlice 41 (.int .i64 (n : Int)) (.int .i64 (n : Int))).run Tryd.prog w = .ok (.slice (some ⟨w.heap.size, 0, none⟩) n n) (w.alloc (.cells (markCells n []) 4)) := by
  obtain ⟨i0, hinf, hz0, hz1, hz2⟩ := info_parts Tryd.infoBool
  have h := run_make (P := Tryd.prog) w 41 4 i0 (.bool false) Tryd.underlying41 hinf hz0 .i64 .i64 n n (by omega) (by omega) (by rw [hz2]; omega) (by omega)
  rw [h, hz1, made_one (.bool false) _ rfl]
  have : List.replicate n (Value.bool false) = (List.range n).map fun i => Value.bool (([] : List Nat).contains i) := by
    apply List.ext_getElem
    · simp
    · simp
  simp [markCells, this]

theorem new_has {w w' : World} {n : Nat} {wc mc : Array Value} (ew : wordCells (List.replicate n 0) = wc) (em : markCells n [] = mc) (s : Spot) (h0 : 1 ≤ n) (h1 : n ≤ 16384)
    (hP : w'.heap[s.P]? = some (.cells #[.slice (some ⟨s.C, 0, none⟩) n n, .slice (some ⟨s.M, 0, none⟩) n n, .slice none 0 0, .int .i64 0] 44 (0, 0)))
    (hC : w'.heap[s.C]? = some (.cells wc 22 (0, 0))) (hM : w'.heap[s.M]? = some (.cells mc 4 (0, 0)))
    (hT : s.T = none) (d1 : s.P ≠ s.C) (d2 : s.P ≠ s.M) (d3 : s.C ≠ s.M) (b1 : w.heap.size ≤ s.P) (b2 : w.heap.size ≤ s.C) (b3 : w.heap.size ≤ s.M) : Arena w' w.heap.size s (Ar.new n) := by
  subst ew em
  have hl : (Ar.new n).cs.length = n := by simp [Ar.new]
  exact ⟨.slice none 0 0, {
    hP := by rw [hl]; exact hP
    hC := hC
    hM := by rw [hl]; exact hM
    hT := World.ownsRow_nil _ _ _ _
    eT := hT, dPC := d1, dPM := d2, dCM := d3
    dPT := by rw [hT]; simp
    dCT := by rw [hT]; simp
    dMT := by rw [hT]; simp
    bP := b1, bC := b2, bM := b3
    nd := List.nodup_nil
    lt := fun i hi => by cases hi
    wb := fun i hi => by rw [hl] at hi; simp [Ar.new, List.getD, hi]
    n0 := by rw [hl]; exact h0
    n1 := by rw [hl]; exact h1
    sb := by simp [Ar.new] }⟩

theorem three_new (w : World) (x y z : Obj) : (((w.alloc x).alloc y).alloc z).drew.heap[w.heap.size]? = some x ∧ (((w.alloc x).alloc y).alloc z).drew.heap[w.heap.size + 1]? = some y ∧
    (((w.alloc x).alloc y).alloc z).drew.heap[w.heap.size + 1 + 1]? = some z ∧ Rest (fun _ => False) w (((w.alloc x).alloc y).alloc z).drew := by
  refine ⟨?_, ?_, ?_, ⟨rfl, rfl, rfl, by simp [heap_drew]; omega, fun k hk _ => ?_⟩⟩
  · rw [heap_drew, Below.heap_alloc _ _ _ (by simp; omega), Below.heap_alloc _ _ _ (by simp)]; exact heap_alloc_new w x
  · rw [heap_drew, Below.heap_alloc _ _ _ (by simp)]; have := heap_alloc_new (w.alloc x) y; simpa using this
  · rw [heap_drew]; have := heap_alloc_new ((w.alloc x).alloc y) z; simpa using this
  · rw [heap_drew, Below.heap_alloc _ _ _ (by simp; omega), Below.heap_alloc _ _ _ (by simp; omega), Below.heap_alloc _ _ _ hk]

theorem new_yes (n : Nat) (w : World) (h0 : 1 ≤ n) (h1 : n ≤ 16384) :
    Calls Tryd.prog 5 #[.int .i64 (n : Int)] w fun e w' => Fresh w w' n e := by
  have hw := make_words n h1
  have hm := make_marks n h1
  generalize hwc : wordCells (List.replicate n 0) = wc at *
  generalize hmc : markCells n [] = mc at *
  have HW := Lib.hid hwc
  have HM := Lib.hid hmc
  clear hwc hmc
  go_enter Tryd.func5, Tryd.ntmps5
  go_wp2
  go_region
  · go_wp2
    go_ret
    obtain ⟨k1, k2, k3, k4⟩ := three_new w (.cells wc 22) (.cells mc 4) (.cells #[.slice (some ⟨w.heap.size, 0, none⟩) n n, .slice (some ⟨w.heap.size + 1, 0, none⟩) n n, .slice none 0 0, .int .i64 0] 44)
    exact ⟨⟨w.heap.size + 1 + 1, w.heap.size, w.heap.size + 1, none⟩, rfl, new_has HW.out HM.out _ h0 h1 k3 k1 k2 rfl (by dsimp only; omega) (by dsimp only; omega) (by dsimp only; omega) (by dsimp only; omega) (by dsimp only; omega) (by dsimp only; omega), k4⟩
  · go_wp2
    go_ret
    obtain ⟨k1, k2, k3, k4⟩ := three_new w (.cells mc 4) (.cells wc 22) (.cells #[.slice (some ⟨w.heap.size + 1, 0, none⟩) n n, .slice (some ⟨w.heap.size, 0, none⟩) n n, .slice none 0 0, .int .i64 0] 44)
    exact ⟨⟨w.heap.size + 1 + 1, w.heap.size + 1, w.heap.size, none⟩, rfl, new_has HW.out HM.out _ h0 h1 k3 k2 k1 rfl (by dsimp only; omega) (by dsimp only; omega) (by dsimp only; omega) (by dsimp only; omega) (by dsimp only; omega) (by dsimp only; omega), k4⟩

end Go.Proofs.YteijikcggflaoaaDoor
