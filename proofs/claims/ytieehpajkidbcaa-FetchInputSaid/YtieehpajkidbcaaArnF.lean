/- A step that begins: no mark is left, nothing counts as touched. -/
import Derived.Test.YtieehpajkidbcaaArnE
import Derived.Deep.LoopGhost
import Derived.Deep.Light
namespace Go.Proofs.Ytieehpajkidbcaa
open Go.RowKit

theorem begin_nil (w : World) : Calls Try.prog 19 #[.pointer none] w fun e w' => e = .returned (.tuple #[]) ∧ w = w' := by
  go_enter Try.func19, Try.ntmps19
  go_wp2
  refine bodyPost_ret (results_none rfl _ _ _) rfl ?_
  exact ⟨rfl, rfl⟩

/-- Behind both stores nothing is touched. -/
theorem begun {w wr : World} {B : Nat} {s : Spot} {a : Ar} {tv tv' : Value} (h : HasAr w B s a tv) (hM : wr.heap[s.M]? = some (.cells (markCells a.cs.length []) 4 (0, 0))) (hR : Rest (fun k => k = s.M) w wr)
    (hT : wr.ownsRow B 3 1 tv' 0 []) (eT : tv'.ownBlock = tv.ownBlock) :
    Arena ((wr.setCell ⟨s.P, 2, none⟩ tv').setCell ⟨s.P, 3, none⟩ (.int .i64 0)) B s a.begin ∧ Rest s.has w ((wr.setCell ⟨s.P, 2, none⟩ tv').setCell ⟨s.P, 3, none⟩ (.int .i64 0)) := by
  have hl : a.begin.cs.length = a.cs.length := rfl
  have hP := (hR.block s.P (lt_of_block h.hP) h.dPM).trans h.hP
  have hC := (hR.block s.C (lt_of_block h.hC) h.dCM).trans h.hC
  have eS : s.T = tv'.ownBlock := h.eT.trans eT.symm
  refine ⟨⟨tv', ?_⟩, ?_⟩
  · exact {
      hP := by rw [heap_setCell_same _ s.P 3 _ _ _ (heap_setCell_same wr s.P 2 _ _ _ hP)]; rfl
      hC := by rw [heap_setCell_other _ _ _ _ (Ne.symm h.dPC), heap_setCell_other _ _ _ _ (Ne.symm h.dPC)]; exact hC
      hM := by rw [heap_setCell_other _ _ _ _ (Ne.symm h.dPM), heap_setCell_other _ _ _ _ (Ne.symm h.dPM)]; exact hM
      hT := ownsRow_setCell_other (ownsRow_setCell_other hT (by rw [← eS]; exact h.dPT) _) (by rw [← eS]; exact h.dPT) _
      eT := eS, dPC := h.dPC, dPM := h.dPM, dCM := h.dCM, dPT := h.dPT, dCT := h.dCT, dMT := h.dMT, bP := h.bP, bC := h.bC, bM := h.bM
      nd := List.nodup_nil
      lt := fun i hi => by cases hi
      wb := h.wb, n0 := h.n0, n1 := h.n1
      sb := by simp [Ar.begin] }
  · refine ⟨hR.os, hR.tape, hR.output, by have := hR.size; simpa [World.setCell] using this, fun k hk hn => ?_⟩
    have hkP : k ≠ s.P := fun e => hn (.inl e)
    rw [heap_setCell_other _ _ _ _ hkP, heap_setCell_other _ _ _ _ hkP]
    exact hR.block k hk (fun e => hn (.inr (.inr (.inl e))))

/-- What the row of what was touched is behind '[:0]'. -/
theorem row_cut {w wr : World} {B : Nat} {s : Spot} {a : Ar} {g cap : Nat} (h : HasAr w B s a (.slice (some ⟨g, 0, none⟩) a.td.length cap)) (hR : Rest (fun k => k = s.M) w wr) : wr.ownsRow B 3 1 (.slice (some ⟨g, 0, none⟩) 0 cap) 0 [] := by
  have hg : s.T = some g := h.eT
  rcases h.hT.2 with ⟨h0, _⟩ | ⟨g', cap', cur, e, hb, hh, hn, hc, hs, _⟩
  · cases h0
  · simp only [Value.slice.injEq, Option.some.injEq, Addr.mk.injEq, and_true, true_and] at e
    obtain ⟨rfl, rfl⟩ := e
    refine ⟨rfl, .inr ⟨g, cap, cur, rfl, hb, ?_, Nat.zero_le _, hc, hs, by simp⟩⟩
    rw [hR.block g (lt_of_block hh) (fun e => h.dMT (by rw [hg, e]))]
    exact hh

set_option maxHeartbeats 800000 in
theorem begin_any {B : Nat} {s : Spot} {a : Ar} (w : World) (h : Arena w B s a) :
    Calls Try.prog 19 #[.pointer (some ⟨s.P, 0, none⟩)] w fun e w' => e = .returned (.tuple #[]) ∧ Arena w' B s a.begin ∧ Rest s.has w w' := by
  obtain ⟨tv, h⟩ := h
  have hh := h
  obtain ⟨-, c1, c2, c3, -⟩ := h.cells
  obtain ⟨fP, -, fM⟩ := h.free
  have hl := few h.nd h.lt
  have hn := h.n1
  rcases h.hT.2 with ⟨rfl, h0⟩ | ⟨g, cap, cur, rfl, hbg, hgg, hnc, hcm, -⟩
  · have hx : a.td = [] := List.eq_nil_of_length_eq_zero h0
    have f2 := fP 2
    have f3 := fP 3
    have hM := h.hM
    rw [hx] at hM
    have HF := Lib.hid (begun hh hM (Rest.refl _ _) (World.ownsRow_nil w B 3 1) rfl)
    clear h hh hx h0 hl fP fM hM c1
    go_enter Try.func19, Try.ntmps19
    go_wp2_with fail
    go_loopg [11] 0 (fun g s11 wr => g = 0 ∧ s11 = .int .i64 0 ∧ w = wr)
    case atStart => exact ⟨rfl, rfl, rfl⟩
    case round =>
      obtain ⟨rfl, rfl, rfl⟩ := hrel
      go_wp2
      go_end0
      exact ⟨rfl, HF.out⟩
  · have hcs := h.hT.cells (g := g) rfl
    have f2 := fP 2
    have f3 := fP 3
    have HC := Lib.hid hcs
    have HM := Lib.hid fM
    have HH := Lib.hid h
    have hM0 := h.hM
    have dPM := h.dPM
    have hPs := lt_of_block h.hP
    have hMs := lt_of_block h.hM
    have hgM : g ≠ s.M := fun e => h.dMT (by rw [h.eT, e]; rfl)
    have hnd := h.nd
    have hlt := h.lt
    have HND := Lib.hid hnd
    have HLT := Lib.hid hlt
    have hgs : g < w.heap.size := lt_of_block hgg
    clear h hh hcs fP fM hgg hnd hlt
    go_enter Try.func19, Try.ntmps19
    go_wp2_with fail
    go_loopg [11] a.td.length (fun m s11 wr => ∃ k : Nat, k ≤ a.td.length ∧ m = a.td.length - k ∧ s11 = .int .i64 k ∧ Hid (wr.heap[s.M]? = some (.cells (markCells a.cs.length (a.td.drop k)) 4 (0, 0))) ∧ Rest (fun b => b = s.M) w wr)
    case atStart => exact ⟨0, Nat.zero_le _, rfl, rfl, hM0, Rest.refl _ _⟩
    case round =>
      clear hM0
      obtain ⟨k, hk, rfl, rfl, hMk, hR⟩ := hrel
      have hPr := hR.block s.P hPs dPM
      have k1 := (World.cell?_of_block (a := ⟨s.P, 1, none⟩) hPr).trans c1
      have k2 := (World.cell?_of_block (a := ⟨s.P, 2, none⟩) hPr).trans c2
      have k3 := (World.cell?_of_block (a := ⟨s.P, 3, none⟩) hPr).trans c3
      have e2 := (World.frozen?_of_block (a := ⟨s.P, 2, none⟩) hPr).trans f2
      have e3 := (World.frozen?_of_block (a := ⟨s.P, 3, none⟩) hPr).trans f3
      clear hPr
      by_cases hkl : k < a.td.length
      · have hgr := hR.block g hgs hgM
        have hck := HC.out k (.int .i64 ((a.td.getD k 0 : Nat) : Int)) (by simp [numCells, List.getD, hkl])
        have hin : a.td.getD k 0 < a.cs.length := HLT.out _ (by rw [List.getD_eq_getElem?_getD, List.getElem?_eq_getElem hkl]; exact List.getElem_mem _)
        have hdrop : a.td.drop k = a.td.getD k 0 :: a.td.drop (k + 1) := by rw [List.drop_eq_getElem_cons hkl]; simp [List.getD, hkl]
        have hnot : a.td.getD k 0 ∉ a.td.drop (k + 1) := by
          have hs := HND.out.sublist (List.drop_sublist k a.td)
          rw [hdrop] at hs
          exact (List.nodup_cons.1 hs).1
        rw [show ((⟨g, 0, none⟩ : Addr).add k) = ⟨g, k, none⟩ by simp [Addr.add]; exact fun e => e.symm] at hck
        have hcell := (World.cell?_of_block (a := ⟨g, k, none⟩) hgr).trans hck
        have hMk2 := hMk.out
        rw [hdrop] at hMk2
        have fMr : wr.frozen? ⟨s.M, a.td.getD k 0, none⟩ = false := frozen_of_row _ _ _ _ _ hMk2
        have cMr : wr.cell? ⟨s.M, a.td.getD k 0, none⟩ = some (.bool true) := by rw [cell_of_row _ _ _ _ _ _ hMk2, markCells_at _ _ _ hin]; simp
        have hnew : (wr.setCell ⟨s.M, a.td.getD k 0, none⟩ (.bool false)).heap[s.M]? = some (.cells (markCells a.cs.length (a.td.drop (k + 1))) 4 (0, 0)) := by
          rw [heap_setCell_same wr s.M _ _ _ _ hMk2, markCells_clear _ _ _ hnot]
        have HN := Lib.hid hnew
        generalize hx : a.td.getD k 0 = x at *
        clear hx hck hdrop hnot hMk2 hnew hgr
        go_wp2_with fail
        go_roundg (a.td.length - (k + 1))
        case measure => go_light; omega
        case rel => exact ⟨k + 1, by omega, rfl, by go_num, HN.out, hR.trans (Rest.setCell (own := fun b => b = s.M) _ _ _ rfl) (fun _ _ x => x) (fun _ _ x => x)⟩
      · obtain rfl : k = a.td.length := by omega
        have hMe := hMk.out
        rw [List.drop_length] at hMe
        have HF := Lib.hid (begun HH.out hMe hR (row_cut HH.out hR) rfl)
        clear hMe
        go_wp2
        go_end0
        exact ⟨rfl, HF.out⟩

end Go.Proofs.Ytieehpajkidbcaa
