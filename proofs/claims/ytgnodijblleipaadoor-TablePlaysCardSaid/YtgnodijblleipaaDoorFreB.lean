/- What is given back; all that can be taken, handed out; new numbers. -/
import Derived.Test.YtgnodijblleipaaDoorFreA
import Derived.RegionTactic
import Derived.BigRegion
import Derived.Deep.LoopGhost
import Derived.Deep.Light
import Derived.Deep.DeepCutAuto
import Derived.Laws.Cover3
namespace Go.Proofs.YtgnodijblleipaaDoor
open Go.RowKit

/-- What the append leaves, and the two stores round it. -/
theorem added {w w2 : World} {B : Nat} {s : FSpot} {a : Fr} {lv v' : Value} (h : HasFr w B s a lv) {i : Nat} (hi : i < a.n) (hm : i ∉ a.ln)
    (hown : Line w2 B 3 v' (numCells a.ln ++ [.int .i64 (i : Int)])) (hg : ((w.setCell ⟨s.M, i, none⟩ (.bool true)).alloc (.cells #[.int .i64 (i : Int)] 3)).grownBy w2 lv.ownBlock)
    (hv : v'.ownBlock = lv.ownBlock ∨ ∀ k, v'.ownBlock = some k → w.heap.size ≤ k) :
    FNow w (w2.setCell ⟨s.P, 0, none⟩ v') B s ⟨a.ln ++ [i], a.n⟩ := by
  have hb : ∀ k, k < w.heap.size → k ≠ s.M → some k ≠ lv.ownBlock → w2.heap[k]? = w.heap[k]? := fun k hk h1 h2 => by
    rw [hg.block k (by simp; omega) h2, Below.heap_alloc _ _ _ (by simpa using hk), Below.heap_setCell _ _ _ _ h1]
  have hM : w2.heap[s.M]? = (w.setCell ⟨s.M, i, none⟩ (.bool true)).heap[s.M]? := by
    rw [hg.block s.M (by have := lt_of_block h.hM; simp; omega) (by rw [← h.eL]; exact Ne.symm h.dML), Below.heap_alloc _ _ _ (by simpa using lt_of_block h.hM)]
  have hsz : w.heap.size ≤ w2.heap.size := by have := hg.size; simp at this; omega
  have hvP : v'.ownBlock ≠ some s.P := by
    rcases hv with e | e
    · rw [e, ← h.eL]; exact h.dPL
    · intro x; have := e _ x; have := lt_of_block h.hP; omega
  have hvM : v'.ownBlock ≠ some s.M := by
    rcases hv with e | e
    · rw [e, ← h.eL]; exact h.dML
    · intro x; have := e _ x; have := lt_of_block h.hM; omega
  refine ⟨v'.ownBlock, ?_, ⟨v', ?_⟩, ?_⟩
  · rcases hv with e | e
    · exact .inl (e.trans h.eL.symm)
    · exact .inr e
  · exact {
      hP := by rw [heap_setCell_same w2 s.P 0 _ _ _ ((hb s.P (lt_of_block h.hP) h.dPM (by rw [← h.eL]; exact Ne.symm h.dPL)).trans h.hP)]; rfl
      hM := by
        rw [heap_setCell_other _ _ _ _ (Ne.symm h.dPM)]
        show w2.heap[s.M]? = _
        rw [hM, heap_setCell_same w s.M i _ _ _ h.hM, markCells_set]
      hL := by
        rw [numCells_append]
        exact hown.kept fun k hk => heap_setCell_other _ _ _ _ (fun e => hvP (by rw [hk, e]))
      eL := rfl, dPM := h.dPM, dPL := hvP, dML := hvM, bP := h.bP, bM := h.bM
      nd := by
        rw [List.nodup_append]
        exact ⟨h.nd, by simp, fun x hx y hy e => by simp at hy; subst hy; subst e; exact hm hx⟩
      lt := fun j hj => by
        rcases List.mem_append.1 hj with g | g
        · exact h.lt j g
        · simp at g; subst g; exact hi
      n1 := h.n1 }
  · refine ⟨hg.os, hg.tape, hg.output, by simp [World.setCell]; exact hsz, fun k hk hn => ?_⟩
    rw [heap_setCell_other _ _ _ _ (fun e => hn (.inl e))]
    exact hb k hk (fun e => hn (.inr (.inl e))) (fun e => hn (.inr (.inr (h.eL.trans e.symm))))

set_option maxHeartbeats 800000 in
theorem add_any {B : Nat} {s : FSpot} {a : Fr} (i : Nat) (w : World) (h : Free w B s a) (hi : i < a.n) (hm : i ∉ a.ln) :
    Calls Tryd.prog 32 #[.pointer (some ⟨s.P, 0, none⟩), .int .i64 (i : Int)] w fun e w' => e = .returned (.tuple #[]) ∧ FNow w w' B s ⟨a.ln ++ [i], a.n⟩ := by
  obtain ⟨hf1, hf2, -, -⟩ := h.few
  have hB := h.size
  obtain ⟨lv, h⟩ := h
  obtain ⟨h0, h1, h2⟩ := h.cells
  obtain ⟨f0, f1⟩ := h.free
  have hc := h2 i hi
  rw [show a.ln.contains i = false by simp [hm]] at hc
  have e0 := f0 0
  have e1 := f1 i
  have HH := Lib.hid h
  have HM := Lib.hid hm
  have hMP : s.M ≠ s.P := Ne.symm h.dPM
  have hPs := lt_of_block h.hP
  obtain ⟨la, lc, hlv⟩ := h.hL.shape
  rw [numCells_length] at hlv
  subst hlv
  have hline := ((h.hL.rest (own := fun k => k = s.M) (Rest.setCell w ⟨s.M, i, none⟩ (.bool true) rfl) (fun k hk e => h.dML (by rw [h.eL, hk, e]))).rest (own := fun _ => False) (Rest.alloc _ _ (.cells #[.int .i64 (i : Int)] 3)) (fun _ _ => id))
  have HLI := Lib.hid hline
  clear h h2 f0 f1 hline hm
  obtain ⟨i0, hinf, hz0, hz1, hz2⟩ := info_parts Tryd.infoNum
  go_enter Tryd.func32, Tryd.ntmps32
  go_wp2_with (at_builtin; refine wpList_append_line _ rfl _ _ 27 rfl B 3 i0 (.int .i64 0) 8 Tryd.underlying27 hinf hz0 hz1 hz2 rfl _ (numCells a.ln) rfl HLI.out ⟨w.heap.size, 0, none⟩ 1 1 [.int .i64 (i : Int)] rfl rfl ?c1 ?c2 ?c3 ?c4 ?c5 ?_)
  case c1 => intro j u hj; match j, hj with | 0, hj => simp at hj; subst hj; rw [show ((⟨w.heap.size, 0, none⟩ : Addr).add 0) = ⟨w.heap.size, 0, none⟩ from rfl, cell_of_row _ w.heap.size 0 #[.int .i64 (i : Int)] 3 (0, 0) (by have := heap_alloc_new (w.setCell ⟨s.M, i, none⟩ (.bool true)) (.cells #[.int .i64 (i : Int)] 3); simpa using this)]; rfl
  case c2 => intro u hu; simp at hu; subst hu; rfl
  case c3 => rw [numCells_length]; unfold maxLen; omega
  case c4 => rw [numCells_length]; omega
  case c5 => simp; omega
  intro v' w1 hown' hgrow hwhere
  have hP1 : w1.heap[s.P]? = w.heap[s.P]? := by
    rw [hgrow.block s.P (by simp; omega) (by have := HH.out.dPL; rw [HH.out.eL] at this; exact Ne.symm this), Below.heap_alloc _ _ _ (by simpa using hPs), Below.heap_setCell _ _ _ _ (Ne.symm hMP)]
  have k0 := (World.cell?_of_block (a := ⟨s.P, 0, none⟩) hP1).trans h0
  have g0 := (World.frozen?_of_block (a := ⟨s.P, 0, none⟩) hP1).trans e0
  obtain ⟨va, vc, hv'⟩ := hown'.shape
  have hwhere2 : v'.ownBlock = (Value.slice la a.ln.length lc).ownBlock ∨ ∀ k, v'.ownBlock = some k → w.heap.size ≤ k := by
    rcases hwhere with e | e
    · exact .inl e
    · exact .inr (fun k hk => by
        have h9 := e k hk
        omega)
  have hnow := Lib.hid (added HH.out hi HM.out hown' hgrow hwhere2)
  generalize hvl : (numCells a.ln ++ [Value.int .i64 (i : Int)]).length = vl at hv'
  subst hv'
  clear hvl hwhere2
  clear hP1 hown' hgrow hwhere
  go_wp2
  go_end0
  exact ⟨rfl, hnow.out⟩

/-- Given back: what there is not, or is not taken. -/
theorem give_out {B : Nat} {s : FSpot} {a : Fr} (i : Int) (w : World) (h : Free w B s a) (hi : ¬ (0 ≤ i ∧ i < a.n)) :
    Calls Tryd.prog 22 #[.pointer (some ⟨s.P, 0, none⟩), .int .i64 i] w fun e w' => e = .returned (.bool false) ∧ w = w' := by
  have H := Lib.hid h
  have HD := Lib.hid (decide_eq_false hi)
  clear h hi
  go_enter Tryd.func22, Tryd.ntmps22
  go_wp2_with (go_at_call 35; refine (there_any _ _ H.out).mono ?_; rintro e w1 ⟨rfl, rfl⟩; rw [HD.out])
  go_ret
  exact ⟨rfl, rfl⟩
theorem give_no {B : Nat} {s : FSpot} {a : Fr} (i : Nat) (w : World) (h : Free w B s a) (hm : i ∈ a.ln) :
    Calls Tryd.prog 22 #[.pointer (some ⟨s.P, 0, none⟩), .int .i64 (i : Int)] w fun e w' => e = .returned (.bool false) ∧ w = w' := by
  have H := Lib.hid h
  obtain ⟨-, hn, -, hlt⟩ := h.few
  have hi := hlt i hm
  have hd : decide (0 ≤ (i : Int) ∧ (i : Int) < a.n) = true := by simp; omega
  have HD := Lib.hid hd
  obtain ⟨lv, h⟩ := h
  obtain ⟨-, h1, h2⟩ := h.cells
  have hc := h2 i hi
  rw [show a.ln.contains i = true by simp [hm]] at hc
  clear h h2 hd hm hlt
  go_enter Tryd.func22, Tryd.ntmps22
  go_wp2_with (go_at_call 35; refine (there_any _ _ H.out).mono ?_; rintro e w1 ⟨rfl, rfl⟩; rw [HD.out])
  go_ret
  exact ⟨rfl, rfl⟩
theorem give_yes {B : Nat} {s : FSpot} {a : Fr} (i : Nat) (w : World) (h : Free w B s a) (hi : i < a.n) (hm : i ∉ a.ln) :
    Calls Tryd.prog 22 #[.pointer (some ⟨s.P, 0, none⟩), .int .i64 (i : Int)] w fun e w' => e = .returned (.bool true) ∧ FNow w w' B s ⟨a.ln ++ [i], a.n⟩ := by
  have H := Lib.hid h
  obtain ⟨-, hn, -, hlt⟩ := h.few
  have hd : decide (0 ≤ (i : Int) ∧ (i : Int) < a.n) = true := by simp; omega
  have HD := Lib.hid hd
  obtain ⟨lv, h⟩ := h
  obtain ⟨-, h1, h2⟩ := h.cells
  have hc := h2 i hi
  rw [show a.ln.contains i = false by simp [hm]] at hc
  have HM := Lib.hid hm
  clear h h2 hd hm hlt
  go_enter Tryd.func22, Tryd.ntmps22
  go_wp2_with (first
    | (go_at_call 35; refine (there_any _ _ H.out).mono ?_; rintro e w1 ⟨rfl, rfl⟩; rw [HD.out])
    | (go_at_call 32; refine (add_any _ _ H.out hi HM.out).mono ?_; rintro e w1 ⟨rfl, hw⟩))
  have HW := Lib.hid hw
  clear hw
  go_wp2
  go_ret
  exact ⟨rfl, HW.out⟩

/-- Is it nil? -/
theorem eql_nil (a : Option Addr) (n c : Nat) (w : World) : (binOp .eql 27 (.slice a n c) (.slice none 0 0)).run Tryd.prog w = .ok (.bool a.isNone) w := by
  unfold binOp
  simp [run_equal_slice_nil w 27 3 a n c Tryd.underlying27]

/-- A copy of a row of numbers, behind all that was there. -/
def Copied (w w' : World) (l : List Nat) (e : Ending) : Prop := ∃ v, e = .returned v ∧ Line w' w.heap.size 3 v (numCells l) ∧ Rest (fun _ => False) w w'



/-- New numbers, behind all that was there. -/
def FFresh (w w' : World) (m : Nat) (e : Ending) : Prop := ∃ s : FSpot, e = .returned (.pointer (some ⟨s.P, 0, none⟩)) ∧ Free w' w.heap.size s ⟨List.range m, m⟩ ∧ Rest (fun _ => False) w w'

theorem Tryd.infoMark : (Tryd.prog.info? 4).map (fun i => (i.zero, i.size, i.bytes)) = some (some (.bool false), 1, 1) := by kernel_rfl

theorem make_free_marks (n : Nat) (h1 : n ≤ 1024) (w : World) :
    (Instr.makeSlice 28 (.int .i64 (n : Int)) (.int .i64 (n : Int))).run Tryd.prog w = .ok (.slice (some ⟨w.heap.size, 0, none⟩) n n) (w.alloc (.cells (markCells n []) 4)) := by
  obtain ⟨i0, hinf, hz0, hz1, hz2⟩ := info_parts Tryd.infoMark
  have h := run_make (P := Tryd.prog) w 28 4 i0 (.bool false) Tryd.underlying28 hinf hz0 .i64 .i64 n n (by omega) (by omega) (by rw [hz2]; omega) (by omega)
  rw [h, hz1, made_one (.bool false) _ rfl]
  have : List.replicate n (Value.bool false) = (List.range n).map fun i => Value.bool (([] : List Nat).contains i) := by
    apply List.ext_getElem
    · simp
    · simp
  simp [markCells, this]

theorem fnew_has (w : World) (n : Nat) (h1 : n ≤ 1024) :
    Free ((w.alloc (.cells (markCells n []) 4)).alloc (.cells #[.slice none 0 0, .slice (some ⟨w.heap.size, 0, none⟩) n n] 63)) w.heap.size ⟨w.heap.size + 1, w.heap.size, none⟩ ⟨[], n⟩ :=
  ⟨.slice none 0 0, {
    hP := by have := heap_alloc_new (w.alloc (.cells (markCells n []) 4)) (.cells #[.slice none 0 0, .slice (some ⟨w.heap.size, 0, none⟩) n n] 63); simpa using this
    hM := by rw [Below.heap_alloc _ _ _ (by simp)]; exact heap_alloc_new _ _
    hL := Line.nil _ _ _
    eL := rfl
    dPM := by dsimp only; omega
    dPL := by simp
    dML := by simp
    bP := by dsimp only; omega
    bM := Nat.le_refl _
    nd := List.nodup_nil
    lt := fun i hi => by cases hi
    n1 := h1 }⟩

set_option maxHeartbeats 800000 in
theorem fnew_any (n : Int) (m : Nat) (hm : (m : Int) = min (max n 0) 1024) (w : World) :
    Calls Tryd.prog 19 #[.int .i64 n] w fun e w' => FFresh w w' m e := by
  have hm1 : m ≤ 1024 := by omega
  have hmk := make_free_marks m hm1
  have HM := Lib.hid hm
  have h0 := Lib.hid (fnew_has w m hm1)
  generalize markCells m [] = mc at *
  clear hm
  go_enter Tryd.func19, Tryd.ntmps19
  go_upto_region 1 with fail
  go_cut [0] (fun s0 wx => s0 = .int .i64 (m : Int) ∧ w = wx)
  case first =>
    go_wp2_with fail
    all_goals (go_meet)
    all_goals (refine ⟨?_, rfl⟩; have := HM.out; congr 1; omega)
  case rest =>
    obtain ⟨rfl, rfl⟩ := hcut
    clear HM
    go_wp2_with fail
    go_loopg [13] m (fun g s13 wr => ∃ (k : Nat) (L : Option Nat), k ≤ m ∧ g = m - k ∧ s13 = .int .i64 k ∧ Hid (Free wr w.heap.size ⟨w.heap.size + 1, w.heap.size, L⟩ ⟨List.range k, m⟩) ∧ Rest (fun _ => False) w wr)
    case atStart => exact ⟨0, none, Nat.zero_le _, rfl, rfl, h0.out, (Rest.alloc _ _ _).trans (Rest.alloc _ _ _) (fun _ _ => id) (fun _ _ => id)⟩
    case round =>
      clear h0 hmk
      obtain ⟨k, L, hk, rfl, rfl, hfr, hR⟩ := hrel
      by_cases hlt : k < m
      · have hlt2 : (k : Int) < m := by omega
        go_wp2_with fail
        refine (add_any k _ hfr.out hlt (by simp)).mono ?_
        rintro e w2 ⟨rfl, L2, -, hfr2, hR2⟩
        have HF := Lib.hid hfr2
        have HR := hR.trans (o3 := fun _ => False) hR2 (fun _ _ => id) (fun i hi hx => by have := hfr.out.from i hx; omega)
        clear hfr2 hR2 hR hfr
        go_wp2_with fail
        go_roundg (m - (k + 1))
        case measure => go_light; omega
        case rel => exact ⟨k + 1, L2, by omega, rfl, by go_num, by rw [List.range_succ]; exact HF.out, HR⟩
      · obtain rfl : k = m := by omega
        go_wp2_with fail
        go_ret
        exact ⟨_, rfl, hfr.out, hR⟩

end Go.Proofs.YtgnodijblleipaaDoor
