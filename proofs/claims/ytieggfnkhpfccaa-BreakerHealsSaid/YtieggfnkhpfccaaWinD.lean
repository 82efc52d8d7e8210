/- Window's Counts: what happened in all buckets that count. -/
import Derived.Test.YtieggfnkhpfccaaWinC
namespace Go.Proofs.Ytieggfnkhpfccaa
open Go.RowKit

theorem Try.sizeC16 : (Try.prog.info? 33).map (·.size) = some 2 := by kernel_rfl
theorem wcounts_nil (t : Int) (w : World) : Calls Try.prog 19 #[.pointer none, .int .i64 t] w fun e w' => e = .returned (.agg #[.int .i64 0, .int .i64 0]) ∧ Below w.heap.size w w' := by
  go_enter Try.func19, Try.ntmps19
  go_wp2_with fail
  have H1 := Lib.hid ((Held.start w).lay (.cells #[.int .i64 0, .int .i64 0] 33))
  generalize w.alloc (.cells #[.int .i64 0, .int .i64 0] 33) = w1 at H1 ⊢
  refine (wnone_nil w1).mono ?_
  rintro e w2 ⟨rfl, rfl⟩
  obtain ⟨c0, c1⟩ := two_cells (H1.out.get 0 rfl)
  have f0 : ∀ i, w1.frozen? ⟨w.heap.size, i, none⟩ = false := fun _ => frozen_of_row _ _ _ _ _ (H1.out.get 0 rfl)
  have H2 := Lib.hid (H1.out.two (.int .i64 0) (.int .i64 0))
  clear H1
  go_wp2_with fail
  exact bodyPost_ret (results_cell_row Try.results19 _ _ w.heap.size 33 _ (0, 0) _ rfl (H2.out.get 0 rfl) Try.underlying33 rfl Try.sizeC16) rfl ⟨rfl, H2.out.below⟩

set_option maxHeartbeats 2000000 in
/-- Counts. -/
theorem wcounts_any {P R n : Nat} {wd last : Int} {ev : List (Int × Bool)} (t : Int) (w : World) (h : Wv w P R n wd last ev) :
    Calls Try.prog 19 #[.pointer (some ⟨P, 0, none⟩), .int .i64 t] w fun e w' =>
      e = .returned (.agg #[.int .i64 (Wn.above ev (max last (Tk.clamp t / wd) - n) true), .int .i64 (Wn.above ev (max last (Tk.clamp t / wd) - n) false)]) ∧ Wv w' P R n wd (max last (Tk.clamp t / wd)) ev ∧ Rest (fun k => k = P ∨ k = R) w w' := by
  have hmt := fun w h => wmeet_ev (P := P) (R := R) (n := n) (wd := wd) (last := last) (ev := ev) t w h
  generalize max last (Tk.clamp t / wd) = m at hmt ⊢
  have hP := heap_lt h.win.win
  have hR := heap_lt h.win.row
  go_enter Try.func19, Try.ntmps19
  go_wp2_with fail
  have h1 := h.below (below_box w (.cells #[.int .i64 0, .int .i64 0] 33))
  have hb1 := heap_alloc_new w (.cells #[.int .i64 0, .int .i64 0] 33)
  have hr1 := Rest.alloc (fun k => k = P ∨ k = R) w (.cells #[.int .i64 0, .int .i64 0] 33)
  clear h
  generalize w.alloc (.cells #[.int .i64 0, .int .i64 0] 33) = w1 at h1 hb1 hr1 ⊢
  refine (wnone_any w1 h1.win).mono ?_
  rintro e w2 ⟨rfl, rfl⟩
  have H1 := Lib.hid h1
  have HB1 := Lib.hid hb1
  have HR1 := Lib.hid hr1
  clear h1 hb1 hr1
  go_wp2_with fail
  refine (hmt w1 H1.out).mono ?_
  rintro e w2 ⟨rfl, hw, hr⟩
  have H2 := Lib.hid hw
  have HR2 := Lib.hid (HR1.out.trans (o3 := fun k => k = P ∨ k = R) hr (fun _ _ => id) (fun _ _ => id))
  have HB2 := Lib.hid ((hr.block w.heap.size (heap_lt HB1.out) (fun e => by omega)).trans HB1.out)
  clear hmt H1 HB1 HR1 hw hr
  have hs2 : w.heap.size < w2.heap.size := heap_lt HB2.out
  have HL := Lib.hid ((Held.start w2).lay (.cells #[.int .i64 0, .int .i64 0] 33))
  obtain ⟨-, -, c2⟩ := H2.out.win.cells
  have c2' : (w2.alloc (.cells #[.int .i64 0, .int .i64 0] 33)).cell? ⟨P, 2, none⟩ = some (.slice (some ⟨R, 0, none⟩) n n) := (H2.out.below (below_box w2 _)).win.cells.2.2
  clear c2
  have HX := Lib.hid (fun i => And.intro (Wn.cnt_lo true (m - ((i : Nat) : Int)) ev) (Int.le_trans (Wn.cnt_hi true (m - ((i : Nat) : Int)) ev) (show ((ev.length : Nat) : Int) ≤ 1000000 by have := H2.out.few; omega)))
  have HY := Lib.hid (fun i => And.intro (Wn.cnt_lo false (m - ((i : Nat) : Int)) ev) (Int.le_trans (Wn.cnt_hi false (m - ((i : Nat) : Int)) ev) (show ((ev.length : Nat) : Int) ≤ 1000000 by have := H2.out.few; omega)))
  have hn16 := H2.out.win.few
  go_wp2_with fail
  generalize hS : w2.heap.size = s at HL hs2 ⊢
  generalize w2.alloc (.cells #[.int .i64 0, .int .i64 0] 33) = w3 at HL ⊢
  clear c2'
  go_loopg [7, 19] (17 : Nat) (fun gh _ s19 wx => ∃ k : Nat, s19 = .int .i64 k ∧ k ≤ n ∧ 17 - k ≤ gh ∧ Hid (Held w2 wx [(s, .cells #[.int .i64 (Wn.sumTo k fun i => Wn.cnt ev (m - i) true), .int .i64 (Wn.sumTo k fun i => Wn.cnt ev (m - i) false)] 33 (0, 0))]))
  case atStart => exact ⟨0, rfl, by omega, by omega, HL⟩
  case round =>
    obtain ⟨k, rfl, hk, hg, HI⟩ := hrel
    clear HL
    by_cases hkn : k < n
    · have hk' : (k : Int) < (n : Int) := by omega
      have hwk : IntKind.i64.wrap ((k : Int) + 1) = (k : Int) + 1 := by rw [IntKind.wrap_i64]; omega
      have hsx := Wn.sumTo_lo (k := k) (fun i _ => HX.out i)
      have hsy := Wn.sumTo_lo (k := k) (fun i _ => HY.out i)
      have hx := HX.out k
      have hy := HY.out k
      have HSX := Lib.hid (show Wn.sumTo (k + 1) (fun i => Wn.cnt ev (m - i) true) = Wn.sumTo k (fun i => Wn.cnt ev (m - i) true) + Wn.cnt ev (m - k) true from rfl)
      have HSY := Lib.hid (show Wn.sumTo (k + 1) (fun i => Wn.cnt ev (m - i) false) = Wn.sumTo k (fun i => Wn.cnt ev (m - i) false) + Wn.cnt ev (m - k) false from rfl)
      have hw := H2.out.below HI.out.below
      have x0 := hw.win.well hkn
      have y0 := hw.win.ill hkn
      generalize Wn.sumTo k (fun i => Wn.cnt ev (m - i) true) = S at hsx HSX HI
      generalize Wn.sumTo k (fun i => Wn.cnt ev (m - i) false) = T at hsy HSY HI
      generalize Wn.cnt ev (m - (k : Int)) true = x at hx HSX x0
      generalize Wn.cnt ev (m - (k : Int)) false = y at hy HSY y0
      have hwx : IntKind.i64.wrap (S + x) = S + x := by rw [IntKind.wrap_i64]; omega
      have hwy : IntKind.i64.wrap (T + y) = T + y := by rw [IntKind.wrap_i64]; omega
      have hb := HI.out.lay (.cells #[.int .i64 x, .int .i64 y] 33)
      obtain ⟨a0, a1⟩ := two_cells (hb.get 1 rfl)
      obtain ⟨b0, b1⟩ := two_cells (hb.get 0 rfl)
      have f0 : ∀ i, (wr.alloc (.cells #[.int .i64 x, .int .i64 y] 33)).frozen? ⟨s, i, none⟩ = false := fun _ => frozen_of_row _ _ _ _ _ (hb.get 1 rfl)
      have hb2 := hb.swap.one (.int .i64 (S + x))
      obtain ⟨-, a1'⟩ := two_cells (hb2.get 0 rfl)
      obtain ⟨-, b1'⟩ := two_cells (hb2.get 1 rfl)
      have f1 : ∀ i, ((wr.alloc (.cells #[.int .i64 x, .int .i64 y] 33)).setCell ⟨s, 0, none⟩ (.int .i64 (S + x))).frozen? ⟨s, i, none⟩ = false := fun _ => frozen_of_row _ _ _ _ _ (hb2.get 0 rfl)
      have HE := Lib.hid (hb2.one1 (.int .i64 (T + y)))
      clear hsx hsy hx hy hw hb hb2
      go_wp2_with fail
      go_roundg (17 - (k + 1))
      case measure => omega
      case rel =>
        refine ⟨k + 1, by go_num, by omega, by omega, ?_⟩
        rw [HSX.out, HSY.out]
        exact Lib.hid HE.out.but
    · obtain rfl : k = n := by omega
      have hk' : ¬(k : Int) < (k : Int) := by omega
      have hsa := Wn.sum_above true H2.out.old k
      have hsb := Wn.sum_above false H2.out.old k
      rw [hsa, hsb] at HI
      generalize hgS : Wn.above ev (m - (k : Int)) true = S at HI
      generalize hgT : Wn.above ev (m - (k : Int)) false = T at HI
      have HGS := Lib.hid hgS
      have HGT := Lib.hid hgT
      clear hgS hgT
      obtain ⟨a0, a1⟩ := two_cells (HI.out.get 0 rfl)
      have hr := (HI.out.below.block w.heap.size (heap_lt HB2.out)).trans HB2.out
      obtain ⟨b0, b1⟩ := two_cells hr
      have f0 : ∀ i, wr.frozen? ⟨w.heap.size, i, none⟩ = false := fun _ => frozen_of_row _ _ _ _ _ hr
      have hres : ((wr.setCell ⟨w.heap.size, 0, none⟩ (.int .i64 S)).setCell ⟨w.heap.size, 1, none⟩ (.int .i64 T)).heap[w.heap.size]? = some (.cells #[.int .i64 S, .int .i64 T] 33 (0, 0)) := heap_setCell_same _ _ 1 _ _ _ (heap_setCell_same _ _ 0 _ _ _ hr)
      have hrr : Rest (fun k => k = w.heap.size) wr ((wr.setCell ⟨w.heap.size, 0, none⟩ (.int .i64 S)).setCell ⟨w.heap.size, 1, none⟩ (.int .i64 T)) :=
        (Rest.setCell (own := fun k => k = w.heap.size) wr ⟨w.heap.size, 0, none⟩ (.int .i64 S) rfl).trans (o3 := fun k => k = w.heap.size) (Rest.setCell (own := fun k => k = w.heap.size) _ ⟨w.heap.size, 1, none⟩ (.int .i64 T) rfl) (fun _ _ => id) (fun _ _ => id)
      have HRES := Lib.hid hres
      have HRR := Lib.hid hrr
      have HW := Lib.hid ((H2.out.below HI.out.below).past hrr (fun e => by omega) (fun e => by omega))
      have HFR := Lib.hid ((HR2.out.trans (o3 := fun k => k = P ∨ k = R) (Rest.of_below (own := fun k => k = P ∨ k = R) HI.out.below) (fun _ _ => id) (fun _ _ => id)).trans (o3 := fun k => k = P ∨ k = R) hrr (fun _ _ => id) (fun i hi e => by omega))
      clear hr hres hrr hsa hsb
      go_wp2_with fail
      exact bodyPost_ret (results_cell_row Try.results19 _ _ w.heap.size 33 _ (0, 0) _ rfl HRES.out Try.underlying33 rfl Try.sizeC16) rfl ⟨by rw [HGS.out, HGT.out], HW.out, HFR.out⟩
end Go.Proofs.Ytieggfnkhpfccaa
