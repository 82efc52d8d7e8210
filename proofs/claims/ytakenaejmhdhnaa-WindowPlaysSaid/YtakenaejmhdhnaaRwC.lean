/- The document's own window: Counts. -/
import Derived.Test.YtakenaejmhdhnaaRwB
import Derived.Deep.LoopGhost
namespace Go.Proofs.Ytakenaejmhdhnaa
open Go.RowKit

theorem Try.sizeC16r : (Try.prog.info? 38).map (·.size) = some 2 := by kernel_rfl
theorem Wn.ats_at {ev : List (Int × Bool)} {k : Nat} (h : k < ev.length) : (Wn.ats ev)[k]? = some (.int .i64 ev[k].1) := by simp [Wn.ats, h]
theorem Wn.wls_at {ev : List (Int × Bool)} {k : Nat} (h : k < ev.length) : (Wn.wls ev)[k]? = some (.bool ev[k].2) := by simp [Wn.wls, h]

theorem Held.lay3 (w : World) (p q r : Obj) : Held w (((w.alloc p).alloc q).alloc r) [(w.heap.size + 1 + 1, r), (w.heap.size + 1, q), (w.heap.size, p)] := by
  have h := (((Held.start w).lay p).lay q).lay r
  have e1 : (w.alloc p).heap.size = w.heap.size + 1 := by simp
  have e2 : ((w.alloc p).alloc q).heap.size = w.heap.size + 1 + 1 := by simp
  rw [e1, e2] at h
  exact h

set_option maxHeartbeats 4000000 in
/-- Counts. -/
theorem rwcounts_any (n wd last : Int) (a a2 : Option Addr) (c c2 : Nat) (ev : List (Int × Bool)) (w : World) (hn : 0 ≤ n ∧ n ≤ 16) (hla : 0 ≤ last ∧ last ≤ 1099511627776) (h1 : Nl w 2 a c (Wn.ats ev)) (h2 : Nl w 4 a2 c2 (Wn.wls ev)) (hl : ev.length ≤ 1000) :
    Calls Try.prog 11 #[.agg #[.int .i64 n, .int .i64 wd, .int .i64 last, .slice a ev.length c, .slice a2 ev.length c2]] w fun e w' =>
      e = .returned (.agg #[.int .i64 (Wn.above ev (last - n) true), .int .i64 (Wn.above ev (last - n) false)]) ∧ Below w.heap.size w w' := by
  have hws : IntKind.i64.wrap (last - n) = last - n := by rw [IntKind.wrap_i64]; omega
  have HA := Lib.hid h1
  have HB := Lib.hid h2
  clear h1 h2
  go_enter Try.func11, Try.ntmps11
  go_wp2_with fail
  have H := Lib.hid (Held.lay3 w (.cells #[.int .i64 n, .int .i64 wd, .int .i64 last, .slice a ev.length c, .slice a2 ev.length c2] 29) (.cells #[.int .i64 0, .int .i64 0] 38) (.cells #[.int .i64 0, .int .i64 0] 38))
  generalize ((w.alloc (.cells #[.int .i64 n, .int .i64 wd, .int .i64 last, .slice a ev.length c, .slice a2 ev.length c2] 29)).alloc (.cells #[.int .i64 0, .int .i64 0] 38)).alloc (.cells #[.int .i64 0, .int .i64 0] 38) = w3 at H ⊢
  go_loopg [4] (1001 : Nat) (fun gh s4 wx => ∃ i : Nat, s4 = .int .i64 i ∧ i ≤ ev.length ∧ 1001 - i ≤ gh ∧ Hid (Held w wx [(w.heap.size + 1 + 1, .cells #[.int .i64 (Wn.above (ev.take i) (last - n) true), .int .i64 (Wn.above (ev.take i) (last - n) false)] 38 (0, 0)), (w.heap.size + 1, .cells #[.int .i64 0, .int .i64 0] 38 (0, 0)), (w.heap.size, .cells #[.int .i64 n, .int .i64 wd, .int .i64 last, .slice a ev.length c, .slice a2 ev.length c2] 29 (0, 0))]))
  case atStart => exact ⟨0, rfl, by omega, by omega, H⟩
  case round =>
    obtain ⟨i, rfl, hi, hg, HI⟩ := hrel
    clear H
    obtain ⟨z0, z1, z2, z3, z4⟩ := cells_five (HI.out.get 2 rfl)
    by_cases hil : i < ev.length
    · have hil' : (i : Int) < ((ev.length : Nat) : Int) := by omega
      have hwi : IntKind.i64.wrap ((i : Int) + 1) = (i : Int) + 1 := by rw [IntKind.wrap_i64]; omega
      have HT := Lib.hid (Wn.above_take true (last - n) hil)
      have HF := Lib.hid (Wn.above_take false (last - n) hil)
      have hS := And.intro (Wn.above_lo true (last - n) (ev.take i)) (Int.le_trans (Wn.above_hi true (last - n) (ev.take i)) (show ((ev.take i).length : Int) ≤ 1000 by rw [List.length_take]; omega))
      have hF := And.intro (Wn.above_lo false (last - n) (ev.take i)) (Int.le_trans (Wn.above_hi false (last - n) (ev.take i)) (show ((ev.take i).length : Int) ≤ 1000 by rw [List.length_take]; omega))
      obtain ⟨g, o, hga, hrow⟩ := (HA.out.below HI.out.below).some_ (by rw [Wn.ats_length]; omega)
      obtain ⟨g2, o2, hgb, hrow2⟩ := (HB.out.below HI.out.below).some_ (by rw [Wn.wls_length]; omega)
      have x0 := hrow.cell (Wn.ats_at hil)
      have y0 := hrow2.cell (Wn.wls_at hil)
      subst hga hgb
      have hgl := hrow.lt
      have hgl2 := hrow2.lt
      clear hrow hrow2
      generalize Wn.above (ev.take i) (last - n) true = S at HT hS HI
      generalize Wn.above (ev.take i) (last - n) false = F at HF hF HI
      generalize ev[i].1 = p at HT HF x0
      generalize ev[i].2 = v at HT HF y0
      have hwS : IntKind.i64.wrap (S + 1) = S + 1 := by rw [IntKind.wrap_i64]; omega
      have hwF : IntKind.i64.wrap (F + 1) = F + 1 := by rw [IntKind.wrap_i64]; omega
      clear hS hF
      have HY := Lib.hid (fun (wx : World) (hr : Rest (fun _ => False) wr wx) => (World.cell?_of_block (hr.block g2 hgl2 (fun x => x))).trans y0)
      clear hgl hgl2
      by_cases hp : p ≤ last - n
      · have hpd : decide (p ≤ last - n) = true := by simpa using hp
        go_wp2_with fail
        go_quiet (fail)
        have HQ := Lib.hid (HI.out.past (Rest.drewN (fun _ => False) wr nq) (fun _ _ => id) (fun _ h => h.elim))
        clear HI x0 y0 z0 z1 z2 z3 z4 HY
        generalize wr.drewN nq = wq at HQ ⊢
        go_wp2_with fail
        go_roundg (1001 - (i + 1))
        case measure => omega
        case rel =>
          refine ⟨i + 1, by go_num, by omega, by omega, ?_⟩
          rw [HT.out, HF.out, if_neg (by omega), if_neg (by omega), Int.add_zero, Int.add_zero]
          exact HQ
      · have hpd : decide (p ≤ last - n) = false := by simpa using hp
        go_wp2_with fail
        go_quiet (fail)
        have HQ := Lib.hid (HI.out.past (Rest.drewN (fun _ => False) wr nq) (fun _ _ => id) (fun _ h => h.elim))
        have y1 := HY.out _ (Rest.drewN (fun _ => False) wr nq)
        clear HI x0 y0 z0 z1 z2 z3 z4 HY
        generalize wr.drewN nq = wq at HQ y1 ⊢
        obtain ⟨-, -, -, -, z4⟩ := cells_five (HQ.out.get 2 rfl)
        obtain ⟨s0, s1⟩ := two_cells (HQ.out.get 0 rfl)
        have f0 : ∀ i, wq.frozen? ⟨w.heap.size + 1 + 1, i, none⟩ = false := fun _ => frozen_of_row _ _ _ _ _ (HQ.out.get 0 rfl)
        have HP := Lib.hid (show last - n < p by omega)
        clear hpd hp
        cases v
        · have HE := Lib.hid (HQ.out.one1 (.int .i64 (F + 1)))
          clear HQ s0 hwS
          go_wp2_with fail
          go_roundg (1001 - (i + 1))
          case measure => omega
          case rel =>
            refine ⟨i + 1, by go_num, by omega, by omega, ?_⟩
            rw [HT.out, HF.out, if_neg (by simp), if_pos ⟨HP.out, by simp⟩, Int.add_zero]
            exact HE
        · have HE := Lib.hid (HQ.out.one (.int .i64 (S + 1)))
          clear HQ s1 hwF
          go_wp2_with fail
          go_roundg (1001 - (i + 1))
          case measure => omega
          case rel =>
            refine ⟨i + 1, by go_num, by omega, by omega, ?_⟩
            rw [HT.out, HF.out, if_pos ⟨HP.out, by simp⟩, if_neg (by simp), Int.add_zero]
            exact HE
    · obtain rfl : i = ev.length := by omega
      rw [List.take_length] at HI
      have hil' : ¬((ev.length : Nat) : Int) < ((ev.length : Nat) : Int) := by omega
      obtain ⟨s0, s1⟩ := two_cells (HI.out.get 0 rfl)
      obtain ⟨r0, r1⟩ := two_cells (HI.out.get 1 rfl)
      have f1 : ∀ i, wr.frozen? ⟨w.heap.size + 1, i, none⟩ = false := fun _ => frozen_of_row _ _ _ _ _ (HI.out.get 1 rfl)
      have HE := Lib.hid (HI.out.swap.two (.int .i64 (Wn.above ev (last - n) true)) (.int .i64 (Wn.above ev (last - n) false)))
      clear HI
      go_wp2_with fail
      exact bodyPost_ret (results_cell_row Try.results11 _ _ (w.heap.size + 1) 38 _ (0, 0) _ rfl (HE.out.get 0 rfl) Try.underlying38 rfl Try.sizeC16r) rfl ⟨rfl, HE.out.below⟩
end Go.Proofs.Ytakenaejmhdhnaa
