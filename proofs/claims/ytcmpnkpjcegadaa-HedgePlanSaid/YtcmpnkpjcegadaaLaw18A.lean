/- HedgeNext: when the next hedge is sent, and how many there may be. -/
import Derived.Test.YtcmpnkpjcegadaaHdA
import Derived.RegionTactic
import Derived.BigRegion
namespace Go.Proofs.Ytcmpnkpjcegadaa
open Go.RowKit

set_option maxHeartbeats 2000000 in
set_option maxRecDepth 100000 in
/-- Two hedges. -/
theorem awake18_any (w : World) : Calls Try.prog 7 #[] w fun e w' => e = .returned (.bool true) ∧ Below w.heap.size w w' := by
  have hpl := hplan_any 2 4 0 0 0 0 0 0 0 0 0 false false 0 100 w
  rw [show Hd.num (Hd.most 2 4 false false) 4 0 100 = 2 by decide, show Hd.items 4 0 2 = [.int .i64 4, .int .i64 8] by rfl] at hpl
  have hmo := fun w => hmost_any 2 4 0 0 0 0 0 0 0 0 0 true false w
  rw [Hd.most_sure] at hmo
  have HMO := Lib.hid hmo
  clear hmo
  go_enter Try.func7, Try.ntmps7
  go_wp2_with fail
  refine hpl.mono ?_
  rintro e w1 ⟨sp, cp, rfl, hr, hb⟩
  obtain ⟨g, o, rfl, hrow⟩ := hr.some_ (by decide)
  have c0 : w1.cell? ⟨g, o, none⟩ = some (.int .i64 4) := hrow.cell (j := 0) rfl
  have c1 : w1.cell? ⟨g, o + 1, none⟩ = some (.int .i64 8) := hrow.cell (j := 1) rfl
  have HB := Lib.hid hb
  clear hb hr hrow hpl
  go_wp2_with fail
  refine (HMO.out _).mono ?_
  rintro e w2 ⟨rfl, hb⟩
  have HB2 := Lib.hid (on HB.out hb)
  clear hb HB
  go_wp2_with fail
  go_ret
  exact ⟨rfl, HB2.out⟩

/-- Three cells of a block. -/
theorem three_of {w : World} {B : Nat} {t : TypeId} {c0 c1 c2 : Value} (h : w.heap[B]? = some (.cells #[c0, c1, c2] t (0, 0))) : w.cell? ⟨B, 0, none⟩ = some c0 ∧ w.cell? ⟨B, 1, none⟩ = some c1 ∧ w.cell? ⟨B, 2, none⟩ = some c2 :=
  ⟨cell_of_row _ _ _ _ _ _ h, cell_of_row _ _ _ _ _ _ h, cell_of_row _ _ _ _ _ _ h⟩
theorem Hd.boxes3 (w : World) (o o' o'' : Obj) : Held w (((w.alloc o).alloc o').alloc o'') [(w.heap.size + 1 + 1, o''), (w.heap.size + 1, o'), (w.heap.size, o)] := by
  have := (Hd.boxes w o o').lay o''
  simpa using this
theorem Hd.most_is (M A : Int) (su st : Bool) : ((Hd.most M A su st : Nat) : Int) = if (su || st || decide (Tk.clamp A = 0)) = true then 0 else min (max M 0) 14 := by
  cases su
  · cases st
    · by_cases h : Tk.clamp A = 0
      · rw [Hd.most_zero M h]; simp [h]
      · rw [Hd.most_some M h]; simp [h]
    · rw [Hd.most_stream]; rfl
  · rw [Hd.most_sure]; rfl

set_option maxHeartbeats 4000000 in
set_option maxRecDepth 100000 in
/-- The law. -/
theorem hednext_any (M A : Int) (k c s t g a r q v : Int) (su st : Bool) (n l e : Int) (w : World) :
    Calls Try.prog 3 #[.agg #[.int .i64 M, .int .i64 A], .agg #[.int .i64 k, .int .i64 c, .int .i64 s, .int .i64 t, .int .i64 g, .int .u32 a, .int .i64 r, .bool su, .bool st, .int .i64 q, .int .u32 v], .agg #[.int .i64 n, .int .i64 l, .int .i64 e]] w fun x w' => x = .returned (.bool true) ∧ Below w.heap.size w w' := by
  have HMO := Lib.hid (fun w => hmost_any M A k c s t g a r q v su st w)
  have HNX := Lib.hid (fun w => hnext_any M A k c s t g a r q v su st n l e w)
  have HI := Lib.hid (Hd.most_is M A su st)
  have HC := Lib.hid (fun w => rclamp_any A w)
  go_enter Try.func3, Try.ntmps3
  go_upto_region 1 with fail
  have H := Lib.hid (Hd.boxes3 w (.cells #[.int .i64 M, .int .i64 A] 24) (.cells #[.int .i64 k, .int .i64 c, .int .i64 s, .int .i64 t, .int .i64 g, .int .u32 a, .int .i64 r, .bool su, .bool st, .int .i64 q, .int .u32 v] 27) (.cells #[.int .i64 n, .int .i64 l, .int .i64 e] 28))
  generalize ((w.alloc (.cells #[.int .i64 M, .int .i64 A] 24)).alloc (.cells #[.int .i64 k, .int .i64 c, .int .i64 s, .int .i64 t, .int .i64 g, .int .u32 a, .int .i64 r, .bool su, .bool st, .int .i64 q, .int .u32 v] 27)).alloc (.cells #[.int .i64 n, .int .i64 l, .int .i64 e] 28) = w1 at H ⊢
  obtain ⟨c0, c1⟩ := two_cells (H.out.get 2 rfl)
  go_cut [7] (fun s7 wx => s7 = .int .i64 (min (max M 0) 14) ∧ w1 = wx)
  case first =>
    go_wp2_with fail
    all_goals
      go_meet
      case rel => exact ⟨congrArg (Value.int .i64) (by omega), rfl⟩
  case rest =>
  obtain ⟨rfl, rfl⟩ := hcut
  generalize min (max M 0) 14 = m0 at HI ⊢
  clear c0
  obtain ⟨-, -, -, -, -, -, -, d7, d8, -⟩ := frame_cells (H.out.get 1 rfl)
  go_upto_region 2 with fail
  generalize hz : decide (Tk.clamp A = 0) = zb at HI
  go_cut [27] (fun s27 wx => s27 = .bool (su || st || zb) ∧ w1 = wx)
  case first =>
    have HZ := Lib.hid hz
    clear hz
    cases su
    · cases st
      · go_wp2_with fail
        refine (HC.out _).mono ?_
        rintro x w2 ⟨rfl, rfl⟩
        go_wp2_with fail
        go_meet
        case rel => exact ⟨congrArg Value.bool (by rw [← HZ.out]; rfl), rfl⟩
      · go_wp2_with fail
        go_meet
        case rel => exact ⟨rfl, rfl⟩
    · go_wp2_with fail
      go_meet
      case rel => exact ⟨rfl, rfl⟩
  case rest =>
  obtain ⟨rfl, rfl⟩ := hcut
  clear hz HC
  generalize (su || st || zb) = T at HI ⊢
  go_upto_if 27 with fail
  go_cut [7] (fun s7 wx => s7 = .int .i64 ((Hd.most M A su st : Nat) : Int) ∧ w1 = wx)
  case first =>
    cases T
    · go_wp2_with fail
      go_meet
      case rel => exact ⟨congrArg (Value.int .i64) (by rw [HI.out]; rfl), rfl⟩
    · go_wp2_with fail
      go_meet
      case rel => exact ⟨congrArg (Value.int .i64) (by rw [HI.out]; rfl), rfl⟩
  case rest =>
  obtain ⟨rfl, rfl⟩ := hcut
  clear HI
  have hmh := Hd.most_hi M A su st
  generalize Hd.most M A su st = m at HMO HNX hmh ⊢
  obtain ⟨e0, e1, e2⟩ := three_of (H.out.get 0 rfl)
  clear d7 d8
  go_wp2_with fail
  go_quiet (fail)
  have HQ := Lib.hid (H.out.past (Rest.drewN (fun _ => False) w1 nq) (fun _ _ => id) (fun _ h => h.elim))
  clear H c1 e0 e1 e2
  generalize w1.drewN nq = wq at HQ ⊢
  obtain ⟨c0, c1⟩ := two_cells (HQ.out.get 2 rfl)
  have HR := Lib.hid (fun w => rclamp_any e w)
  have hn : Hd.next m A n l e = if decide (n < 0 ∨ (m : Int) ≤ n ∨ Tk.clamp e ≤ Tk.after l A) = true then 1099511627776 else Tk.after l A := by unfold Hd.next; simp only [decide_eq_true_eq]
  have HRA := Lib.hid (fun w => rafter_any l A w)
  generalize Hd.next m A n l e = x at HNX hn
  generalize Tk.after l A = z at HRA hn
  generalize Tk.clamp e = y at HR hn
  have HN := Lib.hid hn
  clear hn
  go_wp2_with fail
  refine (HRA.out _).mono ?_
  rintro x w2 ⟨rfl, rfl⟩
  clear HRA c0 c1
  go_upto_region 6 with fail
  go_cut [50] (fun s50 wx => s50 = .bool (decide (n < 0 ∨ (m : Int) ≤ n ∨ y ≤ z)) ∧ wq = wx)
  case first =>
    by_cases h0 : n < 0
    · have HD := Lib.hid (decide_eq_true (show n < 0 ∨ (m : Int) ≤ n ∨ y ≤ z by omega))
      go_wp2_with fail
      go_meet
      case rel => exact ⟨congrArg Value.bool HD.out.symm, rfl⟩
    by_cases h1 : (m : Int) ≤ n
    · have HD := Lib.hid (decide_eq_true (show n < 0 ∨ (m : Int) ≤ n ∨ y ≤ z by omega))
      go_wp2_with fail
      go_meet
      case rel => exact ⟨congrArg Value.bool HD.out.symm, rfl⟩
    have HD := Lib.hid (show decide (n < 0 ∨ (m : Int) ≤ n ∨ y ≤ z) = decide (y ≤ z) by by_cases h : y ≤ z <;> simp [h, h0, h1])
    go_wp2_with fail
    refine (HR.out _).mono ?_
    rintro x w2 ⟨rfl, rfl⟩
    go_wp2_with fail
    go_meet
    case rel => exact ⟨congrArg Value.bool HD.out.symm, rfl⟩
  case rest =>
  obtain ⟨rfl, rfl⟩ := hcut
  clear HR
  generalize decide (n < 0 ∨ (m : Int) ≤ n ∨ y ≤ z) = T at HN ⊢
  go_upto_if 50 with fail
  go_cut [11] (fun s11 wx => s11 = .int .i64 x ∧ wq = wx)
  case first =>
    cases T
    · go_wp2_with fail
      go_meet
      case rel => exact ⟨congrArg (Value.int .i64) (by rw [HN.out]; rfl), rfl⟩
    · go_wp2_with fail
      go_meet
      case rel => exact ⟨congrArg (Value.int .i64) (by rw [HN.out]; rfl), rfl⟩
  case rest =>
  obtain ⟨rfl, rfl⟩ := hcut
  clear HN
  go_wp2_with fail
  refine (awake18_any _).mono ?_
  rintro x w2 ⟨rfl, hb⟩
  have H2 := Lib.hid (HQ.out.call hb)
  clear hb HQ
  obtain ⟨c0, c1⟩ := two_cells (H2.out.get 2 rfl)
  obtain ⟨d0, d1, d2, d3, d4, d5, d6, d7, d8, d9, d10⟩ := frame_cells (H2.out.get 1 rfl)
  go_wp2_with fail
  refine (HMO.out _).mono ?_
  rintro x w3 ⟨rfl, hb⟩
  have H3 := Lib.hid (H2.out.call hb)
  clear hb H2 c0 c1 d0 d1 d2 d3 d4 d5 d6 d7 d8 d9 d10
  obtain ⟨c0, c1⟩ := two_cells (H3.out.get 2 rfl)
  obtain ⟨d0, d1, d2, d3, d4, d5, d6, d7, d8, d9, d10⟩ := frame_cells (H3.out.get 1 rfl)
  have hmm : ((m : Int) == m) = true := by simp
  go_wp2_with fail
  refine (HNX.out _).mono ?_
  rintro x' w4 ⟨rfl, hb⟩
  have H4 := Lib.hid (H3.out.call hb)
  clear hb H3 c0 c1 d0 d1 d2 d3 d4 d5 d6 d7 d8 d9 d10
  have hxx : (x == x) = true := by simp
  go_wp2_with fail
  go_ret
  exact ⟨rfl, H4.out.below⟩
end Go.Proofs.Ytcmpnkpjcegadaa
