/- AlarmAsks: an alarm that may be is asked for by a frame, and that frame's alarm; others are not asked for; other frames ask for none. -/
import Derived.Test.YtebaipakjomenaaLaw14A
import Derived.Deep.CutBlock
namespace Go.Proofs.Ytebaipakjomenaa
open Go.RowKit

/-- The time that was told comes back. -/
theorem told_back {A : Int} (h0 : 0 ≤ A) (h1 : A < 1099511627776) : A / 4294967296 % 256 * 4294967296 + A % 4294967296 = A := by omega

/-- The law's own alarm, laid behind the one that came in. -/
theorem asks_held (w : World) (o o' : Obj) : Held w ((w.alloc o).alloc o') [(w.heap.size + 1, o'), (w.heap.size, o)] := by
  have := ((Held.start w).lay o).lay o'
  simpa using this

set_option maxRecDepth 100000 in
set_option maxHeartbeats 4000000 in
/-- The law. -/
theorem asks_any (a0 a1 a2 a3 a4 odd : Int) (w : World) :
    Calls Try.prog 3 #[.agg #[.int .i64 a0, .int .i64 a1, .int .i64 a2, .int .i64 a3, .int .i64 a4], .int .i64 odd] w fun e w' => e = .returned (.bool true) ∧ Below w.heap.size w w' := by
  have m0 : bits .and .i64 a0 1099511627775 = a0 % 1099511627776 := i64_low a0 40 (by omega)
  have m1 := low3 a1
  have m2 := low15 a2
  have m3 := low16 a3
  have m4 := low255 a4
  have m5 : (a4 % 256).tmod 3 = a4 % 256 % 3 := Int.tmod_eq_emod_of_nonneg (by omega)
  have m6 : IntKind.i64.wrap (a3 % 65536 + 1) = a3 % 65536 + 1 := by rw [IntKind.wrap_i64]; omega
  have m7 : IntKind.i64.wrap (a4 % 256 % 3 + 1) = a4 % 256 % 3 + 1 := by rw [IntKind.wrap_i64]; omega
  obtain ⟨o, ho⟩ : ∃ o, o = odd % 16 := ⟨_, rfl⟩
  have m8 : bits .and .i64 odd 15 = o := by rw [low15, ho]
  clear ho
  go_enter Try.func3, Try.ntmps3
  go_upto_block 0 with fail
  go_cut [5] (fun s5 wx => s5 = .pointer (some ⟨w.heap.size + 1, 0, none⟩) ∧ ∃ A C S G X : Int, Hid (Held w wx [(w.heap.size + 1, .cells #[.int .i64 A, .int .i64 C, .int .i64 S, .int .i64 G, .int .i64 X] 24 (0, 0)), (w.heap.size, .cells #[.int .i64 a0, .int .i64 a1, .int .i64 a2, .int .i64 a3, .int .i64 a4] 24 (0, 0))]))
  case first =>
    rcases (show o = 0 ∨ o = 1 ∨ o = 2 ∨ o = 3 ∨ o = 4 ∨ (o ≠ 0 ∧ o ≠ 1 ∧ o ≠ 2 ∧ o ≠ 3 ∧ o ≠ 4) by omega) with e | e | e | e | e | ⟨e1, e2, e3, e4, e5⟩
    · subst e
      go_wp2_with fail
      go_meet
      case rel => exact ⟨rfl, _, _, _, _, _, Lib.hid (asks_held w _ _)⟩
    · subst e
      go_wp2_with fail
      go_meet
      case rel => exact ⟨rfl, _, _, _, _, _, Lib.hid (asks_held w _ _)⟩
    · subst e
      go_wp2_with fail
      go_meet
      case rel => exact ⟨rfl, _, _, _, _, _, Lib.hid (asks_held w _ _)⟩
    · subst e
      go_wp2_with fail
      go_meet
      case rel => exact ⟨rfl, _, _, _, _, _, Lib.hid (asks_held w _ _)⟩
    · subst e
      go_wp2_with fail
      go_meet
      case rel => exact ⟨rfl, _, _, _, _, _, Lib.hid (asks_held w _ _)⟩
    · have q0 : (o == 0) = false := by simpa using e1
      have q1 : (o == 1) = false := by simpa using e2
      have q2 : (o == 2) = false := by simpa using e3
      have q3 : (o == 3) = false := by simpa using e4
      have q4 : (o == 4) = false := by simpa using e5
      go_wp2_with fail
      go_meet
      case rel => exact ⟨rfl, _, _, _, _, _, Lib.hid (asks_held w _ _)⟩
  case rest =>
  obtain ⟨rfl, A, C, S, G, X, HH⟩ := hcut
  clear m0 m1 m2 m3 m4 m5 m6 m7 m8
  go_upto_region 13 with fail
  go_cut [6] (fun s6 wx => s6 = .bool (decide (Al.May A C S G X)) ∧ wc = wx)
  case first =>
    obtain ⟨x0, x1, x2, x3, x4⟩ := alarm_cells (HH.out.get 0 rfl)
    by_cases n0 : 0 ≤ A
    rotate_left
    · have hd := Lib.hid (decide_eq_false (show ¬ Al.May A C S G X from fun h => by unfold Al.May at h; omega))
      go_wp2_with fail
      go_meet
      case rel => exact ⟨by rw [hd.out], rfl⟩
    by_cases n1 : A < 1099511627776
    rotate_left
    · have hd := Lib.hid (decide_eq_false (show ¬ Al.May A C S G X from fun h => by unfold Al.May at h; omega))
      go_wp2_with fail
      go_meet
      case rel => exact ⟨by rw [hd.out], rfl⟩
    by_cases n2 : 1 ≤ X
    rotate_left
    · have hd := Lib.hid (decide_eq_false (show ¬ Al.May A C S G X from fun h => by unfold Al.May at h; omega))
      go_wp2_with fail
      go_meet
      case rel => exact ⟨by rw [hd.out], rfl⟩
    by_cases n3 : X ≤ 3
    rotate_left
    · have hd := Lib.hid (decide_eq_false (show ¬ Al.May A C S G X from fun h => by unfold Al.May at h; omega))
      go_wp2_with fail
      go_meet
      case rel => exact ⟨by rw [hd.out], rfl⟩
    by_cases n4 : 0 ≤ C
    rotate_left
    · have hd := Lib.hid (decide_eq_false (show ¬ Al.May A C S G X from fun h => by unfold Al.May at h; omega))
      go_wp2_with fail
      go_meet
      case rel => exact ⟨by rw [hd.out], rfl⟩
    by_cases n5 : C < 4
    rotate_left
    · have hd := Lib.hid (decide_eq_false (show ¬ Al.May A C S G X from fun h => by unfold Al.May at h; omega))
      go_wp2_with fail
      go_meet
      case rel => exact ⟨by rw [hd.out], rfl⟩
    by_cases n6 : 0 ≤ S
    rotate_left
    · have hd := Lib.hid (decide_eq_false (show ¬ Al.May A C S G X from fun h => by unfold Al.May at h; omega))
      go_wp2_with fail
      go_meet
      case rel => exact ⟨by rw [hd.out], rfl⟩
    by_cases n7 : S < 16
    rotate_left
    · have hd := Lib.hid (decide_eq_false (show ¬ Al.May A C S G X from fun h => by unfold Al.May at h; omega))
      go_wp2_with fail
      go_meet
      case rel => exact ⟨by rw [hd.out], rfl⟩
    by_cases n8 : 1 ≤ G
    rotate_left
    · have hd := Lib.hid (decide_eq_false (show ¬ Al.May A C S G X from fun h => by unfold Al.May at h; omega))
      go_wp2_with fail
      go_meet
      case rel => exact ⟨by rw [hd.out], rfl⟩
    by_cases n9 : G ≤ 16777215
    rotate_left
    · have hd := Lib.hid (decide_eq_false (show ¬ Al.May A C S G X from fun h => by unfold Al.May at h; omega))
      go_wp2_with fail
      go_meet
      case rel => exact ⟨by rw [hd.out], rfl⟩
    have hd := Lib.hid (decide_eq_true (show Al.May A C S G X from by unfold Al.May; omega))
    go_wp2_with fail
    go_meet
    case rel => exact ⟨by rw [hd.out], rfl⟩
  case rest =>
  obtain ⟨rfl, rfl⟩ := hcut
  by_cases hM : Al.May A C S G X
  · rw [decide_eq_true hM]
    have hb0 := hM.1.1
    have hb1 := hM.1.2
    have HM := Lib.hid hM
    clear hM
    obtain ⟨x0, x1, x2, x3, x4⟩ := alarm_cells (HH.out.get 0 rfl)
    go_wp2_with fail
    refine (ask_yes A C S G X HM.out _).mono ?_
    rintro e w2 ⟨rfl, hb⟩
    clear x0 x1 x2 x3 x4
    have HH := Lib.hid ((HH.out.call hb).lay (.cells #[.int .i64 9, .int .i64 C, .int .i64 0, .int .i64 S, .int .i64 G, .int .u32 0, .int .i64 X, .bool false, .bool false, .int .i64 (A / 4294967296), .int .u32 (A % 4294967296)] 27))
    clear hb
    go_wp2_with fail
    generalize w2.alloc _ = w3 at HH ⊢
    generalize w2.heap.size = b7 at HH ⊢
    have hof := of_yes C 0 S G 0 X (A / 4294967296) (A % 4294967296) false false (by omega) (by rw [told_back hb0 hb1]; exact HM.out) w3
    rw [told_back hb0 hb1] at hof
    refine hof.mono ?_
    rintro e w4 ⟨rfl, hb⟩
    clear hof
    have HH := Lib.hid ((HH.out.call hb).lay (.cells #[.int .i64 A, .int .i64 C, .int .i64 S, .int .i64 G, .int .i64 X] 24))
    clear hb
    go_upto_region 16 with fail
    generalize w4.alloc _ = w5 at HH ⊢
    generalize w4.heap.size = b9 at HH ⊢
    obtain ⟨f0, f1, f2, f3, f4, f5, f6, f7, f8, f9, f10⟩ := frame_cells (HH.out.get 1 rfl)
    go_wp2_with fail
    refine (of_no 10 C 0 S G 0 X (A / 4294967296) (A % 4294967296) false false (by omega) (fun h => absurd h.1 (by decide)) _).mono ?_
    rintro e w6 ⟨rfl, hb⟩
    clear f0 f1 f2 f3 f4 f5 f6 f7 f8 f9 f10
    have HH := Lib.hid (((HH.out.lay (.cells #[.int .i64 10, .int .i64 C, .int .i64 0, .int .i64 S, .int .i64 G, .int .u32 0, .int .i64 X, .bool false, .bool false, .int .i64 (A / 4294967296), .int .u32 (A % 4294967296)] 27)).call hb).lay (.cells #[.int .i64 0, .int .i64 0, .int .i64 0, .int .i64 0, .int .i64 0] 24))
    clear hb
    go_wp2_with fail
    generalize w6.alloc _ = w7 at HH ⊢
    refine (awake14_any _).mono ?_
    rintro e w8 ⟨rfl, hb⟩
    have HH := Lib.hid (HH.out.call hb)
    clear hb
    obtain ⟨x0, x1, x2, x3, x4⟩ := alarm_cells (HH.out.get 4 rfl)
    go_wp2_with fail
    refine (amay_yes A C S G X HM.out _).mono ?_
    rintro e w9 ⟨rfl, hb⟩
    have HH := Lib.hid (HH.out.call hb)
    clear hb x0 x1 x2 x3 x4
    obtain ⟨x0, x1, x2, x3, x4⟩ := alarm_cells (HH.out.get 4 rfl)
    obtain ⟨y0, y1, y2, y3, y4⟩ := alarm_cells (HH.out.get 2 rfl)
    obtain ⟨f0, -, -, -, -, -, f6, -, -, -, -⟩ := frame_cells (HH.out.get 3 rfl)
    go_wp2
    go_ret
    exact ⟨rfl, HH.out.below⟩
  · rw [decide_eq_false hM]
    have HM := Lib.hid hM
    clear hM
    obtain ⟨x0, x1, x2, x3, x4⟩ := alarm_cells (HH.out.get 0 rfl)
    go_wp2_with fail
    refine (ask_no A C S G X HM.out _).mono ?_
    rintro e w2 ⟨rfl, hb⟩
    clear x0 x1 x2 x3 x4
    have HH := Lib.hid ((HH.out.call hb).lay (.cells #[.int .i64 0, .int .i64 0, .int .i64 0, .int .i64 0, .int .i64 0, .int .u32 0, .int .i64 0, .bool false, .bool false, .int .i64 0, .int .u32 0] 27))
    clear hb
    go_wp2_with fail
    generalize w2.alloc _ = w3 at HH ⊢
    generalize w2.heap.size = b7 at HH ⊢
    refine (of_no 0 0 0 0 0 0 0 0 0 false false (by decide) (fun h => absurd h.1 (by decide)) w3).mono ?_
    rintro e w4 ⟨rfl, hb⟩
    have HH := Lib.hid ((HH.out.call hb).lay (.cells #[.int .i64 0, .int .i64 0, .int .i64 0, .int .i64 0, .int .i64 0] 24))
    clear hb
    go_upto_region 16 with fail
    generalize w4.alloc _ = w5 at HH ⊢
    generalize w4.heap.size = b9 at HH ⊢
    obtain ⟨f0, f1, f2, f3, f4, f5, f6, f7, f8, f9, f10⟩ := frame_cells (HH.out.get 1 rfl)
    go_wp2_with fail
    refine (of_no 10 0 0 0 0 0 0 0 0 false false (by decide) (fun h => absurd h.1 (by decide)) _).mono ?_
    rintro e w6 ⟨rfl, hb⟩
    clear f0 f1 f2 f3 f4 f5 f6 f7 f8 f9 f10
    have HH := Lib.hid (((HH.out.lay (.cells #[.int .i64 10, .int .i64 0, .int .i64 0, .int .i64 0, .int .i64 0, .int .u32 0, .int .i64 0, .bool false, .bool false, .int .i64 0, .int .u32 0] 27)).call hb).lay (.cells #[.int .i64 0, .int .i64 0, .int .i64 0, .int .i64 0, .int .i64 0] 24))
    clear hb
    go_wp2_with fail
    generalize w6.alloc _ = w7 at HH ⊢
    refine (awake14_any _).mono ?_
    rintro e w8 ⟨rfl, hb⟩
    have HH := Lib.hid (HH.out.call hb)
    clear hb
    obtain ⟨x0, x1, x2, x3, x4⟩ := alarm_cells (HH.out.get 4 rfl)
    go_wp2_with fail
    refine (amay_no A C S G X HM.out _).mono ?_
    rintro e w9 ⟨rfl, hb⟩
    have HH := Lib.hid (HH.out.call hb)
    clear hb x0 x1 x2 x3 x4
    go_wp2
    go_ret
    exact ⟨rfl, HH.out.below⟩
end Go.Proofs.Ytebaipakjomenaa
