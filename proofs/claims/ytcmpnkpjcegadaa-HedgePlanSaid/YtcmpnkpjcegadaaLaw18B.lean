/- HedgePlan: all hedges of a call, each so long behind the one ahead, ahead of its end, at most so many. -/
import Derived.Test.YtcmpnkpjcegadaaLaw18A
import Derived.Deep.CutBlock
namespace Go.Proofs.Ytcmpnkpjcegadaa
open Go.RowKit

set_option maxHeartbeats 4000000 in
set_option maxRecDepth 100000 in
/-- The law. -/
theorem hedplan_any (M A : Int) (k c s t g a r q v : Int) (su st : Bool) (b e : Int) (w : World) :
    Calls Try.prog 4 #[.agg #[.int .i64 M, .int .i64 A], .agg #[.int .i64 k, .int .i64 c, .int .i64 s, .int .i64 t, .int .i64 g, .int .u32 a, .int .i64 r, .bool su, .bool st, .int .i64 q, .int .u32 v], .agg #[.int .i64 b, .int .i64 e]] w fun x w' => x = .returned (.bool true) ∧ Below w.heap.size w w' := by
  have HMO := Lib.hid (fun w => hmost_any M A k c s t g a r q v su st w)
  have HPL := Lib.hid (hplan_any M A k c s t g a r q v su st b e)
  have hmh := Hd.most_hi M A su st
  generalize Hd.most M A su st = m at HMO HPL hmh
  have hA0 := Hd.At.start m A b e
  have hNm := Hd.num_le m A b e
  have HNF := Lib.hid (fun n (h : Hd.At m A b e n) => And.intro (fun hn => h.full hn) (And.intro (fun hl => h.late hl) (fun hn hl => h.more hn hl)))
  have HNG := Lib.hid (fun n (h : Hd.At m A b e n) => h.num_ge)
  generalize Hd.num m A b e = N at HPL hNm HNF HNG
  have HA0 := Lib.hid hA0
  clear hA0
  have HB := Lib.hid (fun w => rclamp_any b w)
  have HE := Lib.hid (fun w => rclamp_any e w)
  go_enter Try.func4, Try.ntmps4
  go_wp2_with fail
  have H := Lib.hid (Hd.boxes3 w (.cells #[.int .i64 M, .int .i64 A] 24) (.cells #[.int .i64 k, .int .i64 c, .int .i64 s, .int .i64 t, .int .i64 g, .int .u32 a, .int .i64 r, .bool su, .bool st, .int .i64 q, .int .u32 v] 27) (.cells #[.int .i64 b, .int .i64 e] 35))
  generalize ((w.alloc (.cells #[.int .i64 M, .int .i64 A] 24)).alloc (.cells #[.int .i64 k, .int .i64 c, .int .i64 s, .int .i64 t, .int .i64 g, .int .u32 a, .int .i64 r, .bool su, .bool st, .int .i64 q, .int .u32 v] 27)).alloc (.cells #[.int .i64 b, .int .i64 e] 35) = w1 at H ⊢
  refine (HPL.out _).mono ?_
  rintro x w2 ⟨sp, cp, rfl, hr, hb⟩
  have H2 := Lib.hid (H.out.call hb)
  have HR2 := Lib.hid hr
  clear hb hr H HPL
  obtain ⟨e0, e1⟩ := two_cells (H2.out.get 0 rfl)
  go_wp2_with fail
  refine (HB.out _).mono ?_
  rintro x w3 ⟨rfl, rfl⟩
  clear HB e0 e1
  go_upto_block 0 with fail
  go_cut [8, 9] (fun _ s9 wx => s9 = .int .i64 (N : Int) ∧ Hid (Held w wx [(w.heap.size + 1 + 1, .cells #[.int .i64 b, .int .i64 e] 35 (0, 0)), (w.heap.size + 1, .cells #[.int .i64 k, .int .i64 c, .int .i64 s, .int .i64 t, .int .i64 g, .int .u32 a, .int .i64 r, .bool su, .bool st, .int .i64 q, .int .u32 v] 27 (0, 0)), (w.heap.size, .cells #[.int .i64 M, .int .i64 A] 24 (0, 0))]))
  case first =>
    go_wp2_with fail
    go_loopg [8, 9] (15 : Nat) (fun gh s8 s9 wx => ∃ n : Nat, s8 = .int .i64 (Hd.it A b n) ∧ s9 = .int .i64 n ∧ 15 - n ≤ gh ∧ Hid (Hd.At m A b e n) ∧ Hid (Held w wx [(w.heap.size + 1 + 1, .cells #[.int .i64 b, .int .i64 e] 35 (0, 0)), (w.heap.size + 1, .cells #[.int .i64 k, .int .i64 c, .int .i64 s, .int .i64 t, .int .i64 g, .int .u32 a, .int .i64 r, .bool su, .bool st, .int .i64 q, .int .u32 v] 27 (0, 0)), (w.heap.size, .cells #[.int .i64 M, .int .i64 A] 24 (0, 0))]) ∧ Hid (Nl wx 22 sp cp (Hd.items A b N)))
    case atStart => exact ⟨0, rfl, rfl, by omega, HA0, H2, HR2⟩
    case round =>
      obtain ⟨n, rfl, rfl, hg, HI, HH, HR⟩ := hrel
      clear HA0 H2 HR2
      obtain ⟨c0, c1⟩ := two_cells (HH.out.get 2 rfl)
      obtain ⟨d0, d1, d2, d3, d4, d5, d6, d7, d8, d9, d10⟩ := frame_cells (HH.out.get 1 rfl)
      have hnm := HI.out.le
      obtain ⟨hf, hl, hmo⟩ := HNF.out n HI.out
      by_cases hn : n < m
      · have hn' : (n : Int) < (m : Int) := by omega
        have HRA := Lib.hid (show ∀ w, _ from fun w => rafter_any (Hd.it A b n) A w)
        have hia : Tk.after (Hd.it A b n) A = Hd.it A b (n + 1) := rfl
        rw [hia] at HRA
        clear hia hf
        have HL := Lib.hid hl
        have HM := Lib.hid (hmo hn)
        clear hl hmo
        go_wp2_with fail
        refine (HMO.out _).mono ?_
        rintro x w4 ⟨rfl, hb⟩
        have HH4 := Lib.hid (HH.out.call hb)
        have HR4 := Lib.hid (HR.out.past (Rest.of_below (own := fun _ => False) hb) (fun _ _ => id))
        clear hb HH HR c0 c1 d0 d1 d2 d3 d4 d5 d6 d7 d8 d9 d10
        obtain ⟨c0, c1⟩ := two_cells (HH4.out.get 2 rfl)
        obtain ⟨e0, e1⟩ := two_cells (HH4.out.get 0 rfl)
        go_wp2_with fail
        refine (HRA.out _).mono ?_
        rintro x w5 ⟨rfl, rfl⟩
        go_wp2_with fail
        refine (HE.out _).mono ?_
        rintro x w5 ⟨rfl, rfl⟩
        by_cases hle : Tk.clamp e ≤ Hd.it A b (n + 1)
        · have HN := Lib.hid (HL.out hle)
          go_wp2_with fail
          go_meet
          case rel => exact ⟨congrArg (Value.int .i64) (by rw [HN.out]), HH4⟩
        · have hat := HM.out (by omega)
          have hge := HNG.out _ hat
          have HAT := Lib.hid hat
          clear hat
          obtain ⟨gg, o, rfl, hrow⟩ := HR4.out.some_ (by rw [Hd.items_length]; omega)
          have x0 := hrow.cell (Hd.items_at A b (show n < N by omega))
          have hnN : (n : Int) < (N : Int) := by omega
          have hnN' : ¬(N : Int) ≤ (n : Int) := by omega
          have hw : IntKind.i64.wrap ((n : Int) + 1) = (n : Int) + 1 := by rw [IntKind.wrap_i64]; omega
          have hne : (Hd.it A b (n + 1) != Hd.it A b (n + 1)) = false := by simp
          clear hrow c0 c1 e0 e1 HL HM HRA
          go_wp2_with fail
          go_roundg (15 - (n + 1))
          case measure => omega
          case rel => exact ⟨n + 1, rfl, by go_num, by omega, HAT, HH4, HR4⟩
      · have hn' : ¬(n : Int) < (m : Int) := by omega
        have HN := Lib.hid (hf (by omega))
        clear hf hl hmo
        go_wp2_with fail
        refine (HMO.out _).mono ?_
        rintro x w4 ⟨rfl, hb⟩
        have HH4 := Lib.hid (HH.out.call hb)
        clear hb HH c0 c1 d0 d1 d2 d3 d4 d5 d6 d7 d8 d9 d10
        go_wp2_with fail
        go_meet
        case rel => exact ⟨congrArg (Value.int .i64) (by rw [HN.out]), HH4⟩
  case rest =>
  obtain ⟨rfl, HH⟩ := hcut
  clear H2 HA0 HR2
  go_wp2_with fail
  refine (awake18_any _).mono ?_
  rintro x w4 ⟨rfl, hb⟩
  have HB := Lib.hid (on HH.out.below hb)
  clear hb HH
  have hNN : ((N : Int) == N) = true := by simp
  go_wp2_with fail
  go_ret
  exact ⟨rfl, HB.out⟩
end Go.Proofs.Ytcmpnkpjcegadaa
