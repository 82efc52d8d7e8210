/- RouteLeast: who has the least to do, and may take more; of these the first. -/
import Derived.Test.YtdjbmpchaedefaaRtB
import Derived.BigQuiet
import Derived.Deep.QuietTactic
namespace Go.Proofs.Ytdjbmpchaedefaa
open Go.RowKit

set_option maxHeartbeats 1000000 in
/-- In order. -/
theorem awake24_any (w : World) : Calls Try.prog 7 #[] w fun e w' => e = .returned (.bool true) ∧ Below w.heap.size w w' := by
  have L1 := fun (w : World) => rtleast_any (c := 3) 3 (w.alloc (.cells #[.int .i64 2, .int .i64 1, .int .i64 1] 3)) (Nums.of_block (l := [2, 1, 1]) (heap_alloc_new w _) rfl (by decide)) (by decide)
  have L2 := fun (w : World) => rtleast_any (c := 1) 3 (w.alloc (.cells #[.int .i64 3] 3)) (Nums.of_block (l := [3]) (heap_alloc_new w _) rfl (by decide)) (by decide)
  have L3 := fun (w : World) => rteven_any (c := 2) (b := true) (by unfold Rt.even; decide) (w.alloc (.cells #[.int .i64 1, .int .i64 2] 3)) (Nums.of_block (l := [1, 2]) (heap_alloc_new w _) rfl (by decide)) (by decide)
  have b1 : Rt.ans (Rt.best (fun i => [(2 : Int), 1, 1].getD i 0) 3 3) = 1 := by decide
  have b2 : Rt.ans (Rt.best (fun i => [(3 : Int)].getD i 0) 3 1) = -1 := by decide
  simp only [List.length] at L1 L2 L3
  have L1 := Lib.hid L1
  have L2 := Lib.hid L2
  have L3 := Lib.hid L3
  have HB := Lib.hid (And.intro b1 b2)
  clear b1 b2
  go_enter Try.func7, Try.ntmps7
  go_wp2_with fail
  refine (L1.out _).mono ?_
  rintro e w1 ⟨rfl, hb⟩
  simp only [Nat.reduceAdd, HB.out.1]
  have hb1 := on (below_box w _) hb
  clear hb
  go_wp2_with fail
  refine (L2.out _).mono ?_
  rintro e w2 ⟨rfl, hb⟩
  simp only [Nat.reduceAdd, HB.out.2]
  have hb2 := on (on hb1 (below_box w1 _)) hb
  clear hb hb1
  go_wp2_with fail
  refine (L3.out _).mono ?_
  rintro e w3 ⟨rfl, rfl⟩
  have hb3 := on hb2 (below_box w2 (.cells #[.int .i64 1, .int .i64 2] 3))
  clear hb2
  go_wp2_with fail
  go_ret
  exact ⟨rfl, hb3⟩

theorem Rt.drewN_below (B : Nat) (w : World) (q : Nat) : Below B w (w.drewN q) := ⟨rfl, rfl, rfl, Nat.le_refl _, fun _ _ => rfl⟩
theorem Rt.cut (a : Option Addr) (m c : Nat) : sliced a 0 m c 1 = .slice a m c := by
  unfold sliced
  cases a <;> simp [Addr.add]

set_option maxHeartbeats 2000000 in
/-- The law, behind the cut. -/
theorem routeleast_any {X : Nat → Int} {a : Option Addr} {n c : Nat} (room : Int) (w : World) (h : Nums w a n X) (hnc : n ≤ c) :
    Calls Try.prog 3 #[.slice a n c, .int .i64 room] w fun e w' => e = .returned (.bool true) ∧ Below w.heap.size w w' := by
  obtain ⟨m, hm, hmn, hm12⟩ : ∃ m : Nat, (if (12 : Int) < (n : Int) then (12 : Int) else (n : Int)) = m ∧ m ≤ n ∧ m ≤ 12 := by
    by_cases h12 : (12 : Int) < (n : Int)
    · exact ⟨12, by rw [if_pos h12]; rfl, by omega, by omega⟩
    · exact ⟨n, by rw [if_neg h12], by omega, by omega⟩
  have hmc : (m : Int) ≤ (c : Int) := by omega
  have hm0 : (0 : Int) ≤ (m : Int) := by omega
  have HN := Lib.hid (h.take hmn)
  have HL := Lib.hid (rtleast_any (c := c) room w (h.take hmn) (by omega))
  clear h
  have hcut := Rt.cut a m c
  go_enter Try.func3, Try.ntmps3
  go_wp2_with fail
  refine HL.out.mono ?_
  rintro e w1 ⟨rfl, hb⟩
  have HN1 := Lib.hid (HN.out.below hb)
  have HB1 := Lib.hid hb
  clear hb HN HL hm hm0 hcut hmc
  cases hbe : Rt.best X room m with
  | none =>
    have HR := Lib.hid (Rt.best_none hbe)
    simp only [Rt.ans]
    have hmg : ¬(-1 : Int) ≥ (m : Int) := by omega
    clear hbe
    go_wp2_with fail
    go_loopg [7] (12 : Nat) (fun g1 s7 wx => ∃ k : Nat, s7 = .int .i64 k ∧ k ≤ m ∧ 12 - k ≤ g1 ∧ wx = w1)
    case atStart => exact ⟨0, rfl, by omega, by omega, rfl⟩
    case round =>
      obtain ⟨k, rfl, hkm, hg, rfl⟩ := hrel
      by_cases hk : k < m
      · have hk' : (k : Int) < (m : Int) := by omega
        have hwk : IntKind.i64.wrap ((k : Int) + 1) = (k : Int) + 1 := by rw [IntKind.wrap_i64]; omega
        obtain ⟨g, o, rfl, hc⟩ := HN1.out.at_ (by omega)
        have ck := hc k hk
        have hx := HR.out k hk
        generalize X k = x at *
        clear hc
        go_wp2_with fail
        go_roundg (12 - (k + 1))
        case measure => omega
        case rel => exact ⟨k + 1, by go_num, by omega, by omega, rfl⟩
      · have hk' : ¬(k : Int) < (m : Int) := by omega
        go_wp2_with fail
        refine (awake24_any _).mono ?_
        rintro e w3 ⟨rfl, hb⟩
        have HB3 := Lib.hid (on HB1.out hb)
        clear hb
        go_wp2_with fail
        go_ret
        exact ⟨rfl, HB3.out⟩
  | some b =>
    obtain ⟨hbm, hbr, hmin⟩ := Rt.best_some hbe
    have HR := Lib.hid hmin
    simp only [Rt.ans]
    have hb1 : ¬(b : Int) < -1 := by omega
    have hb0 : ¬(b : Int) < 0 := by omega
    have hmg : ¬(b : Int) ≥ (m : Int) := by omega
    have hbm' : (b : Int) < (m : Int) := by omega
    have hbb : (0 : Int) ≤ (b : Int) := by omega
    clear hbe hmin
    obtain ⟨g, o, rfl, hc⟩ := HN1.out.at_ (by omega)
    have HC := Lib.hid hc
    generalize hxb : X b = xb at hbr
    have HXB := Lib.hid hxb
    clear hc hxb HN1
    go_wp2_with fail
    go_loopg [7] (12 : Nat) (fun g1 s7 wx => ∃ k : Nat, s7 = .int .i64 k ∧ k ≤ m ∧ 12 - k ≤ g1 ∧ Hid (Below w.heap.size w wx) ∧ Hid (∀ i, i < m → wx.cell? ⟨g, o + i, none⟩ = some (.int .i64 (X i))))
    case atStart => exact ⟨0, rfl, by omega, by omega, HB1, HC⟩
    case round =>
      clear HB1 HC
      obtain ⟨k, rfl, hkm, hg, HB1, HC⟩ := hrel
      have cb := HC.out b hbm
      rw [HXB.out] at cb
      by_cases hk : k < m
      · have hk' : (k : Int) < (m : Int) := by omega
        have hwk : IntKind.i64.wrap ((k : Int) + 1) = (k : Int) + 1 := by rw [IntKind.wrap_i64]; omega
        have ck := HC.out k hk
        have hm1 := HR.out k hk
        rw [HXB.out] at hm1
        generalize X k = x at *
        by_cases hx : room ≤ x
        · clear hm1
          go_wp2_with fail
          go_roundg (12 - (k + 1))
          case measure => omega
          case rel => exact ⟨k + 1, by go_num, by omega, by omega, HB1, HC⟩
        · obtain ⟨h1, h2⟩ := hm1 (by omega)
          have hgt : ¬x < xb := by omega
          by_cases he : xb = x
          · have he' : (xb == x) = true := by rw [beq_iff_eq]; exact he
            have hkb : ¬(k : Int) < (b : Int) := by have := h2 he.symm; omega
            have HE := Lib.hid he
            clear hm1 h1 h2 he
            go_wp2_with fail
            go_quiet (fail)
            go_wp2_with fail
            go_roundg (12 - (k + 1))
            case measure => omega
            case rel => exact ⟨k + 1, by go_num, by omega, by omega, HB1.out.trans (Rt.drewN_below _ _ _), fun i hi => HC.out i hi⟩
          · have he' : (xb == x) = false := by rw [beq_eq_false_iff_ne]; exact he
            have HE := Lib.hid he
            clear hm1 h1 h2 he
            go_wp2_with fail
            go_quiet (fail)
            go_wp2_with fail
            go_roundg (12 - (k + 1))
            case measure => omega
            case rel => exact ⟨k + 1, by go_num, by omega, by omega, HB1.out.trans (Rt.drewN_below _ _ _), fun i hi => HC.out i hi⟩
      · have hk' : ¬(k : Int) < (m : Int) := by omega
        go_wp2_with fail
        refine (awake24_any _).mono ?_
        rintro e w3 ⟨rfl, hb⟩
        have HB3 := Lib.hid (on HB1.out hb)
        have hcb := (World.cell?_of_block (a := ⟨g, o + b, none⟩) (hb.block g (block_lt_of_cell cb))).trans cb
        clear hb cb
        go_wp2_with fail
        go_ret
        exact ⟨rfl, HB3.out⟩
end Go.Proofs.Ytdjbmpchaedefaa
