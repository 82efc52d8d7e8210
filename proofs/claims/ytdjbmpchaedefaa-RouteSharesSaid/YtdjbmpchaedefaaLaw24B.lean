/- RouteShares: who is given what comes, always the one that has the least, has no more than one more than another one. -/
import Derived.Test.YtdjbmpchaedefaaLaw24A
import Derived.Test.YtdjbmpchaedefaaRtS
import Derived.Test.YtdjbmpchaedefaaLow
import Derived.Deep.CutBlock
import Derived.Deep.DeepCutAuto
import Derived.Test.YtdjbmpchaedefaaRest
import Derived.Test.YtdjbmpchaedefaaKeep
namespace Go.Proofs.Ytdjbmpchaedefaa
open Go.RowKit

theorem Rt.infoInt : (Try.prog.info? 3).map (fun i => (i.zero, i.size, i.bytes)) = some (some (.int .i64 0), 1, 8) := by kernel_rfl
theorem Rt.make_ints (n : Nat) (h1 : n ≤ 1000) (w : World) :
    (Instr.makeSlice 22 (.int .i64 (n : Int)) (.int .i64 (n : Int))).run Try.prog w = .ok (.slice (some ⟨w.heap.size, 0, none⟩) n n) (w.alloc (.cells (madeCells #[.int .i64 0] (n * 1)) 3)) := by
  obtain ⟨i0, hinf, hz0, hz1, hz2⟩ := info_parts Rt.infoInt
  have h := run_make (P := Try.prog) w 22 3 i0 _ Try.underlying22 hinf hz0 .i64 .i64 n n (by omega) (by omega) (by rw [hz2]; omega) (by omega)
  rw [h, hz1]
  simp [Value.cells]

set_option maxHeartbeats 4000000 in
/-- The law. -/
theorem routeshares_any (many room : Int) (w : World) :
    Calls Try.prog 5 #[.int .i64 many, .int .i64 room] w fun e w' => e = .returned (.bool true) ∧ Below w.heap.size w w' := by
  have hl7 : bits .and .i64 many 7 = many % 8 := i64_low many 3 (by omega)
  have hl15 := low15 room
  obtain ⟨m, hm, hm1, hm8⟩ : ∃ m : Nat, 1 + many % 8 = m ∧ 1 ≤ m ∧ m ≤ 8 := ⟨(1 + many % 8).toNat, by omega, by omega, by omega⟩
  obtain ⟨r, hr, hr15⟩ : ∃ r : Nat, room % 16 = r ∧ r ≤ 15 := ⟨(room % 16).toNat, by omega, by omega⟩
  have hwm : IntKind.i64.wrap (1 + many % 8) = m := by rw [IntKind.wrap_i64]; omega
  have hmk := Rt.make_ints m (by omega)
  have HM := Lib.hid (Items.made (w := w) (K := m) (c := 1) (t := 3) (z := #[.int .i64 0]) rfl)
  have HB := Lib.hid (below_box w (.cells (madeCells #[.int .i64 0] (m * 1)) 3))
  have HS := Lib.hid (fun t k => Rt.share_next (t := t) (k := k) hm1 hm8)
  have HI := Lib.hid (show Items (w.alloc (.cells (madeCells #[.int .i64 0] (m * 1)) 3)) w.heap.size m 1 3 (fun i _ => .int .i64 ((Rt.share 0 m i : Nat) : Int)) from HM.out.congr (fun i j hi hj => by
    obtain rfl : j = 0 := by omega
    rw [Rt.share_start hm1 hm8 hi]; rfl))
  have HBE := Lib.hid (fun t (h : t < r * m) => Rt.share_best hm1 hm8 h)
  have HNO := Lib.hid (fun t (h : r * m ≤ t) => Rt.share_none hm1 hm8 h)
  have HEV := Lib.hid (fun t => Rt.share_even t hm1 hm8)
  have HLE := Lib.hid (fun t k (h : t ≤ 60) => Rt.share_le (t := t) k hm1 hm8 h)
  have HSU := Lib.hid (Rt.share_sum hm1 hm8)
  have hqi : (r : Int) * (m : Int) = ((r * m : Nat) : Int) := (Int.natCast_mul r m).symm
  have hq8 : r * m ≤ 15 * 8 := Nat.mul_le_mul hr15 hm8
  generalize r * m = q at HBE HNO hqi hq8
  have hwq : IntKind.i64.wrap ((r : Int) * (m : Int)) = (q : Int) := by rw [IntKind.wrap_i64, hqi]; omega
  have hm0 : 0 < m := by omega
  clear hm HM hqi
  generalize hT : madeCells #[.int .i64 0] (m * 1) = T at *
  clear hT
  go_enter Try.func5, Try.ntmps5
  go_upto_block 0 with fail
  generalize w.alloc (.cells T 3) = w1 at HI HB ⊢
  generalize hG : w.heap.size = G at HI ⊢
  have HG := Lib.hid hG
  clear hG
  go_cut [7] (fun _ wx => ∃ t : Nat, t ≤ 60 ∧ t ≤ q ∧ (t < 60 → t = q) ∧ Hid (Items wx G m 1 3 (fun i _ => .int .i64 ((Rt.share t m i : Nat) : Int))) ∧ Hid (Below w.heap.size w wx))
  case first =>
    go_wp2_with fail
    go_loopg [7] (60 : Nat) (fun g1 s7 wx => ∃ t : Nat, s7 = .int .i64 t ∧ t ≤ 60 ∧ t ≤ q ∧ 60 - t ≤ g1 ∧ Hid (Items wx G m 1 3 (fun i _ => .int .i64 ((Rt.share t m i : Nat) : Int))) ∧ Hid (Below w.heap.size w wx))
    case atStart => exact ⟨0, rfl, by omega, by omega, by omega, HI, HB⟩
    case round =>
      clear HI HB
      obtain ⟨t, rfl, ht60, htq, hg, HI, HB⟩ := hrel
      by_cases ht : t < 60
      · have ht' : (t : Int) < 60 := by omega
        have hwt : IntKind.i64.wrap ((t : Int) + 1) = (t : Int) + 1 := by rw [IntKind.wrap_i64]; omega
        have hle := HLE.out t
        have HL := Lib.hid (rtleast_any (c := m) (r : Int) wr (Nums.of_items HI.out (fun i _ => by omega) (fun i _ => by have := hle i (by omega); omega)) (by omega))
        by_cases htq' : t < q
        · have hb := HBE.out t htq'
          have hst := HS.out t
          have hkm : t % m < m := Nat.mod_lt _ hm0
          generalize t % m = k at hb hst hkm
          have hkk := hst k hkm
          rw [if_pos rfl] at hkk
          have hlk := hle k (by omega)
          have hcl := HL.out
          rw [hb] at hcl
          have HC := Lib.hid hcl
          have HST := Lib.hid hst
          clear hb hcl HL hst hle
          go_wp2_with fail
          refine HC.out.mono ?_
          rintro e w2 ⟨rfl, hb⟩
          simp only [Rt.ans]
          have HI2 := Lib.hid (HI.out.kept (hb.block G HI.out.lt))
          have HB2 := Lib.hid (HB.out.trans (hb.mono HB.out.size))
          clear hb HC HI HB
          have ck := HI2.out.cell (i := k) (j := 0) hkm (by omega)
          have fk := HI2.out.free k
          simp only [Nat.mul_one, Nat.add_zero] at ck
          have hk0 : ¬(k : Int) < 0 := by omega
          have hkm' : (k : Int) < (m : Int) := by omega
          have hk00 : (0 : Int) ≤ (k : Int) := by omega
          have hwk : IntKind.i64.wrap (((Rt.share t m k : Nat) : Int) + 1) = ((Rt.share t m k : Nat) : Int) + 1 := by rw [IntKind.wrap_i64]; omega
          have hI3 := HI2.out.set1 (i := k) (j := 0) hkm (by omega) (.int .i64 (((Rt.share t m k : Nat) : Int) + 1))
          simp only [Nat.mul_one, Nat.add_zero] at hI3
          replace hI3 := hI3.congr (G := fun i _ => .int .i64 ((Rt.share (t + 1) m i : Nat) : Int)) (fun i j hi hj => by
            obtain rfl : j = 0 := by omega
            by_cases e : i = k
            · subst e; simp [hkk]
            · simp [e, HST.out i hi])
          have HI3 := Lib.hid hI3
          have HB3 := Lib.hid (HB2.out.trans (Rest.below (B := w.heap.size) (Rest.setCell (own := fun j => j = G) w2 ⟨G, k, none⟩ (.int .i64 (((Rt.share t m k : Nat) : Int) + 1)) rfl) HB2.out.size (fun j e => by have := HG.out; omega)))
          clear hI3 HB2 HI2
          go_wp2_with fail
          generalize w2.setCell _ _ = w3 at HI3 HB3 ⊢
          clear ck fk hwk
          have hle3 := HLE.out (t + 1)
          refine (rteven_any (c := m) (b := true) ⟨fun _ => HEV.out (t + 1), fun _ => rfl⟩ w3 (Nums.of_items HI3.out (fun i _ => by omega) (fun i _ => by have := hle3 i (by omega); omega)) (by omega)).mono ?_
          rintro e w4 ⟨rfl, rfl⟩
          clear hle3
          go_wp2_with fail
          go_roundg (60 - (t + 1))
          case measure => omega
          case rel => exact ⟨t + 1, by go_num, by omega, by omega, by omega, HI3, HB3⟩
        · have hcl := HL.out
          rw [HNO.out t (by omega)] at hcl
          have HC := Lib.hid hcl
          clear hcl HL hle
          go_wp2_with fail
          refine HC.out.mono ?_
          rintro e w2 ⟨rfl, hb⟩
          simp only [Rt.ans]
          have HI2 := Lib.hid (HI.out.kept (hb.block G HI.out.lt))
          have HB2 := Lib.hid (HB.out.trans (hb.mono HB.out.size))
          clear hb HC HI HB
          go_wp2_with fail
          go_meet
          case rel => exact ⟨t, by omega, by omega, by omega, HI2, HB2⟩
      · have ht' : ¬(t : Int) < 60 := by omega
        go_wp2_with fail
        go_meet
        case rel => exact ⟨t, by omega, by omega, by omega, HI, HB⟩
  case rest =>
  clear HI HB
  obtain ⟨t, ht60, htq, hte, HI, HB⟩ := hcut
  clear HBE HNO HEV HS
  have hsum := HSU.out t
  have HMO := Lib.hid (Rt.sumTo_mono (Rt.share t m) m)
  rw [hsum] at HMO
  go_wp2_with fail
  go_loopg [9, 10] (8 : Nat) (fun g1 s9 s10 wx => ∃ k : Nat, s9 = .int .i64 (Rt.sumTo (Rt.share t m) k : Nat) ∧ s10 = .int .i64 k ∧ k ≤ m ∧ 8 - k ≤ g1 ∧ Hid (Items wx G m 1 3 (fun i _ => .int .i64 ((Rt.share t m i : Nat) : Int))) ∧ Hid (Below w.heap.size w wx))
  case atStart => exact ⟨0, rfl, rfl, by omega, by omega, HI, HB⟩
  case round =>
    clear HI HB
    obtain ⟨k, rfl, rfl, hkm, hg, HI, HB⟩ := hrel
    by_cases hk : k < m
    · have hk' : (k : Int) < (m : Int) := by omega
      have hwk : IntKind.i64.wrap ((k : Int) + 1) = (k : Int) + 1 := by rw [IntKind.wrap_i64]; omega
      have ck := HI.out.cell (i := k) (j := 0) hk (by omega)
      simp only [Nat.mul_one, Nat.add_zero] at ck
      have hn : Rt.sumTo (Rt.share t m) (k + 1) = Rt.sumTo (Rt.share t m) k + Rt.share t m k := rfl
      have hmo := HMO.out (k + 1) (by omega)
      rw [hn] at hmo
      have HN := Lib.hid hn
      clear hn
      have hws : IntKind.i64.wrap (((Rt.sumTo (Rt.share t m) k : Nat) : Int) + ((Rt.share t m k : Nat) : Int)) = ((Rt.sumTo (Rt.share t m) k + Rt.share t m k : Nat) : Int) := by rw [IntKind.wrap_i64]; omega
      clear hmo
      go_wp2_with fail
      go_roundg (8 - (k + 1))
      case measure => omega
      case rel => exact ⟨k + 1, by rw [HN.out, Int.natCast_add], by go_num, by omega, by omega, HI, HB⟩
    · have hk' : ¬(k : Int) < (m : Int) := by omega
      obtain rfl : k = m := by omega
      rw [hsum]
      have hlast : ((t : Int) == (if (q : Int) < 60 then (q : Int) else 60)) = true := by rw [beq_iff_eq]; split <;> omega
      go_wp2_with fail
      refine (awake24_any _).mono ?_
      rintro e w4 ⟨rfl, hb⟩
      have HB4 := Lib.hid (on HB.out hb)
      clear hb HI HB
      go_wp2_with fail
      all_goals go_ret
      all_goals exact ⟨rfl, HB4.out⟩
end Go.Proofs.Ytdjbmpchaedefaa
