/- The law on those that swap a cell from one word to their own: true for every list of words. -/
import Derived.Test.YtnncomomiikclaaLaw2A
import Derived.Deep.Light
namespace Go.Proofs.Ytnncomomiikclaa
open Go.RowKit

/-- What is known behind so many: nobody has won, or one has. -/
def Won (z now : Nat) (won : Nat) (a : Ar) : Prop := a.cs = [now] ∧ ((won = 0 ∧ now = z) ∨ (won = 1 ∧ now ≠ z)) ∧ now < 18446744073709551616

theorem Rest.of_below {w w' : World} {own : Nat → Prop} (h : Below w.heap.size w w') : Rest own w w' := ⟨h.os, h.tape, h.output, h.size, fun k hk _ => h.block k hk⟩

theorem won_no {z now won : Nat} {a : Ar} (h : Won z now won a) : Won z now won (a.touch 0) := by
  obtain ⟨h1, h2⟩ := h
  exact ⟨by rw [Ar.touch_cs]; exact h1, h2⟩
theorem won_yes {z now won x : Nat} {a : Ar} (h : Won z now won a) (h0 : now = z) (hx : x ≠ z) (hb : x < 18446744073709551616) : Won z x (won + 1) ((a.touch 0).put 0 x) := by
  obtain ⟨h1, h2, h3⟩ := h
  refine ⟨by simp [Ar.put, Ar.touch_cs, h1], ?_, hb⟩
  rcases h2 with ⟨rfl, _⟩ | ⟨rfl, h⟩
  · exact .inr ⟨rfl, hx⟩
  · exact absurd h0 h

theorem won_none {z now won : Nat} {a : Ar} (h : Won z now won a) (h0 : now = z) : won = 0 := by
  rcases h.2.1 with ⟨e, _⟩ | ⟨_, e⟩
  · exact e
  · exact absurd h0 e

set_option maxHeartbeats 2000000 in
theorem swaps_any (X : Nat → Nat) (sa : Option Addr) (z len cap bk o : Nat) (hz : z < 18446744073709551616) (hsa : 0 < len → sa = some ⟨bk, o, none⟩) (w : World)
    (hc : ∀ i, i < len → w.cell? ⟨bk, o + i, none⟩ = some (.int .u64 (X i : Int))) (hX : ∀ i, i < len → X i < 18446744073709551616) :
    Calls Try.prog 4 #[.slice sa len cap, .int .u64 (z : Int)] w fun e w' => e = .returned (.bool true) ∧ Below w.heap.size w w' := by
  have HC := Lib.hid hc
  have HX := Lib.hid hX
  have HS := Lib.hid hsa
  clear hc hX hsa
  go_enter Try.func4, Try.ntmps4
  go_wp2_with fail
  refine (new_yes 1 _ (by omega) (by omega)).mono ?_
  rintro e w1 ⟨s, rfl, h1, hR1⟩
  have hb1 := hR1.below (Nat.le_refl _) (fun k hk => hk.elim)
  clear hR1
  go_wp2_with fail
  refine (write_in 0 z _ h1 (by decide) hz).mono ?_
  rintro e w2 ⟨rfl, hN⟩
  have hb2 := hb1.trans (hN.below h1)
  obtain ⟨T2, -, h2, -⟩ := hN
  clear h1 hb1
  have h3 : Arena w2 w.heap.size { s with T := T2 } ⟨[z], [0], 0⟩ := h2
  clear h2
  go_wp2_with fail
  go_loopg [6, 7, 8] len (fun g s6 s7 s8 wr => ∃ (k now won : Nat) (T : Option Nat) (a : Ar), k ≤ len ∧ g = len - k ∧ s8 = .int .i64 k ∧ s7 = .int .u64 now ∧ s6 = .int .i64 won ∧ won ≤ 1 ∧ k ≤ 20 ∧
    Hid (Arena wr w.heap.size { s with T := T } a) ∧ Hid (Won z now won a) ∧ Below w.heap.size w wr)
  case atStart => exact ⟨0, z, 0, T2, _, Nat.zero_le _, rfl, rfl, rfl, rfl, by omega, by omega, h3, ⟨rfl, .inl ⟨rfl, rfl⟩, hz⟩, hb2⟩
  case round =>
    clear hb2 h3
    obtain ⟨k, now, won, T, a, hk, rfl, rfl, rfl, rfl, hw1, hk20, har, hwon, hbel⟩ := hrel
    by_cases hlt : k < len ∧ k < 20
    · obtain ⟨hl1, hl2⟩ := hlt
      have hl3 : (k : Int) < 20 := by omega
      obtain rfl := HS.out (by omega)
      have c0 := (hbel.cell (p := ⟨bk, o + k, none⟩) (block_lt_of_cell (HC.out k hl1))).trans (HC.out k hl1)
      have hxb := HX.out k hl1
      generalize hx : X k = x at *
      clear hx
      by_cases he : x = z
      · have ht : ((x : Int) == (z : Int)) = true := by rw [beq_iff_eq]; omega
        have HE := Lib.hid he
        clear he
        go_wp2_with fail
        go_roundg (len - (k + 1))
        case measure => go_light; omega
        case rel => exact ⟨k + 1, now, won, T, a, by omega, rfl, by go_num, rfl, rfl, hw1, by omega, har, hwon, hbel⟩
      · have ht : ((x : Int) == (z : Int)) = false := by rw [beq_eq_false_iff_ne]; omega
        have HE := Lib.hid he
        clear he
        by_cases h0 : now = z
        · have HZ := Lib.hid h0
          clear h0
          go_wp2_with fail
          refine (swap_yes 0 z x _ har.out (by rw [hwon.out.1]; simp) (by rw [hwon.out.1]; exact HZ.out) hxb).mono ?_
          rintro e w3 ⟨rfl, hN⟩
          have hb3 := hbel.trans (hN.below har.out)
          obtain ⟨T3, -, h3, -⟩ := hN
          have H3 := Lib.hid h3
          have HW := Lib.hid (won_yes hwon.out HZ.out HE.out hxb)
          have hw0 : won = 0 := won_none hwon.out HZ.out
          subst hw0
          clear h3
          go_wp2_with fail
          go_roundg (len - (k + 1))
          case measure => go_light; omega
          case rel => exact ⟨k + 1, x, 1, T3, _, by omega, rfl, by go_num, rfl, rfl, by omega, by omega, H3, HW, hb3⟩
        · have HZ := Lib.hid h0
          clear h0
          go_wp2_with fail
          refine (swap_no 0 z x _ har.out (by rw [hwon.out.1]; simp) (by rw [hwon.out.1]; exact HZ.out)).mono ?_
          rintro e w3 ⟨rfl, hN⟩
          have hb3 := hbel.trans (hN.below har.out)
          obtain ⟨T3, -, h3, -⟩ := hN
          have H3 := Lib.hid h3
          have HW := Lib.hid (won_no hwon.out)
          clear h3
          go_wp2_with fail
          go_roundg (len - (k + 1))
          case measure => go_light; omega
          case rel => exact ⟨k + 1, now, won, T3, _, by omega, rfl, by go_num, rfl, rfl, hw1, by omega, H3, HW, hb3⟩
    · clear hk hk20
      have hw2 : (won : Int) ≤ 1 := by omega
      by_cases hl1 : k < len
      · have hl3 : ¬ (k : Int) < 20 := by omega
        clear hlt
        go_wp2_with fail
        refine (awake_any _).mono ?_
        rintro e w3 ⟨rfl, hbA⟩
        have hb3 := hbel.trans (hbA.mono hbel.size)
        have h3 := har.out.kept (Rest.of_below hbA) (fun _ _ => id)
        have HR : Hid (a.cs.getD 0 0 = now) := by show a.cs.getD 0 0 = now; rw [hwon.out.1]; rfl
        have hlen : 0 < a.cs.length := by rw [hwon.out.1]; simp
        have hnb := hwon.out.2.2
        clear hbel hbA
        go_wp2_with fail
        refine (read_in 0 _ h3 hlen).mono ?_
        rintro e w4 ⟨rfl, hN⟩
        rw [HR.out]
        have hb4 := hb3.trans (hN.below h3)
        obtain ⟨T4, -, h4, -⟩ := hN
        clear h3 hb3
        go_wp2_with fail
        refine (swap_yes 0 now now _ h4 (by rw [Ar.touch_cs]; exact hlen) (by rw [Ar.touch_cs]; exact HR.out) hnb).mono ?_
        rintro e w5 ⟨rfl, hN⟩
        have hb5 := hb4.trans (hN.below h4)
        clear h4 hb4 hN
        go_wp2_with fail
        go_ret
        exact ⟨rfl, hb5⟩
      · clear hlt
        go_wp2_with fail
        refine (awake_any _).mono ?_
        rintro e w3 ⟨rfl, hbA⟩
        have hb3 := hbel.trans (hbA.mono hbel.size)
        have h3 := har.out.kept (Rest.of_below hbA) (fun _ _ => id)
        have HR : Hid (a.cs.getD 0 0 = now) := by show a.cs.getD 0 0 = now; rw [hwon.out.1]; rfl
        have hlen : 0 < a.cs.length := by rw [hwon.out.1]; simp
        have hnb := hwon.out.2.2
        clear hbel hbA
        go_wp2_with fail
        refine (read_in 0 _ h3 hlen).mono ?_
        rintro e w4 ⟨rfl, hN⟩
        rw [HR.out]
        have hb4 := hb3.trans (hN.below h3)
        obtain ⟨T4, -, h4, -⟩ := hN
        clear h3 hb3
        go_wp2_with fail
        refine (swap_yes 0 now now _ h4 (by rw [Ar.touch_cs]; exact hlen) (by rw [Ar.touch_cs]; exact HR.out) hnb).mono ?_
        rintro e w5 ⟨rfl, hN⟩
        have hb5 := hb4.trans (hN.below h4)
        clear h4 hb4 hN
        go_wp2_with fail
        go_ret
        exact ⟨rfl, hb5⟩

end Go.Proofs.Ytnncomomiikclaa
