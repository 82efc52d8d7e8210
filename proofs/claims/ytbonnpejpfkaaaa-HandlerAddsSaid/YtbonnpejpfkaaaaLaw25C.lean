/- HandlerAdds: what is added one behind the other is what is there then, in whatever order. -/
import Derived.Test.YtbonnpejpfkaaaaLaw25A
import Derived.Test.YtbonnpejpfkaaaaNumk
namespace Go.Proofs.Ytbonnpejpfkaaaa
open Go.RowKit

set_option maxHeartbeats 2000000 in
set_option maxRecDepth 4000 in
/-- The law, behind the cut. -/
theorem handleradds_any {X : Nat → Int} {a : Option Addr} {n c : Nat} (s : Int) (hs : 0 ≤ s ∧ s ≤ 4294967295) (w : World) (h : Numk .u32 w a n X) (hnc : n ≤ c) :
    Calls Try.prog 5 #[.slice a n c, .int .u32 s] w fun e w' => e = .returned (.bool true) ∧ w = w' := by
  obtain ⟨m, hm, hm', hmn, hm30⟩ : ∃ m : Nat, (if (30 : Int) < (n : Int) then (30 : Int) else (n : Int)) = m ∧ min (n : Int) 30 = m ∧ m ≤ n ∧ m ≤ 30 := by
    by_cases h30 : (30 : Int) < (n : Int)
    · exact ⟨30, by rw [if_pos h30]; rfl, by omega, by omega, by omega⟩
    · exact ⟨n, by rw [if_neg h30], by omega, by omega, by omega⟩
  have hmc : (m : Int) ≤ (c : Int) := by omega
  have hm0 : (0 : Int) ≤ (m : Int) := by omega
  have HN := Lib.hid (h.take hmn)
  have HE := Lib.hid (Hn.ends X (s := s) (by omega) m)
  clear h hs
  have hcut := Numk.cut a m c
  go_enter Try.func5, Try.ntmps5
  go_wp2_with fail
  clear hm hm' hm0 hcut hmc hnc hmn
  go_loopg [6, 7, 8, 9] (30 : Nat) (fun g s6 s7 s8 s9 wx => ∃ (i : Nat) (u d : Int), s6 = .int .u32 u ∧ s7 = .int .u32 d ∧ s8 = .int .u32 u ∧ s9 = .int .i64 i ∧ i ≤ m ∧ 30 - i ≤ g ∧ Hid (u = Hn.up X s i) ∧ Hid (d = Hn.down X s m i) ∧ w = wx)
  case atStart => exact ⟨0, s, s, rfl, rfl, rfl, rfl, by omega, by omega, Lib.hid rfl, Lib.hid rfl, rfl⟩
  case round =>
    obtain ⟨i, u, d, rfl, rfl, rfl, rfl, him, hg, HU, HD, rfl⟩ := hrel
    by_cases hi : i < m
    · have hi' : (i : Int) < (m : Int) := by omega
      have hwi : IntKind.i64.wrap ((i : Int) + 1) = (i : Int) + 1 := by rw [IntKind.wrap_i64]; omega
      obtain ⟨j, hj, hji, hjm⟩ : ∃ j : Nat, (m : Int) - 1 - (i : Int) = j ∧ j = m - 1 - i ∧ (j : Int) < (m : Int) := ⟨m - 1 - i, by omega, rfl, by omega⟩
      have hj0 : (0 : Int) ≤ (j : Int) := by omega
      have hw1 : IntKind.i64.wrap ((m : Int) - 1) = (m : Int) - 1 := by rw [IntKind.wrap_i64]; omega
      have hw2 : IntKind.i64.wrap ((m : Int) - 1 - (i : Int)) = (j : Int) := by rw [hj, IntKind.wrap_i64]; omega
      obtain ⟨g, o, rfl, hc⟩ := HN.out.at_ (by omega)
      have ci := hc i hi
      have cj := hc j (by omega)
      have HI := Lib.hid (show i = i ∧ j = m - 1 - i from ⟨rfl, hji⟩)
      clear hc hji
      go_wp2_with fail
      refine (hnrun_add (X i) u _).mono ?_
      rintro e w1 ⟨rfl, rfl⟩
      go_wp2_with fail
      refine (hnrun_add (X j) d _).mono ?_
      rintro e w1 ⟨rfl, rfl⟩
      go_wp2_with fail
      go_roundg (30 - (i + 1))
      case measure => omega
      case rel => exact ⟨i + 1, _, _, rfl, rfl, rfl, by go_num, by omega, by omega, Lib.hid (by rw [HU.out]; rfl), Lib.hid (by rw [HD.out, HI.out.2]; rfl), rfl⟩
    · have hi' : ¬ (i : Int) < (m : Int) := by omega
      obtain rfl : i = m := by omega
      have hd : d = u := by rw [HU.out, HD.out, HE.out]
      subst hd
      go_wp2_with fail
      refine (hnrun_look 5 d _).mono ?_
      rintro e w1 ⟨rfl, rfl⟩
      go_wp2_with fail
      refine (awake25_any _).mono ?_
      rintro e w1 ⟨rfl, rfl⟩
      go_wp2_with fail
      all_goals (go_ret; exact ⟨rfl, rfl⟩)
end Go.Proofs.Ytbonnpejpfkaaaa
