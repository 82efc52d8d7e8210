/- BreakerCalm: as long as less goes ill than opens it, a breaker stays shut, and all may go. -/
import Derived.Test.YtieggfnkhpfccaaLaw17A
import Derived.Test.YtieggfnkhpfccaaLaw17P
import Derived.Deep.DeepCutAuto
namespace Go.Proofs.Ytieggfnkhpfccaa
open Go.RowKit

set_option maxHeartbeats 2000000 in
set_option maxRecDepth 100000 in
theorem brkcalm_any (n0 wd le pa co tr n ill : Int) (w : World) :
    Calls Try.prog 4 #[.agg #[.int .i64 n0, .int .i64 wd, .int .i64 le, .int .i64 pa, .int .i64 co, .int .i64 tr], .int .i64 n, .int .i64 ill] w fun e w' => e = .returned (.bool true) ∧ Below w.heap.size w w' := by
  have H0 := Lib.hid ((Held.start w).lay (.cells #[.int .i64 n0, .int .i64 wd, .int .i64 le, .int .i64 pa, .int .i64 co, .int .i64 tr] 24))
  have hnear := fun w => brknear_any n0 wd le pa co tr w
  have ht0 : tr % 4 ≤ 3 := by omega
  generalize n0 % 4 = n1 at hnear
  generalize wd % 8 = wd1 at hnear
  generalize le % 4 + 1 = le1 at hnear
  generalize pa % 128 = pa1 at hnear
  generalize co % 16 = co1 at hnear
  generalize tr % 4 = tr1 at hnear ht0
  have hlow : bits .and .i64 n 63 = n % 64 := low63 n
  have hlowk : bits .and .i64 ill 7 = ill % 8 := low7 ill
  obtain ⟨m, hm, hm64⟩ : ∃ m : Nat, n % 64 = (m : Int) ∧ m < 64 := ⟨(n % 64).toNat, by omega, by omega⟩
  obtain ⟨k, hk, hk3, hk10⟩ : ∃ k : Nat, ill % 8 + 3 = (k : Int) ∧ 3 ≤ k ∧ k ≤ 10 := ⟨(ill % 8 + 3).toNat, by omega, by omega, by omega⟩
  have hwk : IntKind.i64.wrap (ill % 8 + 3) = (k : Int) := by rw [IntKind.wrap_i64]; omega
  have hwk1 : IntKind.i64.wrap ((k : Int) - 1) = (k : Int) - 1 := by rw [IntKind.wrap_i64]; omega
  have hk0 : (k : Int) ≠ 0 := by omega
  rw [hm] at hlow
  generalize ill % 8 = i8 at hlowk hwk
  clear hm hk
  have HNW := Lib.hid (fun (w wx : World) (l : List (Nat × Obj)) (h : Held w wx l) => brnew_any ⟨n1, wd1, 4, 50, co1, tr1⟩ h (by dsimp only; omega))
  obtain ⟨r, hr, hp⟩ : ∃ r : BRule, BRule.near ⟨n1, wd1, 4, 50, co1, tr1⟩ = r ∧ r.pa = 50 := ⟨_, rfl, rfl⟩
  rw [hr] at HNW
  have HP := Lib.hid hp
  clear hr hp ht0
  go_enter Try.func4, Try.ntmps4
  go_wp2_with fail
  generalize w.alloc (.cells #[.int .i64 n0, .int .i64 wd, .int .i64 le, .int .i64 pa, .int .i64 co, .int .i64 tr] 24) = w0 at H0 ⊢
  refine (hnear w0).mono ?_
  rintro e w1 ⟨rfl, hb⟩
  have H1 := Lib.hid ((H0.out.call hb).lay (.cells #[.int .i64 n1, .int .i64 wd1, .int .i64 4, .int .i64 50, .int .i64 co1, .int .i64 tr1] 24))
  clear hnear hb H0
  go_wp2_with fail
  generalize w1.alloc (.cells #[.int .i64 n1, .int .i64 wd1, .int .i64 4, .int .i64 50, .int .i64 co1, .int .i64 tr1] 24) = w2 at H1 ⊢
  refine (HNW.out _ _ _ H1.out.tail.tail).mono ?_
  rintro e w3 ⟨B, P, R, rfl, h3⟩
  have H3 := Lib.hid (show Brk w w3 B P R r (Br.calm k 0) [] from h3)
  clear h3 H1 HNW
  go_wp2_with fail
  go_loopg [10] (64 : Nat) (fun gh s10 wx => ∃ i : Nat, s10 = .int .i64 i ∧ i ≤ m ∧ 64 - i ≤ gh ∧ Hid (Brk w wx B P R r (Br.calm k i) []))
  case atStart => exact ⟨0, rfl, by omega, by omega, H3⟩
  case round =>
    obtain ⟨i, rfl, him, hg, HI⟩ := hrel
    clear H3
    by_cases hl : i < m
    · have hl' : (i : Int) < (m : Int) := by omega
      have hwi : IntKind.i64.wrap ((i : Int) + 1) = (i : Int) + 1 := by rw [IntKind.wrap_i64]; omega
      have hmod : (i : Int).tmod (k : Int) = ((i % k : Nat) : Int) := by rw [Int.ofNat_tmod]
      have hv : (((i % k : Nat) : Int) != (k : Int) - 1) = Br.calmV k i := rfl
      have HN := Lib.hid (fun wx (h : Brk w wx B P R r (Br.calm k i) []) => by have hn := brnote_any 0 (Br.calmV k i) h (by rw [show (Br.calm k i).ev = Br.evs k i from rfl, Br.evs_length]; omega); rw [Br.calm_note HP.out hk3 i] at hn; exact hn)
      generalize Br.calmV k i = v at hv HN
      generalize ((i % k : Nat) : Int) = md at hmod hv
      go_wp2_with fail
      have hn := brstate_any 0 HI.out
      rw [Br.calm_at] at hn
      refine hn.mono ?_
      rintro e w4 ⟨rfl, h4⟩
      have H4 := Lib.hid h4
      clear h4 HI hn
      rw [show (Br.calm k i).st = 0 from rfl]
      go_wp2_with fail
      have hn := brmay_any 0 H4.out
      rw [Br.calm_at, Br.calm_went, Br.calm_gone] at hn
      refine hn.mono ?_
      rintro e w5 ⟨rfl, h5⟩
      have H5 := Lib.hid h5
      clear h5 H4 hn
      go_wp2_with fail
      refine (HN.out _ H5.out).mono ?_
      rintro e w6 ⟨rfl, h6⟩
      have H6 := Lib.hid h6
      clear h6 H5
      go_wp2_with fail
      go_roundg (64 - (i + 1))
      case measure => omega
      case rel => exact ⟨i + 1, by go_num, by omega, by omega, H6⟩
    · have hl' : ¬(i : Int) < (m : Int) := by omega
      go_wp2_with fail
      refine (awake17_any wr).mono ?_
      rintro e w4 ⟨rfl, hb⟩
      have H4 := Lib.hid (HI.out.call hb)
      clear hb HI
      go_wp2_with fail
      have hn := brstate_any 0 H4.out
      rw [Br.calm_at] at hn
      refine hn.mono ?_
      rintro e w5 ⟨rfl, h5⟩
      have H5 := Lib.hid h5
      clear h5 H4 hn
      rw [show (Br.calm k i).st = 0 from rfl]
      go_wp2_with fail
      have hn := brmay_any 0 H5.out
      rw [Br.calm_at, Br.calm_went, Br.calm_gone] at hn
      refine hn.mono ?_
      rintro e w6 ⟨rfl, h6⟩
      have HB := Lib.hid h6.below
      clear h6 H5 hn
      go_wp2_with fail
      go_ret
      exact ⟨rfl, HB.out⟩
end Go.Proofs.Ytieggfnkhpfccaa
