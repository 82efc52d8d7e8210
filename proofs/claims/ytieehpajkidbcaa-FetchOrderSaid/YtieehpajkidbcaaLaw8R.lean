/- A fetching alone, step by step, until it is done. -/
import Derived.Test.YtieehpajkidbcaaFchD
import Derived.Test.YtieehpajkidbcaaLaw7R
namespace Go.Proofs.Ytieehpajkidbcaa
open Go.RowKit
attribute [local go_sem ↓] Go.wp_at_zero Go.wp_at_succ

/-- Where so many steps are none too many: the fetching as it stands behind them, and their number. -/
theorem frun_any {B : Nat} {s : Spot} {a : Ar} (d : Ftc) (hd : d.Good a) (n : Nat) (hn : n < 40) (hno : ∀ i, i < n → (Ftc.run d a i).1.k < 3) (hyes : (Ftc.run d a n).1.k = 3 ∨ (Ftc.run d a n).1.k = 4) (w : World) (hA : Arena w B s a) :
    Calls Try.prog 12 #[.pointer (some ⟨s.P, 0, none⟩), d.val] w fun e w' => e = .returned (.tuple #[(Ftc.run d a n).1.val, .int .i64 n]) ∧ Now w w' B s (Ftc.run d a n).2 := by
  have HA := Lib.hid hA
  have HD := Lib.hid hd
  have HN := Lib.hid hno
  have HY := Lib.hid hyes
  have HV : Hid (∃ b p t k j x y z, d = ⟨b, p, t, k, j, x, y, z⟩) := ⟨_, _, _, _, _, _, _, _, rfl⟩
  obtain ⟨b, p, t, k, j, x, y, z, e⟩ := HV.out
  have HE := Lib.hid e
  rw [show d.val = .agg #[.int .i64 b, .int .i64 p, .int .u64 t, .int .i64 k, .int .i64 j, .int .u64 x, .int .u64 y, .int .u64 z] by rw [e]; rfl]
  clear hA hd hno hyes HV e
  go_enter Try.func12, Try.ntmps12
  go_wp2_with fail
  have hS : Hid (Desk w ((w.alloc (.cells #[.int .i64 b, .int .i64 p, .int .u64 t, .int .i64 k, .int .i64 j, .int .u64 x, .int .u64 y, .int .u64 z] 43)).alloc (.cells #[.int .i64 b, .int .i64 p, .int .u64 t, .int .i64 k, .int .i64 j, .int .u64 x, .int .u64 y, .int .u64 z] 43)) B s a (.cells #[.int .i64 b, .int .i64 p, .int .u64 t, .int .i64 k, .int .i64 j, .int .u64 x, .int .u64 y, .int .u64 z] 43 (0, 0)) (.cells #[.int .i64 b, .int .i64 p, .int .u64 t, .int .i64 k, .int .i64 j, .int .u64 x, .int .u64 y, .int .u64 z] 43 (0, 0))) := Desk.start HA.out (Below.refl _ _)
  go_loopg [5] n (fun g s5 wr => ∃ i : Nat, i ≤ n ∧ g = n - i ∧ s5 = .int .i64 i ∧ Hid (∃ b' p' t' k' j' x' y' z' a', Ftc.run d a i = (⟨b', p', t', k', j', x', y', z'⟩, a') ∧ Ftc.Good ⟨b', p', t', k', j', x', y', z'⟩ a' ∧ Desk w wr B s a' (.cells #[.int .i64 b, .int .i64 p, .int .u64 t, .int .i64 k, .int .i64 j, .int .u64 x, .int .u64 y, .int .u64 z] 43 (0, 0)) (.cells #[.int .i64 (b' : Nat), .int .i64 (p' : Nat), .int .u64 (t' : Nat), .int .i64 (k' : Nat), .int .i64 (j' : Nat), .int .u64 (x' : Nat), .int .u64 (y' : Nat), .int .u64 (z' : Nat)] 43 (0, 0))))
  case atStart => exact ⟨0, Nat.zero_le _, rfl, rfl, b, p, t, k, j, x, y, z, a, by rw [HE.out]; rfl, HE.out ▸ HD.out, hS.out⟩
  case round =>
    clear hS
    obtain ⟨i, hi, rfl, rfl, hR⟩ := hrel
    obtain ⟨b1, p1, t1, k1, j1, x1, y1, z1, a1, hrun, hgood, hdesk⟩ := hR.out
    have HRun := Lib.hid hrun
    have HG := Lib.hid hgood
    have HDk := Lib.hid hdesk
    obtain ⟨c0, c1, c2, c3, c4, c5, c6, c7⟩ := eight_cells hdesk.res
    clear hrun hgood hdesk hR
    have h40 : (i : Int) < 40 := by omega
    by_cases hin : i < n
    · have hk5 : k1 < 3 := by have := HN.out i hin; rw [HRun.out] at this; exact this
      go_wp2_with fail
      refine (ftdone_no b1 p1 t1 k1 j1 x1 y1 z1 (by omega) _).mono ?_
      rintro e w2 ⟨rfl, hb2⟩
      have HD2 := Lib.hid (HDk.out.below hb2)
      clear c0 c1 c2 c3 c4 c5 c6 c7 hb2 HDk
      go_wp2_with fail
      obtain ⟨T, hA2, hN2⟩ := HD2.out.arena
      refine (begin_any _ hA2).mono ?_
      rintro e w3 ⟨rfl, hA3, hR3⟩
      have HD3 := Lib.hid (hN2 _ _ ⟨_, .inl rfl, hA3, hR3⟩)
      clear hA2 hN2 hA3 hR3 HD2
      obtain ⟨c0, c1, c2, c3, c4, c5, c6, c7⟩ := eight_cells HD3.out.res
      go_wp2_with fail
      have hnext : Ftc.run d a (i + 1) = Ftc.step ⟨b1, p1, t1, k1, j1, x1, y1, z1⟩ a1.begin := by
        show (Ftc.run d a i).1.step (Ftc.run d a i).2.begin = _; rw [HRun.out]
      have hg1 : Ftc.Good ⟨b1, p1, t1, k1, j1, x1, y1, z1⟩ a1.begin := HG.out.same rfl
      obtain ⟨T, hA3, hN3⟩ := HD3.out.arena
      have hg2 := hg1.step.1
      have ht1 := Ftc.step_touch (d := ⟨b1, p1, t1, k1, j1, x1, y1, z1⟩) (a := a1.begin) rfl hk5
      have hst := fstep_any _ hg1 _ hA3
      rcases hs : Ftc.step ⟨b1, p1, t1, k1, j1, x1, y1, z1⟩ a1.begin with ⟨⟨b2, p2, t2, k2, j2, x2, y2, z2⟩, a2⟩
      rw [hs] at hst hnext hg2 ht1
      refine hst.mono ?_
      rintro e w4 ⟨rfl, hN4⟩
      have HD4 := Lib.hid (hN3 _ _ hN4)
      have HNx := Lib.hid hnext
      have HG2 := Lib.hid hg2
      simp only [Ftc.val]
      clear c0 c1 c2 c3 c4 c5 c6 c7 hA3 hN3 hN4 hst hs hnext hg1 hg2 HD3
      obtain ⟨c0, c1, c2, c3, c4, c5, c6, c7⟩ := eight_cells HD4.out.res
      obtain ⟨f0, f1, f2, f3, f4, f5, f6, f7⟩ := eight_free HD4.out.res
      go_wp2_with fail
      have HD5 := Lib.hid (HD4.out.eightR (c0 := .int .i64 b2) (c1 := .int .i64 p2) (c2 := .int .u64 t2) (c3 := .int .i64 k2) (c4 := .int .i64 j2) (c5 := .int .u64 x2) (c6 := .int .u64 y2) (c7 := .int .u64 z2))
      clear c0 c1 c2 c3 c4 c5 c6 c7 f0 f1 f2 f3 f4 f5 f6 f7
      obtain ⟨T, hA5, hN5⟩ := HD5.out.arena
      refine (touched_any _ hA5).mono ?_
      rintro e w5 ⟨ao, cap, rfl, -, hR5⟩
      have HD6 := Lib.hid (HD5.out.below (hR5.below (Nat.le_refl _) (fun k hk => hk.elim)))
      rw [ht1]
      clear hA5 hN5 hR5 HD5 HD4 ht1
      go_wp2_with fail
      go_roundg (n - (i + 1))
      case measure => go_light; omega
      case rel => exact ⟨i + 1, by omega, rfl, by go_num, _, _, _, _, _, _, _, _, _, HNx.out, HG2.out, HD6.out⟩
    · obtain rfl : i = n := by omega
      have hk5 : k1 = 3 ∨ k1 = 4 := by have := HY.out; rw [HRun.out] at this; exact this
      go_wp2_with fail
      refine (ftdone_yes b1 p1 t1 k1 j1 x1 y1 z1 hk5 _).mono ?_
      rintro e w2 ⟨rfl, hb2⟩
      generalize (if k1 = 4 then (4 : Int) else 0) = er
      have HD2 := Lib.hid (HDk.out.below hb2)
      clear c0 c1 c2 c3 c4 c5 c6 c7 hb2 HDk
      obtain ⟨c0, c1, c2, c3, c4, c5, c6, c7⟩ := eight_cells HD2.out.res
      obtain ⟨f0, f1, f2, f3, f4, f5, f6, f7⟩ := eight_free HD2.out.res
      go_wp2_with fail
      rw [HRun.out]
      refine bodyPost_ret (results_duo Try.results12 _ _ (w.heap.size + 1) 43 _ (0, 0) _ rfl (eight_laid HD2.out.res) Try.underlying43 rfl Try.sizeFch) rfl ⟨rfl, HD2.out.done (eight_rest rfl)⟩

end Go.Proofs.Ytieehpajkidbcaa
