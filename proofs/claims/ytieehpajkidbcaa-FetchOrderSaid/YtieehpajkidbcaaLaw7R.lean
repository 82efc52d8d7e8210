/- A sending alone, step by step, until it is done. -/
import Derived.Test.YtieehpajkidbcaaSndD
import Derived.Test.YtieehpajkidbcaaArnE
import Derived.Test.YtieehpajkidbcaaArnF
import Derived.Deep.LoopGhost
import Derived.Deep.Light
namespace Go.Proofs.Ytieehpajkidbcaa
open Go.RowKit
attribute [local go_sem ↓] Go.wp_at_zero Go.wp_at_succ

/-- Two results, the first of them a block that is a struct. -/
theorem results_duo {P : Program} {fn : Func} {p u : Tmp} {ty : TypeId} (h : fn.results = #[.cell p ty, .tmp u]) (tmps : Array Value) (w : World) (g : Nat) (t : TypeId) (cs : Array Value) (fr : Nat × Nat) (d : TypeDesc)
    (hp : tmps.getD p undef = .pointer (some ⟨g, 0, none⟩)) (hg : w.heap[g]? = some (.cells cs t fr))
    (hu : P.underlying ty = some d) (hd : (match d with | .struct _ | .array _ _ => true | _ => false) = true) (hi : (P.info? ty).map (·.size) = some cs.size) :
    (results fn tmps).run P w = .ok (.tuple #[.agg cs, tmps.getD u undef]) w := by
  rw [results_cell_tmp h, hp]
  simp [asAddr, run_loadVar_row w g t ty cs fr d hg hu hd hi]

theorem sdone_no (b p x y z t k j : Nat) (l : Bool) (h : k ≠ 5 ∧ k ≠ 6) (w : World) : Calls Try.prog 11 #[.agg #[.int .i64 b, .int .i64 p, .int .u64 x, .int .u64 y, .int .u64 z, .bool l, .int .u64 t, .int .i64 k, .int .i64 j]] w fun e w' => e = .returned (.tuple #[.int .i64 0, .bool false]) ∧ Below w.heap.size w w' := by
  refine (sdone_any b p x y z t k j l w).mono ?_
  rintro e w' ⟨rfl, hb⟩
  refine ⟨?_, hb⟩
  rw [if_neg (by omega), show decide ((k : Int) = 5 ∨ (k : Int) = 6) = false by simp; omega]
theorem sdone_yes (b p x y z t k j : Nat) (l : Bool) (h : k = 5 ∨ k = 6) (w : World) : Calls Try.prog 11 #[.agg #[.int .i64 b, .int .i64 p, .int .u64 x, .int .u64 y, .int .u64 z, .bool l, .int .u64 t, .int .i64 k, .int .i64 j]] w fun e w' => e = .returned (.tuple #[.int .i64 (if k = 6 then 3 else 0), .bool true]) ∧ Below w.heap.size w w' := by
  refine (sdone_any b p x y z t k j l w).mono ?_
  rintro e w' ⟨rfl, hb⟩
  refine ⟨?_, hb⟩
  rw [show decide ((k : Int) = 5 ∨ (k : Int) = 6) = true by simp; omega]
  have : ((k : Int) = 6) ↔ k = 6 := by omega
  simp only [this]

/-- Where so many steps are none too many: the sending as it stands behind them, and their number. -/
theorem run_any {B : Nat} {s : Spot} {a : Ar} (d : Snd) (hd : d.Good a) (n : Nat) (hn : n < 40) (hno : ∀ i, i < n → (Snd.run d a i).1.k < 5) (hyes : (Snd.run d a n).1.k = 5 ∨ (Snd.run d a n).1.k = 6) (w : World) (hA : Arena w B s a) :
    Calls Try.prog 9 #[.pointer (some ⟨s.P, 0, none⟩), d.val] w fun e w' => e = .returned (.tuple #[(Snd.run d a n).1.val, .int .i64 n]) ∧ Now w w' B s (Snd.run d a n).2 := by
  have HA := Lib.hid hA
  have HD := Lib.hid hd
  have HN := Lib.hid hno
  have HY := Lib.hid hyes
  have HV : Hid (∃ b p x y z t k j l, d = ⟨b, p, x, y, z, l, t, k, j⟩) := ⟨_, _, _, _, _, _, _, _, _, rfl⟩
  obtain ⟨b, p, x, y, z, t, k, j, l, e⟩ := HV.out
  have HE := Lib.hid e
  rw [show d.val = .agg #[.int .i64 b, .int .i64 p, .int .u64 x, .int .u64 y, .int .u64 z, .bool l, .int .u64 t, .int .i64 k, .int .i64 j] by rw [e]; rfl]
  clear hA hd hno hyes HV e
  go_enter Try.func9, Try.ntmps9
  go_wp2_with fail
  have hS : Hid (Desk w ((w.alloc (.cells #[.int .i64 b, .int .i64 p, .int .u64 x, .int .u64 y, .int .u64 z, .bool l, .int .u64 t, .int .i64 k, .int .i64 j] 36)).alloc (.cells #[.int .i64 b, .int .i64 p, .int .u64 x, .int .u64 y, .int .u64 z, .bool l, .int .u64 t, .int .i64 k, .int .i64 j] 36)) B s a (.cells #[.int .i64 b, .int .i64 p, .int .u64 x, .int .u64 y, .int .u64 z, .bool l, .int .u64 t, .int .i64 k, .int .i64 j] 36 (0, 0)) (.cells #[.int .i64 b, .int .i64 p, .int .u64 x, .int .u64 y, .int .u64 z, .bool l, .int .u64 t, .int .i64 k, .int .i64 j] 36 (0, 0))) := Desk.start HA.out (Below.refl _ _)
  go_loopg [5] n (fun g s5 wr => ∃ i : Nat, i ≤ n ∧ g = n - i ∧ s5 = .int .i64 i ∧ Hid (∃ b' p' x' y' z' t' k' j' l' a', Snd.run d a i = (⟨b', p', x', y', z', l', t', k', j'⟩, a') ∧ Snd.Good ⟨b', p', x', y', z', l', t', k', j'⟩ a' ∧ Desk w wr B s a' (.cells #[.int .i64 b, .int .i64 p, .int .u64 x, .int .u64 y, .int .u64 z, .bool l, .int .u64 t, .int .i64 k, .int .i64 j] 36 (0, 0)) (.cells #[.int .i64 (b' : Nat), .int .i64 (p' : Nat), .int .u64 (x' : Nat), .int .u64 (y' : Nat), .int .u64 (z' : Nat), .bool l', .int .u64 (t' : Nat), .int .i64 (k' : Nat), .int .i64 (j' : Nat)] 36 (0, 0))))
  case atStart => exact ⟨0, Nat.zero_le _, rfl, rfl, b, p, x, y, z, t, k, j, l, a, by rw [HE.out]; rfl, HE.out ▸ HD.out, hS.out⟩
  case round =>
    clear hS
    obtain ⟨i, hi, rfl, rfl, hR⟩ := hrel
    obtain ⟨b1, p1, x1, y1, z1, t1, k1, j1, l1, a1, hrun, hgood, hdesk⟩ := hR.out
    have HRun := Lib.hid hrun
    have HG := Lib.hid hgood
    have HDk := Lib.hid hdesk
    obtain ⟨c0, c1, c2, c3, c4, c5, c6, c7, c8⟩ := nine_cells hdesk.res
    clear hrun hgood hdesk hR
    have h40 : (i : Int) < 40 := by omega
    by_cases hin : i < n
    · have hk5 : k1 < 5 := by have := HN.out i hin; rw [HRun.out] at this; exact this
      go_wp2_with fail
      refine (sdone_no b1 p1 x1 y1 z1 t1 k1 j1 l1 (by omega) _).mono ?_
      rintro e w2 ⟨rfl, hb2⟩
      have HD2 := Lib.hid (HDk.out.below hb2)
      clear c0 c1 c2 c3 c4 c5 c6 c7 c8 hb2 HDk
      go_wp2_with fail
      obtain ⟨T, hA2, hN2⟩ := HD2.out.arena
      refine (begin_any _ hA2).mono ?_
      rintro e w3 ⟨rfl, hA3, hR3⟩
      have HD3 := Lib.hid (hN2 _ _ ⟨_, .inl rfl, hA3, hR3⟩)
      clear hA2 hN2 hA3 hR3 HD2
      obtain ⟨c0, c1, c2, c3, c4, c5, c6, c7, c8⟩ := nine_cells HD3.out.res
      go_wp2_with fail
      have hnext : Snd.run d a (i + 1) = Snd.step ⟨b1, p1, x1, y1, z1, l1, t1, k1, j1⟩ a1.begin := by
        show (Snd.run d a i).1.step (Snd.run d a i).2.begin = _; rw [HRun.out]
      have hg1 : Snd.Good ⟨b1, p1, x1, y1, z1, l1, t1, k1, j1⟩ a1.begin := HG.out.same rfl
      obtain ⟨T, hA3, hN3⟩ := HD3.out.arena
      have hg2 := (hg1.step (by obtain ⟨tv, hh⟩ := hA3; exact hh.wb)).1
      have ht1 := Snd.step_touch (d := ⟨b1, p1, x1, y1, z1, l1, t1, k1, j1⟩) (a := a1.begin) rfl hk5
      have hst := sstep_any _ hg1 _ hA3
      rcases hs : Snd.step ⟨b1, p1, x1, y1, z1, l1, t1, k1, j1⟩ a1.begin with ⟨⟨b2, p2, x2, y2, z2, l2, t2, k2, j2⟩, a2⟩
      rw [hs] at hst hnext hg2 ht1
      refine hst.mono ?_
      rintro e w4 ⟨rfl, hN4⟩
      have HD4 := Lib.hid (hN3 _ _ hN4)
      have HNx := Lib.hid hnext
      have HG2 := Lib.hid hg2
      simp only [Snd.val]
      clear c0 c1 c2 c3 c4 c5 c6 c7 c8 hA3 hN3 hN4 hst hs hnext hg1 hg2 HD3
      obtain ⟨c0, c1, c2, c3, c4, c5, c6, c7, c8⟩ := nine_cells HD4.out.res
      obtain ⟨f0, f1, f2, f3, f4, f5, f6, f7, f8⟩ := nine_free HD4.out.res
      go_wp2_with fail
      have HD5 := Lib.hid (HD4.out.nineR (c0 := .int .i64 b2) (c1 := .int .i64 p2) (c2 := .int .u64 x2) (c3 := .int .u64 y2) (c4 := .int .u64 z2) (c5 := .bool l2) (c6 := .int .u64 t2) (c7 := .int .i64 k2) (c8 := .int .i64 j2))
      clear c0 c1 c2 c3 c4 c5 c6 c7 c8 f0 f1 f2 f3 f4 f5 f6 f7 f8
      obtain ⟨T, hA5, hN5⟩ := HD5.out.arena
      refine (touched_any _ hA5).mono ?_
      rintro e w5 ⟨ao, cap, rfl, -, hR5⟩
      have HD6 := Lib.hid (HD5.out.below (hR5.below (Nat.le_refl _) (fun k hk => hk.elim)))
      rw [ht1]
      clear hA5 hN5 hR5 HD5 HD4 ht1
      go_wp2_with fail
      go_roundg (n - (i + 1))
      case measure => go_light; omega
      case rel => exact ⟨i + 1, by omega, rfl, by go_num, _, _, _, _, _, _, _, _, _, _, HNx.out, HG2.out, HD6.out⟩
    · obtain rfl : i = n := by omega
      have hk5 : k1 = 5 ∨ k1 = 6 := by have := HY.out; rw [HRun.out] at this; exact this
      go_wp2_with fail
      refine (sdone_yes b1 p1 x1 y1 z1 t1 k1 j1 l1 hk5 _).mono ?_
      rintro e w2 ⟨rfl, hb2⟩
      generalize (if k1 = 6 then (3 : Int) else 0) = er
      have HD2 := Lib.hid (HDk.out.below hb2)
      clear c0 c1 c2 c3 c4 c5 c6 c7 c8 hb2 HDk
      obtain ⟨c0, c1, c2, c3, c4, c5, c6, c7, c8⟩ := nine_cells HD2.out.res
      obtain ⟨f0, f1, f2, f3, f4, f5, f6, f7, f8⟩ := nine_free HD2.out.res
      go_wp2_with fail
      rw [HRun.out]
      refine bodyPost_ret (results_duo Try.results9 _ _ (w.heap.size + 1) 36 _ (0, 0) _ rfl (nine_laid HD2.out.res) Try.underlying36 rfl Try.sizeTask) rfl ⟨rfl, HD2.out.done (nine_rest rfl)⟩

end Go.Proofs.Ytieehpajkidbcaa
