/- However a call goes, it has at most one try more than retries and hedges may be. -/
import Derived.Test.YtihgohadihjalaaLaw20A
import Derived.Test.YtihgohadihjalaaLow
import Derived.Lib.QuietBelow
import Derived.Deep.CutBlock
import Derived.Deep.LoopGhost
namespace Go.Proofs.Ytihgohadihjalaa
open Go.RowKit Go.Sort

theorem low20_7 (n : Int) : bits .and .i64 n 7 = n % 8 := i64_low n 3 (by omega)
theorem At.failed_m (u : At.Rq) (x : At.Bg) (s : At.St) (k now : Int) : (At.failed u x s k now).2.1.m = x.m := by
  unfold At.failed
  split
  · split
    · rfl
    · split
      · split <;> rfl
      · rfl
  · rfl
theorem Hd.most_few {M A : Int} {su st : Bool} (h : 0 ≤ M) : ((Hd.most M A su st : Nat) : Int) ≤ M := by
  unfold Hd.most; split <;> omega
theorem near_in {n m : Int} (h0 : 0 ≤ n) (h1 : n ≤ m) : Bd.near n m = n := by
  have := Bd.near_ways n m (by omega)
  omega

/-- The boxes of the law. -/
def boxF (k c s t g a r q v : Int) (su st : Bool) : Obj := .cells #[.int .i64 k, .int .i64 c, .int .i64 s, .int .i64 t, .int .i64 g, .int .u32 a, .int .i64 r, .bool su, .bool st, .int .i64 q, .int .u32 v] 24
def boxH (h : Int) : Obj := .cells #[.int .i64 h, .int .i64 2] 29 (0, 0)
def boxR (m r : Int) : Obj := .cells #[.int .i64 m, .int .i64 0, .int .i64 1, .int .i64 r, .int .i64 1, .int .i64 1] 33 (0, 0)

set_option maxHeartbeats 8000000 in
set_option maxRecDepth 100000 in
/-- The law. -/
theorem attries_any (k c s t g a r q v : Int) (su st : Bool) (n0 n1 n2 : Int) (sp : Option Addr) (len cap bk o : Nat) (L T : Nat → Int) (w : World) (hs : 0 < len → sp = some ⟨bk, o, none⟩)
    (hc : ∀ i, i < len → w.cell? ⟨bk, o + i * 3, none⟩ = some (.int .i64 (L i)) ∧ w.cell? ⟨bk, o + i * 3 + 1, none⟩ = some (.int .i64 (T i))) :
    Calls Try.prog 4 #[.agg #[.int .i64 k, .int .i64 c, .int .i64 s, .int .i64 t, .int .i64 g, .int .u32 a, .int .i64 r, .bool su, .bool st, .int .i64 q, .int .u32 v], .agg #[.int .i64 n0, .int .i64 n1, .int .i64 n2], .slice sp len cap] w fun e w' => e = .returned (.bool true) ∧ Below w.heap.size w w' := by
  have hn0 : 0 ≤ bits .and .i64 n0 7 ∧ bits .and .i64 n0 7 ≤ 7 := by rw [low20_7]; omega
  have hn1 : 0 ≤ bits .and .i64 n1 7 ∧ bits .and .i64 n1 7 ≤ 7 := by rw [low20_7]; omega
  have hn2 : 0 ≤ bits .and .i64 n2 15 ∧ bits .and .i64 n2 15 ≤ 15 := by rw [low15]; omega
  generalize he0 : bits .and .i64 n0 7 = H0 at hn0
  generalize he1 : bits .and .i64 n1 7 = M0 at hn1
  generalize he2 : bits .and .i64 n2 15 = R0 at hn2
  have HC := Lib.hid hc
  have HS := Lib.hid hs
  have hnew := fun w => tnew_any ⟨k, c, s, t, g, a, r, su, st, q, v, 100000, H0, 2⟩ w
  have HFEW := Lib.hid (show ((At.Rq.hm ⟨k, c, s, t, g, a, r, su, st, q, v, 100000, H0, 2⟩ : Nat) : Int) ≤ H0 from Hd.most_few hn0.1)
  have HSU := Lib.hid (show su = true → At.Rq.hm ⟨k, c, s, t, g, a, r, su, st, q, v, 100000, H0, 2⟩ = 0 from fun h => by subst h; exact Hd.most_sure _ _ _)
  have HST := Lib.hid (show st = true → At.Rq.hm ⟨k, c, s, t, g, a, r, su, st, q, v, 100000, H0, 2⟩ = 0 from fun h => by subst h; cases su; exact Hd.most_stream _ _; exact Hd.most_sure _ _ _)
  have HU := Lib.hid (show (⟨k, c, s, t, g, a, r, su, st, q, v, 100000, H0, 2⟩ : At.Rq).st = st from rfl)
  dsimp only at hnew
  generalize (⟨k, c, s, t, g, a, r, su, st, q, v, 100000, H0, 2⟩ : At.Rq) = u at hnew HFEW HSU HST HU
  have hbud := fun w => bnew_any M0 0 1 R0 1 1 w
  rw [near_in (n := M0) (m := 14) (by omega) (by omega), near_in (n := 0) (m := 1048576) (by omega) (by omega), near_in (n := 1) (m := 1048576) (by omega) (by omega), near_in (n := R0) (m := 1048576) (by omega) (by omega)] at hbud
  have hbud2 : ∀ w, Calls Try.prog 6 #[.agg #[.int .i64 M0, .int .i64 0, .int .i64 1, .int .i64 R0, .int .i64 1, .int .i64 1]] w fun e w' => e = .returned (.pointer (some ⟨w.heap.size + 1, 0, none⟩)) ∧ w'.heap[w.heap.size + 1]? = some (bud ⟨M0, 0, 1, R0, 1, 1, R0⟩) ∧ Below w.heap.size w w' := hbud
  have HI0 := Lib.hid (At.Inv.begin_ (u := u) (R := R0) (x := ⟨M0, 0, 1, R0, 1, 1, R0⟩) ⟨hn2.1, by show R0 ≤ R0; omega⟩ hn1.1 rfl 0)
  have hbeg := fun w P h => tbegin_any (P := P) (u := u) (s := .new) 0 w h
  generalize (At.begin_ u At.St.new 0) = b0 at HI0 hbeg
  clear hc hs hbud
  go_enter Try.func4, Try.ntmps4
  go_upto_region 3 with fail
  have H := Lib.hid ((Upon.start (fun _ => False) w).lay4 (.cells #[.int .i64 k, .int .i64 c, .int .i64 s, .int .i64 t, .int .i64 g, .int .u32 a, .int .i64 r, .bool su, .bool st, .int .i64 q, .int .u32 v] 24) (.cells #[.int .i64 n0, .int .i64 n1, .int .i64 n2] 41) (.cells #[.int .i64 H0, .int .i64 2] 29) (.cells #[.int .i64 M0, .int .i64 0, .int .i64 1, .int .i64 R0, .int .i64 1, .int .i64 1] 33))
  generalize (((w.alloc _).alloc _).alloc _).alloc _ = w4 at H ⊢
  have H : Hid (Upon (fun _ => False) w w4 [(w.heap.size + 1 + 1 + 1, boxR M0 R0), (w.heap.size + 1 + 1, boxH H0), (w.heap.size + 1, .cells #[.int .i64 n0, .int .i64 n1, .int .i64 n2] 41), (w.heap.size, boxF k c s t g a r q v su st)]) := H
  generalize w.heap.size + 1 + 1 + 1 = bR at H ⊢
  generalize w.heap.size + 1 + 1 = bH at H ⊢
  generalize w.heap.size + 1 = bN at H ⊢
  generalize w.heap.size = bF at H ⊢
  refine wp_region_held_drew (S := fun w' => w'.heap[bF]? = some (boxF k c s t g a r q v su st) ∧ w'.heap[bH]? = some (boxH H0) ∧ w'.heap[bR]? = some (boxR M0 R0)) (by kernel_rfl) ⟨H.out.get 3 rfl, H.out.get 1 rfl, H.out.get 0 rfl⟩ (fun hHeld => ?_)
  have H1 := Lib.hid H.out.drew
  clear H
  generalize w4.drew = wd at H1 hHeld ⊢
  refine wpAnyH_yield 0 (.agg #[.int .i64 k, .int .i64 c, .int .i64 s, .int .i64 t, .int .i64 g, .int .u32 a, .int .i64 r, .bool su, .bool st, .int .i64 q, .int .u32 v]) rfl (by kernel_rfl) (by kernel_rfl) (by kernel_rfl) (fun d _ _ _ h => by cases d <;> exact h) (by rfl) (by assumption) (fun _ hSw => by have hcs := frame_cells hSw.1; go_simp) ?_
  simp only [Act.put, List.setIfInBounds_toArray, List.set_cons_zero, List.set_cons_succ]
  refine wpAnyH_yield 1 (.agg #[.int .i64 H0, .int .i64 2]) rfl (by kernel_rfl) (by kernel_rfl) (by kernel_rfl) (fun d _ _ _ h => by cases d <;> exact h) (by rfl) (by assumption) (fun _ hSw => by have hcs := two_cells hSw.2.1; go_simp) ?_
  simp only [Act.put, List.setIfInBounds_toArray, List.set_cons_zero, List.set_cons_succ]
  refine wpAnyH_yield 3 (.agg #[.int .i64 M0, .int .i64 0, .int .i64 1, .int .i64 R0, .int .i64 1, .int .i64 1]) rfl (by kernel_rfl) (by kernel_rfl) (by kernel_rfl) (fun d _ _ _ h => by cases d <;> exact h) (by rfl) (by assumption) (fun _ hSw => by have hcs := six_cells hSw.2.2; go_simp) ?_
  simp only [Act.put, List.setIfInBounds_toArray, List.set_cons_zero, List.set_cons_succ]
  refine wpAnyH_ready (rs := [2]) (by kernel_rfl) (by simp) (AllReadyH.cons rfl (fun K hK => ?_) AllReadyH.nil)
  go_simp
  go_at_call 5
  refine (hnew _).mono ?_
  rintro e w5 ⟨rfl, hp, hb⟩
  have H2 := Lib.hid (H1.out.made hb hp (by omega))
  clear hp hb H1 hnew
  generalize wd.heap.size + 1 + 1 = P at H2 ⊢
  refine hK.out _ _ (⟨H2.out.get 4 rfl, H2.out.get 2 rfl, H2.out.get 1 rfl⟩) (fun hHeld => ?_)
  clear hK K
  try simp only [Act.put, List.setIfInBounds_toArray, List.set_cons_zero, List.set_cons_succ]
  refine wpAnyH_ready (rs := [4]) (by kernel_rfl) (by simp) (AllReadyH.cons rfl (fun K hK => ?_) AllReadyH.nil)
  go_simp
  go_at_call 6
  refine (hbud2 _).mono ?_
  rintro e w6 ⟨rfl, hp, hb⟩
  have H3 := Lib.hid (H2.out.made hb hp (by omega))
  clear hp hb H2 hbud2
  generalize w5.heap.size + 1 = Q at H3 ⊢
  refine hK.out _ _ (⟨H3.out.get 5 rfl, H3.out.get 3 rfl, H3.out.get 2 rfl⟩) (fun hHeld => ?_)
  clear hK K
  try simp only [Act.put, List.setIfInBounds_toArray, List.set_cons_zero, List.set_cons_succ]
  refine wpAnyH_yield 5 ((.pointer (some ⟨P, 0, none⟩))) rfl (by kernel_rfl) (by kernel_rfl) (by kernel_rfl) (fun d _ _ _ h => by cases d <;> exact h) (by rfl) (by assumption) (fun _ _ => by go_simp) ?_
  simp only [Act.put, List.setIfInBounds_toArray, List.set_cons_zero, List.set_cons_succ]
  refine wpAnyH_yield 6 ((.pointer (some ⟨Q, 0, none⟩))) rfl (by kernel_rfl) (by kernel_rfl) (by kernel_rfl) (fun d _ _ _ h => by cases d <;> exact h) (by rfl) (by assumption) (fun _ _ => by go_simp) ?_
  simp only [Act.put, List.setIfInBounds_toArray, List.set_cons_zero, List.set_cons_succ]
  refine wpAnyH_done (by kernel_rfl) ?_ _
  have H4 := Lib.hid H3.out.swap
  clear hHeld H3
  go_wp2_with fail
  refine (hbeg _ _ (H4.out.get 0 rfl)).mono ?_
  rintro e w7 ⟨⟨a1, c1, rfl, -⟩, hp, hr⟩
  have H5 := Lib.hid (H4.out.put hr hp)
  clear hp hr H4 hbeg
  generalize b0.1 = s0 at H5 HI0
  have HK := Lib.hid (H5.out.apart)
  have HPQ := Lib.hid (show P ≠ Q by have := HK.out; intro h; subst h; simp at this)
  clear HK
  go_upto_block 0 with fail
  go_cut [] (fun wx => ∃ z x, Hid (At.Inv u R0 x z) ∧ Hid (x.m = M0) ∧ Hid (Upon (fun _ => False) w wx [(P, att u z), (Q, bud x), (bR, boxR M0 R0), (bH, boxH H0), (bN, .cells #[.int .i64 n0, .int .i64 n1, .int .i64 n2] 41 (0, 0)), (bF, boxF k c s t g a r q v su st)]))
  case first =>
    go_wp2_with fail
    go_loopg [11] (61 : Nat) (fun gh s11 wx => ∃ (i : Nat) (z : At.St) (x : At.Bg), s11 = .int .i64 (i : Int) ∧ i ≤ 60 ∧ 61 - i ≤ gh ∧ Hid (At.Inv u R0 x z) ∧ Hid (x.m = M0) ∧ Hid (Upon (fun _ => False) w wx [(P, att u z), (Q, bud x), (bR, boxR M0 R0), (bH, boxH H0), (bN, .cells #[.int .i64 n0, .int .i64 n1, .int .i64 n2] 41 (0, 0)), (bF, boxF k c s t g a r q v su st)]))
    case atStart => exact ⟨0, s0, _, rfl, by omega, by omega, HI0, Lib.hid rfl, H5⟩
    case round =>
      obtain ⟨i, z, x, rfl, hi, hg, HI, HM, HU1⟩ := hrel
      clear HI0 H5
      have hw1 : IntKind.i64.wrap ((i : Int) + 1) = (i : Int) + 1 := by rw [IntKind.wrap_i64]; omega
      by_cases hil : i < len
      · have hil' : (i : Int) < (len : Int) := by omega
        by_cases hi60 : i < 60
        · have hi60' : (i : Int) < 60 := by omega
          obtain ⟨y0, y1⟩ := HC.out i hil
          have x0 := ((HU1.out.below (fun _ => id)).cell (block_lt_of_cell y0)).trans y0
          have x1 := ((HU1.out.below (fun _ => id)).cell (block_lt_of_cell y1)).trans y1
          clear y0 y1
          obtain rfl := HS.out (by omega)
          go_upto_block 2 with fail
          generalize hkk : bits .and .i64 (L i) 7 = kk
          clear x0 hkk
          go_cut [] (fun wx => ∃ z' x', Hid (At.Inv u R0 x' z') ∧ Hid (x'.m = M0) ∧ Hid (Upon (fun _ => False) w wx [(P, att u z'), (Q, bud x'), (bR, boxR M0 R0), (bH, boxH H0), (bN, .cells #[.int .i64 n0, .int .i64 n1, .int .i64 n2] 41 (0, 0)), (bF, boxF k c s t g a r q v su st)]))
          case first =>
            by_cases hk4 : kk < 4
            · have HFL := Lib.hid (fun y wy h h2 => tfailed_any (P := P) (Q := Q) (u := u) (s := z) (x := x) HPQ.out HI.out.ok (by rw [HI.out.cost]; decide) (by have := HI.out.room; have := hn2.2; omega) y (i : Int) wy h h2)
              have HI2 := Lib.hid (fun y => HI.out.failed y (i : Int))
              have HM2 := Lib.hid (fun y => (At.failed_m u x z y (i : Int)).trans HM.out)
              clear HI HM
              go_wp2_with fail
              generalize bits .and .i64 (T i) 15 = tt
              refine (HFL.out tt _ (HU1.out.get 0 rfl) (HU1.out.get 1 rfl)).mono ?_
              rintro e wy ⟨⟨a2, c2, rfl, -⟩, hp, hq, hr⟩
              have HU2 := Lib.hid (HU1.out.put2 hr hp hq)
              have HI3 := Lib.hid (HI2.out tt)
              have HM3 := Lib.hid (HM2.out tt)
              clear hp hq hr HU1 HFL HI2 HM2 x1
              go_wp2_with fail
              go_meet
              case rel => exact ⟨_, _, HI3, HM3, HU2⟩
            · by_cases hk6 : kk < 6
              · have HDU := Lib.hid (fun wy h => tdue_any (P := P) (u := u) (s := z) HI.out.ok 2 (i : Int) wy h)
                have HI2 := Lib.hid (HI.out.due 2 (i : Int))
                clear HI x1
                go_wp2_with fail
                refine (HDU.out _ (HU1.out.get 0 rfl)).mono ?_
                rintro e wy ⟨⟨a2, c2, rfl, -⟩, hp, hr⟩
                have HU2 := Lib.hid (HU1.out.put hr hp)
                clear hp hr HU1 HDU
                go_wp2_with fail
                go_meet
                case rel => exact ⟨_, x, HI2, HM, HU2⟩
              · have HDU := Lib.hid (fun wy h => tdue_any (P := P) (u := u) (s := z) HI.out.ok 3 (i : Int) wy h)
                have HI2 := Lib.hid (HI.out.due 3 (i : Int))
                clear HI x1
                go_wp2_with fail
                refine (HDU.out _ (HU1.out.get 0 rfl)).mono ?_
                rintro e wy ⟨⟨a2, c2, rfl, -⟩, hp, hr⟩
                have HU2 := Lib.hid (HU1.out.put hr hp)
                clear hp hr HU1 HDU
                go_wp2_with fail
                go_meet
                case rel => exact ⟨_, x, HI2, HM, HU2⟩
          case rest =>
            clear HI HM HU1 x1
            obtain ⟨z', x', HI, HM, HU1⟩ := hcut
            have HSE := Lib.hid (tsent_any wc (HU1.out.get 0 rfl))
            have HRE := Lib.hid (tretries_any (by have := HI.out.one; have := HI.out.most; omega) wc (HU1.out.get 0 rfl))
            have HHE := Lib.hid (thedges_any wc (HU1.out.get 0 rfl))
            have HOU := Lib.hid (tout_any HI.out.most wc (HU1.out.get 0 rfl))
            have hsum := HI.out.sum
            have hmost := HI.out.most
            have hout := HI.out.out
            have htr : z'.tried ≤ z'.p + 1 := by unfold At.St.tried; split <;> omega
            have hone := HI.out.one
            have HZ := Lib.hid (And.intro HI.out (And.intro HM.out HU1.out))
            clear HI HM HU1
            generalize z'.n = zn at HSE hsum hmost hout hone
            generalize z'.tried = zt at HRE hsum htr
            generalize z'.h = zh at HHE hsum hone
            generalize z'.many = zm at HOU hout
            generalize z'.p = zp at htr hone
            have hw2 : IntKind.i64.wrap (1 + (zt : Int)) = 1 + (zt : Int) := by rw [IntKind.wrap_i64]; omega
            have hw3 : IntKind.i64.wrap (1 + (zt : Int) + (zh : Int)) = 1 + (zt : Int) + (zh : Int) := by rw [IntKind.wrap_i64]; omega
            have hd1 : decide (1 + (zt : Int) + (zh : Int) < (zn : Int)) = false := by simpa using hsum
            have hd2 : decide ((16 : Int) < (zn : Int)) = false := by simp; omega
            have hd3 : ¬zn < zm := by omega
            clear hsum hmost hout htr hone
            go_wp2_with fail
            refine HSE.out.mono ?_
            rintro e wy ⟨rfl, rfl⟩
            go_wp2_with fail
            refine HRE.out.mono ?_
            rintro e wy ⟨rfl, rfl⟩
            go_wp2_with fail
            refine HHE.out.mono ?_
            rintro e wy ⟨rfl, rfl⟩
            go_wp2_with fail
            refine HSE.out.mono ?_
            rintro e wy ⟨rfl, rfl⟩
            go_wp2_with fail
            refine HOU.out.mono ?_
            rintro e wy ⟨rfl, rfl⟩
            go_wp2_with fail
            refine HSE.out.mono ?_
            rintro e wy ⟨rfl, rfl⟩
            go_wp2_with fail
            go_roundg (61 - (i + 1))
            case measure => omega
            case rel => exact ⟨i + 1, z', x', by push_cast; rfl, by omega, by omega, Lib.hid HZ.out.1, Lib.hid HZ.out.2.1, Lib.hid HZ.out.2.2⟩
        · obtain rfl : i = 60 := by omega
          clear hi60
          go_wp2_with fail
          go_meet
          case rel => exact ⟨z, x, HI, HM, HU1⟩
      · have hil' : ¬(i : Int) < (len : Int) := by omega
        clear hil
        go_wp2_with fail
        go_meet
        case rel => exact ⟨z, x, HI, HM, HU1⟩
  case rest =>
    obtain ⟨z, x, HI, HM, HU1⟩ := hcut
    clear HI0 H5 HC HS
    obtain ⟨r0, -, -, r3, -, -⟩ := six_cells (HU1.out.get 2 rfl)
    obtain ⟨h0, -⟩ := two_cells (HU1.out.get 3 rfl)
    obtain ⟨-, -, -, -, -, -, -, f7, f8, -, -⟩ := frame_cells (HU1.out.get 5 rfl)
    have kr0 := cell_regrown r0
    have kr3 := cell_regrown r3
    have kh0 := cell_regrown h0
    have kf7 := cell_regrown f7
    have kf8 := cell_regrown f8
    clear r0 r3 h0 f7 f8
    have cA : ∀ d os, Calls Try.prog 7 #[] (grow (redrawn wc d) os) fun e w'' => e = .returned (.bool true) ∧ ∃ p : Regrown, w'' = grow (redrawn wc p.d) p.os := fun d os => Calls.regrown_of (awake20_any _)
    have cS : ∀ d os, Calls Try.prog 11 #[.pointer (some ⟨P, 0, none⟩)] (grow (redrawn wc d) os) fun e w'' => e = .returned (.int .i64 (z.n : Int)) ∧ ∃ p : Regrown, w'' = grow (redrawn wc p.d) p.os := fun d os => Calls.regrown_of ((tsent_any _ (keep (HU1.out.get 0 rfl) (below_regrown wc d os))).mono (fun _ _ h => ⟨h.1, h.2 ▸ Below.refl _ _⟩))
    have cR : ∀ d os, Calls Try.prog 12 #[.pointer (some ⟨P, 0, none⟩)] (grow (redrawn wc d) os) fun e w'' => e = .returned (.int .i64 (z.tried : Int)) ∧ ∃ p : Regrown, w'' = grow (redrawn wc p.d) p.os := fun d os => Calls.regrown_of ((tretries_any (by have := HI.out.one; have := HI.out.most; omega) _ (keep (HU1.out.get 0 rfl) (below_regrown wc d os))).mono (fun _ _ h => ⟨h.1, h.2 ▸ Below.refl _ _⟩))
    have cH : ∀ d os, Calls Try.prog 13 #[.pointer (some ⟨P, 0, none⟩)] (grow (redrawn wc d) os) fun e w'' => e = .returned (.int .i64 (z.h : Int)) ∧ ∃ p : Regrown, w'' = grow (redrawn wc p.d) p.os := fun d os => Calls.regrown_of ((thedges_any _ (keep (HU1.out.get 0 rfl) (below_regrown wc d os))).mono (fun _ _ h => ⟨h.1, h.2 ▸ Below.refl _ _⟩))
    have hfew : (z.tried : Int) ≤ M0 := by rw [← HM.out]; exact HI.out.few
    have hroom : (z.tried : Int) ≤ R0 := by have := HI.out.room; have := HI.out.left; omega
    have hhed : (z.h : Int) ≤ H0 := by have := HI.out.hed; have := HFEW.out; omega
    have HHZ := Lib.hid (show su = true ∨ st = true → z.h = 0 from fun h => by
      have h1 := HI.out.hed
      rcases h with h | h
      · have := HSU.out h; omega
      · have := HST.out h; omega)
    have HNZ := Lib.hid (show st = true → z.n = 1 from fun h => by
      have h1 := HI.out.one
      have h2 := HHZ.out (.inr h)
      have h3 := (HI.out.str (HU.out.trans h)).1
      omega)
    have HBE := Lib.hid (HU1.out.below (fun _ => id))
    clear HU1 HI HM HFEW HSU HST HU
    generalize z.n = zn at cS HNZ
    generalize z.tried = zt at cR hfew hroom
    generalize z.h = zh at cH hhed HHZ
    have hd1 : decide ((zh : Int) ≤ H0) = true := by simpa using hhed
    have hmn : (zt : Int) ≤ min M0 R0 := by omega
    have hq1 : (if M0 < R0 then M0 else R0) = min M0 R0 := by omega
    have hq2 : (if R0 < M0 then R0 else M0) = min M0 R0 := by omega
    generalize min M0 R0 = mn at hmn hq1 hq2
    have hd2 : decide ((zt : Int) ≤ mn) = true := by simpa using hmn
    clear hfew hroom hhed hmn
    go_upto_region 16 with fail
    cases su <;> cases st
    all_goals
      try (have hz := HHZ.out (.inl rfl); rw [hz] at cH hd1)
      try (have hz := HHZ.out (.inr rfl); rw [hz] at cH hd1)
      try (have hz := HNZ.out rfl; rw [hz] at cS)
      refine wp_region_quiet_below (by kernel_rfl) (by kernel_rfl) ?_
      repeat (quiet_step (first | exact cA _ _ | exact cR _ _ | exact cH _ _ | exact cS _ _))
      refine wpQuiet_nil ?_
      intro _ hw'
      obtain ⟨⟨dq, osq⟩, hw''⟩ := hw'
      subst hw''
      go_wp2
      go_ret
      exact ⟨rfl, on HBE.out (below_regrown wc dq osq)⟩
end Go.Proofs.Ytihgohadihjalaa
