/- WindowPlays: what happened lately is counted, bucket by bucket. -/
import Derived.Test.YtakenaejmhdhnaaLaw16P
import Derived.Test.YtakenaejmhdhnaaLow
namespace Go.Proofs.Ytakenaejmhdhnaa
open Go.RowKit

theorem four_cells {w : World} {B : Nat} {t : TypeId} {c0 c1 c2 c3 : Value} (h : w.heap[B]? = some (.cells #[c0, c1, c2, c3] t (0, 0))) :
    w.cell? ⟨B, 0, none⟩ = some c0 ∧ w.cell? ⟨B, 1, none⟩ = some c1 ∧ w.cell? ⟨B, 2, none⟩ = some c2 ∧ w.cell? ⟨B, 3, none⟩ = some c3 :=
  ⟨cell_of_row _ _ _ _ _ _ h, cell_of_row _ _ _ _ _ _ h, cell_of_row _ _ _ _ _ _ h, cell_of_row _ _ _ _ _ _ h⟩

set_option maxHeartbeats 4000000 in
set_option maxRecDepth 100000 in
theorem winplays_any (n wd : Int) (sp : Option Addr) (len cap bk o : Nat) (L V : Nat → Bool) (O : Nat → Int) (B : Nat → Bool) (w : World) (hsp : 0 < len → sp = some ⟨bk, o, none⟩)
    (hc : ∀ i, i < len → w.cell? ⟨bk, o + i * 4, none⟩ = some (.bool (L i)) ∧ w.cell? ⟨bk, o + i * 4 + 1, none⟩ = some (.bool (V i)) ∧ w.cell? ⟨bk, o + i * 4 + 2, none⟩ = some (.int .i64 (O i)) ∧ w.cell? ⟨bk, o + i * 4 + 3, none⟩ = some (.bool (B i))) :
    Calls Try.prog 3 #[.int .i64 n, .int .i64 wd, .slice sp len cap] w fun e w' => e = .returned (.bool true) ∧ Below w.heap.size w w' := by
  have HD := Lib.hid (fun t h => same_bucket (wd := wd) (t := t) h)
  have HD1 := Lib.hid (show 1 ≤ max 1 (Tk.clamp wd) by omega)
  have hnew := wnl_new n wd (Held.start w)
  have hrnew := fun w => rwnew_any n wd w
  have hm := Wn.many_some n
  rw [← hm.2.2] at hrnew
  generalize Wn.many n = m at hnew hrnew hm
  generalize max 1 wd = d at hnew HD
  generalize max 1 (Tk.clamp wd) = d' at hrnew HD HD1
  have HM := Lib.hid hm
  clear hm
  go_enter Try.func3, Try.ntmps3
  go_wp2_with fail
  refine hnew.mono ?_
  rintro e w1 ⟨rfl, h1⟩
  have H1 := Lib.hid h1
  clear h1 hnew
  generalize w.heap.size + 1 = P at H1 ⊢
  generalize hR : w.heap.size = R at H1
  clear hR
  go_wp2_with fail
  refine (hrnew w1).mono ?_
  rintro e w2 ⟨rfl, hb⟩
  have H2 := Lib.hid ((H1.out.call hb))
  clear hb hrnew H1
  have H3 := Lib.hid (Wp.start (d' := d') H2.out)
  go_wp2_with fail
  generalize w2.alloc (.cells #[.int .i64 (m : Nat), .int .i64 d', .int .i64 0, .slice none 0 0, .slice none 0 0] 29) = w3 at H3 ⊢
  generalize w2.heap.size = M at H3 ⊢
  clear H2
  go_loopg [9, 10, 11, 12] (61 : Nat) (fun gh s9 s10 _ _ wx => ∃ (i : Nat) (now last : Int) (ev : List (Int × Bool)) (a a2 : Option Addr) (c c2 : Nat), s9 = .int .i64 now ∧ s10 = .int .i64 i ∧ i ≤ 60 ∧ 61 - i ≤ gh ∧ 0 ≤ now ∧ now ≤ 70000 * i ∧ ev.length ≤ i ∧ Hid (Wp w wx P R M m d d' last ev last ev a c a2 c2 []))
  case atStart => exact ⟨0, 0, 0, [], none, none, 0, 0, rfl, rfl, by omega, by omega, by omega, by omega, by simp, H3⟩
  case round =>
    obtain ⟨i, now, last, ev, a, a2, c, c2, rfl, rfl, hi, hg, hn0, hn1, hev, HI⟩ := hrel
    clear H3
    by_cases hl : i < len
    · have hl' : (i : Int) < (len : Int) := by omega
      by_cases h60 : i < 60
      · have h60' : (i : Int) < 60 := by omega
        have hwi : IntKind.i64.wrap ((i : Int) + 1) = (i : Int) + 1 := by rw [IntKind.wrap_i64]; omega
        obtain rfl := hsp (by omega)
        have hbel := HI.out.below
        obtain ⟨x0, x1, x2, x3⟩ := hc i hl
        have x0 : wr.cell? _ = _ := (hbel.cell (cell_block x0)).trans x0
        have x1 : wr.cell? _ = _ := (hbel.cell (cell_block x1)).trans x1
        have x2 : wr.cell? _ = _ := (hbel.cell (cell_block x2)).trans x2
        have x3 : wr.cell? _ = _ := (hbel.cell (cell_block x3)).trans x3
        clear hbel
        have e1 := low15 (O i)
        have b1 : 0 ≤ O i % 16 ∧ O i % 16 < 16 := ⟨Int.emod_nonneg _ (by decide), Int.emod_lt_of_pos _ (by decide)⟩
        generalize O i % 16 = y at e1 b1
        have hw1 : IntKind.i64.wrap (now + y) = now + y := by rw [IntKind.wrap_i64]; omega
        go_upto_if 42 with fail
        generalize (bits .and .i64 (O i / 16) 15 == 0) = q0
        have hlay := HI.out.lay (.cells #[.bool (L i), .bool (V i), .int .i64 (O i), .bool (B i)] 32)
        generalize wr.alloc (.cells #[.bool (L i), .bool (V i), .int .i64 (O i), .bool (B i)] 32) = wa at hlay ⊢
        generalize wr.heap.size = A at hlay ⊢
        have HA := Lib.hid hlay
        clear hlay HI x0 x1 x2 x3 hc hsp e1 hw1
        have e1 := low16 (O i / 256)
        have b2 : 0 ≤ O i / 256 % 65536 ∧ O i / 256 % 65536 < 65536 := ⟨Int.emod_nonneg _ (by decide), Int.emod_lt_of_pos _ (by decide)⟩
        generalize O i / 256 % 65536 = z at e1 b2
        have e2 := low31 (O i / 16)
        have b3 : 0 ≤ O i / 16 % 32 ∧ O i / 16 % 32 < 32 := ⟨Int.emod_nonneg _ (by decide), Int.emod_lt_of_pos _ (by decide)⟩
        generalize O i / 16 % 32 = u at e2 b3
        obtain ⟨c0, c1, c2', c3⟩ := four_cells (HA.out.wl.held.get 1 rfl)
        go_cut [9] (fun s9 wx => ∃ now2 : Int, s9 = .int .i64 now2 ∧ now ≤ now2 ∧ now2 ≤ now + 69000 ∧ wx = wa)
        case first =>
          have hw2 : IntKind.i64.wrap (now + y + z) = now + y + z := by rw [IntKind.wrap_i64]; omega
          cases q0
          · go_wp2_with fail
            go_meet
            case rel => exact ⟨now + y, rfl, by omega, by omega, rfl⟩
          · go_wp2_with fail
            go_meet
            case rel => exact ⟨now + y + z, rfl, by omega, by omega, rfl⟩
        case rest =>
          obtain ⟨now2, rfl, hn2, hn3, rfl⟩ := hcut
          clear e1 b2 b1
          go_upto_if 51 with fail
          generalize B i = q1
          go_cut [12] (fun s12 wx => ∃ t : Int, s12 = .int .i64 t ∧ now2 - 31 ≤ t ∧ t ≤ now2 ∧ wx = wc)
          case first =>
            have hw2 : IntKind.i64.wrap (now2 - u) = now2 - u := by rw [IntKind.wrap_i64]; omega
            cases q1
            · go_wp2_with fail
              go_meet
              case rel => exact ⟨now2, rfl, by omega, by omega, rfl⟩
            · go_wp2_with fail
              go_meet
              case rel => exact ⟨now2 - u, rfl, by omega, by omega, rfl⟩
          case rest =>
            obtain ⟨t, rfl, ht1, ht2, rfl⟩ := hcut
            clear e2 b3
            go_upto_if 59 with fail
            have hbk := HD.out t (by omega)
            generalize hb : Tk.clamp t / d = b at hbk
            have HBD := Lib.hid hb
            have HBD' := Lib.hid hbk.symm
            generalize hlm : max last b = lm
            have HLM := Lib.hid hlm
            have HLB := Lib.hid (show max lm b = lm by omega)
            clear hb hbk hlm c1 c2' c3
            go_cut [] (fun wx => ∃ (lw : Int) (ev' : List (Int × Bool)) (a a2 : Option Addr) (c c2 : Nat), ev'.length ≤ i + 1 ∧ Hid (max lw b = lm ∧ Wp w wx P R M m d d' lw ev' lm ev' a c a2 c2 [(A, .cells #[.bool (L i), .bool (V i), .int .i64 (O i), .bool (B i)] 32 (0, 0))]))
            case first =>
              cases hL : L i
              · obtain ⟨-, c1, -, -⟩ := four_cells (HA.out.wl.held.get 1 rfl)
                rw [hL] at c0
                go_wp2_with fail
                refine (wnote_any t (V i) wc HA.out.wl.wv (by omega)).mono ?_
                rintro e w5 ⟨rfl, hv, hr⟩
                rw [HBD.out, HLM.out] at hv
                have H5 := Lib.hid (HA.out.turn hv hr)
                clear hv hr HA c0 c1
                obtain ⟨-, c1, -, -⟩ := four_cells (H5.out.wl.held.get 1 rfl)
                obtain ⟨m0, m1, m2, m3, m4⟩ := H5.out.cells
                go_wp2_with fail
                have hrn := rwnote_any (m : Nat) d' last t (V i) a a2 c c2 ev w5 HD1.out H5.out.at_ H5.out.how (by omega)
                rw [HBD'.out, HLM.out] at hrn
                refine hrn.mono ?_
                rintro e w6 ⟨g, o, q, g2, o2, q2, rfl, hr1, hr2, hb⟩
                have H6 := Lib.hid (H5.out.call hb)
                have HE := Lib.hid (fun wz hz => H5.out.newer (wz := wz) (em' := ev ++ [(lm, V i)]) (n := ev.length + 1) (lm' := lm) hb (by simp) hr1 hr2 hz)
                clear hr1 hr2 hb hrn H5 m0 m1 m2 m3 m4 c1
                obtain ⟨m0, m1, m2, m3, m4⟩ := H6.out.cells
                have f0 := H6.out.free
                go_wp2_with fail
                go_meet
                case rel => exact ⟨lm, ev ++ [(lm, V i)], _, _, _, _, by rw [List.length_append]; simp; omega, Lib.hid ⟨HLB.out, HE.out _ rfl⟩⟩
              · rw [hL] at c0
                obtain ⟨m0, m1, m2, m3, m4⟩ := HA.out.cells
                go_wp2_with fail
                have hrn := rwmeet_any (m : Nat) d' last t a a2 ev.length c ev.length c2 wc HD1.out
                rw [HBD'.out, HLM.out] at hrn
                refine hrn.mono ?_
                rintro e w6 ⟨rfl, hb⟩
                have H6 := Lib.hid (HA.out.call hb)
                clear hb hrn HA m0 m1 m2 m3 m4 c0
                have HE := Lib.hid (H6.out.store (lm' := lm) H6.out.at_ H6.out.how H6.out.far)
                obtain ⟨m0, m1, m2, m3, m4⟩ := H6.out.cells
                have f0 := H6.out.free
                go_wp2_with fail
                go_meet
                case rel => exact ⟨last, ev, _, _, _, _, by omega, Lib.hid ⟨HLM.out, HE.out⟩⟩
            case rest =>
              obtain ⟨lw, ev', a, a2, c, c2, hev', HC⟩ := hcut
              clear HA c0
              obtain ⟨hlw, hwp⟩ := HC.out
              have HWP := Lib.hid hwp
              clear hwp HC
              have hla := HWP.out.wl
              go_wp2_with fail
              refine wp_region_held_drew (S := fun w' => w'.cell? ⟨M, 0, none⟩ = some (.int .i64 (m : Nat)) ∧ w'.cell? ⟨M, 1, none⟩ = some (.int .i64 d') ∧ w'.cell? ⟨M, 2, none⟩ = some (.int .i64 lm) ∧ w'.cell? ⟨M, 3, none⟩ = some (.slice a ev'.length c) ∧ w'.cell? ⟨M, 4, none⟩ = some (.slice a2 ev'.length c2)) (by kernel_rfl) (HWP.out.call (Below.refl _ _).drew).cells (fun hHeld => ?_)
              have HWd := Lib.hid (HWP.out.call (Below.refl _ _).drew)
              clear HWP hla
              generalize wc.drew = wd at HWd hHeld ⊢
              have HLW := Lib.hid hlw
              clear hlw
              refine wpAnyH_yield 0 (.pointer (some ⟨P, 0, none⟩)) rfl (by kernel_rfl) (by kernel_rfl) (by kernel_rfl) (fun d _ _ _ h => by cases d <;> exact h) (by rfl) (by assumption) (fun _ _ => by go_simp) ?_
              simp only [Act.put, List.setIfInBounds_toArray, List.set_cons_zero, List.set_cons_succ]
              refine wpAnyH_yield 1 (.int .i64 t) rfl (by kernel_rfl) (by kernel_rfl) (by kernel_rfl) (fun d _ _ _ h => by cases d <;> exact h) (by rfl) (by assumption) (fun _ _ => by go_simp) ?_
              simp only [Act.put, List.setIfInBounds_toArray, List.set_cons_zero, List.set_cons_succ]
              refine wpAnyH_yield 3 (.agg #[.int .i64 (m : Nat), .int .i64 d', .int .i64 lm, .slice a ev'.length c, .slice a2 ev'.length c2]) rfl (by kernel_rfl) (by kernel_rfl) (by kernel_rfl) (fun d _ _ _ h => by cases d <;> exact h) (by rfl) (by assumption) (fun _ hSw => by (try dsimp only at hSw); go_simp) ?_
              simp only [Act.put, List.setIfInBounds_toArray, List.set_cons_zero, List.set_cons_succ]
              refine wpAnyH_ready (rs := [2]) (by kernel_rfl) (by simp) (AllReadyH.cons rfl (fun K hK => ?_) AllReadyH.nil)
              go_simp
              go_at_call 10
              refine (wcounts_any t wd HWd.out.wl.wv).mono ?_
              rintro e w8 ⟨rfl, hv, hr⟩
              rw [HBD.out, HLW.out] at hv ⊢
              have H8 := Lib.hid (HWd.out.turn hv hr)
              clear hv hr HWd
              refine hK.out _ _ (H8.out.cells) (fun hHeld => ?_)
              clear hK K
              try simp only [Act.put, List.setIfInBounds_toArray, List.set_cons_zero, List.set_cons_succ]
              have hrc := rwcounts_any (m : Nat) d' lm a a2 c c2 ev' w8 ⟨by omega, by have := HM.out; omega⟩ ⟨H8.out.wl.wv.win.from_, H8.out.wl.wv.most⟩ H8.out.at_ H8.out.how (by omega)
              refine wpAnyH_ready (rs := [4]) (by kernel_rfl) (by simp) (AllReadyH.cons rfl (fun K hK => ?_) AllReadyH.nil)
              go_simp
              go_at_call 11
              refine hrc.mono ?_
              rintro e w9 ⟨rfl, hb⟩
              have H9 := Lib.hid (H8.out.call hb)
              clear hb H8 hrc
              refine hK.out _ _ (H9.out.cells) (fun hHeld => ?_)
              clear hK K
              try simp only [Act.put, List.setIfInBounds_toArray, List.set_cons_zero, List.set_cons_succ]
              refine wpAnyH_yield 5 (.bool false) rfl (by kernel_rfl) (by kernel_rfl) (by kernel_rfl) (fun d _ _ _ h => by cases d <;> exact h) (by rfl) (by assumption) (fun _ _ => by go_simp) ?_
              simp only [Act.put, List.setIfInBounds_toArray, List.set_cons_zero, List.set_cons_succ]
              refine wpAnyH_done (by kernel_rfl) ?_ _
              clear hHeld
              go_wp2_with fail
              go_roundg (61 - (i + 1))
              case measure => omega
              case rel => exact ⟨i + 1, now2, lm, ev', a, a2, c, c2, rfl, by go_num, by omega, by omega, by omega, by omega, by omega, Lib.hid H9.out.but⟩
      · have h60' : ¬(i : Int) < 60 := by omega
        go_wp2_with fail
        refine (wclear_any wr HI.out.wl.wv).mono ?_
        rintro e w4 ⟨rfl, hv, hr⟩
        have H4 := Lib.hid (HI.out.turn hv hr)
        clear hv hr HI
        go_wp2_with fail
        refine (awake16_any w4).mono ?_
        rintro e w5 ⟨rfl, hb⟩
        have H5 := Lib.hid (H4.out.call hb)
        clear hb H4
        have hcn := wcounts_any now w5 H5.out.wl.wv
        simp only [Wn.above] at hcn
        go_wp2_with fail
        refine hcn.mono ?_
        rintro e w6 ⟨rfl, hv, hr⟩
        have H6 := Lib.hid (H5.out.turn hv hr)
        clear hv hr H5 hcn
        go_wp2_with fail
        go_ret
        exact ⟨rfl, H6.out.below⟩
    · have hl' : ¬(i : Int) < (len : Int) := by omega
      go_wp2_with fail
      refine (wclear_any wr HI.out.wl.wv).mono ?_
      rintro e w4 ⟨rfl, hv, hr⟩
      have H4 := Lib.hid (HI.out.turn hv hr)
      clear hv hr HI
      go_wp2_with fail
      refine (awake16_any w4).mono ?_
      rintro e w5 ⟨rfl, hb⟩
      have H5 := Lib.hid (H4.out.call hb)
      clear hb H4
      have hcn := wcounts_any now w5 H5.out.wl.wv
      simp only [Wn.above] at hcn
      go_wp2_with fail
      refine hcn.mono ?_
      rintro e w6 ⟨rfl, hv, hr⟩
      have H6 := Lib.hid (H5.out.turn hv hr)
      clear hv hr H5 hcn
      go_wp2_with fail
      go_ret
      exact ⟨rfl, H6.out.below⟩
end Go.Proofs.Ytakenaejmhdhnaa
