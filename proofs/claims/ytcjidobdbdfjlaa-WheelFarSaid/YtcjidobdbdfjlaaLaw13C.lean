/- WheelFar: however far off an alarm is, it has come just at its time. -/
import Derived.Test.YtcjidobdbdfjlaaLaw13A
import Derived.Test.YtcjidobdbdfjlaaLow
import Derived.Deep.DeepCutAuto
import Derived.Deep.CutBlock
namespace Go.Proofs.Ytcjidobdbdfjlaa
open Go.RowKit Go.Sort

theorem low36 (n : Int) : bits .and .i64 n 68719476735 = n % 68719476736 := i64_low n 36 (by omega)
theorem low12 (n : Int) : bits .and .i64 n 4095 = n % 4096 := i64_low n 12 (by omega)

set_option maxHeartbeats 4000000 in
set_option maxRecDepth 100000 in
theorem wfar_any (from_ off : Int) (sp : Option Addr) (len cap bk o : Nat) (Y : Nat → Int) (w : World) (hsp : 0 < len → sp = some ⟨bk, o, none⟩) (hc : ∀ i, i < len → w.cell? ⟨bk, o + i, none⟩ = some (.int .i64 (Y i))) :
    Calls Try.prog 4 #[.int .i64 from_, .int .i64 off, .slice sp len cap] w fun e w' => e = .returned (.bool true) ∧ Rest (fun _ => False) w w' := by
  have hb := low36 from_
  have hb0 : 0 ≤ from_ % 68719476736 := by omega
  have hb1 : from_ % 68719476736 < 68719476736 := by omega
  generalize from_ % 68719476736 = b at hb hb0 hb1
  have hq := low32 off
  have hq0 : 0 ≤ off % 4294967296 := by omega
  have hq1 : off % 4294967296 < 4294967296 := by omega
  generalize off % 4294967296 = q at hq hq0 hq1
  go_enter Try.func4, Try.ntmps4
  go_wp2_with fail
  have hsb : ∀ k : Nat, 0 ≤ q / 2 ^ k ∧ q / 2 ^ k ≤ q := fun k => ⟨Int.ediv_nonneg hq0 (Int.le_of_lt (Int.pow_pos (by decide))), Int.ediv_le_self _ hq0⟩
  have hs := hsb (min (IntKind.u64.wrap (bits .and .i64 (off / 1099511627776) 31)).toNat 64)
  generalize q / 2 ^ min (IntKind.u64.wrap (bits .and .i64 (off / 1099511627776) 31)).toNat 64 = s at hs ⊢
  clear hsb hb hq
  obtain ⟨s0, s1⟩ := hs
  have hcb : Tk.clamp b = b := Tk.clamp_in hb0 (by omega)
  have hnew := wl_new b (by rw [hcb]; omega) w w (Rest.refl _ _) [] (fun k hk => by simp at hk)
  rw [hcb] at hnew
  refine hnew.mono ?_
  rintro e w1 ⟨rfl, h1, -⟩
  have H1 := Lib.hid h1
  clear h1 hnew
  have hws : IntKind.i64.wrap (b + s) = b + s := by rw [IntKind.wrap_i64]; omega
  have hws1 : IntKind.i64.wrap (b + s - 1) = b + s - 1 := by rw [IntKind.wrap_i64]; omega
  have hcs : Tk.clamp (b + s) = b + s := Tk.clamp_in (by omega) (by omega)
  have hcs1 : Hid (0 < s → Tk.clamp (b + s - 1) = b + s - 1) := Lib.hid (fun _ => Tk.clamp_in (by omega) (by omega))
  have hput := wl_put (⟨b + s, 0, 0, 3, 0, 0⟩ : En) 0 H1.out (by rw [show (⟨b + s, 0, 0, 3, 0, 0⟩ : En).t = b + s from rfl, hcs]; omega) (by show ([] : List En).length < 256; decide)
  simp only [hcs] at hput
  go_wp2_with fail
  refine hput.mono ?_
  rintro e w2 ⟨rfl, h2, -⟩
  have H2 := Lib.hid (show Wl w w2 w.heap.size b [⟨b + s, 0, 0, 3, 0, 0⟩] [] from h2)
  have hbs : b + s < 73014444032 := by omega
  clear h2 hput H1 hq0 hq1 s1 hcb hb1
  go_upto_block 0 with fail
  go_cut [7, 11, 12] (fun s7 _ _ wx => ∃ c : Int, s7 = .int .i64 c ∧ 0 ≤ c ∧ (c < b + s ∨ (c = b + s ∧ s = 0)) ∧ Hid (Wl w wx w.heap.size c [⟨b + s, 0, 0, 3, 0, 0⟩] []))
  case first =>
    go_wp2_with fail
    go_loopg [7, 11, 12] (31 : Nat) (fun g1 s7 s11 _ wr => ∃ (i : Nat) (c : Int), s11 = .int .i64 i ∧ i ≤ 30 ∧ 31 - i ≤ g1 ∧ s7 = .int .i64 c ∧ 0 ≤ c ∧ (c < b + s ∨ (c = b + s ∧ s = 0)) ∧ Hid (Wl w wr w.heap.size c [⟨b + s, 0, 0, 3, 0, 0⟩] []))
    case atStart => exact ⟨0, b, rfl, by omega, by omega, rfl, hb0, by omega, H2⟩
    case round =>
      obtain ⟨i, c, rfl, hi, hg, rfl, c0, hcb, HI⟩ := hrel
      clear H2
      by_cases hl : i < len
      · have hl' : (i : Int) < (len : Int) := by omega
        by_cases h30 : i < 30
        · have h30' : (i : Int) < 30 := by omega
          have hwi : IntKind.i64.wrap ((i : Int) + 1) = (i : Int) + 1 := by rw [IntKind.wrap_i64]; omega
          obtain rfl := hsp (by omega)
          have hci := hc i hl
          have hcr : wr.cell? ⟨bk, o + i, none⟩ = some (.int .i64 (Y i)) := by rw [World.cell?_of_block (HI.out.rest.block bk (cell_old hci) (fun x => x))]; exact hci
          have hy := low12 (Y i)
          have y0 : 0 ≤ Y i % 4096 := by omega
          have y1 : Y i % 4096 < 4096 := by omega
          generalize Y i % 4096 = d at hy y0 y1
          generalize Y i = yi at hcr hy hci
          have hwd : IntKind.i64.wrap (c + d) = c + d := by rw [IntKind.wrap_i64]; omega
          clear hci
          by_cases hbr : b + s ≤ c + d
          · go_wp2_with fail
            go_meet
            case rel => exact ⟨c, rfl, c0, hcb, HI⟩
          · have hcd : Tk.clamp (c + d) = c + d := Tk.clamp_in (by omega) (by omega)
            have hadv := wl_adv (c + d) HI.out (by rw [hcd]; omega)
            rw [hcd, show (if c < c + d then c + d else c) = c + d by split <;> omega] at hadv
            have HA := Lib.hid hadv
            have HC : Hid (Rf.come (c + d) [⟨b + s, 0, 0, 3, 0, 0⟩] = 0) := by show _ = 0; simp only [Rf.come]; rw [if_neg (by omega)]
            clear hadv
            go_wp2_with fail
            refine HA.out.mono ?_
            rintro e w3 ⟨rfl, h3, -⟩
            have H3 := Lib.hid h3
            clear h3 HA HI
            have hcome := wl_come H3.out
            rw [HC.out] at hcome
            go_wp2_with fail
            refine hcome.mono ?_
            rintro e w4 ⟨rfl, rfl⟩
            clear hcome HC
            go_wp2_with fail
            go_roundg (31 - (i + 1))
            case measure => omega
            case rel => exact ⟨i + 1, c + d, by go_num, by omega, by omega, rfl, by omega, .inl (by omega), H3⟩
        · have h30' : ¬ (i : Int) < 30 := by omega
          go_wp2_with fail
          go_meet
          case rel => exact ⟨c, rfl, c0, hcb, HI⟩
      · have hl' : ¬ (i : Int) < (len : Int) := by omega
        go_wp2_with fail
        go_meet
        case rel => exact ⟨c, rfl, c0, hcb, HI⟩
  case rest =>
    obtain ⟨c, rfl, c0, hcb, HI⟩ := hcut
    clear H2
    by_cases hs0 : 0 < s
    · have hlt : c < b + s := by omega
      have hadv := wl_adv (b + s - 1) HI.out (by rw [hcs1.out hs0]; omega)
      rw [hcs1.out hs0, show (if c < b + s - 1 then b + s - 1 else c) = b + s - 1 by split <;> omega] at hadv
      have HA := Lib.hid hadv
      have HC : Hid (Rf.come (b + s - 1) [⟨b + s, 0, 0, 3, 0, 0⟩] = 0) := by show _ = 0; simp only [Rf.come]; rw [if_neg (by omega)]
      clear hadv hcs1
      go_wp2_with fail
      refine HA.out.mono ?_
      rintro e w3 ⟨rfl, h3, -⟩
      have H3 := Lib.hid h3
      clear h3 HA HI
      have hcome := wl_come H3.out
      rw [HC.out] at hcome
      go_wp2_with fail
      refine hcome.mono ?_
      rintro e w4 ⟨rfl, rfl⟩
      clear hcome HC
      replace HI := H3
      clear H3
      go_wp2_with fail
      have hx : Rf.come (b + s) [⟨b + s, 0, 0, 3, 0, 0⟩] = 1 := by simp only [Rf.come]; rw [if_pos (Int.le_refl _)]
      have hadv := wl_adv (b + s) HI.out (by rw [hcs]; omega)
      rw [hcs, show (if b + s - 1 < b + s then b + s else b + s - 1) = b + s by split <;> omega] at hadv
      have HA := Lib.hid hadv
      clear hadv
      refine HA.out.mono ?_
      rintro e w5 ⟨rfl, h5, -⟩
      have H5 := Lib.hid h5
      clear h5 HA HI
      go_wp2_with fail
      refine (wl_take H5.out (Int.le_refl _)).mono ?_
      rintro e w6 ⟨rfl, h6, -⟩
      have hr := Rest.alloc (fun _ => False) w6 (.cells #[.int .i64 (b + s), .int .i64 0, .int .i64 0, .int .i64 3, .int .i64 0] 30)
      have h9 := heap_alloc_new w6 (.cells #[.int .i64 (b + s), .int .i64 0, .int .i64 0, .int .i64 3, .int .i64 0] 30)
      have H6 := Lib.hid (⟨h6.past hr, h9⟩ : Wl w (w6.alloc (.cells #[.int .i64 (b + s), .int .i64 0, .int .i64 0, .int .i64 3, .int .i64 0] 30)) w.heap.size (b + s) [] [] ∧ _)
      clear h6 hr h9 H5
      go_wp2_with fail
      generalize w6.alloc (.cells #[.int .i64 (b + s), .int .i64 0, .int .i64 0, .int .i64 3, .int .i64 0] 30) = w7 at H6 ⊢
      refine (awake13_any w7).mono ?_
      rintro e w8 ⟨rfl, hr8⟩
      have H8 := Lib.hid (⟨H6.out.1.past hr8, (hr8.block _ (lt_of_block H6.out.2) (fun x => x)).trans H6.out.2⟩ : Wl w w8 w.heap.size (b + s) [] [] ∧ _)
      obtain ⟨x0, x1, x2, x3, x4⟩ := five_cells13 H8.out.2
      clear hr8 H6
      go_wp2_with fail
      clear x0 x1 x2 x3 x4
      refine (wl_len H8.out.1).mono ?_
      rintro e w9 ⟨rfl, hr9⟩
      have H9 := Lib.hid (H8.out.1.past hr9)
      clear hr9 H8
      go_wp2
      go_ret
      exact ⟨rfl, H9.out.rest⟩
    · clear hcs1
      go_wp2_with fail
      have hx : Rf.come (b + s) [⟨b + s, 0, 0, 3, 0, 0⟩] = 1 := by simp only [Rf.come]; rw [if_pos (Int.le_refl _)]
      have hadv := wl_adv (b + s) HI.out (by rw [hcs]; omega)
      rw [hcs, show (if c < b + s then b + s else c) = b + s by split <;> omega] at hadv
      have HA := Lib.hid hadv
      clear hadv
      refine HA.out.mono ?_
      rintro e w5 ⟨rfl, h5, -⟩
      have H5 := Lib.hid h5
      clear h5 HA HI
      go_wp2_with fail
      refine (wl_take H5.out (Int.le_refl _)).mono ?_
      rintro e w6 ⟨rfl, h6, -⟩
      have hr := Rest.alloc (fun _ => False) w6 (.cells #[.int .i64 (b + s), .int .i64 0, .int .i64 0, .int .i64 3, .int .i64 0] 30)
      have h9 := heap_alloc_new w6 (.cells #[.int .i64 (b + s), .int .i64 0, .int .i64 0, .int .i64 3, .int .i64 0] 30)
      have H6 := Lib.hid (⟨h6.past hr, h9⟩ : Wl w (w6.alloc (.cells #[.int .i64 (b + s), .int .i64 0, .int .i64 0, .int .i64 3, .int .i64 0] 30)) w.heap.size (b + s) [] [] ∧ _)
      clear h6 hr h9 H5
      go_wp2_with fail
      generalize w6.alloc (.cells #[.int .i64 (b + s), .int .i64 0, .int .i64 0, .int .i64 3, .int .i64 0] 30) = w7 at H6 ⊢
      refine (awake13_any w7).mono ?_
      rintro e w8 ⟨rfl, hr8⟩
      have H8 := Lib.hid (⟨H6.out.1.past hr8, (hr8.block _ (lt_of_block H6.out.2) (fun x => x)).trans H6.out.2⟩ : Wl w w8 w.heap.size (b + s) [] [] ∧ _)
      obtain ⟨x0, x1, x2, x3, x4⟩ := five_cells13 H8.out.2
      clear hr8 H6
      go_wp2_with fail
      clear x0 x1 x2 x3 x4
      refine (wl_len H8.out.1).mono ?_
      rintro e w9 ⟨rfl, hr9⟩
      have H9 := Lib.hid (H8.out.1.past hr9)
      clear hr9 H8
      go_wp2
      go_ret
      exact ⟨rfl, H9.out.rest⟩
end Go.Proofs.Ytcjidobdbdfjlaa
