/- WheelPlays: the law. -/
import Derived.Test.YtcjidobdbdfjlaaLaw13H
import Derived.Deep.LoopGhost
import Derived.Deep.DeepCutAuto
import Derived.Deep.CutBlock
namespace Go.Proofs.Ytcjidobdbdfjlaa
open Go.RowKit Go.Sort


/-- An alarm's box beside a wheel and its list: laid anew. -/
theorem Ws.boxed {w wr w' : World} {P X c : Nat} {now n : Int} {M : List En} {a : Option Addr} (h : Ws w wr P X now M n a c []) (o : Obj) (hw : w' = wr.alloc o) : Ws w w' P X now M n a c [wr.heap.size] := by
  subst hw
  exact h.own (Rest.alloc _ _ _) (Nat.le_refl _) (by simp)
theorem Ws.off {w wr : World} {P X c : Nat} {now n : Int} {M : List En} {a : Option Addr} {K : List Nat} (h : Ws w wr P X now M n a c K) : wr.heap.size ≠ X ∧ ∀ k, k ∈ aBlk a → wr.heap.size ≠ k :=
  ⟨fun e => by have := h.hi; omega, fun k hk e => by have := h.lz.old k hk; omega⟩

set_option maxHeartbeats 4000000 in
set_option maxRecDepth 1000000 in
theorem wplays_any (from_ : Int) (sp : Option Addr) (len cap bk o : Nat) (hsp : 0 < len → sp = some ⟨bk, o, none⟩) (Zs : Nat → Nat → Int) (w : World) (hX : Acts w bk o len Zs) :
    Calls Try.prog 3 #[.int .i64 from_, .slice sp len cap] w fun e w' => e = .returned (.bool true) ∧ Rest (fun _ => False) w w' := by
  have HX := Lib.hid hX
  have HSP := Lib.hid hsp
  clear hX hsp
  have hb := low24 from_
  have hb0 : 0 ≤ from_ % 16777216 := by omega
  have hb1 : from_ % 16777216 < 16777216 := by omega
  generalize from_ % 16777216 = b at hb hb0 hb1
  go_enter Try.func3, Try.ntmps3
  go_wp2_with fail
  have hcb : Tk.clamp b = b := Tk.clamp_in hb0 (by omega)
  have hnew := wl_new b (by rw [hcb]; omega) w w (Rest.refl _ _) [] (fun k hk => by simp at hk)
  rw [hcb] at hnew
  refine hnew.mono ?_
  rintro e w1 ⟨rfl, h1, -⟩
  have hPl := h1.size
  have H1 := Lib.hid h1
  clear h1 hnew hb hcb
  go_wp2_with fail
  have h0 : Ws w (w1.alloc (.cells #[.slice none 0 0, .int .i64 0] 28)) w.heap.size w1.heap.size b [] 0 none 0 [] :=
    ⟨H1.out.own (Rest.alloc _ _ _) (Nat.le_refl _) (by simp), heap_alloc_new _ _, .inl ⟨rfl, rfl, rfl⟩, Int.le_refl _, hPl⟩
  generalize w1.alloc (.cells #[.slice none 0 0, .int .i64 0] 28) = w2 at h0 ⊢
  have HW := Lib.hid h0
  clear h0 H1
  generalize w.heap.size = P at HW ⊢
  generalize w1.heap.size = X at HW ⊢
  go_loopg [5, 8] (60 : Nat) (fun g1 s5 s8 wr => ∃ (i c : Nat) (now n : Int) (M : List En) (a : Option Addr), s5 = .int .i64 now ∧ s8 = .int .i64 i ∧ 60 - i ≤ g1 ∧ i ≤ 60 ∧ i ≤ len ∧ now ≤ 16777216 + (i : Int) * 8191 ∧ n ≤ i ∧ Hid (Ws w wr P X now M n a c []))
  case atStart => exact ⟨0, 0, b, 0, [], none, rfl, rfl, by omega, by omega, by omega, by omega, by omega, HW⟩
  case round =>
    obtain ⟨i, c, now, n, M, a, rfl, rfl, hg1, hi60, hil, hnow, hn, HS⟩ := hrel
    by_cases hlt : i < len ∧ i < 60
    · obtain ⟨hl1, hl2⟩ := hlt
      have hl1' : (i : Int) < (len : Int) := by omega
      have hl2' : (i : Int) < 60 := by omega
      obtain rfl := HSP.out (by omega)
      have x1 := HX.out.at_ HS.out.wl.rest hl1 (j := 1) (by decide)
      have x2 := HX.out.at_ HS.out.wl.rest hl1 (j := 2) (by decide)
      have x3 := HX.out.at_ HS.out.wl.rest hl1 (j := 3) (by decide)
      have x4 := HX.out.at_ HS.out.wl.rest hl1 (j := 4) (by decide)
      have x5 := HX.out.at_ HS.out.wl.rest hl1 (j := 5) (by decide)
      have m1 := low3 (Zs i 2)
      have m2 := low7 (Zs i 3)
      have m3 := low3 (Zs i 5)
      go_upto_region 7 with fail
      clear x1 x2 x3 x4 x5
      have hs0 := HS.out.boxed (.cells #[.int .i64 (Zs i 1), .int .i64 (Zs i 2), .int .i64 (Zs i 3), .int .i64 (Zs i 4), .int .i64 (Zs i 5)] 30) rfl
      obtain ⟨h9X, h9a⟩ := HS.out.off
      have h9w := HS.out.wl.size
      have hb0 := heap_alloc_new wr (.cells #[.int .i64 (Zs i 1), .int .i64 (Zs i 2), .int .i64 (Zs i 3), .int .i64 (Zs i 4), .int .i64 (Zs i 5)] 30)
      generalize wr.alloc (.cells #[.int .i64 (Zs i 1), .int .i64 (Zs i 2), .int .i64 (Zs i 3), .int .i64 (Zs i 4), .int .i64 (Zs i 5)] 30) = wa at hs0 hb0 ⊢
      generalize wr.heap.size = b9 at hs0 hb0 h9X h9a h9w ⊢
      obtain ⟨x0, x1, x2, x3, x4⟩ := five_cells13 hb0
      have f9 : ∀ i, wa.frozen? ⟨b9, i, none⟩ = false := fun _ => frozen_of_row _ _ _ _ _ hb0
      have hb1 := heap_setCell_same wa b9 1 _ _ (.int .i64 (Zs i 2 % 4)) hb0
      have hb2 := heap_setCell_same _ b9 2 _ _ (.int .i64 (Zs i 3 % 8)) hb1
      have hb3 := heap_setCell_same _ b9 4 _ _ (.int .i64 (Zs i 5 % 4)) hb2
      have hr1 := Rest.setCell (own := fun k => k = b9) wa ⟨b9, 1, none⟩ (.int .i64 (Zs i 2 % 4)) rfl
      have hr2 := Rest.setCell (own := fun k => k = b9) (wa.setCell ⟨b9, 1, none⟩ (.int .i64 (Zs i 2 % 4))) ⟨b9, 2, none⟩ (.int .i64 (Zs i 3 % 8)) rfl
      have hr3 := Rest.setCell (own := fun k => k = b9) ((wa.setCell ⟨b9, 1, none⟩ (.int .i64 (Zs i 2 % 4))).setCell ⟨b9, 2, none⟩ (.int .i64 (Zs i 3 % 8))) ⟨b9, 4, none⟩ (.int .i64 (Zs i 5 % 4)) rfl
      have hs1 := ((hs0.wrote (by simp) h9X h9a h9w hr1).wrote (by simp) h9X h9a h9w hr2).wrote (by simp) h9X h9a h9w hr3
      have HB : Hid ((((wa.setCell ⟨b9, 1, none⟩ (.int .i64 (Zs i 2 % 4))).setCell ⟨b9, 2, none⟩ (.int .i64 (Zs i 3 % 8))).setCell ⟨b9, 4, none⟩ (.int .i64 (Zs i 5 % 4))).heap[b9]? = some (.cells #[.int .i64 (Zs i 1), .int .i64 (Zs i 2 % 4), .int .i64 (Zs i 3 % 8), .int .i64 (Zs i 4), .int .i64 (Zs i 5 % 4)] 30 (0, 0))) := Lib.hid hb3
      have HS1 := Lib.hid hs1
      clear hs0 hb0 hb1 hb2 hb3 hr1 hr2 hr3 hs1
      go_upto_region 8 with fail
      generalize ((wa.setCell ⟨b9, 1, none⟩ (.int .i64 (Zs i 2 % 4))).setCell ⟨b9, 2, none⟩ (.int .i64 (Zs i 3 % 8))).setCell ⟨b9, 4, none⟩ (.int .i64 (Zs i 5 % 4)) = wb at HS1 HB ⊢
      clear x0 x1 x2 x3 x4 f9 HS
      have q0 := HX.out.at_ HS1.out.wl.rest hl1 (j := 0) (by decide)
      simp only [Nat.add_zero] at q0
      have hq := low7 (Zs i 0)
      have hq0 : 0 ≤ Zs i 0 % 8 := by omega
      have hq1 : Zs i 0 % 8 < 8 := by omega
      generalize Zs i 0 % 8 = p at hq hq0 hq1
      go_upto_block 2 with fail
      clear q0 hq
      go_cut [5] (fun s5 wx => ∃ (c' : Nat) (now' n' : Int) (M' : List En) (a' : Option Addr), s5 = .int .i64 now' ∧ now' ≤ now + 8191 ∧ n' ≤ n + 1 ∧ Hid (Ws w wx P X now' M' n' a' c' []))
      case first =>
        have HS2 := Lib.hid (HS1.out.drop (K' := []) (fun k hk => by simp at hk))
        go_upto_if 105 with fail
        go_cut [105] (fun s105 wx => wb = wx ∧ s105 = .bool (decide (p = 4 ∨ p = 5)))
        case first =>
          by_cases e4 : p = 4
          · subst e4
            go_wp2_with fail
            go_meet
            case rel => exact ⟨rfl, rfl⟩
          · have e4b : (p == 4) = false := by simpa using e4
            go_wp2_with fail
            go_meet
            case rel => exact ⟨rfl, by congr 1; by_cases e5 : p = 5 <;> simp [e4, e5]⟩
        case rest =>
          obtain ⟨rfl, hs⟩ := hcut
          subst hs
          by_cases e45 : p = 4 ∨ p = 5
          · rw [show decide (p = 4 ∨ p = 5) = true by simpa using e45]
            clear HS1 HB
            go_upto_if 105 with fail
            refine adv_part HX hl1 HS2 (by omega) _ _ _ _ _ _ _ _ _ _ _ _ _ _ _ _ _ _ _ _ _ _ _ _ _ _ _ _ _ _ _ _ _ _ _ _ _ _ _ _ _ _ _ _ _ _ _ _ _ _ _ _ _ _ _ _ _ _ _ _ _ _ _ _ _ _ _ _ _ _ _ _ _ _ _ _ _ _ _ _ _ _ _ _ _ _ _ _ _ _ _ _ _ _ _ _ _ _ _ _ _ _ _ _ _ _ _ _ _ _ _ _ _ _ _ _ _ _ _ _ _ _ _ _ _ _ _ _ _ _ _ _ _ _ _ _ _ _ _ _ _ _ _ _ _ _ _ _ _ _ _ _ _ _ _ _ _ _ _ _ _ _ _ _ _ _ _ _ _ _ _ _ _ _ _ _ _ _ _ _ _ _ _ _ _ _ (Lib.hid (fun x10 x108 x109 x110 x111 x112 x113 x114 x115 x116 x117 x118 x119 x120 x121 x122 x123 x124 x125 x126 x127 x128 x129 x130 x131 x132 x133 x134 x135 x136 x137 x138 x139 x140 x141 x142 x143 x144 on wn on0 on1 hW => ?_))
            have HWn := Lib.hid hW
            clear hW HS2
            go_wp2_with fail
            go_meet
            case rel => exact ⟨c, now + on, n, M, a, rfl, by omega, by omega, HWn⟩
          · rw [show decide (p = 4 ∨ p = 5) = false by simpa using e45]
            go_upto_if 145 with fail
            go_cut [145] (fun s145 wx => wb = wx ∧ s145 = .bool (decide (p = 6 ∨ p = 7)))
            case first =>
              by_cases e6 : p = 6
              · subst e6
                go_wp2_with fail
                go_meet
                case rel => exact ⟨rfl, rfl⟩
              · have e6b : (p == 6) = false := by simpa using e6
                go_wp2_with fail
                go_meet
                case rel => exact ⟨rfl, by congr 1; by_cases e7 : p = 7 <;> simp [e6, e7]⟩
            case rest =>
              obtain ⟨rfl, hs⟩ := hcut
              subst hs
              by_cases e67 : p = 6 ∨ p = 7
              · rw [show decide (p = 6 ∨ p = 7) = true by simpa using e67]
                clear HS1 HB
                go_upto_if 145 with fail
                refine take_part HS2 _ _ _ _ _ _ _ _ _ _ _ _ _ _ _ _ _ _ _ _ _ _ _ _ _ _ _ _ _ _ _ _ _ _ _ _ _ _ _ _ _ _ _ _ _ _ _ _ _ _ _ _ _ _ _ _ _ _ _ _ _ _ _ _ _ _ _ _ _ _ _ _ _ _ _ _ _ _ _ _ _ _ _ _ _ _ _ _ _ _ _ _ _ _ _ _ _ _ _ _ _ _ _ _ _ _ _ _ _ _ _ _ _ _ _ _ _ _ _ _ _ _ _ _ _ _ _ _ _ _ _ _ _ _ _ _ _ _ _ _ _ _ _ _ _ _ _ _ _ _ _ _ _ _ _ _ _ _ _ _ _ _ _ _ _ _ _ _ _ _ _ _ _ _ _ _ _ _ _ _ _ _ _ _ _ _ _ (Lib.hid (fun x11 x12 x13 x14 x15 x148 x149 x150 x151 x152 x153 x154 x155 x156 x157 x158 x159 x160 x161 x162 x163 x164 x165 x166 x167 x168 M' a' c' wn hW => ?_))
                have HWn := Lib.hid hW
                clear hW HS2
                go_wp2_with fail
                go_meet
                case rel => exact ⟨c', now, n, M', a', rfl, by omega, by omega, HWn⟩
              · rw [show decide (p = 6 ∨ p = 7) = false by simpa using e67]
                clear HS2
                go_upto_if 145 with fail
                refine put_part HX hl1 HS1 HB h9X h9a h9w (by omega) (by omega) _ _ _ _ _ _ _ _ _ _ _ _ _ _ _ _ _ _ _ _ _ _ _ _ _ _ _ _ _ _ _ _ _ _ _ _ _ _ _ _ _ _ _ _ _ _ _ _ _ _ _ _ _ _ _ _ _ _ _ _ _ _ _ _ _ _ _ _ _ _ _ _ _ _ _ _ _ _ _ _ _ _ _ _ _ _ _ _ _ _ _ _ _ _ _ _ _ _ _ _ _ _ _ _ _ _ _ _ _ _ _ _ _ _ _ _ _ _ _ _ _ _ _ _ _ _ _ _ _ _ _ _ _ _ _ _ _ _ _ _ _ _ _ _ _ _ _ _ _ _ _ _ _ _ _ _ _ _ _ _ _ _ _ _ _ _ _ _ _ _ _ _ _ _ _ _ _ _ _ _ _ _ _ _ (Lib.hid (fun x16 x17 x56 x57 x58 x59 x60 x61 x62 x63 x64 x65 x66 x67 x68 x69 x70 x71 x72 x73 x74 x75 x76 x77 x78 x79 x80 x81 x82 x83 x84 x85 x86 x87 x88 x89 x90 x91 x92 x93 x94 x95 x96 x97 x98 x99 x100 x101 x102 x103 x104 n' M' a' c' wn hn1 hn2 hW => ?_)) (by intro v d c a w h; cases d <;> exact h)
                have HWn := Lib.hid hW
                clear hW HS1 HB
                go_wp2_with fail
                go_meet
                case rel => exact ⟨c', now, n', M', a', rfl, by omega, by omega, HWn⟩
      case rest =>
        obtain ⟨c', now', n', M', a', rfl, hnow', hn', HS2⟩ := hcut
        clear HS1 HB
        have hwi : IntKind.i64.wrap ((i : Int) + 1) = (i : Int) + 1 := by rw [IntKind.wrap_i64]; omega
        go_wp2_with fail
        refine check_part HS2 _ _ _ _ _ _ _ _ _ _ _ _ _ _ _ _ _ _ _ _ _ _ _ _ _ _ _ _ _ _ _ _ _ _ _ _ _ _ _ _ _ _ _ _ _ _ _ _ _ _ _ _ _ _ _ _ _ _ _ _ _ _ _ _ _ _ _ _ _ _ _ _ _ _ _ _ _ _ _ _ _ _ _ _ _ _ _ _ _ _ _ _ _ _ _ _ _ _ _ _ _ _ _ _ _ _ _ _ _ _ _ _ _ _ _ _ _ _ _ _ _ _ _ _ _ _ _ _ _ _ _ _ _ _ _ _ _ _ _ _ _ _ _ _ _ _ _ _ _ _ _ _ _ _ _ _ _ _ _ _ _ _ _ _ _ _ _ _ _ _ _ _ _ _ _ _ _ _ _ _ _ _ _ _ _ _ _ _ (Lib.hid (fun x169 x170 x171 x172 x173 x174 x175 x176 x177 x178 x179 x180 x181 x182 x183 x184 x185 x186 x187 wn hW => ?_)) (by intro v d c a w h; cases d <;> exact h)
        have HWn := Lib.hid hW
        clear hW HS2
        go_wp2_with fail
        go_roundg (60 - (i + 1))
        case measure => omega
        case rel => exact ⟨i + 1, c', now', n', M', a', rfl, by go_num, by omega, by omega, by omega, by omega, by omega, HWn⟩
    · have hend : ∀ w', Rest (fun _ => False) wr w' → Rest (fun _ => False) w w' := fun w' h => HS.out.wl.rest.trans (o3 := fun _ => False) h (fun _ _ => id) (fun _ _ => id)
      by_cases hl : i < len
      · have hl1' : (i : Int) < (len : Int) := by omega
        have hl2' : ¬ (i : Int) < 60 := by omega
        go_wp2_with fail
        refine (awake13_any _).mono ?_
        rintro e w2 ⟨rfl, hr2⟩
        go_wp2_with fail
        go_ret
        exact ⟨rfl, hend _ hr2⟩
      · have hl1' : ¬ (i : Int) < (len : Int) := by omega
        go_wp2_with fail
        refine (awake13_any _).mono ?_
        rintro e w2 ⟨rfl, hr2⟩
        go_wp2_with fail
        go_ret
        exact ⟨rfl, hend _ hr2⟩
end Go.Proofs.Ytcjidobdbdfjlaa
