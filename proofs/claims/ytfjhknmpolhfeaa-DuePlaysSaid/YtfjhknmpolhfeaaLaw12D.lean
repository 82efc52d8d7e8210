/- DuePlays. -/
import Derived.Test.YtfjhknmpolhfeaaLaw12T
import Derived.Test.YtfjhknmpolhfeaaDueN
import Derived.Test.YtfjhknmpolhfeaaLaw12A
import Derived.Deep.DrawnRows
import Derived.Deep.CutBlock
namespace Go.Proofs.Ytfjhknmpolhfeaa
open Go.RowKit Go.Sort

/-- The earliest time of the first k; Never of none. -/
def FirstTo (g : List En) (k : Nat) (f : Int) : Prop := f ≤ 1099511627776 ∧ (∀ j, j < k → f ≤ (Hp.e g j).t) ∧ (f = 1099511627776 ∨ ∃ j, j < k ∧ f = (Hp.e g j).t)
theorem FirstTo.zero (g : List En) : FirstTo g 0 1099511627776 := ⟨Int.le_refl _, fun _ hj => absurd hj (Nat.not_lt_zero _), .inl rfl⟩
theorem FirstTo.next {g : List En} {k : Nat} {f : Int} (h : FirstTo g k f) : FirstTo g (k + 1) (min f (Hp.e g k).t) := by
  obtain ⟨h1, h2, h3⟩ := h
  refine ⟨by omega, fun j hj => ?_, ?_⟩
  · by_cases e : j = k
    · subst e; omega
    · have := h2 j (by omega); omega
  · by_cases hc : f ≤ (Hp.e g k).t
    · rw [Int.min_eq_left hc]
      exact h3.imp id (fun ⟨j, hj, e⟩ => ⟨j, by omega, e⟩)
    · rw [Int.min_eq_right (by omega)]
      exact .inr ⟨k, by omega, rfl⟩
theorem best_there (g : List En) : ∀ k, 0 < k → ∃ b, b < k ∧ BestTo g k b
  | 0, h => absurd h (Nat.lt_irrefl _)
  | 1, _ => ⟨0, by omega, BestTo.one g⟩
  | k + 2, _ => by
    obtain ⟨b, hb, h⟩ := best_there g (k + 1) (by omega)
    by_cases hlt : (Hp.e g (k + 1)).t < (Hp.e g b).t
    · exact ⟨k + 1, by omega, h.less hlt hb⟩
    · exact ⟨b, by omega, h.more hlt⟩
theorem FirstTo.at_ {g : List En} {f : Int} {n : Int} (h : FirstTo g g.length f) (hl : Hp.Laid n g) : Hp.At g f := by
  obtain ⟨h1, h2, h3⟩ := h
  by_cases h0 : g.length = 0
  · rcases h3 with h3 | ⟨j, hj, _⟩
    · exact .inl ⟨h0, h3⟩
    · omega
  · obtain ⟨b, hb, hbest⟩ := best_there g g.length (by omega)
    have hm : Hp.e g b ∈ g := by rw [Hp.e_in hb]; exact List.getElem_mem _
    have ht := (hl.tm _ hm).2
    have h4 := h2 b hb
    rcases h3 with h3 | ⟨j, hj, h3⟩
    · omega
    · have := hbest.1 j hj
      exact .inr ⟨b, hbest.best hb, by omega⟩

set_option maxHeartbeats 2000000 in
set_option maxRecDepth 1000000 in
theorem plays_any (sp : Option Addr) (len cap bk o : Nat) (hsp : 0 < len → sp = some ⟨bk, o, none⟩) (X : Nat → Nat → Int) (w : World) (hX : Acts w bk o len X) :
    Calls Try.prog 3 #[.slice sp len cap] w fun e w' => e = .returned (.bool true) ∧ Rest (fun _ => False) w w' := by
  have HX := Lib.hid hX
  have HS := Lib.hid hsp
  clear hX hsp
  go_enter Try.func3, Try.ntmps3
  go_wp2_with fail
  have h0 : Pl w ((w.alloc (.cells #[.slice none 0 0, .int .i64 0] 27)).alloc (.cells #[] 31)) w.heap.size 0 [] [] (w.heap.size + 1) 0 0 [] := by
    have hd := du_new w w (Rest.refl _ _)
    have hs : (w.alloc (.cells #[.slice none 0 0, .int .i64 0] 27)).heap.size = w.heap.size + 1 := by simp
    have hr := RowK.nil (w.alloc (.cells #[.slice none 0 0, .int .i64 0] 27)) w.heap.size 5 31 (by omega)
    rw [hs] at hr
    exact ⟨hd.own (Rest.alloc _ _ _) (by omega) (by simp), ⟨hr⟩⟩
  generalize (w.alloc (.cells #[.slice none 0 0, .int .i64 0] 27)).alloc (.cells #[] 31) = w1 at h0 ⊢
  have H0 := Lib.hid h0
  clear h0
  go_loopg [4, 5] (80 : Nat) (fun g1 s4 s5 wr => ∃ (i mb mo mc n : Nat) (g : List En), s4 = .slice (some ⟨mb, mo, none⟩) g.length mc ∧ s5 = .int .i64 i ∧ 80 - i ≤ g1 ∧ i ≤ 80 ∧ i ≤ len ∧ g.length ≤ i ∧ n ≤ i ∧ Hid (Pl w wr w.heap.size n g g mb mo mc []))
  case atStart => exact ⟨0, w.heap.size + 1, 0, 0, 0, [], rfl, rfl, by omega, by omega, by omega, by simp, by omega, H0⟩
  case round =>
    obtain ⟨i, mb, mo, mc, n, g, rfl, rfl, hg1, hi80, hil, hgl, hn, HP⟩ := hrel
    by_cases hlt : i < len ∧ i < 80
    · obtain ⟨hl1, hl2⟩ := hlt
      have hl1' : (i : Int) < (len : Int) := by omega
      have hl2' : (i : Int) < 80 := by omega
      have hsp := HS.out (by omega)
      subst hsp
      have x1 := HX.out.at_ HP.out.du.rest hl1 (j := 1) (by omega)
      have x2 := HX.out.at_ HP.out.du.rest hl1 (j := 2) (by omega)
      have x3 := HX.out.at_ HP.out.du.rest hl1 (j := 3) (by omega)
      have x4 := HX.out.at_ HP.out.du.rest hl1 (j := 4) (by omega)
      have x5 := HX.out.at_ HP.out.du.rest hl1 (j := 5) (by omega)
      have hlow : bits .and .i64 (i : Int) 7 = (i : Int) % 8 := i64_low _ 3 (by omega)
      have hlow2 : bits .and .i64 (X i 1) 15 = X i 1 % 16 := low15 _
      go_upto_if 37 with fail
      clear x1 x2 x3 x4 x5 hlow
      generalize decide (0 < (i : Int) % 8) = qq
      go_cut [] (fun wx => ∃ u : Int, wx = wr.alloc (.cells #[.int .i64 u, .int .i64 (X i 2), .int .i64 (X i 3), .int .i64 (X i 4), .int .i64 (X i 5)] 31))
      case first =>
        cases qq with
        | false =>
          go_wp2_with fail
          go_meet
          case rel => exact ⟨X i 1, rfl⟩
        | true =>
          have x1 : ∀ ob, (wr.alloc ob).cell? ⟨bk, o + i * 7 + 1, none⟩ = some (.int .i64 (X i 1)) := fun ob => HX.out.at_ (HP.out.past (Rest.alloc _ _ _)).du.rest hl1 (j := 1) (by omega)
          go_wp2_with fail
          go_meet
          case rel => exact ⟨X i 1 % 16, rfl⟩
      case rest =>
        obtain ⟨u, hwx⟩ := hcut
        have hbox := heap_alloc_new wr (.cells #[.int .i64 u, .int .i64 (X i 2), .int .i64 (X i 3), .int .i64 (X i 4), .int .i64 (X i 5)] 31)
        have hpl := HP.out.more (Rest.alloc (fun _ => False) wr (.cells #[.int .i64 u, .int .i64 (X i 2), .int .i64 (X i 3), .int .i64 (X i 4), .int .i64 (X i 5)] 31)) (Nat.le_refl _) (by simp)
        rw [← hwx] at hbox hpl
        have HBx := Lib.hid hbox
        have HPl := Lib.hid hpl
        have hbw := HP.out.du.size
        have hmb := HP.out.own.row.lt
        generalize wr.heap.size = b at HBx HPl hbw hmb ⊢
        clear hwx hbox hpl hlow2 HP
        have x0 := HX.out.at_ HPl.out.du.rest hl1 (j := 0) (by omega)
        simp only [Nat.add_zero] at x0
        have hlow3 : bits .and .i64 (X i 0) 7 = X i 0 % 8 := i64_low _ 3 (by omega)
        go_upto_block 2 with fail
        clear x0 hlow3
        generalize X i 0 % 8 = p
        go_cut [4] (fun s4 wx => ∃ (mb mo mc n : Nat) (g : List En), s4 = .slice (some ⟨mb, mo, none⟩) g.length mc ∧ g.length ≤ i + 1 ∧ n ≤ i + 1 ∧ Hid (Pl w wx w.heap.size n g g mb mo mc []))
        case first =>
          by_cases hp : p = 3 ∨ p = 4
          · go_upto_if 71 with fail
            go_cut [71] (fun s71 wx => wc = wx ∧ s71 = .bool true)
            case first =>
              rcases hp with rfl | rfl
              · go_wp2_with fail
                go_meet
                case rel => exact ⟨rfl, rfl⟩
              · go_wp2_with fail
                go_meet
                case rel => exact ⟨rfl, rfl⟩
            case rest =>
              obtain ⟨rfl, rfl⟩ := hcut
              have HPt := Lib.hid (HPl.out.drop (K' := []) (fun k hk => by simp at hk))
              clear HPl HBx
              go_upto_if 71 with fail
              refine take_part HX hl1 HPt (by omega) hl2 _ _ _ _ _ _ _ _ _ _ _ _ _ _ _ _ _ _ _ _ _ _ _ _ _ _ _ _ _ _ _ _ _ _ _ _ _ _ _ _ _ _ _ _ _ _ _ _ _ _ _ _ _ _ _ _ _ _ _ _ _ _ _ _ _ _ _ _ _ _ _ _ _ _ _ _ _ _ _ _ _ _ _ _ _ _ _ _ _ _ _ _ _ _ _ _ _ _ _ _ _ _ _ _ _ _ _ _ _ _ _ _ _ _ _ _ _ _ _ _ _ _ _ _ _ _ _ _ _ _ _ _ _ _ _ _ _ _ _ _ _ _ _ _ _ _ _ _ _ _ _ _ _ _ _ _ _ _ _ _ _ _ _ _ _ _ _ _ _ _ _ _ _ _ _ _ _ _ _ _ _ _ _ _ _ _ _ _ _ _ _ _ _ _ _ _ _ _ _ _ _ _ _ _ _ _ _ _ _ _ (Lib.hid (fun x7 x8 x9 x10 x11 x74 x75 x76 x77 x78 x79 x80 x81 x82 x83 x84 x85 x86 x87 x88 x89 x90 x91 x92 x93 x94 x95 x96 x97 x98 x99 x100 x101 x102 x103 x104 x105 x106 x107 x108 x109 x110 x111 x112 x113 x114 x115 x116 x117 x118 x119 x120 x121 x122 x123 x124 x125 x126 x127 x128 x129 x130 x131 x132 x133 x134 x135 x136 x137 x138 x139 x140 x141 x142 x143 x144 x145 x146 x147 x148 x149 x150 x151 x152 x153 x154 mb' mo' mc' g' wn hg' hpl => ?_)) (fun v d c a w h => by cases d <;> exact h)
              have HP9 := Lib.hid hpl
              clear hpl HPt
              go_wp2_with fail
              go_meet
              case rel => exact ⟨mb', mo', mc', n, g', rfl, by omega, by omega, HP9⟩
          · have p3 : (p == 3) = false := by simp; omega
            have p4 : (p == 4) = false := by simp; omega
            obtain ⟨z0, z1, z2, z3, z4⟩ := five_zero HBx.out
            have f0 : wc.frozen? ⟨b, 0, none⟩ = false := frozen_of_row _ _ _ _ _ HBx.out
            go_wp2_with fail
            refine (rclamp_any u _).mono ?_
            rintro e w2 ⟨rfl, rfl⟩
            have hvlo := Tk.clamp_lo u
            have hvhi := Tk.clamp_hi u
            generalize Tk.clamp u = v at hvlo hvhi ⊢
            have hset := box_set HBx.out (.int .i64 v)
            have hrs : Rest (fun k => k = b) wc (wc.setCell ⟨b, 0, none⟩ (.int .i64 v)) := Rest.setCell _ _ _ rfl
            have HPs := Lib.hid (HPl.out.wrote hrs List.mem_cons_self (by omega) hbw)
            have HBs := Lib.hid hset
            clear hset hrs HPl HBx
            by_cases hv : v = 1099511627776
            · subst hv
              have hpn := fun w' => dput_never w.heap.size 1099511627776 (X i 2) (X i 3) (X i 4) (X i 5) w' (by decide)
              go_wp2_with fail
              refine (hpn _).mono ?_
              rintro e w3 ⟨rfl, hr3⟩
              have HP3 := Lib.hid ((HPs.out.past hr3).drop (K' := []) (fun k hk => by simp at hk))
              clear hr3 HPs HBs hpn
              go_wp2_with fail
              go_meet
              case rel => exact ⟨mb, mo, mc, n, g, rfl, by omega, by omega, HP3⟩
            · have hvb : (v != 1099511627776) = true := by simp [hv]
              have hcl : Tk.clamp v = v := Tk.clamp_in hvlo hvhi
              go_wp2_with fail
              generalize wc.setCell ⟨b, 0, none⟩ (.int .i64 v) = ws at HPs HBs ⊢
              have hpu := du_put v (X i 2) (X i 3) (X i 4) (X i 5) ws HPs.out.du (by omega) (by rw [hcl]; exact hv) (by omega)
              rw [hcl] at hpu
              refine hpu.mono ?_
              rintro e w3 ⟨rfl, hd3, hs3⟩
              have HPp := Lib.hid (HPs.out.called hd3 hs3)
              have HB3 := Lib.hid ((hs3.2 b (List.mem_cons_of_mem _ List.mem_cons_self)).trans HBs.out)
              clear hd3 hs3 HPs HBs hpu hcl
              go_wp2_with fail
              refine put_row ⟨v, X i 2, X i 3, X i 4, X i 5, (n : Int)⟩ HPp HB3 (by omega) _ _ _ _ _ _ _ _ _ _ _ _ _ _ _ _ _ _ _ _ _ _ _ _ _ _ _ _ _ _ _ _ _ _ _ _ _ _ _ _ _ _ _ _ _ _ _ _ _ _ _ _ _ _ _ _ _ _ _ _ _ _ _ _ _ _ _ _ _ _ _ _ _ _ _ _ _ _ _ _ _ _ _ _ _ _ _ _ _ _ _ _ _ _ _ _ _ _ _ _ _ _ _ _ _ _ _ _ _ _ _ _ _ _ _ _ _ _ _ _ _ _ _ _ _ _ _ _ _ _ _ _ _ _ _ _ _ _ _ _ _ _ _ _ _ _ _ _ _ _ _ _ _ _ _ _ _ _ _ _ _ _ _ _ _ _ _ _ _ _ _ _ _ _ _ _ _ _ _ _ _ _ _ _ _ _ _ _ _ _ _ _ _ _ _ _ _ _ _ _ _ _ _ _ _ _ _ _ _ _ _ _ _ (Lib.hid (fun x65 x66 x67 x68 x69 x70 g2 o2 c2 wn hpl => ?_)) (fun v d c a w h => by cases d <;> exact h)
              have HP9 := Lib.hid (hpl.drop (K' := []) (fun k hk => by simp at hk))
              clear hpl HPp HB3
              go_wp2_with fail
              go_meet
              case rel => exact ⟨g2, o2, c2, n + 1, g ++ [⟨v, X i 2, X i 3, X i 4, X i 5, (n : Int)⟩], by simp, by simp; omega, by omega, by rw [show ((n + 1 : Nat) : Int) = (n : Int) + 1 by omega]; exact HP9⟩
        case rest =>
          obtain ⟨mb', mo', mc', n', g', rfl, hgl', hn', HPc⟩ := hcut
          clear HPl HBx
          have hroom := HPc.out.own.row.room
          go_wp2_with fail
          go_loopg [13, 14] (81 : Nat) (fun g2 s13 s14 wx => ∃ (k : Nat) (f : Int), wc = wx ∧ s13 = .int .i64 f ∧ s14 = .int .i64 k ∧ k ≤ g'.length ∧ 81 - k ≤ g2 ∧ Hid (FirstTo g' k f))
          case atStart => exact ⟨0, 1099511627776, rfl, rfl, rfl, by omega, by omega, FirstTo.zero g'⟩
          case round =>
            obtain ⟨k, f, rfl, rfl, rfl, hkl, hk1, HF⟩ := hrel
            by_cases hk : k < g'.length
            · have hk' : (k : Int) < ((g'.length : Nat) : Int) := by omega
              have hwk : IntKind.i64.wrap ((k : Int) + 1) = (k : Int) + 1 := by rw [IntKind.wrap_i64]; omega
              obtain ⟨a0, -⟩ := HPc.out.al (i := k) hk
              have HN := Lib.hid (FirstTo.next HF.out)
              generalize hte : (Hp.e g' k).t = te at a0 HN
              clear hte
              go_wp2_with fail
              all_goals
                go_roundg (81 - (k + 1))
                case measure => omega
                case rel => exact ⟨k + 1, min f te, rfl, by first | (congr 1; omega) | (congr 1), by go_num, by omega, by omega, HN⟩
            · obtain rfl : k = g'.length := by omega
              have hat := HF.out.at_ HPc.out.du.laid
              have hlen := du_len wc HPc.out.du
              have hfst := du_first wc HPc.out.du hat
              clear hat HF
              have hwi : IntKind.i64.wrap ((i : Int) + 1) = (i : Int) + 1 := by rw [IntKind.wrap_i64]; omega
              go_wp2_with fail
              refine hlen.mono ?_
              rintro e w8 ⟨rfl, rfl⟩
              go_wp2_with fail
              refine hfst.mono ?_
              rintro e w8 ⟨rfl, rfl⟩
              clear hlen hfst
              go_wp2_with fail
              go_roundg (80 - (i + 1))
              case measure => omega
              case rel => exact ⟨i + 1, mb', mo', mc', n', g', rfl, by go_num, by omega, by omega, by omega, by omega, by omega, HPc⟩
    · have hal := du_all wr HP.out.du (by omega)
      by_cases hl : i < len
      · have hl1' : (i : Int) < (len : Int) := by omega
        have hl2' : ¬ (i : Int) < 80 := by omega
        go_wp2_with fail
        refine hal.mono ?_
        rintro e w2 ⟨⟨a, c, rfl, hT⟩, hr2⟩
        have HP2 := Lib.hid (HP.out.past hr2)
        have HT := Lib.hid hT
        clear hal hT hr2 HP
        have hgi : ((g.length : Nat) : Int) ≤ 80 := by omega
        have hgo := HP2.out.own.row.room
        go_wp2_with fail
        go_loopg [16] (82 : Nat) (fun g2 s16 wx => ∃ k : Nat, s16 = .int .i64 ((k : Int) + 1) ∧ 82 - k ≤ g2 ∧ k ≤ 80 ∧ Hid (Rest (fun _ => False) w2 wx))
        case atStart => exact ⟨0, by go_num, by omega, by omega, Rest.refl _ _⟩
        case round =>
          obtain ⟨k, rfl, hk1, hk8, HRk⟩ := hrel
          by_cases hk : k + 1 < g.length
          · have hk' : (k : Int) + 1 < ((g.length : Nat) : Int) := by omega
            have hwk : IntKind.i64.wrap ((k : Int) + 1 + 1) = (k : Int) + 1 + 1 := by rw [IntKind.wrap_i64]; omega
            obtain ⟨g3, o3, rfl, T, hc, hord⟩ := HT.out (by omega)
            have hk0 : (k : Int) < ((g.length : Nat) : Int) := by omega
            have a0 := hc k (by omega)
            have a1 := hc (k + 1) hk
            have hle : ¬ T (k + 1) < T k := by have := hord k (k + 1) (by omega) hk; omega
            have hb3 := cell_old a0
            rw [← World.cell?_of_block (HRk.out.block g3 hb3 (fun x => x))] at a0 a1
            have hkn : ((k : Int) + 1).toNat = k + 1 := by omega
            generalize T (k + 1) = t1 at a1 hle
            generalize T k = t0 at a0 hle
            clear hc hord
            go_wp2_with fail
            go_quiet (fail)
            have HRn := Lib.hid (HRk.out.trans (o3 := fun _ => False) (Rest.drewN (fun _ => False) wr nq) (fun _ _ => id) (fun _ _ => id))
            clear HRk a0 a1
            go_wp2_with fail
            go_roundg (82 - (k + 1))
            case measure => omega
            case rel => exact ⟨k + 1, by go_num, by omega, by omega, HRn⟩
          · have hk' : ¬ (k : Int) + 1 < ((g.length : Nat) : Int) := by omega
            have HP3 := Lib.hid (HP2.out.past HRk.out)
            clear HRk
            go_wp2_with fail
            refine (awake12_any _).mono ?_
            rintro e w4 ⟨rfl, hr4⟩
            have HP4 := Lib.hid (HP3.out.past hr4)
            have hlen := du_len w4 HP4.out.du
            clear hr4 HP3
            go_wp2_with fail
            refine hlen.mono ?_
            rintro e w5 ⟨rfl, rfl⟩
            clear hlen
            go_wp2
            go_ret
            exact ⟨rfl, HP4.out.du.rest⟩
      · have hl1' : ¬ (i : Int) < (len : Int) := by omega
        go_wp2_with fail
        refine hal.mono ?_
        rintro e w2 ⟨⟨a, c, rfl, hT⟩, hr2⟩
        have HP2 := Lib.hid (HP.out.past hr2)
        have HT := Lib.hid hT
        clear hal hT hr2 HP
        have hgi : ((g.length : Nat) : Int) ≤ 80 := by omega
        have hgo := HP2.out.own.row.room
        go_wp2_with fail
        go_loopg [16] (82 : Nat) (fun g2 s16 wx => ∃ k : Nat, s16 = .int .i64 ((k : Int) + 1) ∧ 82 - k ≤ g2 ∧ k ≤ 80 ∧ Hid (Rest (fun _ => False) w2 wx))
        case atStart => exact ⟨0, by go_num, by omega, by omega, Rest.refl _ _⟩
        case round =>
          obtain ⟨k, rfl, hk1, hk8, HRk⟩ := hrel
          by_cases hk : k + 1 < g.length
          · have hk' : (k : Int) + 1 < ((g.length : Nat) : Int) := by omega
            have hwk : IntKind.i64.wrap ((k : Int) + 1 + 1) = (k : Int) + 1 + 1 := by rw [IntKind.wrap_i64]; omega
            obtain ⟨g3, o3, rfl, T, hc, hord⟩ := HT.out (by omega)
            have hk0 : (k : Int) < ((g.length : Nat) : Int) := by omega
            have a0 := hc k (by omega)
            have a1 := hc (k + 1) hk
            have hle : ¬ T (k + 1) < T k := by have := hord k (k + 1) (by omega) hk; omega
            have hb3 := cell_old a0
            rw [← World.cell?_of_block (HRk.out.block g3 hb3 (fun x => x))] at a0 a1
            have hkn : ((k : Int) + 1).toNat = k + 1 := by omega
            generalize T (k + 1) = t1 at a1 hle
            generalize T k = t0 at a0 hle
            clear hc hord
            go_wp2_with fail
            go_quiet (fail)
            have HRn := Lib.hid (HRk.out.trans (o3 := fun _ => False) (Rest.drewN (fun _ => False) wr nq) (fun _ _ => id) (fun _ _ => id))
            clear HRk a0 a1
            go_wp2_with fail
            go_roundg (82 - (k + 1))
            case measure => omega
            case rel => exact ⟨k + 1, by go_num, by omega, by omega, HRn⟩
          · have hk' : ¬ (k : Int) + 1 < ((g.length : Nat) : Int) := by omega
            have HP3 := Lib.hid (HP2.out.past HRk.out)
            clear HRk
            go_wp2_with fail
            refine (awake12_any _).mono ?_
            rintro e w4 ⟨rfl, hr4⟩
            have HP4 := Lib.hid (HP3.out.past hr4)
            have hlen := du_len w4 HP4.out.du
            clear hr4 HP3
            go_wp2_with fail
            refine hlen.mono ?_
            rintro e w5 ⟨rfl, rfl⟩
            clear hlen
            go_wp2
            go_ret
            exact ⟨rfl, HP4.out.du.rest⟩
end Go.Proofs.Ytfjhknmpolhfeaa
