/- RouteOrder: those that may take more, by what they have to do, then their places; whether it is even. -/
import Derived.Test.YtdjbmpchaedefaaLaw24A
import Derived.Test.YtdjbmpchaedefaaRtP
import Derived.Test.YtdjbmpchaedefaaLow
namespace Go.Proofs.Ytdjbmpchaedefaa
open Go.RowKit

/-- One that is sorted, place by place. -/
theorem Rt.Sorted.at_ {X : Nat → Int} {room : Int} {n : Nat} {l : List Nat} (h : Rt.Sorted X room n l) : ∃ D : Nat → Nat, (∀ i, i < l.length → l.getD i 0 = D i) ∧ (∀ i, i < l.length → D i < n ∧ X (D i) < room) ∧ ∀ i, i + 1 < l.length → Rt.lt X (D i) (D (i + 1)) := by
  refine ⟨fun i => l.getD i 0, fun _ _ => rfl, fun i hi => ?_, fun i hi => ?_⟩
  · have hm : l.getD i 0 ∈ l := by rw [List.getD_eq_getElem?_getD, List.getElem?_eq_getElem hi]; exact List.getElem_mem _
    exact Rt.those_mem.1 (h.1.mem_iff.1 hm)
  · have := List.pairwise_iff_getElem.1 h.2 i (i + 1) (by omega) hi (by omega)
    simpa [List.getD, hi, show i < l.length by omega] using this

/-- What the law makes of what they have. -/
def Rt.sevens (X : Nat → Int) (j : Nat) : List Value := (List.range j).map fun i => Value.int .i64 (X i % 8)
theorem Rt.sevens_length (X : Nat → Int) (j : Nat) : (Rt.sevens X j).length = j := by simp [Rt.sevens]
theorem Rt.sevens_more (X : Nat → Int) (j : Nat) : Rt.sevens X (j + 1) = Rt.sevens X j ++ [.int .i64 (X j % 8)] := by simp [Rt.sevens, List.range_succ]

/-- A bool that tells this. -/
structure Rt.Is (b : Bool) (P : Prop) : Prop where
  iff : b = true ↔ P

set_option maxHeartbeats 8000000 in
set_option maxRecDepth 100000 in
/-- The law. -/
theorem routeorder_any {X : Nat → Int} {a : Option Addr} {n c : Nat} (room : Int) (w : World) (h : Nums w a n X) (hnc : n ≤ c) :
    Calls Try.prog 4 #[.slice a n c, .int .i64 room] w fun e w' => e = .returned (.bool true) ∧ Below w.heap.size w w' := by
  obtain ⟨m, hm, hmn, hm12⟩ : ∃ m : Nat, (if (12 : Int) < (n : Int) then (12 : Int) else (n : Int)) = m ∧ m ≤ n ∧ m ≤ 12 := by
    by_cases h12 : (12 : Int) < (n : Int)
    · exact ⟨12, by rw [if_pos h12]; rfl, by omega, by omega⟩
    · exact ⟨n, by rw [if_neg h12], by omega, by omega⟩
  have hmc : (m : Int) ≤ (c : Int) := by omega
  have hm0 : (0 : Int) ≤ (m : Int) := by omega
  have hmi : min (n : Int) 12 = m := by rw [← hm]; split <;> omega
  have HN := Lib.hid (h.take hmn)
  have HL := Lib.hid (rtorder_any (c := c) room w (h.take hmn) (by omega))
  clear h
  have hcut := Rt.cut a m c
  go_enter Try.func4, Try.ntmps4
  go_wp2_with fail
  refine HL.out.mono ?_
  rintro e w1 ⟨l, sp, cp, rfl, hs, hno, -, hb⟩
  obtain ⟨D, hD, hDr, hDl⟩ := hs.at_
  have hpl := hs.1.length_eq
  have hlm := Rt.those_length X room m
  have HX1 := Lib.hid (HN.out.below hb)
  have HO1 := Lib.hid (hno.congr (Y := fun i => ((D i : Nat) : Int)) (fun i hi => by rw [hD i hi]))
  have HB1 := Lib.hid hb
  have HDR := Lib.hid hDr
  have HDL := Lib.hid hDl
  clear hs hno hb hD hDr hDl HL hm hm0 hcut hmc hmi
  generalize l.length = p at *
  have HP := Lib.hid hpl
  have hp12 : p ≤ 12 := by omega
  clear hpl hlm
  go_wp2_with fail
  go_loopg [7, 8] (12 : Nat) (fun g1 s7 s8 wx => ∃ k : Nat, s7 = .int .i64 ((Rt.those X room k).length : Nat) ∧ s8 = .int .i64 k ∧ k ≤ m ∧ 12 - k ≤ g1 ∧ wx = w1)
  case atStart => exact ⟨0, rfl, rfl, by omega, by omega, rfl⟩
  case round =>
    obtain ⟨k, rfl, rfl, hkm, hg, rfl⟩ := hrel
    by_cases hk : k < m
    · have hk' : (k : Int) < (m : Int) := by omega
      have hwk : IntKind.i64.wrap ((k : Int) + 1) = (k : Int) + 1 := by rw [IntKind.wrap_i64]; omega
      obtain ⟨g, o, rfl, hc⟩ := HX1.out.at_ (by omega)
      have ck := hc k hk
      clear hc
      by_cases hr : X k < room
      · have hl : (Rt.those X room (k + 1)).length = (Rt.those X room k).length + 1 := by rw [Rt.those_yes hr]; simp
        have hll := Rt.those_length X room k
        have HLE := Lib.hid hl
        have hwl : IntKind.i64.wrap (((Rt.those X room k).length : Int) + 1) = ((Rt.those X room k).length : Int) + 1 := by rw [IntKind.wrap_i64]; omega
        clear hl hll
        generalize X k = x at *
        go_wp2_with fail
        go_roundg (12 - (k + 1))
        case measure => omega
        case rel => exact ⟨k + 1, by rw [HLE.out, Int.natCast_add]; rfl, by go_num, by omega, by omega, rfl⟩
      · have hl := Rt.those_no hr
        have HLE := Lib.hid hl
        clear hl
        generalize X k = x at *
        go_wp2_with fail
        go_roundg (12 - (k + 1))
        case measure => omega
        case rel => exact ⟨k + 1, by rw [HLE.out], by go_num, by omega, by omega, rfl⟩
    · have hk' : ¬(k : Int) < (m : Int) := by omega
      obtain rfl : k = m := by omega
      rw [← HP.out]
      clear HP
      go_wp2_with fail
      go_loopg [9] (12 : Nat) (fun g1 s9 wx => ∃ i : Nat, s9 = .int .i64 i ∧ i ≤ p ∧ 12 - i ≤ g1 ∧ Hid (Nums wx a k X) ∧ Hid (Nums wx sp p (fun i => ((D i : Nat) : Int))) ∧ Hid (Below w.heap.size w wx))
      case atStart => exact ⟨0, rfl, by omega, by omega, HX1, HO1, HB1⟩
      case round =>
        clear HX1 HO1 HB1
        obtain ⟨i, rfl, hip, hg2, HX, HO, HB⟩ := hrel
        by_cases hi : i < p
        · have hi' : (i : Int) < (p : Int) := by omega
          have hwi : IntKind.i64.wrap ((i : Int) + 1) = (i : Int) + 1 := by rw [IntKind.wrap_i64]; omega
          obtain ⟨hdk, hdr⟩ := HDR.out i hi
          obtain ⟨gx, ox, rfl, hcx⟩ := HX.out.at_ (by omega)
          obtain ⟨go, oo, rfl, hco⟩ := HO.out.at_ (by omega)
          have ci : wr.cell? ⟨go, oo + i, none⟩ = some (.int .i64 ((D i : Nat) : Int)) := hco i hi
          have xi := hcx (D i) hdk
          have hdk' : ((D i : Nat) : Int) < (k : Int) := by omega
          have hd0 : ¬((D i : Nat) : Int) < 0 := by omega
          have hd00 : (0 : Int) ≤ ((D i : Nat) : Int) := by omega
          have hdk2 : ¬((D i : Nat) : Int) ≥ (k : Int) := by omega
          have hdr2 : ¬X (D i) ≥ room := by omega
          by_cases hi0 : i = 0
          · have hng : ¬(0 : Int) < (i : Int) := by omega
            have hng2 : ¬0 < i := by omega
            have HI0 := Lib.hid hi0
            clear hcx hco hi0
            generalize D i = d at *
            generalize X d = x at *
            go_wp2_with fail
            go_quiet (fail)
            go_wp2_with fail
            go_roundg (12 - (i + 1))
            case measure => omega
            case rel => exact ⟨i + 1, by go_num, by omega, by omega, ⟨fun h => HX.out.at_ h, HX.out.lo, HX.out.hi⟩, ⟨fun h => HO.out.at_ h, HO.out.lo, HO.out.hi⟩, HB.out.trans (Rt.drewN_below _ _ _)⟩
          · obtain ⟨j, hj⟩ : ∃ j, i = j + 1 := ⟨i - 1, by omega⟩
            have hij : (0 : Int) < (i : Int) := by omega
            have hij2 : 0 < i := by omega
            have hwj : IntKind.i64.wrap ((i : Int) - 1) = (j : Int) := by rw [IntKind.wrap_i64]; omega
            have hjp : (j : Int) < (p : Int) := by omega
            have hj0 : (0 : Int) ≤ (j : Int) := by omega
            obtain ⟨hek, -⟩ := HDR.out j (by omega)
            have cj : wr.cell? ⟨go, oo + j, none⟩ = some (.int .i64 ((D j : Nat) : Int)) := hco j (by omega)
            have xj := hcx (D j) hek
            have hek' : ((D j : Nat) : Int) < (k : Int) := by omega
            have he00 : (0 : Int) ≤ ((D j : Nat) : Int) := by omega
            have hlt := HDL.out j (by omega)
            rw [← hj] at hlt
            unfold Rt.lt at hlt
            clear hcx hco
            generalize D i = d at *
            generalize D j = d' at *
            generalize X d = x at *
            generalize X d' = x' at *
            have hxx : ¬x < x' := by omega
            by_cases he : x = x'
            · have he' : (x == x') = true := by rw [beq_iff_eq]; exact he
              have hdd : ¬(d : Int) ≤ (d' : Int) := by omega
              have HJ := Lib.hid hj
              clear hlt he hj
              go_wp2_with fail
              go_quiet (fail)
              go_wp2_with fail
              go_roundg (12 - (i + 1))
              case measure => omega
              case rel => exact ⟨i + 1, by go_num, by omega, by omega, ⟨fun h => HX.out.at_ h, HX.out.lo, HX.out.hi⟩, ⟨fun h => HO.out.at_ h, HO.out.lo, HO.out.hi⟩, HB.out.trans (Rt.drewN_below _ _ _)⟩
            · have he' : (x == x') = false := by rw [beq_eq_false_iff_ne]; exact he
              have HJ := Lib.hid hj
              clear hlt he hj
              go_wp2_with fail
              have hxx2 : ¬x < x' := by omega
              go_quiet (fail)
              go_wp2_with fail
              go_roundg (12 - (i + 1))
              case measure => omega
              case rel => exact ⟨i + 1, by go_num, by omega, by omega, ⟨fun h => HX.out.at_ h, HX.out.lo, HX.out.hi⟩, ⟨fun h => HO.out.at_ h, HO.out.lo, HO.out.hi⟩, HB.out.trans (Rt.drewN_below _ _ _)⟩
        · have hi' : ¬(i : Int) < (p : Int) := by omega
          clear HDR HDL HO HX
          have HY := Lib.hid (Rw.new (Rest.of_below (own := fun _ => False) HB.out) 3)
          clear HB
          go_wp2_with fail
          generalize wr.alloc (.cells #[] 3) = w2 at HY ⊢
          generalize wr.heap.size = gy at HY ⊢
          go_loopg [10, 12] (12 : Nat) (fun g1 s10 s12 wx => ∃ j g o cy : Nat, s10 = .slice (some ⟨g, o, none⟩) j cy ∧ s12 = .int .i64 j ∧ j ≤ k ∧ 12 - j ≤ g1 ∧ Hid (Rw w wx 3 g o j cy (Rt.sevens X j)))
          case atStart => exact ⟨0, gy, 0, 0, rfl, rfl, by omega, by omega, HY⟩
          case round =>
            clear HY
            obtain ⟨j, g, o, cy, rfl, rfl, hjk, hg3, HY⟩ := hrel
            by_cases hj : j < k
            · have hj' : (j : Int) < (k : Int) := by omega
              have hwj : IntKind.i64.wrap ((j : Int) + 1) = (j : Int) + 1 := by rw [IntKind.wrap_i64]; omega
              obtain ⟨gx, ox, rfl, hcx⟩ := (HN.out.past HY.out.rest (fun _ _ _ => id)).at_ (by omega)
              have cj := hcx j hj
              have hl7 : bits .and .i64 (X j) 7 = X j % 8 := i64_low (X j) 3 (by omega)
              obtain ⟨g', o', cy', w4, hrun, hr4⟩ := (HY.out.more (Rest.alloc (fun _ => False) wr (.cells #[.int .i64 (X j % 8)] 3))).one (P := Try.prog) Try.itemsInt (by omega) (v := .int .i64 (X j % 8)) rfl (heap_alloc_new wr _) 22
              rw [← Rt.sevens_more] at hr4
              have HY4 := Lib.hid hr4
              clear hr4 HY hcx
              generalize X j = x at *
              go_wp2_with (at_builtin; refine wpList_append_run rfl _ _ 22 rfl rfl rfl hrun ?_)
              go_roundg (12 - (j + 1))
              case measure => omega
              case rel => exact ⟨j + 1, g', o', cy', rfl, by go_num, by omega, by omega, HY4⟩
            · have hj' : ¬(j : Int) < (k : Int) := by omega
              obtain rfl : j = k := by omega
              have HNY := Lib.hid (Nums.of_row (X := fun i => X i % 8) HY.out.row (fun i _ => by omega) (fun i _ => by omega))
              have HBY := Lib.hid (HY.out.rest.below (Nat.le_refl _) (fun _ h => h.elim))
              have HYB := Lib.hid (fun i => show 0 ≤ X i % 8 ∧ X i % 8 ≤ 7 by omega)
              clear HY HN
              generalize hYf : (fun i => X i % 8) = Y at HNY
              replace HYB := Lib.hid (show ∀ i, 0 ≤ Y i ∧ Y i ≤ 7 from fun i => by rw [← hYf]; exact HYB.out i)
              clear hYf
              go_wp2_with fail
              go_loopg [11, 13] (12 : Nat) (fun g1 s11 s13 wx => ∃ (b : Bool) (i : Nat), s11 = .bool b ∧ s13 = .int .i64 i ∧ i ≤ j ∧ 12 - i ≤ g1 ∧ Hid (Rt.Is b (∀ x, x < i → ∀ y, y < j → Y x - Y y ≤ 1)) ∧ Hid (Nums wx (some ⟨g, o, none⟩) j Y) ∧ Hid (Below w.heap.size w wx))
              case atStart => exact ⟨true, 0, rfl, rfl, by omega, by omega, ⟨⟨fun _ x hx => absurd hx (Nat.not_lt_zero _), fun _ => rfl⟩⟩, HNY, HBY⟩
              case round =>
                clear HNY HBY
                obtain ⟨b, i, rfl, rfl, hij, hg4, HBI, HNY, HBY⟩ := hrel
                by_cases hi : i < j
                · have hi' : (i : Int) < (j : Int) := by omega
                  have hwi : IntKind.i64.wrap ((i : Int) + 1) = (i : Int) + 1 := by rw [IntKind.wrap_i64]; omega
                  go_wp2_with fail
                  go_loopg [11, 14] (12 : Nat) (fun g1 s11 s14 wx => ∃ (b : Bool) (q : Nat), s11 = .bool b ∧ s14 = .int .i64 q ∧ q ≤ j ∧ 12 - q ≤ g1 ∧ Hid (Rt.Is b ((∀ x, x < i → ∀ y, y < j → Y x - Y y ≤ 1) ∧ ∀ y, y < q → Y i - Y y ≤ 1)) ∧ Hid (Nums wx (some ⟨g, o, none⟩) j Y) ∧ Hid (Below w.heap.size w wx))
                  case atStart => exact ⟨b, 0, rfl, rfl, by omega, by omega, ⟨⟨fun h => ⟨HBI.out.iff.1 h, fun y hy => absurd hy (Nat.not_lt_zero _)⟩, fun h => HBI.out.iff.2 h.1⟩⟩, HNY, HBY⟩
                  case round =>
                    clear HBI HNY HBY
                    obtain ⟨b, q, rfl, rfl, hqj, hg5, HBI, HNY, HBY⟩ := hrel
                    by_cases hq : q < j
                    · have hq' : (q : Int) < (j : Int) := by omega
                      have hwq : IntKind.i64.wrap ((q : Int) + 1) = (q : Int) + 1 := by rw [IntKind.wrap_i64]; omega
                      cases b with
                      | false =>
                        have HBQ := Lib.hid (show Rt.Is false ((∀ x, x < i → ∀ y, y < j → Y x - Y y ≤ 1) ∧ ∀ y, y < q + 1 → Y i - Y y ≤ 1) from ⟨⟨fun h => (by cases h), fun h => HBI.out.iff.2 ⟨h.1, fun y hy => h.2 y (by omega)⟩⟩⟩)
                        go_wp2_with fail
                        go_quiet (fail)
                        go_wp2_with fail
                        go_roundg (12 - (q + 1))
                        case measure => omega
                        case rel => exact ⟨false, q + 1, rfl, by go_num, by omega, by omega, HBQ, ⟨fun h => HNY.out.at_ h, HNY.out.lo, HNY.out.hi⟩, HBY.out.trans (Rt.drewN_below _ _ _)⟩
                      | true =>
                        obtain ⟨ga, oa, hga, hcy⟩ := HNY.out.at_ (by omega)
                        cases hga
                        have ci := hcy i hi
                        have cq := hcy q hq
                        have hyi := HYB.out i
                        have hyq := HYB.out q
                        have hBT := HBI.out.iff.1 rfl
                        by_cases hle : Y i - Y q ≤ 1
                        · have HBQ := Lib.hid (show Rt.Is true ((∀ x, x < i → ∀ y, y < j → Y x - Y y ≤ 1) ∧ ∀ y, y < q + 1 → Y i - Y y ≤ 1) from ⟨⟨fun _ => ⟨hBT.1, fun y hy => by
                            by_cases e : y = q
                            · subst e; exact hle
                            · exact hBT.2 y (by omega)⟩, fun _ => rfl⟩⟩)
                          clear hcy hBT
                          generalize Y i = yi at *
                          generalize Y q = yq at *
                          have hws : IntKind.i64.wrap (yi - yq) = yi - yq := by rw [IntKind.wrap_i64]; omega
                          go_wp2_with fail
                          go_quiet (fail)
                          go_wp2_with fail
                          go_roundg (12 - (q + 1))
                          case measure => omega
                          case rel => exact ⟨true, q + 1, rfl, by go_num, by omega, by omega, HBQ, ⟨fun h => HNY.out.at_ h, HNY.out.lo, HNY.out.hi⟩, HBY.out.trans (Rt.drewN_below _ _ _)⟩
                        · have HBQ := Lib.hid (show Rt.Is false ((∀ x, x < i → ∀ y, y < j → Y x - Y y ≤ 1) ∧ ∀ y, y < q + 1 → Y i - Y y ≤ 1) from ⟨⟨fun h => (by cases h), fun h => absurd (h.2 q (by omega)) hle⟩⟩)
                          clear hcy hBT
                          generalize Y i = yi at *
                          generalize Y q = yq at *
                          have hws : IntKind.i64.wrap (yi - yq) = yi - yq := by rw [IntKind.wrap_i64]; omega
                          go_wp2_with fail
                          go_quiet (fail)
                          go_wp2_with fail
                          go_roundg (12 - (q + 1))
                          case measure => omega
                          case rel => exact ⟨false, q + 1, congrArg Value.bool (decide_eq_false (by omega)), by go_num, by omega, by omega, HBQ, ⟨fun h => HNY.out.at_ h, HNY.out.lo, HNY.out.hi⟩, HBY.out.trans (Rt.drewN_below _ _ _)⟩
                    · have hq' : ¬(q : Int) < (j : Int) := by omega
                      obtain rfl : q = j := by omega
                      have HBQ := Lib.hid (show Rt.Is b (∀ x, x < i + 1 → ∀ y, y < q → Y x - Y y ≤ 1) from ⟨⟨fun h x hx y hy => by
                        have := HBI.out.iff.1 h
                        by_cases e : x = i
                        · subst e; exact this.2 y hy
                        · exact this.1 x (by omega) y hy, fun h => HBI.out.iff.2 ⟨fun x hx y hy => h x (by omega) y hy, fun y hy => h i (by omega) y hy⟩⟩⟩)
                      clear HBI
                      go_wp2_with fail
                      go_roundg (12 - (i + 1))
                      case measure => omega
                      case rel => exact ⟨b, i + 1, rfl, by go_num, by omega, by omega, HBQ, HNY, HBY⟩
                · have hi' : ¬(i : Int) < (j : Int) := by omega
                  obtain rfl : i = j := by omega
                  have HEV := Lib.hid (show (b = true ↔ Rt.even Y i) from HBI.out.iff)
                  clear HBI HYB
                  have hpp : ((p : Int) == (p : Int)) = true := by simp
                  have hbb : (b == b) = true := by simp
                  go_wp2_with fail
                  refine (awake24_any _).mono ?_
                  rintro e w5 ⟨rfl, hb⟩
                  have HN5 := Lib.hid (HNY.out.below hb)
                  have HB5 := Lib.hid (on HBY.out hb)
                  clear hb HNY HBY
                  go_wp2_with fail
                  refine (rteven_any (c := cy) HEV.out _ HN5.out (by omega)).mono ?_
                  rintro e w6 ⟨rfl, rfl⟩
                  go_wp2_with fail
                  go_ret
                  exact ⟨rfl, HB5.out⟩
end Go.Proofs.Ytdjbmpchaedefaa
