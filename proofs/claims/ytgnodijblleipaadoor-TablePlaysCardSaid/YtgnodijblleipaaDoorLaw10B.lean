/- The law on what is picked and comes back: true for every number and every list of acts. -/
import Derived.Test.YtgnodijblleipaaDoorLaw10A
import Derived.Test.YtgnodijblleipaaDoorLow
import Derived.IntWalk
import Derived.BigQuiet
import Derived.Deep.QuietTactic
import Derived.Deep.CutBlock
import Derived.Deep.DrawnRows
namespace Go.Proofs.YtgnodijblleipaaDoor
open Go.RowKit
attribute [local go_sem ↓] Go.wp_at_zero Go.wp_at_succ

/-- Which slots are out. -/
def outb (ln rt : List Nat) (i : Nat) : Bool := !ln.contains i && !rt.contains i
theorem outb_yes {ln rt : List Nat} {i : Nat} : outb ln rt i = true ↔ i ∉ ln ∧ i ∉ rt := by simp [outb]
theorem outb_start (n i : Nat) (h : i < n) : false = outb (List.range n) [] i := by simp [outb, h]
theorem outb_pick {x : Nat} {r rt : List Nat} (hx : x ∉ r ∧ x ∉ rt) (i : Nat) : (if i = x then true else outb (x :: r) rt i) = outb r rt i := by
  by_cases h : i = x
  · subst h; simp [outb, hx.1, hx.2]
  · simp [outb, h]
theorem outb_free {ln rt : List Nat} {x : Nat} (i : Nat) : (if i = x then false else outb ln rt i) = outb (ln ++ [x]) rt i := by
  by_cases h : i = x
  · subst h; simp [outb]
  · simp [outb, h]
theorem outb_gone {ln rt : List Nat} {x : Nat} (i : Nat) : (if i = x then false else outb ln rt i) = outb ln (rt ++ [x]) i := by
  by_cases h : i = x
  · subst h; simp [outb]
  · simp [outb, h]

theorem slots_low (p : Int) : ∃ K : Nat, 1 ≤ K ∧ K ≤ 8 ∧ IntKind.i64.wrap (bits .and .i64 p 7 + 1) = (K : Int) := by
  rw [show bits .and .i64 p 7 = p % 8 from i64_low p 3 (by omega)]
  exact ⟨(p % 8).toNat + 1, by omega, by omega, by rw [IntKind.wrap_i64]; omega⟩
theorem low15_nat (p : Int) : ∃ j : Nat, j ≤ 15 ∧ bits .and .i64 p 15 = (j : Int) := by
  rw [low15]
  exact ⟨(p % 16).toNat, by omega, by omega⟩
theorem low15_five (p : Int) : ∃ j : Nat, j ≤ 4 ∧ (bits .and .i64 p 15).tmod 5 = (j : Int) := by
  obtain ⟨q, hq, e⟩ := low15_nat p
  rw [e]
  exact ⟨q % 5, by omega, by rw [Int.tmod_eq_emod_of_nonneg (by omega)]; omega⟩

/-- The law's row and its marks are made. -/
theorem Plays.made {w1 wx : World} {B K b gn g G : Nat} {s : TSpot} (h : Tab w1 B s ⟨b, K, gn, List.range K, []⟩) (hb : Below w1.heap.size w1 wx) (hg : wx.heap[g]? = some (.cells #[] 3 (0, 0))) (hG : wx.heap[G]? = some (.cells (markCells K []) 4 (0, 0)))
    (h1 : w1.heap.size ≤ g) (h2 : w1.heap.size ≤ G) (hne : g ≠ G) : Plays wx B s G (.slice (some ⟨g, 0, none⟩) 0 0) ⟨b, K, gn, List.range K, []⟩ [] (fun _ => false) := by
  have hB := h.size
  exact {
    tab := ⟨s.F.L, h.on hb, fun hx => by have := h.old _ hx; omega, fun k hk hx => by have := h.old _ hx; cases hk; dsimp only at this; omega⟩
    row := ⟨g, 0, 0, #[], rfl, by omega, hg, Nat.le_refl _, Nat.zero_le _, Nat.le_refl _, fun j u hj => by simp [numCells] at hj⟩
    out := by rw [hG, boolCells_none]
    gB := by omega
    gv := fun k hk => by cases hk; exact hne }
theorem two_made (w : World) (x y : Obj) : ((w.alloc x).alloc y).drew.heap[w.heap.size]? = some x ∧ ((w.alloc x).alloc y).drew.heap[w.heap.size + 1]? = some y ∧ Below w.heap.size w ((w.alloc x).alloc y).drew := by
  refine ⟨?_, ?_, (((Below.refl _ _).alloc (Nat.le_refl _) _).alloc (by simp) _).drew⟩
  · rw [heap_drew, Below.heap_alloc _ _ _ (by simp)]; exact heap_alloc_new w x
  · rw [heap_drew]; have := heap_alloc_new (w.alloc x) y; simpa using this
theorem Plays.few {w : World} {B : Nat} {s : TSpot} {G : Nat} {v : Value} {t : Tb} {l : List Nat} {F : Nat → Bool} (h : Plays w B s G v t l F) : t.ln.length ≤ t.slots ∧ t.rt.length ≤ t.slots := by
  obtain ⟨L, hT, -⟩ := h.tab
  exact ⟨hT.hF.few.1, _root_.Go.Proofs.YtgnodijblleipaaDoor.few hT.nd hT.lt⟩

theorem not_out {i j : Nat} {ln rt : List Nat} (hO : ¬ (j < i ∧ outb ln rt j = true)) : ∀ n : Nat, (j : Int) = n → ¬ (⟨2, i, 9, ln, rt⟩ : Tb).Out n := fun n e ho => by
  obtain rfl : j = n := by omega
  exact hO ⟨ho.1, outb_yes.2 ho.2⟩
theorem is_out {i j : Nat} {ln rt : List Nat} (hO : j < i ∧ outb ln rt j = true) : (⟨2, i, 9, ln, rt⟩ : Tb).Out j := ⟨hO.1, outb_yes.1 hO.2⟩
theorem L_facts {w : World} {B i x : Nat} {s : TSpot} {r rt : List Nat} (h : Tab w B s ⟨2, i, 9, x :: r, rt⟩) : x < i ∧ x ∉ r ∧ x ∉ rt :=
  ⟨h.hF.few.2.2.2 x (by simp), (List.nodup_cons.1 h.hF.few.2.2.1).1, fun hx => h.ap x hx (by simp)⟩
theorem row_cells {w : World} {B g o c : Nat} {ln : List Nat} (h : Row w B 3 (.slice (some ⟨g, o, none⟩) ln.length c) (numCells ln)) : ∀ j u, (numCells ln)[j]? = some u → w.cell? ⟨g, o + j, none⟩ = some u := by
  obtain ⟨g', o', c', e, -, -, k⟩ := h.cells
  rw [numCells_length] at e
  simp only [Value.slice.injEq, Option.some.injEq, Addr.mk.injEq, and_true, true_and] at e
  obtain ⟨⟨rfl, rfl⟩, rfl⟩ := e
  exact k

set_option maxRecDepth 100000 in
set_option maxHeartbeats 4000000 in
theorem tplays_any (A X : Nat → Int) (n0 : Int) (sa : Option Addr) (len cap bk o : Nat) (hsa : 0 < len → sa = some ⟨bk, o, none⟩) (w : World)
    (hc : ∀ i, i < len → w.cell? ⟨bk, o + i * 2, none⟩ = some (.int .i64 (A i)) ∧ w.cell? ⟨bk, o + i * 2 + 1, none⟩ = some (.int .i64 (X i))) (hL : SLay w) :
    Calls Tryd.prog 3 #[.int .i64 n0, .slice sa len cap] w fun e w' => e = .returned (.bool true) ∧ Below w.heap.size w w' := by
  have HC := Lib.hid hc
  have HS := Lib.hid hsa
  have HL := Lib.hid hL
  obtain ⟨K, hK1, hK8, hw⟩ := slots_low n0
  have hmk := make_free_marks K (by omega)
  generalize hmc : markCells K [] = mc at hmk
  have HMC := Lib.hid hmc
  obtain ⟨i0, hinf, hz0, hz1, hz2⟩ := info_parts Tryd.infoNum
  clear hc hsa hL hmc
  go_enter Tryd.func3, Tryd.ntmps3
  go_wp2_with fail
  refine (tnew_yes 2 K 9 (by omega) _).mono ?_
  rintro e w1 ⟨s, rfl, hT, hb1⟩
  have HT := Lib.hid hT
  clear hT
  go_upto_region 3 with fail
  go_cut [7, 8, 9] (fun s7 s8 s9 wx => ∃ g7 G : Nat, s7 = .slice (some ⟨g7, 0, none⟩) 0 0 ∧ s8 = .slice (some ⟨G, 0, none⟩) K K ∧ s9 = .int .i64 0 ∧ Hid (Plays wx w.heap.size s G (.slice (some ⟨g7, 0, none⟩) 0 0) ⟨2, K, 9, List.range K, []⟩ [] (fun _ => false)) ∧ Below w.heap.size w wx)
  case first =>
    go_region
    all_goals (go_wp2_with fail; go_meet)
    case rel =>
      obtain ⟨k1, k2, k3⟩ := two_made w1 (.cells #[] 3) (.cells mc 4)
      exact ⟨w1.heap.size, w1.heap.size + 1, rfl, rfl, rfl, Lib.hid (Plays.made HT.out k3 k1 (by rw [HMC.out]; exact k2) (Nat.le_refl _) (by omega) (by omega)), hb1.trans (k3.mono hb1.size)⟩
    case rel =>
      obtain ⟨k1, k2, k3⟩ := two_made w1 (.cells mc 4) (.cells #[] 3)
      exact ⟨w1.heap.size + 1, w1.heap.size, rfl, rfl, rfl, Lib.hid (Plays.made HT.out k3 k2 (by rw [HMC.out]; exact k1) (by omega) (Nat.le_refl _) (by omega)), hb1.trans (k3.mono hb1.size)⟩
  case rest =>
  obtain ⟨g7, G, rfl, rfl, rfl, hpl, hbl⟩ := hcut
  clear hb1 HT hmk HMC
  go_wp2_with fail
  go_loopg [7, 10] K (fun g s7 s10 wr => ∃ i g7 o7 c7 : Nat, s7 = .slice (some ⟨g7, o7, none⟩) i c7 ∧ i ≤ K ∧ g = K - i ∧ s10 = .int .i64 i ∧ Hid (Plays wr w.heap.size s G (.slice (some ⟨g7, o7, none⟩) i c7) ⟨2, K, 9, List.range K, []⟩ (List.range i) (fun _ => false)) ∧ Below w.heap.size w wr)
  case atStart => exact ⟨0, g7, 0, 0, rfl, Nat.zero_le _, rfl, rfl, hpl, hbl⟩
  case round =>
    clear hpl hbl
    obtain ⟨i, g7, o7, c7, rfl, hi, rfl, rfl, hpl, hbel⟩ := hrel
    by_cases hlt : i < K
    · have hlt2 : (i : Int) < (K : Int) := by omega
      have hr0 := hpl.out.row
      have hra := Lib.hid (hr0.rest (Rest.alloc (fun _ => False) wr (.cells #[.int .i64 (i : Int)] 3)) (fun _ _ => id))
      have hbs := hpl.out.size
      clear hr0
      go_wp2_with (at_builtin; refine wpList_append_row _ rfl _ _ 27 rfl w.heap.size 3 i0 (.int .i64 0) 8 Tryd.underlying27 hinf hz0 hz1 hz2 rfl _ (numCells (List.range i)) rfl hra.out ⟨wr.heap.size, 0, none⟩ 1 1 [.int .i64 (i : Int)] rfl rfl ?c1 ?c2 ?c3 ?c4 ?c5 ?_)
      case c1 => exact fun j u hj => cell_one_new wr (.int .i64 (i : Int)) 3 j u hj
      case c2 => intro u hu; simp at hu; subst hu; rfl
      case c3 => rw [numCells_length, List.length_range]; unfold maxLen; omega
      case c4 => rw [numCells_length, List.length_range]; omega
      case c5 => simp; omega
      intro v' w2 hown' hgrow hwhere
      obtain ⟨hb3, hbel3⟩ := hpl.out.snoc hown' hgrow (by simpa using hwhere)
      have HB := Lib.hid hb3
      have HW := hbel.trans hbel3
      obtain ⟨g8, o8, c8, hv', -⟩ := hb3.shape
      have hll : (List.range i ++ [i]).length = i + 1 := by simp
      rw [hll] at hv'
      subst hv'
      clear hown' hgrow hwhere hb3 hbel3 hra hpl hbel hll
      go_wp2_with fail
      go_roundg (K - (i + 1))
      case measure => go_light; omega
      case rel => exact ⟨i + 1, g8, o8, c8, rfl, by omega, rfl, by go_num, by rw [List.range_succ]; exact HB, HW⟩
    · obtain rfl : i = K := by omega
      have HP0 := Lib.hid (hpl.out.same (F' := outb (List.range i) []) (fun j hj => outb_start i j hj))
      clear hpl
      obtain ⟨ga, oa, ca, ea, hlc, hcm, -⟩ := HP0.out.shape
      simp only [Value.slice.injEq, Option.some.injEq, Addr.mk.injEq, and_true, List.length_range, true_and] at ea
      obtain ⟨⟨rfl, rfl⟩, rfl⟩ := ea
      rw [List.length_range] at hlc
      clear hlt hi
      go_wp2_with fail
      go_loopg [7, 9, 11] len (fun g s7 s9 s11 wr => ∃ (k g7 o7 c7 : Nat) (ln rt : List Nat), s7 = .slice (some ⟨g7, o7, none⟩) ln.length c7 ∧ k ≤ len ∧ g = len - k ∧ s9 = .int .i64 (rt.length : Nat) ∧ s11 = .int .i64 k ∧ k ≤ 60 ∧ ln.length ≤ c7 ∧ c7 ≤ 9223372036854775807 ∧ Hid (Plays wr w.heap.size s G (.slice (some ⟨g7, o7, none⟩) ln.length c7) ⟨2, i, 9, ln, rt⟩ ln (outb ln rt)) ∧ Below w.heap.size w wr)
      case atStart => exact ⟨0, g7, o7, c7, List.range i, [], by rw [List.length_range], Nat.zero_le _, rfl, rfl, rfl, by omega, by rw [List.length_range]; exact hlc, hcm, by rw [List.length_range]; exact HP0, hbel⟩
      case round =>
        clear HP0 hbel hlc hcm
        obtain ⟨k, g7, o7, c7, ln, rt, rfl, hk, rfl, rfl, rfl, hk60, hlc, hcm, hpl, hbel⟩ := hrel
        by_cases hlt : k < len ∧ k < 60
        · obtain ⟨hl1, hl2⟩ := hlt
          have hl3 : (k : Int) < 60 := by omega
          obtain rfl := HS.out (by omega)
          obtain ⟨c0, c1⟩ := HC.out k hl1
          have q0 := (hbel.cell (p := ⟨bk, o + k * 2, none⟩) (cell_block c0)).trans c0
          have q1 := (hbel.cell (p := ⟨bk, o + k * 2 + 1, none⟩) (cell_block c1)).trans c1
          obtain ⟨j, hj15, hj⟩ := low15_nat (X k)
          obtain ⟨p, hp4, hp⟩ := low15_five (A k)
          obtain ⟨hf1, hf2⟩ := hpl.out.few
          dsimp only at hf1 hf2
          clear c0 c1
          go_upto_region 12 with fail
          go_cut [13] (fun s13 wx => s13 = .bool (decide (j < i ∧ outb ln rt j = true)) ∧ wr = wx)
          case first =>
            by_cases hji : j < i
            · have hji2 : (j : Int) < (i : Int) := by omega
              have hcj := hpl.out.cells.1 j hji
              have hbb := Lib.hid (show outb ln rt j = decide (j < i ∧ outb ln rt j = true) by cases outb ln rt j <;> simp [hji])
              generalize hb : outb ln rt j = b at hcj
              have HB := Lib.hid hb
              clear hb
              go_wp2_with fail
              go_meet
              case rel => exact ⟨by rw [← hbb.out, HB.out], rfl⟩
            · have hji2 : ¬ (j : Int) < (i : Int) := by omega
              go_wp2_with fail
              go_meet
              case rel => exact ⟨by rw [decide_eq_false (show ¬ (j < i ∧ outb ln rt j = true) from fun h => hji h.1)], rfl⟩
          case rest =>
            obtain ⟨rfl, rfl⟩ := hcut
            generalize hq : decide (j < i ∧ outb ln rt j = true) = q
            go_upto_block 4 with fail
            go_cut [7, 9] (fun s7 s9 wx => ∃ (g7 o7 c7 : Nat) (ln rt : List Nat), s7 = .slice (some ⟨g7, o7, none⟩) ln.length c7 ∧ s9 = .int .i64 (rt.length : Nat) ∧ ln.length ≤ c7 ∧ c7 ≤ 9223372036854775807 ∧ Hid (Plays wx w.heap.size s G (.slice (some ⟨g7, o7, none⟩) ln.length c7) ⟨2, i, 9, ln, rt⟩ ln (outb ln rt)) ∧ Below w.heap.size w wx)
            case first =>
              rcases (by omega : p = 2 ∨ p = 3 ∨ p = 4 ∨ p ≤ 1) with rfl | rfl | rfl | hp1
              · cases q with
                | true =>
                  have hO := of_decide_eq_true hq
                  clear hq
                  go_wp2_with fail
                  refine (sword_any _ _ (by omega) (by omega) _ (HL.out.kept hbel)).mono ?_
                  rintro e w2 ⟨rfl, hb2⟩
                  have HP2 := Lib.hid (hpl.out.on hb2)
                  have hbl := hbel.trans (hb2.mono hbel.size)
                  obtain ⟨L, hT, hc⟩ := HP2.out.call
                  have HT := Lib.hid hT
                  have HCC := Lib.hid hc
                  clear hb2 hT hc hpl hbel q0 q1
                  go_wp2_with fail
                  have HO := Lib.hid (is_out hO)
                  have hji : j < i := hO.1
                  clear hO
                  refine (tback_free j _ _ HT.out (HL.out.kept hbl) HO.out (by decide) (by decide)).mono ?_
                  rintro e w3 ⟨rfl, hN⟩
                  obtain ⟨hP3, hb3⟩ := HCC.out w3 _ rfl hN
                  have hbl := hbl.trans hb3
                  have q1 := hP3.cells.1 j hji
                  have f1 := hP3.cells.2 j
                  have hM := hP3.mark j false
                  clear hN hb3 HT HCC HP2 HO
                  go_upto_region 25 with fail
                  have HP3 := Lib.hid hP3
                  clear q1 f1 hP3
                  generalize w3.setCell ⟨G, j, none⟩ (.bool false) = w4 at hM ⊢
                  obtain ⟨hP4, hb4⟩ := hM
                  have hbl := hbl.trans hb4
                  have HP4 := Lib.hid (hP4.same (F' := outb (ln ++ [j]) rt) (fun m _ => outb_free m))
                  obtain ⟨ga, oa, ca, ea, -, -, hcells⟩ := hP4.shape
                  simp only [Value.slice.injEq, Option.some.injEq, Addr.mk.injEq, and_true, true_and] at ea
                  obtain ⟨⟨rfl, rfl⟩, rfl⟩ := ea
                  have HCE := Lib.hid (hP4.row.cells)
                  have hgs : g7 < w4.heap.size := (hP4.row.lt (k := g7) rfl).2
                  have HRW := Lib.hid (row_cells hP4.row)
                  have hrow0 : Row (w4.alloc (.cells #[] 3)) w4.heap.size 3 (.slice (some ⟨w4.heap.size, 0, none⟩) 0 0) [] :=
                    ⟨w4.heap.size, 0, 0, #[], rfl, Nat.le_refl _, heap_alloc_new _ _, Nat.le_refl _, Nat.zero_le _, Nat.le_refl _, fun j u hj => by simp at hj⟩
                  have HR0 := Lib.hid hrow0
                  clear hrow0 hcells hP4 hb4 HCE
                  go_wp2_with (at_builtin; refine wpList_append_row _ rfl _ _ 27 rfl w4.heap.size 3 i0 (.int .i64 0) 8 Tryd.underlying27 hinf hz0 hz1 hz2 rfl _ [] rfl HR0.out ⟨g7, o7, none⟩ ln.length c7 (numCells ln) rfl (numCells_length ln) ?c1 numCells_one ?c3 ?c4 ?c5 ?_)
                  case c1 => exact fun j u hj => by rw [Addr.add_lit, World.cell?_of_block (Below.heap_alloc _ _ _ hgs)]; exact HRW.out j u hj
                  case c3 => simp; unfold maxLen; omega
                  case c4 => simp; omega
                  case c5 => simp
                  intro v3 w5 hown3 hgrow3 hwhere3
                  clear hwhere3 HRW HR0
                  have hr3 := Lib.hid ((Rest.alloc (fun _ => False) w4 (.cells #[] 3)).trans (o3 := fun _ => False) (Rest.grown (own := fun k => k = w4.heap.size) hgrow3 (fun k hk => by simp [Value.ownBlock] at hk; omega)) (fun _ _ => id) (fun i hi e => by omega))
                  obtain ⟨g9, o9, c9, e9, -⟩ := hown3.cells
                  simp only [numCells_length] at e9 hown3
                  subst e9
                  have hg9 : w4.heap.size ≤ g9 := (hown3.lt (k := g9) rfl).1
                  have hra := Lib.hid (hown3.rest (Rest.alloc (fun _ => False) w5 (.cells #[.int .i64 (j : Int)] 3)) (fun _ _ => id))
                  have hs3 := hr3.out.size
                  clear hgrow3 hown3
                  go_wp2_with (at_builtin; refine wpList_append_row _ rfl _ _ 27 rfl w4.heap.size 3 i0 (.int .i64 0) 8 Tryd.underlying27 hinf hz0 hz1 hz2 rfl _ (numCells ln) rfl hra.out ⟨w5.heap.size, 0, none⟩ 1 1 [.int .i64 (j : Int)] rfl rfl ?d1 ?d2 ?d3 ?d4 ?d5 ?_)
                  case d1 => exact fun j' u hj => cell_one_new w5 (.int .i64 (j : Int)) 3 j' u hj
                  case d2 => intro u hu; simp at hu; subst hu; rfl
                  case d3 => rw [numCells_length]; unfold maxLen; omega
                  case d4 => rw [numCells_length]; omega
                  case d5 => simp; omega
                  intro v4 w6 hown4 hgrow4 hwhere4
                  clear hwhere4 hra
                  have hr4 := (hr3.out.trans (o3 := fun _ => False) ((Rest.alloc (fun _ => False) w5 (.cells #[.int .i64 (j : Int)] 3)).trans (o3 := fun k => k = g9) (Rest.grown (own := fun k => k = g9) hgrow4 (fun k hk => by simp [Value.ownBlock] at hk; omega)) (fun _ _ => False.elim) (fun _ _ => id)) (fun _ _ => id) (fun i hi e => by omega))
                  have hP6 := HP4.out.fresh (l' := ln ++ [j]) hr4 (by rw [numCells_append]; exact hown4)
                  have hbl6 := hbl.trans (hr4.below hbl.size (fun k hk => hk.elim))
                  obtain ⟨gb, ob, cb, eb, hlb, hcb, -⟩ := hP6.shape
                  subst eb
                  have HP6 := Lib.hid hP6
                  clear hgrow4 hown4 hr3 hr4 HP4 hP6 hbl
                  go_wp2_with fail
                  go_meet
                  case rel => exact ⟨gb, ob, cb, ln ++ [j], rt, rfl, rfl, hlb, hcb, HP6, hbl6⟩
                | false =>
                  have hO := of_decide_eq_false hq
                  clear hq
                  go_wp2_with fail
                  refine (sword_any _ _ (by omega) (by omega) _ (HL.out.kept hbel)).mono ?_
                  rintro e w2 ⟨rfl, hb2⟩
                  have HP2 := Lib.hid (hpl.out.on hb2)
                  have hbl := hbel.trans (hb2.mono hbel.size)
                  obtain ⟨L, hT, hc⟩ := HP2.out.call
                  have HT := Lib.hid hT
                  have HCC := Lib.hid hc
                  clear hb2 hT hc hpl hbel q0 q1
                  go_wp2_with fail
                  have HN := Lib.hid (not_out hO)
                  clear hO
                  refine (tback_no _ _ _ HT.out HN.out).mono ?_
                  rintro e w3 ⟨rfl, rfl⟩
                  clear HT HCC HN
                  go_wp2_with fail
                  go_meet
                  case rel => exact ⟨g7, o7, c7, ln, rt, rfl, rfl, hlc, hcm, HP2, hbl⟩
              · cases q with
                | true =>
                  have hO := of_decide_eq_true hq
                  clear hq
                  go_wp2_with fail
                  refine (sword_any _ _ (by omega) (by omega) _ (HL.out.kept hbel)).mono ?_
                  rintro e w2 ⟨rfl, hb2⟩
                  have HP2 := Lib.hid (hpl.out.on hb2)
                  have hbl := hbel.trans (hb2.mono hbel.size)
                  obtain ⟨L, hT, hc⟩ := HP2.out.call
                  have HT := Lib.hid hT
                  have HCC := Lib.hid hc
                  clear hb2 hT hc hpl hbel q0 q1
                  go_wp2_with fail
                  have HO := Lib.hid (is_out hO)
                  have hji : j < i := hO.1
                  clear hO
                  refine (tback_gone j _ _ HT.out (HL.out.kept hbl) HO.out (by decide) (by decide)).mono ?_
                  rintro e w3 ⟨rfl, hN⟩
                  obtain ⟨hP3, hb3⟩ := HCC.out w3 _ rfl hN
                  have hbl := hbl.trans hb3
                  have q1 := hP3.cells.1 j hji
                  have f1 := hP3.cells.2 j
                  have hM := hP3.mark j false
                  clear hN hb3 HT HCC HP2 HO
                  have HM := Lib.hid (hM.1.same (F' := outb ln (rt ++ [j])) (fun m _ => outb_gone m))
                  have hbl := hbl.trans hM.2
                  have hll := Lib.hid (show (rt ++ [j]).length = rt.length + 1 by simp)
                  clear hM hP3
                  go_wp2_with fail
                  go_meet
                  case rel => exact ⟨g7, o7, c7, ln, rt ++ [j], rfl, by rw [hll.out]; go_num, hlc, hcm, HM, hbl⟩
                | false =>
                  have hO := of_decide_eq_false hq
                  clear hq
                  go_wp2_with fail
                  refine (sword_any _ _ (by omega) (by omega) _ (HL.out.kept hbel)).mono ?_
                  rintro e w2 ⟨rfl, hb2⟩
                  have HP2 := Lib.hid (hpl.out.on hb2)
                  have hbl := hbel.trans (hb2.mono hbel.size)
                  obtain ⟨L, hT, hc⟩ := HP2.out.call
                  have HT := Lib.hid hT
                  have HCC := Lib.hid hc
                  clear hb2 hT hc hpl hbel q0 q1
                  go_wp2_with fail
                  have HN := Lib.hid (not_out hO)
                  clear hO
                  refine (tback_no _ _ _ HT.out HN.out).mono ?_
                  rintro e w3 ⟨rfl, rfl⟩
                  clear HT HCC HN
                  go_wp2_with fail
                  go_meet
                  case rel => exact ⟨g7, o7, c7, ln, rt, rfl, rfl, hlc, hcm, HP2, hbl⟩
              · cases q with
                | true =>
                  have hO := of_decide_eq_true hq
                  clear hq
                  go_wp2_with fail
                  refine (sword_any _ _ (by omega) (by omega) _ (HL.out.kept hbel)).mono ?_
                  rintro e w2 ⟨rfl, hb2⟩
                  have HP2 := Lib.hid (hpl.out.on hb2)
                  have hbl := hbel.trans (hb2.mono hbel.size)
                  obtain ⟨L, hT, hc⟩ := HP2.out.call
                  have HT := Lib.hid hT
                  have HCC := Lib.hid hc
                  clear hb2 hT hc hpl hbel q0 q1
                  go_wp2_with fail
                  have HO := Lib.hid (is_out hO)
                  clear hO
                  refine (tback_other j _ _ HT.out (HL.out.kept hbl) HO.out (by decide) (by decide) (by decide)).mono ?_
                  rintro e w3 ⟨rfl, hb3⟩
                  have HP3 := Lib.hid (HP2.out.on hb3)
                  have hbl := hbl.trans (hb3.mono hbl.size)
                  clear HT HCC HO hb3 HP2
                  go_wp2_with fail
                  go_meet
                  case rel => exact ⟨g7, o7, c7, ln, rt, rfl, rfl, hlc, hcm, HP3, hbl⟩
                | false =>
                  have hO := of_decide_eq_false hq
                  clear hq
                  go_wp2_with fail
                  refine (sword_any _ _ (by omega) (by omega) _ (HL.out.kept hbel)).mono ?_
                  rintro e w2 ⟨rfl, hb2⟩
                  have HP2 := Lib.hid (hpl.out.on hb2)
                  have hbl := hbel.trans (hb2.mono hbel.size)
                  obtain ⟨L, hT, hc⟩ := HP2.out.call
                  have HT := Lib.hid hT
                  have HCC := Lib.hid hc
                  clear hb2 hT hc hpl hbel q0 q1
                  go_wp2_with fail
                  have HN := Lib.hid (not_out hO)
                  clear hO
                  refine (tback_no _ _ _ HT.out HN.out).mono ?_
                  rintro e w3 ⟨rfl, rfl⟩
                  clear HT HCC HN
                  go_wp2_with fail
                  go_meet
                  case rel => exact ⟨g7, o7, c7, ln, rt, rfl, rfl, hlc, hcm, HP2, hbl⟩
              · have p2 : ¬ (p : Int) = 2 := by omega
                have p3 : ¬ (p : Int) = 3 := by omega
                have p4 : ¬ (p : Int) = 4 := by omega
                obtain ⟨L, hT, hc⟩ := hpl.out.call
                have HT := Lib.hid hT
                have HCC := Lib.hid hc
                clear hq
                clear hT hc q0 q1 hp4
                cases ln with
                | nil =>
                  go_wp2_with fail
                  refine (tpick_no _ HT.out rfl).mono ?_
                  rintro e w3 ⟨rfl, rfl⟩
                  clear HT HCC
                  go_wp2_with fail
                  go_meet
                  case rel => exact ⟨g7, o7, c7, [], rt, rfl, rfl, hlc, hcm, hpl, hbel⟩
                | cons x r =>
                  simp only [List.length_cons] at hlc hf1
                  go_wp2_with fail
                  refine (tpick_yes _ HT.out).mono ?_
                  rintro e w3 ⟨rfl, hN⟩
                  obtain ⟨hP3, hb3⟩ := HCC.out w3 _ rfl hN
                  have hx := L_facts HT.out
                  have hbl := hbel.trans hb3
                  obtain ⟨ga, oa, ca, ea, -, -, hcells⟩ := hP3.shape
                  simp only [Value.slice.injEq, Option.some.injEq, Addr.mk.injEq, and_true, true_and] at ea
                  obtain ⟨⟨rfl, rfl⟩, rfl⟩ := ea
                  have hx0 : w3.cell? ⟨g7, o7, none⟩ = some (.int .i64 (x : Int)) := hcells 0 (by simp)
                  have q1 := hP3.cells.1 x hx.1
                  have f1 := hP3.cells.2 x
                  have hxi := hx.1
                  obtain ⟨hP4, hb4⟩ := hP3.mark x true
                  have hbl := hbl.trans hb4
                  obtain ⟨g8, o8, c8, e8, h81, h82, hP8⟩ := (hP4.same (F' := outb r rt) (fun m _ => outb_pick hx.2 m)).cut
                  have hslice := slice_one g7 o7 (r.length + 1) c7 (by omega)
                  rw [e8] at hslice
                  have HP8 := Lib.hid hP8
                  clear hN hP3 hb3 hP4 hb4 hcells e8 hP8 hx HT HCC hpl hbel
                  go_wp2_with fail
                  go_meet
                  case rel => exact ⟨g8, o8, c8, r, rt, rfl, rfl, h81, h82, HP8, hbl⟩
            case rest =>
              clear hpl hbel hlc hcm hf1 hf2 q0 q1 hq
              obtain ⟨g7, o7, c7, ln, rt, rfl, rfl, hlc, hcm, hpl, hbel⟩ := hcut
              obtain ⟨hf1, hf2⟩ := hpl.out.few
              dsimp only at hf1 hf2
              obtain ⟨L, hT, -⟩ := hpl.out.call
              have HT := Lib.hid hT
              clear hT
              go_wp2_with fail
              refine (tfree_any _ HT.out).mono ?_
              rintro e w3 ⟨rfl, rfl⟩
              dsimp only
              go_wp2_with fail
              refine (tretired_any _ HT.out).mono ?_
              rintro e w3 ⟨rfl, rfl⟩
              dsimp only
              go_wp2_with fail
              go_roundg (len - (k + 1))
              case measure => go_light; omega
              case rel => exact ⟨k + 1, g7, o7, c7, ln, rt, rfl, by omega, rfl, rfl, by go_num, by omega, hlc, hcm, hpl, hbel⟩
        · by_cases hl1 : k < len
          · have hl3 : ¬ (k : Int) < 60 := by omega
            clear hlt
            go_wp2_with fail
            refine (awake10_any _ (HL.out.kept (hbel.mono (Nat.le_refl _)))).mono ?_
            rintro e w2 ⟨rfl, hb⟩
            have HP := Lib.hid (hpl.out.on hb)
            have hbl := hbel.trans (hb.mono hbel.size)
            obtain ⟨hf1, -⟩ := hpl.out.few
            dsimp only at hf1
            clear hb hbel hpl
            go_wp2_with fail
            refine (left_any _ (by omega) HP.out).mono ?_
            rintro e w3 ⟨rfl, hb⟩
            have hbl := hbl.trans hb
            clear hb HP
            go_wp2_with fail
            go_ret
            exact ⟨rfl, hbl⟩
          · clear hlt
            go_wp2_with fail
            refine (awake10_any _ (HL.out.kept (hbel.mono (Nat.le_refl _)))).mono ?_
            rintro e w2 ⟨rfl, hb⟩
            have HP := Lib.hid (hpl.out.on hb)
            have hbl := hbel.trans (hb.mono hbel.size)
            obtain ⟨hf1, -⟩ := hpl.out.few
            dsimp only at hf1
            clear hb hbel hpl
            go_wp2_with fail
            refine (left_any _ (by omega) HP.out).mono ?_
            rintro e w3 ⟨rfl, hb⟩
            have hbl := hbl.trans hb
            clear hb HP
            go_wp2_with fail
            go_ret
            exact ⟨rfl, hbl⟩

end Go.Proofs.YtgnodijblleipaaDoor
