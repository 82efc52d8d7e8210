/- The law on frames that are sent and fetched one behind the other. -/
import Derived.Test.YtieehpajkidbcaaLaw8C
import Derived.Test.YtieehpajkidbcaaLaw8A
import Derived.Test.YtieehpajkidbcaaSkip
import Derived.Deep.DeepCutAuto
import Derived.Deep.CutRange
namespace Go.Proofs.Ytieehpajkidbcaa
open Go.RowKit
attribute [local go_sem ↓] Go.wp_at_zero Go.wp_at_succ

theorem Try.elemWd8 : Try.prog.elem 22 = 34 := by kernel_rfl
theorem Try.infoWd8 : (Try.prog.info? 34).map (fun i => (i.zero, i.size, i.bytes)) = some (some (.agg #[.int .u64 0, .int .u64 0, .int .u64 0]), 3, 24) := by kernel_rfl

/-- Words but the first. -/
theorem words_cut (g off n cap : Nat) (hn : 1 ≤ n) (w : World) : (Instr.sliceAt 22 (.slice (some ⟨g, off, none⟩) n cap) (some (.int .i64 1)) none none).run Try.prog w = .ok (sliced (some ⟨g, off, none⟩) 1 n cap 3) w := by
  obtain ⟨i0, hinf, hz0, hz1, hz2⟩ := info_parts Try.infoWd8
  rw [run_sliceAt_slice w 22 _ _ _ _ Try.underlying22, run_slice_l w 22 _ _ _ Try.underlying22 .i64 1 (by omega) (by omega), Try.elemWd8]
  simp only [sizeOf, typeInfo, Sem.run_bind]
  simp [hinf, hz1]

/-- One item of three cells lies in a block of its own. -/
theorem item_three (w : World) (x y z : Value) (t : TypeId) : ∀ j u, [x, y, z][j]? = some u → (w.alloc (.cells #[x, y, z] t)).cell? ((⟨w.heap.size, 0, none⟩ : Addr).add j) = some u := by
  intro j u hj
  have hb := heap_alloc_new w (.cells #[x, y, z] t)
  match j, hj with
  | 0, hj => simp at hj; subst hj; exact cell_of_row _ _ _ _ _ _ hb
  | 1, hj => simp at hj; subst hj; exact cell_of_row _ _ _ _ _ _ hb
  | 2, hj => simp at hj; subst hj; exact cell_of_row _ _ _ _ _ _ hb

/-- What came in: frames' words, and a plan. -/
structure Given8 (w : World) (X : Nat → Nat → Nat) (Y : Nat → Bool) (bk o len bp op plen : Nat) : Prop where
  words : ∀ i, i < len → w.cell? ⟨bk, o + i * 3, none⟩ = some (.int .u64 (X i 0 : Nat)) ∧ w.cell? ⟨bk, o + i * 3 + 1, none⟩ = some (.int .u64 (X i 1 : Nat)) ∧ w.cell? ⟨bk, o + i * 3 + 2, none⟩ = some (.int .u64 (X i 2 : Nat))
  plan : ∀ i, i < plen → w.cell? ⟨bp, op + i, none⟩ = some (.bool (Y i))
theorem Given8.word {w wr : World} {X : Nat → Nat → Nat} {Y : Nat → Bool} {bk o len bp op plen : Nat} (h : Given8 w X Y bk o len bp op plen) (hb : Below w.heap.size w wr) {k : Nat} (hk : k < len) :
    wr.cell? ⟨bk, o + k * 3, none⟩ = some (.int .u64 (X k 0 : Nat)) ∧ wr.cell? ⟨bk, o + k * 3 + 1, none⟩ = some (.int .u64 (X k 1 : Nat)) ∧ wr.cell? ⟨bk, o + k * 3 + 2, none⟩ = some (.int .u64 (X k 2 : Nat)) := by
  obtain ⟨g0, g1, g2⟩ := h.words k hk
  exact ⟨(hb.cell (cell_block g0)).trans g0, (hb.cell (cell_block g0)).trans g1, (hb.cell (cell_block g0)).trans g2⟩
theorem Given8.turn {w wr : World} {X : Nat → Nat → Nat} {Y : Nat → Bool} {bk o len bp op plen : Nat} (h : Given8 w X Y bk o len bp op plen) (hb : Below w.heap.size w wr) {k : Nat} (hk : k < plen) : wr.cell? ⟨bp, op + k, none⟩ = some (.bool (Y k)) := by
  have g0 := h.plan k hk
  exact (hb.cell (cell_block g0)).trans g0

theorem Ord.five {w wr : World} {s : Spot} {n : Nat} {a : Ar} {g off cap : Nat} {ws : List (Nat × Nat × Nat)} {ex : Nat → Prop} (h : Ord w wr s n a g off cap ws ex) {X : Nat → Nat → Nat} {Y : Nat → Bool} {bk o len bp op plen : Nat} (hc : Given8 w X Y bk o len bp op plen) {k : Nat} (hk : k < len) :
    wr.cell? ⟨w.heap.size, 0, none⟩ = some (.int .i64 1) ∧ wr.cell? ⟨w.heap.size, 1, none⟩ = some (.int .i64 n) ∧ wr.cell? ⟨bk, o + k * 3, none⟩ = some (.int .u64 (X k 0 : Nat)) ∧ wr.cell? ⟨bk, o + k * 3 + 1, none⟩ = some (.int .u64 (X k 1 : Nat)) ∧ wr.cell? ⟨bk, o + k * 3 + 2, none⟩ = some (.int .u64 (X k 2 : Nat)) :=
  ⟨h.cells.1, h.cells.2, hc.word h.below hk⟩
theorem eleven8 {w : World} {B g off : Nat} {t : TypeId} {c0 c1 c2 c3 c4 c5 c6 c7 h0 h1 h2 : Value} (h : w.heap[B]? = some (.cells #[c0, c1, c2, c3, c4, c5, c6, c7] t (0, 0))) (hh : w.cell? ⟨g, off, none⟩ = some h0 ∧ w.cell? ⟨g, off + 1, none⟩ = some h1 ∧ w.cell? ⟨g, off + 2, none⟩ = some h2) :
    w.cell? ⟨B, 0, none⟩ = some c0 ∧ w.cell? ⟨B, 1, none⟩ = some c1 ∧ w.cell? ⟨B, 2, none⟩ = some c2 ∧ w.cell? ⟨B, 3, none⟩ = some c3 ∧ w.cell? ⟨B, 4, none⟩ = some c4 ∧ w.cell? ⟨B, 5, none⟩ = some c5 ∧ w.cell? ⟨B, 6, none⟩ = some c6 ∧ w.cell? ⟨B, 7, none⟩ = some c7 ∧
    w.cell? ⟨g, off, none⟩ = some h0 ∧ w.cell? ⟨g, off + 1, none⟩ = some h1 ∧ w.cell? ⟨g, off + 2, none⟩ = some h2 :=
  let ⟨a, b, c, d, e, f, i, j⟩ := eight_cells h
  ⟨a, b, c, d, e, f, i, j, hh⟩

/-- Frames that wait are those of turns from H on. -/
def Waits (ws : List (Nat × Nat × Nat)) (H T : Nat) (W : Nat → Nat × Nat × Nat) : Prop := ws.length = T - H ∧ ∀ j u, ws[j]? = some u → W (H + j) = u
theorem Waits.put {ws : List (Nat × Nat × Nat)} {H T : Nat} {W : Nat → Nat × Nat × Nat} (h : Waits ws H T W) (hHT : H ≤ T) (q : Nat × Nat × Nat) : Waits (ws ++ [q]) H (T + 1) (fun τ => if τ = T then q else W τ) := by
  obtain ⟨h1, h2⟩ := h
  refine ⟨by rw [List.length_append]; simp; omega, fun j u hj => ?_⟩
  rcases Nat.lt_or_ge j ws.length with hlt | hge
  · rw [List.getElem?_append_left hlt] at hj
    show (if H + j = T then q else W (H + j)) = u
    rw [if_neg (by omega)]; exact h2 j u hj
  · rw [List.getElem?_append_right hge] at hj
    have h0 := (List.getElem?_eq_some_iff.1 hj).1
    simp only [List.length_singleton] at h0
    have e : j - ws.length = 0 := by omega
    rw [e] at hj
    simp at hj
    show (if H + j = T then q else W (H + j)) = u
    rw [if_pos (by omega)]; exact hj
theorem Waits.cut {q : Nat × Nat × Nat} {r : List (Nat × Nat × Nat)} {H T : Nat} {W : Nat → Nat × Nat × Nat} (h : Waits (q :: r) H T W) : W H = q ∧ H < T ∧ Waits r (H + 1) T W := by
  obtain ⟨h1, h2⟩ := h
  simp only [List.length_cons] at h1
  exact ⟨h2 0 q rfl, by omega, by omega, fun j u hj => by rw [show H + 1 + j = H + (j + 1) by omega]; exact h2 (j + 1) u (by simpa using hj)⟩

set_option maxHeartbeats 4000000 in
set_option maxRecDepth 100000 in
theorem order_law (X : Nat → Nat → Nat) (Y : Nat → Bool) (len plen : Nat) (hX : ∀ i, i < len → X i 0 < 18446744073709551616 ∧ X i 1 < 18446744073709551616 ∧ X i 2 < 18446744073709551616) (places : Int) (sa sp : Option Addr) (cap cap2 bk o bp op : Nat) (hsa : 0 < len → sa = some ⟨bk, o, none⟩) (hsp : 0 < plen → sp = some ⟨bp, op, none⟩) (w : World)
    (hc : Given8 w X Y bk o len bp op plen) :
    Calls Try.prog 3 #[.int .i64 places, .slice sa len cap, .slice sp plen cap2] w fun e w' => e = .returned (.bool true) ∧ Below w.heap.size w w' := by
  obtain ⟨n, hn, hsh⟩ := shl_one places
  have HO : Hid (Rg.Ok 1 n) := by show Rg.Ok 1 n; unfold Rg.Ok; omega
  have HC := Lib.hid hc
  have HX := Lib.hid hX
  have HS := Lib.hid hsa
  have HP := Lib.hid hsp
  have j1 : IntKind.i64.wrap (1 + (1 + 4 * (n : Int))) = 1 + (1 + 4 * (n : Int)) := by rw [IntKind.wrap_i64]; omega
  have HJ : Hid (1 + (1 + 4 * (n : Int)) = ((2 + 4 * n : Nat) : Int)) := by show 1 + (1 + 4 * (n : Int)) = _; omega
  obtain ⟨i0, hinf, hz0, hz1, hz2⟩ := info_parts Try.infoWd8
  have heq := fun (w' : World) (a b c : Int) => words_top_same w' a b c
  clear hc hX hsa hsp
  go_enter Try.func3, Try.ntmps3
  go_wp2_with fail
  refine (rcells_in n (by omega) _).mono ?_
  rintro e w0 ⟨rfl, rfl⟩
  go_wp2_with fail
  rw [HJ.out]
  refine (new_yes (2 + 4 * n) _ (by omega) (by omega)).mono ?_
  rintro e w1 ⟨s, rfl, hA, hR⟩
  obtain ⟨hS1, hr1⟩ := Side.start hA hR
  have HS1 := Lib.hid hS1
  have HR1 := Lib.hid hr1
  have c0 : w1.cell? ⟨w.heap.size, 0, none⟩ = some (.int .i64 1) := cell_of_row _ _ _ _ _ _ hr1
  have c1 : w1.cell? ⟨w.heap.size, 1, none⟩ = some (.int .i64 n) := cell_of_row _ _ _ _ _ _ hr1
  clear hA hR hS1 hr1
  go_wp2_with fail
  obtain ⟨T, hA1, hN1⟩ := HS1.out.call
  refine (init_yes 1 n HO.out _ hA1 (by simp [Ar.new])).mono ?_
  rintro e w2 ⟨rfl, a0, hcs, hN⟩
  obtain ⟨hS2, hk2⟩ := hN1 _ _ hN
  have hr2 := (hk2 _ rfl).trans HR1.out
  have HW0 := Lib.hid (Ord.start hS2 hr2)
  have HCalm : Hid (Rg.Calm n a0.cs 0 0 (fun _ => (0, 0, 0))) := by show Rg.Calm n a0.cs 0 0 _; rw [hcs]; exact Rg.Calm.start hn _ (by simp [Ar.new]) _
  clear hcs hN hA1 hN1 hS2 hk2 hr2 HS1 HR1 c0 c1
  have hm0 : min plen 40 ≤ 40 := Nat.min_le_right _ _
  go_wp2_with fail
  go_loopg [10, 11, 12, 13] (min plen 40) (fun g s10 s11 s12 s13 wr => ∃ i q H gm om cm ln : Nat, i ≤ min plen 40 ∧ g = min plen 40 - i ∧ s10 = .slice (some ⟨gm, om, none⟩) ln cm ∧ s11 = .int .i64 q ∧ s12 = .int .u64 H ∧ s13 = .int .i64 i ∧ q ≤ i ∧ H ≤ i ∧ ln ≤ i ∧
    Hid (∃ a T W ws, Ord w wr s n a gm om cm ws (fun _ => False) ∧ Rg.Calm n a.cs H T W ∧ H ≤ T ∧ T ≤ i ∧ ws.length = ln ∧ Waits ws H T W))
  case atStart => exact ⟨0, 0, 0, w2.heap.size, 0, 0, 0, Nat.zero_le _, rfl, rfl, rfl, rfl, rfl, Nat.le_refl _, Nat.le_refl _, Nat.le_refl _, a0, 0, _, [], HW0.out, HCalm.out, Nat.le_refl _, Nat.le_refl _, rfl, rfl, fun j u hj => by simp at hj⟩
  case round =>
    clear HW0 HCalm
    obtain ⟨i, q, H, gm, om, cm, ln, hi, rfl, rfl, rfl, rfl, rfl, hqi, hHi, hli, hR⟩ := hrel
    obtain ⟨a, T, W, ws, hW, hca, hHT, hTi, hwl, hwa⟩ := hR.out
    have HWay := Lib.hid hW
    have HCa := Lib.hid hca
    have HWa := Lib.hid hwa
    clear hR hW hca hwa
    by_cases h1 : i < plen
    rotate_left
    · have h1i : ¬ (i : Int) < (plen : Int) := by omega
      go_wp2_with fail
      refine (awake8_any _).mono ?_
      rintro e v ⟨rfl, hv⟩
      have hbe := HWay.out.below.trans (hv.mono HWay.out.below.size)
      go_wp2
      go_ret
      exact ⟨rfl, hbe⟩
    by_cases h2 : i < 40
    rotate_left
    · have h1i : (i : Int) < (plen : Int) := by omega
      have h2i : ¬ (i : Int) < 40 := by omega
      go_wp2_with fail
      refine (awake8_any _).mono ?_
      rintro e v ⟨rfl, hv⟩
      have hbe := HWay.out.below.trans (hv.mono HWay.out.below.size)
      go_wp2
      go_ret
      exact ⟨rfl, hbe⟩
    have h1i : (i : Int) < (plen : Int) := by omega
    have h2i : (i : Int) < 40 := by omega
    have e := HP.out (by omega)
    subst e
    have y0 := HC.out.turn HWay.out.below h1
    go_upto_region 9 with fail
    go_cut [55] (fun s55 wx => ∃ b : Bool, s55 = .bool b ∧ (b = true → q < len) ∧ wr = wx)
    case first =>
      cases hy : Y i
      · rw [hy] at y0
        go_wp2_with fail
        go_meet
        case rel => exact ⟨false, rfl, fun e => (by cases e), rfl⟩
      · rw [hy] at y0
        by_cases h3 : q < len
        · have h3i : (q : Int) < (len : Int) := by omega
          go_wp2_with fail
          go_meet
          case rel => exact ⟨true, rfl, fun _ => h3, rfl⟩
        · have h3i : ¬ (q : Int) < (len : Int) := by omega
          go_wp2_with fail
          go_meet
          case rel => exact ⟨false, rfl, fun e => (by cases e), rfl⟩
    case rest =>
    obtain ⟨b, rfl, hb, rfl⟩ := hcut
    clear y0
    cases b
    rotate_left
    · have hq := hb rfl
      have e := HS.out (by omega)
      subst e
      have HX3 := Lib.hid (HX.out q hq)
      go_upto_region 10 with fail
      go_cut [14, 15] (fun s14 s15 wx => ∃ (gt kn t k j : Nat) (an : Ar), s14 = .pointer (some ⟨gt, 0, none⟩) ∧ s15 = .int .i64 kn ∧ Hid (wx.heap[gt]? = some (.cells #[.int .i64 1, .int .i64 n, .int .u64 (X q 0), .int .u64 (X q 1), .int .u64 (X q 2), .bool false, .int .u64 t, .int .i64 k, .int .i64 j] 36 (0, 0)) ∧ Ord w wx s n an gm om cm ws (fun _ => False) ∧ Rg.Sent8 n H T W (X q 0) (X q 1) (X q 2) k an.cs))
      case first =>
        have HW1 := Lib.hid (HWay.out.behind (Below.refl _ _).drew)
        clear HWay
        go_wp2_with fail
        refine wp_region_held_drew (S := fun w' => w'.cell? ⟨w.heap.size, 0, none⟩ = some (.int .i64 1) ∧ w'.cell? ⟨w.heap.size, 1, none⟩ = some (.int .i64 n) ∧ w'.cell? ⟨bk, o + q * 3, none⟩ = some (.int .u64 (X q 0 : Nat)) ∧ w'.cell? ⟨bk, o + q * 3 + 1, none⟩ = some (.int .u64 (X q 1 : Nat)) ∧ w'.cell? ⟨bk, o + q * 3 + 2, none⟩ = some (.int .u64 (X q 2 : Nat))) (by kernel_rfl) (HW1.out.five HC.out hq) (fun hHeld => ?_)
        generalize wr.drew = wd at HW1 hHeld ⊢
        refine wpAnyH_yield 0 (.pointer (some ⟨s.P, 0, none⟩)) rfl (by kernel_rfl) (by kernel_rfl) (by kernel_rfl) (fun d _ _ _ h => by cases d <;> exact h) (by rfl) (by assumption) (fun _ _ => by go_simp) ?_
        simp only [Act.put, List.setIfInBounds_toArray, List.set_cons_zero, List.set_cons_succ]
        refine wpAnyH_yield 1 (.agg #[.int .i64 1, .int .i64 n]) rfl (by kernel_rfl) (by kernel_rfl) (by kernel_rfl) (fun d _ _ _ h => by cases d <;> exact h) (by rfl) (by assumption) (fun _ hSw => by (try dsimp only at hSw); go_simp) ?_
        simp only [Act.put, List.setIfInBounds_toArray, List.set_cons_zero, List.set_cons_succ]
        refine wpAnyH_yield 2 (.slice (some ⟨bk, o, none⟩) len cap) rfl (by kernel_rfl) (by kernel_rfl) (by kernel_rfl) (fun d _ _ _ h => by cases d <;> exact h) (by rfl) (by assumption) (fun _ _ => by go_simp) ?_
        simp only [Act.put, List.setIfInBounds_toArray, List.set_cons_zero, List.set_cons_succ]
        refine wpAnyH_yield 3 (.int .i64 q) rfl (by kernel_rfl) (by kernel_rfl) (by kernel_rfl) (fun d _ _ _ h => by cases d <;> exact h) (by rfl) (by assumption) (fun _ _ => by go_simp) ?_
        simp only [Act.put, List.setIfInBounds_toArray, List.set_cons_zero, List.set_cons_succ]
        refine wpAnyH_yield 4 (.pointer (some ⟨bk, o + q * 3, none⟩)) rfl (by kernel_rfl) (by kernel_rfl) (by kernel_rfl) (fun d _ _ _ h => by cases d <;> exact h) (by rfl) (by assumption) (fun _ _ => by go_simp) ?_
        simp only [Act.put, List.setIfInBounds_toArray, List.set_cons_zero, List.set_cons_succ]
        refine wpAnyH_yield 5 (.agg #[.int .u64 (X q 0), .int .u64 (X q 1), .int .u64 (X q 2)]) rfl (by kernel_rfl) (by kernel_rfl) (by kernel_rfl) (fun d _ _ _ h => by cases d <;> exact h) (by rfl) (by assumption) (fun _ hSw => by (try dsimp only at hSw); go_simp) ?_
        simp only [Act.put, List.setIfInBounds_toArray, List.set_cons_zero, List.set_cons_succ]
        refine wpAnyH_ready (rs := [6, 11]) (by kernel_rfl) (by simp) (AllReadyH.cons rfl (fun K hK => ?_) (AllReadyH.cons rfl (fun K hK => ?_) AllReadyH.nil))
        · go_simp
          go_at_call 10
          refine (snew_any 1 n (X q 0) (X q 1) (X q 2) _).mono ?_
          rintro e w3 ⟨rfl, hb3⟩
          have HW3 := Lib.hid (HW1.out.behind hb3)
          clear hb3
          refine hK.out _ _ (HW3.out.five HC.out hq) (fun hHeld => ?_)
          clear hK K
          try simp only [Act.put, List.setIfInBounds_toArray, List.set_cons_zero, List.set_cons_succ]
          refine wpAnyH_ready (rs := [7, 11]) (by kernel_rfl) (by simp) (AllReadyH.cons rfl (fun K hK => ?_) (AllReadyH.cons rfl (fun K hK => ?_) AllReadyH.nil))
          · go_simp
            go_at_call 9
            obtain ⟨T2, hA3, hN3⟩ := HW3.out.call
            refine (run_ord HCa.out (by omega) (X q 0) (X q 1) (X q 2) HX3.out.1 HX3.out.2.1 HX3.out.2.2 _ hA3).mono ?_
            rintro e w4 ⟨kn, t, k, j, a4, rfl, hN4, hs4⟩
            obtain ⟨hW4, hk4⟩ := hN3 _ _ hN4
            have HW4 := Lib.hid hW4
            have HS4 := Lib.hid hs4
            clear hN3 hN4 hs4 hW4 hA3 hk4
            refine hK.out _ _ (HW4.out.five HC.out hq) (fun hHeld => ?_)
            clear hK K
            try simp only [Act.put, List.setIfInBounds_toArray, List.set_cons_zero, List.set_cons_succ]
            refine wpAnyH_yield 8 (.tuple #[.agg #[.int .i64 1, .int .i64 n, .int .u64 (X q 0), .int .u64 (X q 1), .int .u64 (X q 2), .bool false, .int .u64 t, .int .i64 k, .int .i64 j], .int .i64 kn]) rfl (by kernel_rfl) (by kernel_rfl) (by kernel_rfl) (fun d _ _ _ h => by cases d <;> exact h) (by rfl) (by assumption) (fun _ _ => by go_simp) ?_
            simp only [Act.put, List.setIfInBounds_toArray, List.set_cons_zero, List.set_cons_succ]
            refine wpAnyH_yield 9 (.agg #[.int .i64 1, .int .i64 n, .int .u64 (X q 0), .int .u64 (X q 1), .int .u64 (X q 2), .bool false, .int .u64 t, .int .i64 k, .int .i64 j]) rfl (by kernel_rfl) (by kernel_rfl) (by kernel_rfl) (fun d _ _ _ h => by cases d <;> exact h) (by rfl) (by assumption) (fun _ _ => by go_simp) ?_
            simp only [Act.put, List.setIfInBounds_toArray, List.set_cons_zero, List.set_cons_succ]
            refine wpAnyH_yield 10 (.int .i64 kn) rfl (by kernel_rfl) (by kernel_rfl) (by kernel_rfl) (fun d _ _ _ h => by cases d <;> exact h) (by rfl) (by assumption) (fun _ _ => by go_simp) ?_
            simp only [Act.put, List.setIfInBounds_toArray, List.set_cons_zero, List.set_cons_succ]
            refine wpAnyH_ready (rs := [11]) (by kernel_rfl) (by simp) (AllReadyH.cons rfl (fun K hK => ?_) AllReadyH.nil)
            go_simp
            refine hK.out _ _ ((HW4.out.behind (below_box _ _)).five HC.out hq) (fun hHeld => ?_)
            clear hK K
            try simp only [Act.put, List.setIfInBounds_toArray, List.set_cons_zero, List.set_cons_succ]
            refine wpAnyH_ready (rs := [12]) (by kernel_rfl) (by simp) (AllReadyH.cons rfl (fun K hK => ?_) AllReadyH.nil)
            go_simp
            refine hK.out _ _ ((HW4.out.behind (below_box _ _)).five HC.out hq) (fun hHeld => ?_)
            clear hK K
            try simp only [Act.put, List.setIfInBounds_toArray, List.set_cons_zero, List.set_cons_succ]
            refine wpAnyH_yield 13 (.int .i64 kn) rfl (by kernel_rfl) (by kernel_rfl) (by kernel_rfl) (fun d _ _ _ h => by cases d <;> exact h) (by rfl) (by assumption) (fun _ _ => by go_simp) ?_
            simp only [Act.put, List.setIfInBounds_toArray, List.set_cons_zero, List.set_cons_succ]
            refine wpAnyH_done (by kernel_rfl) ?_ _
            go_wp2_with fail
            go_meet
            case rel => exact ⟨w4.heap.size, kn, t, k, j, a4, rfl, rfl, heap_alloc_new _ _, HW4.out.behind (below_box _ _), HS4.out⟩
          · go_simp
            have HW3x := Lib.hid (HW3.out.extra (below_box w3 (.cells #[.int .i64 0, .int .i64 0, .int .u64 0, .int .u64 0, .int .u64 0, .bool false, .int .u64 0, .int .i64 0, .int .i64 0] 36)) (Nat.le_refl _) (by simp))
            have hz3 := heap_alloc_new w3 (.cells #[.int .i64 0, .int .i64 0, .int .u64 0, .int .u64 0, .int .u64 0, .bool false, .int .u64 0, .int .i64 0, .int .i64 0] 36)
            refine hK.out _ _ (HW3x.out.five HC.out hq) (fun hHeld => ?_)
            clear hK K
            try simp only [Act.put, List.setIfInBounds_toArray, List.set_cons_zero, List.set_cons_succ]
            refine wpAnyH_ready (rs := [7]) (by kernel_rfl) (by simp) (AllReadyH.cons rfl (fun K hK => ?_) AllReadyH.nil)
            go_simp
            go_at_call 9
            obtain ⟨T2, hA3, hN3⟩ := HW3x.out.call
            refine (run_ord HCa.out (by omega) (X q 0) (X q 1) (X q 2) HX3.out.1 HX3.out.2.1 HX3.out.2.2 _ hA3).mono ?_
            rintro e w4 ⟨kn, t, k, j, a4, rfl, hN4, hs4⟩
            obtain ⟨hW4, hk4⟩ := hN3 _ _ hN4
            have HW4 := Lib.hid hW4
            have HS4 := Lib.hid hs4
            have hz4 := (hk4 _ rfl).trans hz3
            obtain ⟨r0, r1, r2, r3, r4, r5, r6, r7, r8⟩ := nine_cells hz4
            obtain ⟨f0, f1, f2, f3, f4, f5, f6, f7, f8⟩ := nine_free hz4
            have HZ4 := Lib.hid hz4
            clear hz4 hz3
            clear hN3 hN4 hs4 hW4 hA3 hk4
            refine hK.out _ _ (HW4.out.five HC.out hq) (fun hHeld => ?_)
            clear hK K
            try simp only [Act.put, List.setIfInBounds_toArray, List.set_cons_zero, List.set_cons_succ]
            refine wpAnyH_yield 8 (.tuple #[.agg #[.int .i64 1, .int .i64 n, .int .u64 (X q 0), .int .u64 (X q 1), .int .u64 (X q 2), .bool false, .int .u64 t, .int .i64 k, .int .i64 j], .int .i64 kn]) rfl (by kernel_rfl) (by kernel_rfl) (by kernel_rfl) (fun d _ _ _ h => by cases d <;> exact h) (by rfl) (by assumption) (fun _ _ => by go_simp) ?_
            simp only [Act.put, List.setIfInBounds_toArray, List.set_cons_zero, List.set_cons_succ]
            refine wpAnyH_yield 9 (.agg #[.int .i64 1, .int .i64 n, .int .u64 (X q 0), .int .u64 (X q 1), .int .u64 (X q 2), .bool false, .int .u64 t, .int .i64 k, .int .i64 j]) rfl (by kernel_rfl) (by kernel_rfl) (by kernel_rfl) (fun d _ _ _ h => by cases d <;> exact h) (by rfl) (by assumption) (fun _ _ => by go_simp) ?_
            simp only [Act.put, List.setIfInBounds_toArray, List.set_cons_zero, List.set_cons_succ]
            refine wpAnyH_yield 10 (.int .i64 kn) rfl (by kernel_rfl) (by kernel_rfl) (by kernel_rfl) (fun d _ _ _ h => by cases d <;> exact h) (by rfl) (by assumption) (fun _ _ => by go_simp) ?_
            simp only [Act.put, List.setIfInBounds_toArray, List.set_cons_zero, List.set_cons_succ]
            refine wpAnyH_ready (rs := [12]) (by kernel_rfl) (by simp) (AllReadyH.cons rfl (fun K hK => ?_) AllReadyH.nil)
            go_simp
            have HW5 := Lib.hid (HW4.out.write (nine_rest (B := w3.heap.size) (c0 := .int .i64 1) (c1 := .int .i64 n) (c2 := .int .u64 (X q 0)) (c3 := .int .u64 (X q 1)) (c4 := .int .u64 (X q 2)) (c5 := .bool false) (c6 := .int .u64 t) (c7 := .int .i64 k) (c8 := .int .i64 j) rfl))
            refine hK.out _ _ (HW5.out.five HC.out hq) (fun hHeld => ?_)
            clear hK K
            try simp only [Act.put, List.setIfInBounds_toArray, List.set_cons_zero, List.set_cons_succ]
            refine wpAnyH_yield 13 (.int .i64 kn) rfl (by kernel_rfl) (by kernel_rfl) (by kernel_rfl) (fun d _ _ _ h => by cases d <;> exact h) (by rfl) (by assumption) (fun _ _ => by go_simp) ?_
            simp only [Act.put, List.setIfInBounds_toArray, List.set_cons_zero, List.set_cons_succ]
            refine wpAnyH_done (by kernel_rfl) ?_ _
            go_wp2_with fail
            go_meet
            case rel => exact ⟨w3.heap.size, kn, t, k, j, a4, rfl, rfl, nine_laid HZ4.out, HW5.out.less, HS4.out⟩
        · go_simp
          have HW1x := Lib.hid (HW1.out.extra (below_box wd (.cells #[.int .i64 0, .int .i64 0, .int .u64 0, .int .u64 0, .int .u64 0, .bool false, .int .u64 0, .int .i64 0, .int .i64 0] 36)) (Nat.le_refl _) (by simp))
          have hz1 := heap_alloc_new wd (.cells #[.int .i64 0, .int .i64 0, .int .u64 0, .int .u64 0, .int .u64 0, .bool false, .int .u64 0, .int .i64 0, .int .i64 0] 36)
          refine hK.out _ _ (HW1x.out.five HC.out hq) (fun hHeld => ?_)
          clear hK K
          try simp only [Act.put, List.setIfInBounds_toArray, List.set_cons_zero, List.set_cons_succ]
          refine wpAnyH_ready (rs := [6]) (by kernel_rfl) (by simp) (AllReadyH.cons rfl (fun K hK => ?_) AllReadyH.nil)
          go_simp
          go_at_call 10
          refine (snew_any 1 n (X q 0) (X q 1) (X q 2) _).mono ?_
          rintro e w3 ⟨rfl, hb3⟩
          have HW3 := Lib.hid (HW1x.out.behind hb3)
          have hz3 := block_held hz1 hb3
          clear hz1
          clear hb3
          refine hK.out _ _ (HW3.out.five HC.out hq) (fun hHeld => ?_)
          clear hK K
          try simp only [Act.put, List.setIfInBounds_toArray, List.set_cons_zero, List.set_cons_succ]
          refine wpAnyH_ready (rs := [7]) (by kernel_rfl) (by simp) (AllReadyH.cons rfl (fun K hK => ?_) AllReadyH.nil)
          go_simp
          go_at_call 9
          obtain ⟨T2, hA3, hN3⟩ := HW3.out.call
          refine (run_ord HCa.out (by omega) (X q 0) (X q 1) (X q 2) HX3.out.1 HX3.out.2.1 HX3.out.2.2 _ hA3).mono ?_
          rintro e w4 ⟨kn, t, k, j, a4, rfl, hN4, hs4⟩
          obtain ⟨hW4, hk4⟩ := hN3 _ _ hN4
          have HW4 := Lib.hid hW4
          have HS4 := Lib.hid hs4
          have hz4 := (hk4 _ rfl).trans hz3
          obtain ⟨r0, r1, r2, r3, r4, r5, r6, r7, r8⟩ := nine_cells hz4
          obtain ⟨f0, f1, f2, f3, f4, f5, f6, f7, f8⟩ := nine_free hz4
          have HZ4 := Lib.hid hz4
          clear hz4 hz3
          clear hN3 hN4 hs4 hW4 hA3 hk4
          refine hK.out _ _ (HW4.out.five HC.out hq) (fun hHeld => ?_)
          clear hK K
          try simp only [Act.put, List.setIfInBounds_toArray, List.set_cons_zero, List.set_cons_succ]
          refine wpAnyH_yield 8 (.tuple #[.agg #[.int .i64 1, .int .i64 n, .int .u64 (X q 0), .int .u64 (X q 1), .int .u64 (X q 2), .bool false, .int .u64 t, .int .i64 k, .int .i64 j], .int .i64 kn]) rfl (by kernel_rfl) (by kernel_rfl) (by kernel_rfl) (fun d _ _ _ h => by cases d <;> exact h) (by rfl) (by assumption) (fun _ _ => by go_simp) ?_
          simp only [Act.put, List.setIfInBounds_toArray, List.set_cons_zero, List.set_cons_succ]
          refine wpAnyH_yield 9 (.agg #[.int .i64 1, .int .i64 n, .int .u64 (X q 0), .int .u64 (X q 1), .int .u64 (X q 2), .bool false, .int .u64 t, .int .i64 k, .int .i64 j]) rfl (by kernel_rfl) (by kernel_rfl) (by kernel_rfl) (fun d _ _ _ h => by cases d <;> exact h) (by rfl) (by assumption) (fun _ _ => by go_simp) ?_
          simp only [Act.put, List.setIfInBounds_toArray, List.set_cons_zero, List.set_cons_succ]
          refine wpAnyH_yield 10 (.int .i64 kn) rfl (by kernel_rfl) (by kernel_rfl) (by kernel_rfl) (fun d _ _ _ h => by cases d <;> exact h) (by rfl) (by assumption) (fun _ _ => by go_simp) ?_
          simp only [Act.put, List.setIfInBounds_toArray, List.set_cons_zero, List.set_cons_succ]
          refine wpAnyH_ready (rs := [12]) (by kernel_rfl) (by simp) (AllReadyH.cons rfl (fun K hK => ?_) AllReadyH.nil)
          go_simp
          have HW5 := Lib.hid (HW4.out.write (nine_rest (B := wd.heap.size) (c0 := .int .i64 1) (c1 := .int .i64 n) (c2 := .int .u64 (X q 0)) (c3 := .int .u64 (X q 1)) (c4 := .int .u64 (X q 2)) (c5 := .bool false) (c6 := .int .u64 t) (c7 := .int .i64 k) (c8 := .int .i64 j) rfl))
          refine hK.out _ _ (HW5.out.five HC.out hq) (fun hHeld => ?_)
          clear hK K
          try simp only [Act.put, List.setIfInBounds_toArray, List.set_cons_zero, List.set_cons_succ]
          refine wpAnyH_yield 13 (.int .i64 kn) rfl (by kernel_rfl) (by kernel_rfl) (by kernel_rfl) (fun d _ _ _ h => by cases d <;> exact h) (by rfl) (by assumption) (fun _ _ => by go_simp) ?_
          simp only [Act.put, List.setIfInBounds_toArray, List.set_cons_zero, List.set_cons_succ]
          refine wpAnyH_done (by kernel_rfl) ?_ _
          go_wp2_with fail
          go_meet
          case rel => exact ⟨wd.heap.size, kn, t, k, j, a4, rfl, rfl, nine_laid HZ4.out, HW5.out.less, HS4.out⟩
      case rest =>
      obtain ⟨gt, kn, t, k, j, an, rfl, rfl, hcut2⟩ := hcut
      have HW3 := Lib.hid hcut2.out.2.1
      have hs3 := hcut2.out.2.2
      have h93 := hcut2.out.1
      obtain ⟨c0, c1, c2, c3, c4, c5, c6, c7, c8⟩ := nine_cells h93
      clear hcut2 HWay HCa h93
      have hqw : IntKind.i64.wrap ((q : Int) + 1) = (q : Int) + 1 := by rw [IntKind.wrap_i64]; omega
      rcases hs3 with ⟨rfl, hroom, hca⟩ | ⟨rfl, hroom, hca⟩
      · have HC4 := Lib.hid hca
        have hll : (ln : Int) < (n : Int) := by have := HWa.out.1; omega
        clear hca
        go_wp2_with fail
        refine (sdone_five 1 n (X q 0) (X q 1) (X q 2) t j false _).mono ?_
        rintro e w5 ⟨rfl, hb5⟩
        have HW5 := Lib.hid (HW3.out.behind hb5)
        clear hb5 HW3 c0 c1 c2 c3 c4 c5 c6 c7 c8
        obtain ⟨x0, x1, x2⟩ := HC.out.word HW5.out.below hq
        subst hwl
        go_wp2_with (at_builtin; refine wpList_append_rowK _ rfl _ _ 22 rfl (w.heap.size + 1) 3 34 i0 (.agg #[.int .u64 0, .int .u64 0, .int .u64 0]) 24 Try.underlying22 hinf hz0 hz1 hz2 rfl (by decide) gm om ws.length cm (flat3 ws) rfl (HW5.out.behind (below_box _ _)).row ⟨w5.heap.size, 0, none⟩ 1 1 [.int .u64 (X q 0), .int .u64 (X q 1), .int .u64 (X q 2)] rfl rfl (by decide) (item_three w5 _ _ _ _) ?c1 ?c2 ?c3 ?c4 ?_)
        case c1 => intro u hu; simp at hu; rcases hu with rfl | rfl | rfl <;> rfl
        case c2 => unfold maxLen; omega
        case c3 => omega
        case c4 => have := HW5.out.side.old _ (.inl rfl); simp; omega
        intro g6 o6 cm6 w6 hrow6 hgr6 hw6
        have HW6 := Lib.hid ((HW5.out.behind (below_box w5 (.cells #[.int .u64 (X q 0), .int .u64 (X q 1), .int .u64 (X q 2)] 34))).push (q := (X q 0, X q 1, X q 2)) hgr6 hrow6 (by simpa using hw6))
        clear hrow6 hgr6 hw6 HW5 x0 x1 x2
        go_wp2_with fail
        go_roundg (min plen 40 - (i + 1))
        case measure => go_light; omega
        case rel => exact ⟨i + 1, q + 1, H, g6, o6, cm6, ws.length + 1, by omega, rfl, rfl, by go_num, rfl, by go_num, by omega, by omega, by omega, an, T + 1, _, ws ++ [(X q 0, X q 1, X q 2)], HW6.out, HC4.out, by omega, by omega, by simp, HWa.out.put hHT _⟩
      · have HC4 := Lib.hid hca
        have hll : ¬ (ln : Int) < (n : Int) := by have := HWa.out.1; omega
        clear hca
        go_wp2_with fail
        refine (sdone_six 1 n (X q 0) (X q 1) (X q 2) t j false _).mono ?_
        rintro e w5 ⟨rfl, hb5⟩
        have HW5 := Lib.hid (HW3.out.behind hb5)
        clear hb5 HW3 c0 c1 c2 c3 c4 c5 c6 c7 c8
        go_wp2_with fail
        go_roundg (min plen 40 - (i + 1))
        case measure => go_light; omega
        case rel => exact ⟨i + 1, q + 1, H, gm, om, cm, ln, by omega, rfl, rfl, by go_num, rfl, by go_num, by omega, by omega, by omega, an, T, W, ws, HW5.out, HC4.out, by omega, by omega, hwl, HWa.out⟩
    · clear hb
      obtain ⟨c0, c1⟩ := HWay.out.cells
      go_wp2_with fail
      refine (ftnew_any 1 n H _).mono ?_
      rintro e w3 ⟨rfl, hb3⟩
      have HW3 := Lib.hid (HWay.out.behind hb3)
      clear hb3 HWay c0 c1
      by_cases hlt : H < T
      · obtain ⟨T2, hA3, hN3⟩ := HW3.out.call
        go_wp2_with fail
        refine (frun_first HCa.out hlt (by omega) _ hA3).mono ?_
        rintro e w4 ⟨rfl, a4, hN4, hca4⟩
        have HW4 := Lib.hid (hN3 _ _ hN4).1
        have HC4 := Lib.hid hca4
        clear hA3 hN3 hN4 hca4 HW3 HCa
        cases ws with
        | nil => exfalso; have := HWa.out.1; simp only [List.length_nil] at this; omega
        | cons v r =>
        simp only [List.length_cons] at hwl
        subst hwl
        obtain ⟨hv, -, hwa4⟩ := HWa.out.cut
        rw [hv]
        obtain ⟨vx, vy, vz⟩ := v
        have HWa4 := Lib.hid hwa4
        have hpos : (0 : Int) < (r.length : Int) + 1 := by omega
        have hpos2 : (0 : Int) < ((r.length + 1 : Nat) : Int) := by omega
        have hwr : IntKind.u64.wrap ((H : Int) + 1) = ((H + 1 : Nat) : Int) := by rw [IntKind.wrap_u64]; omega
        clear hv hwa4 HWa
        dsimp only
        go_wp2_with fail
        refine (ftdone_got 1 n H 3 vx vy vz _).mono ?_
        rintro e w5 ⟨rfl, hb5⟩
        have hu5 := block_held (heap_alloc_new w4 _) hb5
        have HW5 := Lib.hid ((HW4.out.behind (below_box w4 (.cells #[.int .i64 1, .int .i64 n, .int .u64 H, .int .i64 3, .int .i64 3, .int .u64 vx, .int .u64 vy, .int .u64 vz] 43))).behind hb5)
        obtain ⟨d0, d1, d2, d3, d4, d5, d6, d7⟩ := eight_cells hu5
        have HU5 := Lib.hid hu5
        clear hb5 HW4 hu5
        go_wp2_with fail
        refine (ftbegun_got 1 n H 3 vx vy vz _).mono ?_
        rintro e w6 ⟨rfl, hb6⟩
        have HW6 := Lib.hid ((HW5.out.behind hb6).behind (Below.refl _ _).drew)
        have HU6 := Lib.hid (block_held (block_held HU5.out hb6) ((Below.refl _ _).drew))
        clear hb6 HW5 HU5 d0 d1 d2 d3 d4 d5 d6 d7
        go_wp2_with fail
        refine wp_region_held_drew (S := fun w' => w'.cell? ⟨w4.heap.size, 0, none⟩ = some (.int .i64 1) ∧ w'.cell? ⟨w4.heap.size, 1, none⟩ = some (.int .i64 n) ∧ w'.cell? ⟨w4.heap.size, 2, none⟩ = some (.int .u64 H) ∧ w'.cell? ⟨w4.heap.size, 3, none⟩ = some (.int .i64 3) ∧ w'.cell? ⟨w4.heap.size, 4, none⟩ = some (.int .i64 3) ∧ w'.cell? ⟨w4.heap.size, 5, none⟩ = some (.int .u64 vx) ∧ w'.cell? ⟨w4.heap.size, 6, none⟩ = some (.int .u64 vy) ∧ w'.cell? ⟨w4.heap.size, 7, none⟩ = some (.int .u64 vz) ∧ w'.cell? ⟨gm, om, none⟩ = some (.int .u64 vx) ∧ w'.cell? ⟨gm, om + 1, none⟩ = some (.int .u64 vy) ∧ w'.cell? ⟨gm, om + 2, none⟩ = some (.int .u64 vz)) (by kernel_rfl) (eleven8 HU6.out HW6.out.head) (fun hHeld => ?_)
        generalize w6.drew = wd at HW6 HU6 hHeld ⊢
        refine wpAnyH_yield 0 (.agg #[.int .i64 1, .int .i64 n, .int .u64 H, .int .i64 3, .int .i64 3, .int .u64 vx, .int .u64 vy, .int .u64 vz]) rfl (by kernel_rfl) (by kernel_rfl) (by kernel_rfl) (fun d _ _ _ h => by cases d <;> exact h) (by rfl) (by assumption) (fun _ hSw => by (try dsimp only at hSw); go_simp) ?_
        simp only [Act.put, List.setIfInBounds_toArray, List.set_cons_zero, List.set_cons_succ]
        refine wpAnyH_yield 2 (.slice (some ⟨gm, om, none⟩) (r.length + 1) cm) rfl (by kernel_rfl) (by kernel_rfl) (by kernel_rfl) (fun d _ _ _ h => by cases d <;> exact h) (by rfl) (by assumption) (fun _ _ => by go_simp) ?_
        simp only [Act.put, List.setIfInBounds_toArray, List.set_cons_zero, List.set_cons_succ]
        refine wpAnyH_yield 3 (.pointer (some ⟨gm, om, none⟩)) rfl (by kernel_rfl) (by kernel_rfl) (by kernel_rfl) (fun d _ _ _ h => by cases d <;> exact h) (by rfl) (by assumption) (fun _ _ => by go_simp) ?_
        simp only [Act.put, List.setIfInBounds_toArray, List.set_cons_zero, List.set_cons_succ]
        refine wpAnyH_yield 4 (.agg #[.int .u64 vx, .int .u64 vy, .int .u64 vz]) rfl (by kernel_rfl) (by kernel_rfl) (by kernel_rfl) (fun d _ _ _ h => by cases d <;> exact h) (by rfl) (by assumption) (fun _ hSw => by (try dsimp only at hSw); go_simp) ?_
        simp only [Act.put, List.setIfInBounds_toArray, List.set_cons_zero, List.set_cons_succ]
        refine wpAnyH_ready (rs := [1]) (by kernel_rfl) (by simp) (AllReadyH.cons rfl (fun K hK => ?_) AllReadyH.nil)
        go_simp
        go_at_call 16
        refine (ftwords_yes 1 n H 3 vx vy vz _).mono ?_
        rintro e w7 ⟨rfl, hb7⟩
        have HW7 := Lib.hid (HW6.out.behind hb7)
        have HU7 := Lib.hid (block_held HU6.out hb7)
        clear hb7 HW6 HU6
        refine hK.out _ _ (eleven8 HU7.out HW7.out.head) (fun hHeld => ?_)
        clear hK K
        try simp only [Act.put, List.setIfInBounds_toArray, List.set_cons_zero, List.set_cons_succ]
        refine wpAnyH_yield 5 (.bool false) rfl (by kernel_rfl) (by kernel_rfl) (by kernel_rfl) (fun d _ _ _ h => by cases d <;> exact h) (by rfl) (by assumption) (fun _ _ => by go_simp) ?_
        simp only [Act.put, List.setIfInBounds_toArray, List.set_cons_zero, List.set_cons_succ]
        refine wpAnyH_done (by kernel_rfl) ?_ _
        obtain ⟨off2, esl, hW8⟩ := HW7.out.cut
        have HW8 := Lib.hid hW8
        have hsl := words_cut gm om (r.length + 1) cm (by omega)
        rw [esl] at hsl
        obtain ⟨c0, c1⟩ := HW8.out.cells
        clear hW8 esl HW7 HU7
        go_wp2_with fail
        obtain ⟨T3, hA8, -⟩ := HW8.out.call
        obtain ⟨hh1, hh2⟩ := Rg.Inv.held HC4.out
        have hTr := HWa4.out.1
        rw [← hTr] at hh1 hh2
        refine (held_in 1 n (H + 1) r.length HO.out (by omega) (by omega) _ hA8 (by have := HC4.out.len; omega) hh1 hh2).mono ?_
        rintro e w9 ⟨rfl, hb9⟩
        have HW9 := Lib.hid (HW8.out.behind hb9)
        clear hb9 hA8 hh1 hh2 hTr HW8 c0 c1
        go_wp2_with fail
        go_roundg (min plen 40 - (i + 1))
        case measure => go_light; omega
        case rel => exact ⟨i + 1, q, H + 1, gm, off2, cm - 1, r.length, by omega, rfl, rfl, rfl, by go_num, by go_num, by omega, by omega, by omega, a4, T, W, r, HW9.out, HC4.out, by omega, by omega, rfl, HWa4.out⟩
      · obtain rfl : T = H := by omega
        obtain rfl : ws = [] := List.eq_nil_of_length_eq_zero (by have := HWa.out.1; omega)
        simp only [List.length_nil] at hwl
        subst hwl
        obtain ⟨T2, hA3, hN3⟩ := HW3.out.call
        go_wp2_with fail
        refine (frun_empty HCa.out (by omega) _ hA3).mono ?_
        rintro e w4 ⟨rfl, a4, hN4, hca4⟩
        have HW4 := Lib.hid (hN3 _ _ hN4).1
        have HC4 := Lib.hid hca4
        clear hA3 hN3 hN4 hca4 HW3 HCa
        go_wp2_with fail
        refine (ftdone_none 1 n T 0 0 0 0 _).mono ?_
        rintro e w5 ⟨rfl, hb5⟩
        have hu5 := block_held (heap_alloc_new w4 _) hb5
        have HW5 := Lib.hid ((HW4.out.behind (below_box w4 (.cells #[.int .i64 1, .int .i64 n, .int .u64 T, .int .i64 4, .int .i64 0, .int .u64 0, .int .u64 0, .int .u64 0] 43))).behind hb5)
        obtain ⟨d0, d1, d2, d3, d4, d5, d6, d7⟩ := eight_cells hu5
        have HU5 := Lib.hid hu5
        clear hb5 HW4 hu5
        go_wp2_with fail
        refine (ftbegun_none 1 n T 0 0 0 0 _).mono ?_
        rintro e w6 ⟨rfl, hb6⟩
        have HW6 := Lib.hid (HW5.out.behind hb6)
        have hu6 := block_held HU5.out hb6
        clear hb6 HW5 HU5 d0 d1 d2 d3 d4 d5 d6 d7
        obtain ⟨d0, d1, d2, d3, d4, d5, d6, d7⟩ := eight_cells hu6
        clear hu6
        go_wp2_with fail
        refine (ftwords_none 1 n T 0 0 0 0 _).mono ?_
        rintro e w7 ⟨rfl, hb7⟩
        have HW7 := Lib.hid (HW6.out.behind hb7)
        clear hb7 HW6 d0 d1 d2 d3 d4 d5 d6 d7
        go_wp2_with fail
        go_roundg (min plen 40 - (i + 1))
        case measure => go_light; omega
        case rel => exact ⟨i + 1, q, T, gm, om, cm, 0, by omega, rfl, rfl, rfl, rfl, by go_num, by omega, by omega, by omega, a4, T, W, [], HW7.out, HC4.out, by omega, by omega, rfl, HWa.out⟩

end Go.Proofs.Ytieehpajkidbcaa
