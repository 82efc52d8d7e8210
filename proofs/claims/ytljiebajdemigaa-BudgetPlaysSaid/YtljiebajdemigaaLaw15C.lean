/- BudgetPlays: what goes well gives, what is tried again takes. -/
import Derived.Test.YtljiebajdemigaaLaw15B
namespace Go.Proofs.Ytljiebajdemigaa
open Go.RowKit

/-- cut: the nearest number. -/
theorem cut15_any (n : Int) (w : World) :
    Calls Try.prog 6 #[.int .i64 n] w fun e w' => e = .returned (.int .i64 (Bd.near n 1048576)) ∧ w = w' := by
  rcases Bd.near_ways n 1048576 (by decide) with ⟨h1, h2, hc⟩ | ⟨h1, h2, hc⟩ | ⟨h1, h2, hc⟩
  all_goals
    have HC := Lib.hid hc
    clear hc
    go_enter Try.func6, Try.ntmps6
    go_wp2
    all_goals (go_ret; exact ⟨ret_i64 (by have := HC.out; omega), rfl⟩)

/-- Three cells of another block are as they were. -/
theorem other3 {w : World} {R X k : Nat} {a b c v : Value} (h : R ≠ X) (hc : w.cell? ⟨R, 1, none⟩ = some a ∧ w.cell? ⟨R, 2, none⟩ = some b ∧ w.cell? ⟨R, 3, none⟩ = some c) :
    (w.setCell ⟨X, k, none⟩ v).cell? ⟨R, 1, none⟩ = some a ∧ (w.setCell ⟨X, k, none⟩ v).cell? ⟨R, 2, none⟩ = some b ∧ (w.setCell ⟨X, k, none⟩ v).cell? ⟨R, 3, none⟩ = some c := by
  have hb : (w.setCell ⟨X, k, none⟩ v).heap[R]? = w.heap[R]? := heap_setCell_other _ _ _ _ h
  exact ⟨(World.cell?_of_block hb).trans hc.1, (World.cell?_of_block hb).trans hc.2.1, (World.cell?_of_block hb).trans hc.2.2⟩
/-- The second to the fourth cell of one's first block are written. -/
theorem three_set {w wx : World} {l : List (Nat × Obj)} {b : Nat} {t : TypeId} {d0 d1 d2 d3 d4 d5 : Value} (h : Held w wx ((b, .cells #[d0, d1, d2, d3, d4, d5] t (0, 0)) :: l)) (x y z : Int) :
    Held w (((wx.setCell ⟨b, 1, none⟩ (.int .i64 x)).setCell ⟨b, 2, none⟩ (.int .i64 y)).setCell ⟨b, 3, none⟩ (.int .i64 z)) ((b, .cells #[d0, .int .i64 x, .int .i64 y, .int .i64 z, d4, d5] t (0, 0)) :: l) := by
  have h0 := h.get 0 rfl
  have hb := h.old 0 rfl
  have e0 : (wx.setCell ⟨b, 1, none⟩ (.int .i64 x)).heap[b]? = some (.cells #[d0, .int .i64 x, d2, d3, d4, d5] t (0, 0)) := heap_setCell_same _ _ 1 _ _ _ h0
  have e1 : ((wx.setCell ⟨b, 1, none⟩ (.int .i64 x)).setCell ⟨b, 2, none⟩ (.int .i64 y)).heap[b]? = some (.cells #[d0, .int .i64 x, .int .i64 y, d3, d4, d5] t (0, 0)) := heap_setCell_same _ _ 2 _ _ _ e0
  exact h.put (((h.below.setCell hb _).setCell hb _).setCell hb _) (heap_setCell_same _ _ 3 _ _ _ e1) (fun k hk => (heap_setCell_other _ _ _ _ hk).trans ((heap_setCell_other _ _ _ _ hk).trans (heap_setCell_other _ _ _ _ hk)))

set_option maxHeartbeats 4000000 in
set_option maxRecDepth 100000 in
theorem bplays_any (m g c r t b : Int) (sm : Bool) (sp : Option Addr) (len cap bk o : Nat) (Y : Nat → Bool) (w : World) (hsp : 0 < len → sp = some ⟨bk, o, none⟩) (hc : ∀ i, i < len → w.cell? ⟨bk, o + i, none⟩ = some (.bool (Y i))) :
    Calls Try.prog 3 #[.agg #[.int .i64 m, .int .i64 g, .int .i64 c, .int .i64 r, .int .i64 t, .int .i64 b], .slice sp len cap, .bool sm] w fun e w' => e = .returned (.bool true) ∧ Below w.heap.size w w' := by
  have h0 := (Held.start w).lay (.cells #[.int .i64 m, .int .i64 g, .int .i64 c, .int .i64 r, .int .i64 t, .int .i64 b] 24)
  have h1 := h0.lay (.cells #[.int .i64 m, .int .i64 g, .int .i64 c, .int .i64 r, .int .i64 t, .int .i64 b] 24)
  have hz : (w.alloc (.cells #[.int .i64 m, .int .i64 g, .int .i64 c, .int .i64 r, .int .i64 t, .int .i64 b] 24)).heap.size = w.heap.size + 1 := by simp
  rw [hz] at h1
  have H1 := Lib.hid h1
  clear h0 h1 hz
  go_enter Try.func3, Try.ntmps3
  go_upto_if 13 with fail
  generalize (w.alloc (.cells #[.int .i64 m, .int .i64 g, .int .i64 c, .int .i64 r, .int .i64 t, .int .i64 b] 24)).alloc (.cells #[.int .i64 m, .int .i64 g, .int .i64 c, .int .i64 r, .int .i64 t, .int .i64 b] 24) = w1 at H1 ⊢
  go_cut [] (fun wx => ∃ g1 c1 r1 : Int, Hid (Held w wx [(w.heap.size + 1, .cells #[.int .i64 m, .int .i64 g1, .int .i64 c1, .int .i64 r1, .int .i64 t, .int .i64 b] 24 (0, 0)), (w.heap.size, .cells #[.int .i64 m, .int .i64 g, .int .i64 c, .int .i64 r, .int .i64 t, .int .i64 b] 24 (0, 0))]))
  case first =>
    obtain ⟨x0, x1, x2, x3, x4, x5⟩ := retries_cells (H1.out.get 1 rfl)
    cases sm
    · clear x0 x1 x2 x3 x4 x5
      go_wp2_with fail
      go_meet
      case rel => exact ⟨g, c, r, H1⟩
    · obtain ⟨-, y1, y2, y3, -, -⟩ := retries_cells (H1.out.get 0 rfl)
      have f1 : w1.frozen? ⟨w.heap.size + 1, 1, none⟩ = false := frozen_of_row _ _ _ _ _ (H1.out.get 0 rfl)
      have f2 : w1.frozen? ⟨w.heap.size + 1, 2, none⟩ = false := frozen_of_row _ _ _ _ _ (H1.out.get 0 rfl)
      have f3 : w1.frozen? ⟨w.heap.size + 1, 3, none⟩ = false := frozen_of_row _ _ _ _ _ (H1.out.get 0 rfl)
      have ho : w.heap.size ≠ w.heap.size + 1 := by omega
      have H2 := Lib.hid (three_set H1.out.drew (bits .and .i64 g 3) (bits .and .i64 c 7) (bits .and .i64 r 15))
      go_wp2_with fail
      refine wp_region_held_drew (S := (fun w' => w'.cell? ⟨w.heap.size, 1, none⟩ = some (.int .i64 g) ∧ w'.cell? ⟨w.heap.size, 2, none⟩ = some (.int .i64 c) ∧ w'.cell? ⟨w.heap.size, 3, none⟩ = some (.int .i64 r))) (by kernel_rfl) ⟨x1, x2, x3⟩ (fun hHeld => ?_)
      clear H1 x0 x1 x2 x3 x4 x5
      have y1 : w1.drew.cell? _ = _ := y1
      have y2 : w1.drew.cell? _ = _ := y2
      have y3 : w1.drew.cell? _ = _ := y3
      have f1 : w1.drew.frozen? _ = _ := f1
      have f2 : w1.drew.frozen? _ = _ := f2
      have f3 : w1.drew.frozen? _ = _ := f3
      generalize w1.drew = w2 at H2 y1 y2 y3 f1 f2 f3 hHeld ⊢
      refine wpAnyH_yield 0 (.pointer (some ⟨w.heap.size, 1, none⟩)) rfl (by kernel_rfl) (by kernel_rfl) (by kernel_rfl) (fun d _ _ _ h => by cases d <;> exact h) (by rfl) (by assumption) (fun _ _ => by go_simp) ?_
      simp only [Act.put, List.setIfInBounds_toArray, List.set_cons_zero, List.set_cons_succ]
      refine wpAnyH_yield 1 (.int .i64 g) rfl (by kernel_rfl) (by kernel_rfl) (by kernel_rfl) (fun d _ _ _ h => by cases d <;> exact h) (by rfl) (by assumption) (fun _ hSw => by (try dsimp only at hSw); go_simp) ?_
      simp only [Act.put, List.setIfInBounds_toArray, List.set_cons_zero, List.set_cons_succ]
      refine wpAnyH_yield 2 (.int .i64 (bits .and .i64 g 3)) rfl (by kernel_rfl) (by kernel_rfl) (by kernel_rfl) (fun d _ _ _ h => by cases d <;> exact h) (by rfl) (by assumption) (fun _ _ => by go_simp) ?_
      simp only [Act.put, List.setIfInBounds_toArray, List.set_cons_zero, List.set_cons_succ]
      refine wpAnyH_yield 3 (.pointer (some ⟨w.heap.size, 2, none⟩)) rfl (by kernel_rfl) (by kernel_rfl) (by kernel_rfl) (fun d _ _ _ h => by cases d <;> exact h) (by rfl) (by assumption) (fun _ _ => by go_simp) ?_
      simp only [Act.put, List.setIfInBounds_toArray, List.set_cons_zero, List.set_cons_succ]
      refine wpAnyH_yield 4 (.int .i64 c) rfl (by kernel_rfl) (by kernel_rfl) (by kernel_rfl) (fun d _ _ _ h => by cases d <;> exact h) (by rfl) (by assumption) (fun _ hSw => by (try dsimp only at hSw); go_simp) ?_
      simp only [Act.put, List.setIfInBounds_toArray, List.set_cons_zero, List.set_cons_succ]
      refine wpAnyH_yield 5 (.int .i64 (bits .and .i64 c 7)) rfl (by kernel_rfl) (by kernel_rfl) (by kernel_rfl) (fun d _ _ _ h => by cases d <;> exact h) (by rfl) (by assumption) (fun _ _ => by go_simp) ?_
      simp only [Act.put, List.setIfInBounds_toArray, List.set_cons_zero, List.set_cons_succ]
      refine wpAnyH_yield 6 (.pointer (some ⟨w.heap.size, 3, none⟩)) rfl (by kernel_rfl) (by kernel_rfl) (by kernel_rfl) (fun d _ _ _ h => by cases d <;> exact h) (by rfl) (by assumption) (fun _ _ => by go_simp) ?_
      simp only [Act.put, List.setIfInBounds_toArray, List.set_cons_zero, List.set_cons_succ]
      refine wpAnyH_yield 7 (.int .i64 r) rfl (by kernel_rfl) (by kernel_rfl) (by kernel_rfl) (fun d _ _ _ h => by cases d <;> exact h) (by rfl) (by assumption) (fun _ hSw => by (try dsimp only at hSw); go_simp) ?_
      simp only [Act.put, List.setIfInBounds_toArray, List.set_cons_zero, List.set_cons_succ]
      refine wpAnyH_yield 8 (.int .i64 (bits .and .i64 r 15)) rfl (by kernel_rfl) (by kernel_rfl) (by kernel_rfl) (fun d _ _ _ h => by cases d <;> exact h) (by rfl) (by assumption) (fun _ _ => by go_simp) ?_
      simp only [Act.put, List.setIfInBounds_toArray, List.set_cons_zero, List.set_cons_succ]
      refine wpAnyH_yield 9 (.pointer (some ⟨w.heap.size + 1, 1, none⟩)) rfl (by kernel_rfl) (by kernel_rfl) (by kernel_rfl) (fun d _ _ _ h => by cases d <;> exact h) (by rfl) (by assumption) (fun _ _ => by go_simp) ?_
      simp only [Act.put, List.setIfInBounds_toArray, List.set_cons_zero, List.set_cons_succ]
      refine wpAnyH_ready (rs := [10]) (by kernel_rfl) (by simp) (AllReadyH.cons rfl (fun K hK => ?_) AllReadyH.nil)
      go_simp
      refine hK.out _ _ ((other3 ho hHeld)) (fun hHeld => ?_)
      clear hK K
      try simp only [Act.put, List.setIfInBounds_toArray, List.set_cons_zero, List.set_cons_succ]
      refine wpAnyH_yield 11 (.pointer (some ⟨w.heap.size + 1, 2, none⟩)) rfl (by kernel_rfl) (by kernel_rfl) (by kernel_rfl) (fun d _ _ _ h => by cases d <;> exact h) (by rfl) (by assumption) (fun _ _ => by go_simp) ?_
      simp only [Act.put, List.setIfInBounds_toArray, List.set_cons_zero, List.set_cons_succ]
      refine wpAnyH_ready (rs := [12]) (by kernel_rfl) (by simp) (AllReadyH.cons rfl (fun K hK => ?_) AllReadyH.nil)
      go_simp
      refine hK.out _ _ ((other3 ho hHeld)) (fun hHeld => ?_)
      clear hK K
      try simp only [Act.put, List.setIfInBounds_toArray, List.set_cons_zero, List.set_cons_succ]
      refine wpAnyH_yield 13 (.pointer (some ⟨w.heap.size + 1, 3, none⟩)) rfl (by kernel_rfl) (by kernel_rfl) (by kernel_rfl) (fun d _ _ _ h => by cases d <;> exact h) (by rfl) (by assumption) (fun _ _ => by go_simp) ?_
      simp only [Act.put, List.setIfInBounds_toArray, List.set_cons_zero, List.set_cons_succ]
      refine wpAnyH_ready (rs := [14]) (by kernel_rfl) (by simp) (AllReadyH.cons rfl (fun K hK => ?_) AllReadyH.nil)
      go_simp
      refine hK.out _ _ ((other3 ho hHeld)) (fun hHeld => ?_)
      clear hK K
      try simp only [Act.put, List.setIfInBounds_toArray, List.set_cons_zero, List.set_cons_succ]
      refine wpAnyH_done (by kernel_rfl) ?_ _
      go_wp2_with fail
      go_meet
      case rel => exact ⟨_, _, _, H2⟩
  case rest =>
    obtain ⟨g1, c1, r1, HI⟩ := hcut
    clear H1
    have hnew := fun w => bnew_any m g1 c1 r1 t b w
    have hcg := fun w => cut15_any g1 w
    have hcc := fun w => cut15_any c1 w
    have hcr := fun w => cut15_any r1 w
    have hG := And.intro (Bd.near_lo g1 1048576 (by decide)) (Bd.near_hi g1 1048576 (by decide))
    have hC := And.intro (Bd.near_lo c1 1048576 (by decide)) (Bd.near_hi c1 1048576 (by decide))
    have hN := And.intro (Bd.near_lo r1 1048576 (by decide)) (Bd.near_hi r1 1048576 (by decide))
    generalize Bd.near m 14 = M at hnew
    generalize Bd.near g1 1048576 = G at hnew hcg hG
    generalize Bd.near c1 1048576 = C at hnew hcc hC
    generalize Bd.near r1 1048576 = N at hnew hcr hN
    obtain ⟨G0, G1⟩ := hG
    obtain ⟨C0, C1⟩ := hC
    obtain ⟨N0, N1⟩ := hN
    go_wp2_with fail
    refine wp_region_held_drew (S := (fun w' => w'.cell? ⟨w.heap.size + 1, 0, none⟩ = some (.int .i64 m) ∧ w'.cell? ⟨w.heap.size + 1, 1, none⟩ = some (.int .i64 g1) ∧ w'.cell? ⟨w.heap.size + 1, 2, none⟩ = some (.int .i64 c1) ∧ w'.cell? ⟨w.heap.size + 1, 3, none⟩ = some (.int .i64 r1) ∧ w'.cell? ⟨w.heap.size + 1, 4, none⟩ = some (.int .i64 t) ∧ w'.cell? ⟨w.heap.size + 1, 5, none⟩ = some (.int .i64 b))) (by kernel_rfl) (retries_cells (HI.out.get 0 rfl)) (fun hHeld => ?_)
    have H2 := Lib.hid HI.out.drew
    generalize wc.drew = w2 at H2 hHeld ⊢
    clear HI
    refine wpAnyH_yield 0 (.agg #[.int .i64 m, .int .i64 g1, .int .i64 c1, .int .i64 r1, .int .i64 t, .int .i64 b]) rfl (by kernel_rfl) (by kernel_rfl) (by kernel_rfl) (fun d _ _ _ h => by cases d <;> exact h) (by rfl) (by assumption) (fun _ hSw => by (try dsimp only at hSw); go_simp) ?_
    simp only [Act.put, List.setIfInBounds_toArray, List.set_cons_zero, List.set_cons_succ]
    refine wpAnyH_yield 2 (.pointer (some ⟨w.heap.size + 1, 3, none⟩)) rfl (by kernel_rfl) (by kernel_rfl) (by kernel_rfl) (fun d _ _ _ h => by cases d <;> exact h) (by rfl) (by assumption) (fun _ _ => by go_simp) ?_
    simp only [Act.put, List.setIfInBounds_toArray, List.set_cons_zero, List.set_cons_succ]
    refine wpAnyH_yield 3 (.int .i64 r1) rfl (by kernel_rfl) (by kernel_rfl) (by kernel_rfl) (fun d _ _ _ h => by cases d <;> exact h) (by rfl) (by assumption) (fun _ hSw => by (try dsimp only at hSw); go_simp) ?_
    simp only [Act.put, List.setIfInBounds_toArray, List.set_cons_zero, List.set_cons_succ]
    refine wpAnyH_ready (rs := [1]) (by kernel_rfl) (by simp) (AllReadyH.cons rfl (fun K hK => ?_) AllReadyH.nil)
    go_simp
    go_at_call 5
    refine (hnew w2).mono ?_
    rintro e w3 ⟨rfl, hb1, hb2⟩
    have H3 := Lib.hid (H2.out.made hb2 hb1 (by omega))
    clear hb1 hb2 H2
    generalize w2.heap.size + 1 = P at H3 ⊢
    refine hK.out _ _ ((retries_cells (H3.out.get 1 rfl))) (fun hHeld => ?_)
    clear hK K
    try simp only [Act.put, List.setIfInBounds_toArray, List.set_cons_zero, List.set_cons_succ]
    refine wpAnyH_ready (rs := [4]) (by kernel_rfl) (by simp) (AllReadyH.cons rfl (fun K hK => ?_) AllReadyH.nil)
    go_simp
    go_at_call 6
    refine (hcr w3).mono ?_
    rintro e w4 ⟨rfl, rfl⟩
    refine hK.out _ _ (hHeld) (fun hHeld => ?_)
    clear hK K
    try simp only [Act.put, List.setIfInBounds_toArray, List.set_cons_zero, List.set_cons_succ]
    refine wpAnyH_yield 5 (.pointer (some ⟨P, 0, none⟩)) rfl (by kernel_rfl) (by kernel_rfl) (by kernel_rfl) (fun d _ _ _ h => by cases d <;> exact h) (by rfl) (by assumption) (fun _ _ => by go_simp) ?_
    simp only [Act.put, List.setIfInBounds_toArray, List.set_cons_zero, List.set_cons_succ]
    refine wpAnyH_yield 6 (.int .i64 N) rfl (by kernel_rfl) (by kernel_rfl) (by kernel_rfl) (fun d _ _ _ h => by cases d <;> exact h) (by rfl) (by assumption) (fun _ _ => by go_simp) ?_
    simp only [Act.put, List.setIfInBounds_toArray, List.set_cons_zero, List.set_cons_succ]
    refine wpAnyH_done (by kernel_rfl) ?_ _
    clear hHeld
    have H4 : Hid (Held w w3 [(P, .cells #[.int .i64 M, .int .i64 G, .int .i64 C, .int .i64 N, .int .i64 t, .int .i64 b, .int .i64 N] 37 (0, 0)), (w.heap.size + 1, .cells #[.int .i64 m, .int .i64 g1, .int .i64 c1, .int .i64 r1, .int .i64 t, .int .i64 b] 24 (0, 0)), (w.heap.size, .cells #[.int .i64 m, .int .i64 g, .int .i64 c, .int .i64 r, .int .i64 t, .int .i64 b] 24 (0, 0))]) := H3
    clear H3
    go_wp2_with fail
    go_loopg [9, 10, 11] (61 : Nat) (fun gh s9 s10 _ wr => ∃ (i : Nat) (l : Int), s10 = .int .i64 i ∧ i ≤ 60 ∧ 61 - i ≤ gh ∧ s9 = .int .i64 l ∧ 0 ≤ l ∧ l ≤ N ∧ Hid (Held w wr [(P, .cells #[.int .i64 M, .int .i64 G, .int .i64 C, .int .i64 N, .int .i64 t, .int .i64 b, .int .i64 l] 37 (0, 0)), (w.heap.size + 1, .cells #[.int .i64 m, .int .i64 g1, .int .i64 c1, .int .i64 r1, .int .i64 t, .int .i64 b] 24 (0, 0)), (w.heap.size, .cells #[.int .i64 m, .int .i64 g, .int .i64 c, .int .i64 r, .int .i64 t, .int .i64 b] 24 (0, 0))]))
    case atStart => exact ⟨0, N, rfl, by omega, by omega, rfl, N0, by omega, H4⟩
    case round =>
      obtain ⟨i, l, rfl, hi, hg, rfl, l0, l1, HI⟩ := hrel
      clear H4
      by_cases hl : i < len
      · have hl' : (i : Int) < (len : Int) := by omega
        by_cases h60 : i < 60
        · have h60' : (i : Int) < 60 := by omega
          have hwi : IntKind.i64.wrap ((i : Int) + 1) = (i : Int) + 1 := by rw [IntKind.wrap_i64]; omega
          obtain rfl := hsp (by omega)
          have hci := hc i hl
          have hcr0 : wr.cell? ⟨bk, o + i, none⟩ = some (.bool (Y i)) := by rw [HI.out.below.cell (cell_block hci)]; exact hci
          clear hci
          cases hy : Y i
          · obtain ⟨-, -, x2, -, -, -⟩ := retries_cells (HI.out.get 1 rfl)
            rw [hy] at hcr0
            go_wp2_with fail
            refine (hcc wr).mono ?_
            rintro e w5 ⟨rfl, rfl⟩
            clear x2
            by_cases hCl : C ≤ l
            · go_wp2_with fail
              refine (btake_yes ⟨C0, hCl⟩ (by omega) wr (HI.out.get 0 rfl)).mono ?_
              rintro e w6 ⟨rfl, hn, hr⟩
              have H6 := Lib.hid (HI.out.rest hr hn)
              clear hn hr HI
              obtain ⟨-, -, x2, -, -, -⟩ := retries_cells (H6.out.get 1 rfl)
              have hwl : IntKind.i64.wrap (l - C) = l - C := by rw [IntKind.wrap_i64]; omega
              go_wp2_with fail
              refine (hcc w6).mono ?_
              rintro e w7 ⟨rfl, rfl⟩
              clear x2
              go_wp2_with fail
              refine (bleft_any w6 (H6.out.get 0 rfl)).mono ?_
              rintro e w7 ⟨rfl, rfl⟩
              go_wp2_with fail
              go_roundg (61 - (i + 1))
              case measure => omega
              case rel => exact ⟨i + 1, l - C, by go_num, by omega, by omega, rfl, by omega, by omega, H6⟩
            · go_wp2_with fail
              refine (btake_no (by omega) wr (HI.out.get 0 rfl)).mono ?_
              rintro e w6 ⟨rfl, hb⟩
              have H6 := Lib.hid (HI.out.call hb)
              clear hb HI
              go_wp2_with fail
              refine (bleft_any w6 (H6.out.get 0 rfl)).mono ?_
              rintro e w7 ⟨rfl, rfl⟩
              go_wp2_with fail
              go_roundg (61 - (i + 1))
              case measure => omega
              case rel => exact ⟨i + 1, l, by go_num, by omega, by omega, rfl, by omega, by omega, H6⟩
          · rw [hy] at hcr0
            go_wp2_with fail
            refine (bwell_any ⟨G0, G1⟩ ⟨l0, by omega⟩ wr (HI.out.get 0 rfl)).mono ?_
            rintro e w5 ⟨rfl, hn, hr⟩
            have H5 := Lib.hid (HI.out.rest hr hn)
            clear hn hr HI
            have hwl : IntKind.i64.wrap (l + G) = l + G := by rw [IntKind.wrap_i64]; omega
            have hm1 : (if l + G < N then l + G else N) = min (l + G) N := by omega
            have hm2 : (if N < l + G then N else l + G) = min (l + G) N := by omega
            have hk : 0 ≤ min (l + G) N ∧ min (l + G) N ≤ N := by omega
            generalize min (l + G) N = k at hm1 hm2 hk H5
            obtain ⟨k0, k1⟩ := hk
            go_wp2_with fail
            refine wp_region_held_drew (S := (fun w' => w'.cell? ⟨w.heap.size + 1, 1, none⟩ = some (.int .i64 g1) ∧ w'.cell? ⟨w.heap.size + 1, 3, none⟩ = some (.int .i64 r1))) (by kernel_rfl) (let x := retries_cells (H5.out.get 1 rfl); ⟨x.2.1, x.2.2.2.1⟩) (fun hHeld => ?_)
            have H6 := Lib.hid H5.out.drew
            generalize w5.drew = w6 at H6 hHeld ⊢
            clear H5
            refine wpAnyH_yield 0 (.int .i64 l) rfl (by kernel_rfl) (by kernel_rfl) (by kernel_rfl) (fun d _ _ _ h => by cases d <;> exact h) (by rfl) (by assumption) (fun _ _ => by go_simp) ?_
            simp only [Act.put, List.setIfInBounds_toArray, List.set_cons_zero, List.set_cons_succ]
            refine wpAnyH_yield 1 (.pointer (some ⟨w.heap.size + 1, 1, none⟩)) rfl (by kernel_rfl) (by kernel_rfl) (by kernel_rfl) (fun d _ _ _ h => by cases d <;> exact h) (by rfl) (by assumption) (fun _ _ => by go_simp) ?_
            simp only [Act.put, List.setIfInBounds_toArray, List.set_cons_zero, List.set_cons_succ]
            refine wpAnyH_yield 2 (.int .i64 g1) rfl (by kernel_rfl) (by kernel_rfl) (by kernel_rfl) (fun d _ _ _ h => by cases d <;> exact h) (by rfl) (by assumption) (fun _ hSw => by (try dsimp only at hSw); go_simp) ?_
            simp only [Act.put, List.setIfInBounds_toArray, List.set_cons_zero, List.set_cons_succ]
            refine wpAnyH_yield 5 (.pointer (some ⟨w.heap.size + 1, 3, none⟩)) rfl (by kernel_rfl) (by kernel_rfl) (by kernel_rfl) (fun d _ _ _ h => by cases d <;> exact h) (by rfl) (by assumption) (fun _ _ => by go_simp) ?_
            simp only [Act.put, List.setIfInBounds_toArray, List.set_cons_zero, List.set_cons_succ]
            refine wpAnyH_yield 6 (.int .i64 r1) rfl (by kernel_rfl) (by kernel_rfl) (by kernel_rfl) (fun d _ _ _ h => by cases d <;> exact h) (by rfl) (by assumption) (fun _ hSw => by (try dsimp only at hSw); go_simp) ?_
            simp only [Act.put, List.setIfInBounds_toArray, List.set_cons_zero, List.set_cons_succ]
            refine wpAnyH_ready (rs := [3]) (by kernel_rfl) (by simp) (AllReadyH.cons rfl (fun K hK => ?_) AllReadyH.nil)
            go_simp
            go_at_call 6
            refine (hcg w6).mono ?_
            rintro e w7 ⟨rfl, rfl⟩
            refine hK.out _ _ (hHeld) (fun hHeld => ?_)
            clear hK K
            try simp only [Act.put, List.setIfInBounds_toArray, List.set_cons_zero, List.set_cons_succ]
            refine wpAnyH_yield 4 (.int .i64 (l + G)) rfl (by kernel_rfl) (by kernel_rfl) (by kernel_rfl) (fun d _ _ _ h => by cases d <;> exact h) (by rfl) (by assumption) (fun _ _ => by go_simp) ?_
            simp only [Act.put, List.setIfInBounds_toArray, List.set_cons_zero, List.set_cons_succ]
            refine wpAnyH_ready (rs := [7]) (by kernel_rfl) (by simp) (AllReadyH.cons rfl (fun K hK => ?_) AllReadyH.nil)
            go_simp
            go_at_call 6
            refine (hcr w6).mono ?_
            rintro e w7 ⟨rfl, rfl⟩
            refine hK.out _ _ (hHeld) (fun hHeld => ?_)
            clear hK K
            try simp only [Act.put, List.setIfInBounds_toArray, List.set_cons_zero, List.set_cons_succ]
            refine wpAnyH_yield 8 (.int .i64 k) rfl (by kernel_rfl) (by kernel_rfl) (by kernel_rfl) (fun d _ _ _ h => by cases d <;> exact h) (by rfl) (by assumption) (fun _ _ => by go_simp) ?_
            simp only [Act.put, List.setIfInBounds_toArray, List.set_cons_zero, List.set_cons_succ]
            refine wpAnyH_yield 9 (.int .i64 k) rfl (by kernel_rfl) (by kernel_rfl) (by kernel_rfl) (fun d _ _ _ h => by cases d <;> exact h) (by rfl) (by assumption) (fun _ _ => by go_simp) ?_
            simp only [Act.put, List.setIfInBounds_toArray, List.set_cons_zero, List.set_cons_succ]
            refine wpAnyH_done (by kernel_rfl) ?_ _
            clear hHeld hm1 hm2 hwl
            go_wp2_with fail
            refine (bleft_any w6 (H6.out.get 0 rfl)).mono ?_
            rintro e w7 ⟨rfl, rfl⟩
            go_wp2_with fail
            go_roundg (61 - (i + 1))
            case measure => omega
            case rel => exact ⟨i + 1, k, by go_num, by omega, by omega, rfl, by omega, by omega, H6⟩
        · have h60' : ¬ (i : Int) < 60 := by omega
          go_wp2_with fail
          refine (awake15_any wr).mono ?_
          rintro e w3 ⟨rfl, hb⟩
          have H3 := Lib.hid (HI.out.call hb)
          clear hb HI
          go_wp2
          go_ret
          exact ⟨rfl, H3.out.below⟩
      · have hl' : ¬ (i : Int) < (len : Int) := by omega
        go_wp2_with fail
        refine (awake15_any wr).mono ?_
        rintro e w3 ⟨rfl, hb⟩
        have H3 := Lib.hid (HI.out.call hb)
        clear hb HI
        go_wp2
        go_ret
        exact ⟨rfl, H3.out.below⟩

end Go.Proofs.Ytljiebajdemigaa
