/- The law on each turn's cells: true whatever comes. -/
import Derived.Test.YtfecdnaphccmiaaLaw6A
import Derived.Test.YtfecdnaphccmiaaLow
import Derived.Test.YtfecdnaphccmiaaSkip
namespace Go.Proofs.Ytfecdnaphccmiaa
open Go.RowKit
attribute [local go_sem ↓] Go.wp_at_zero Go.wp_at_succ

/-- How many places the laws take. -/
theorem shl_two (p : Int) : ∃ n : Nat, (n = 2 ∨ n = 4 ∨ n = 8 ∨ n = 16) ∧ wrap64 (2 * 2 ^ min (IntKind.u64.wrap (bits .and .i64 p 3)).toNat 64) = (n : Int) := by
  rw [low3]
  have h0 : p % 4 = 0 ∨ p % 4 = 1 ∨ p % 4 = 2 ∨ p % 4 = 3 := by omega
  rcases h0 with h | h | h | h <;> rw [h]
  · exact ⟨2, by omega, by kernel_rfl⟩
  · exact ⟨4, by omega, by kernel_rfl⟩
  · exact ⟨8, by omega, by kernel_rfl⟩
  · exact ⟨16, by omega, by kernel_rfl⟩

/-- What the law's two blocks hold: the ring, the marks. -/
structure Seen (w wr : World) (b n : Nat) (td : List Nat) : Prop where
  c0 : wr.cell? ⟨w.heap.size, 0, none⟩ = some (.int .i64 (b : Int))
  c1 : wr.cell? ⟨w.heap.size, 1, none⟩ = some (.int .i64 (n : Int))
  sn : wr.heap[w.heap.size + 1]? = some (.cells (markCells (1 + 4 * n) td) 4 (0, 0))
  bel : Below w.heap.size w wr
theorem Seen.start (w : World) {b n : Nat} {mc : Array Value} (e : markCells (1 + 4 * n) [] = mc) : Seen w ((w.alloc (.cells #[.int .i64 (b : Int), .int .i64 (n : Int)] 23)).alloc (.cells mc 4)) b n [] := by
  subst e
  obtain ⟨c0, c1, hb⟩ := kept (t := 23) (w := w) (x := .int .i64 (b : Int)) (y := .int .i64 (n : Int)) ((Below.refl _ _).alloc (Nat.le_refl _) (.cells (markCells (1 + 4 * n) []) 4))
  exact ⟨c0, c1, by have := heap_alloc_new (w.alloc (.cells #[.int .i64 (b : Int), .int .i64 (n : Int)] 23)) (.cells (markCells (1 + 4 * n) []) 4); simpa using this, hb⟩
theorem Seen.kept {w wr w2 : World} {b n : Nat} {td : List Nat} (h : Seen w wr b n td) (hb : Below wr.heap.size wr w2) : Seen w w2 b n td :=
  ⟨(hb.cell (cell_block h.c0)).trans h.c0, (hb.cell (cell_block h.c1)).trans h.c1, (hb.block _ (lt_of_block h.sn)).trans h.sn, h.bel.trans (hb.mono h.bel.size)⟩
theorem Seen.store {w wr : World} {b n : Nat} {td : List Nat} (h : Seen w wr b n td) (j : Nat) : Seen w (wr.setCell ⟨w.heap.size + 1, j, none⟩ (.bool true)) b n (td ++ [j]) :=
  ⟨by rw [World.cell?_of_block (heap_setCell_other _ _ _ _ (by simp))]; exact h.c0, by rw [World.cell?_of_block (heap_setCell_other _ _ _ _ (by simp))]; exact h.c1,
   by rw [heap_setCell_same wr _ j _ _ _ h.sn, markCells_set], h.bel.setCell (by simp) _⟩
theorem Seen.at {w wr : World} {b n : Nat} {td : List Nat} (h : Seen w wr b n td) {j : Nat} (hj : j < 1 + 4 * n) (hn : j ∉ td) : wr.cell? ⟨w.heap.size + 1, j, none⟩ = some (.bool false) := by
  rw [cell_of_row _ _ _ _ _ _ h.sn, markCells_at _ _ _ hj]; simp [hn]
theorem Seen.free {w wr : World} {b n : Nat} {td : List Nat} (h : Seen w wr b n td) (j : Nat) : wr.frozen? ⟨w.heap.size + 1, j, none⟩ = false := frozen_of_row _ _ _ _ _ h.sn

/-- Which cells were met: those of k turns, and i of the next one's. -/
def Met (n t k i : Nat) (td : List Nat) : Prop := ∀ j, j ∈ td → 1 ≤ j ∧ ((∃ q, q < k ∧ (j - 1) / 4 = (t + q) % n) ∨ ((j - 1) / 4 = (t + k) % n ∧ (j - 1) % 4 < i))
theorem Met.none (n t : Nat) : Met n t 0 0 [] := fun j hj => by cases hj
theorem Met.more {n t k i : Nat} {td : List Nat} (h : Met n t k i td) (hi : i < 4) : Met n t k (i + 1) (td ++ [1 + 4 * ((t + k) % n) + i]) := fun j hj => by
  rcases List.mem_append.1 hj with hj | hj
  · obtain ⟨h1, h2⟩ := h j hj
    refine ⟨h1, ?_⟩
    rcases h2 with h2 | h2
    · exact .inl h2
    · exact .inr (by omega)
  · simp only [List.mem_singleton] at hj
    subst hj
    exact ⟨by omega, .inr (by omega)⟩
theorem Met.turn {n t k : Nat} {td : List Nat} (h : Met n t k 4 td) : Met n t (k + 1) 0 td := fun j hj => by
  obtain ⟨h1, h2⟩ := h j hj
  refine ⟨h1, .inl ?_⟩
  rcases h2 with ⟨q, h2, h3⟩ | h2
  · exact ⟨q, by omega, h3⟩
  · exact ⟨k, by omega, h2.1⟩
theorem Met.new {n t k i : Nat} {td : List Nat} (h : Met n t k i td) (hi : i < 4) (hn : n = 2 ∨ n = 4 ∨ n = 8 ∨ n = 16) (hk : k < n) : 1 + 4 * ((t + k) % n) + i ∉ td := fun hj => by
  obtain ⟨-, h2⟩ := h _ hj
  rcases h2 with ⟨q, h2, h3⟩ | h2
  · rw [show (1 + 4 * ((t + k) % n) + i - 1) / 4 = (t + k) % n by omega] at h3
    rcases hn with rfl | rfl | rfl | rfl <;> omega
  · omega

set_option maxHeartbeats 4000000 in
set_option maxRecDepth 100000 in
theorem cells_law (base places : Int) (t : Nat) (ht : t < 18446744073709551616) (w : World) :
    Calls Try.prog 4 #[.int .i64 base, .int .i64 places, .int .u64 t] w fun e w' => e = .returned (.bool true) ∧ Below w.heap.size w w' := by
  obtain ⟨n, hn, hsh⟩ := shl_two places
  obtain ⟨b, hb, hba⟩ : ∃ b : Nat, b < 256 ∧ bits .and .i64 base 255 = (b : Int) := ⟨(base % 256).toNat, by omega, by rw [low255]; omega⟩
  have n1 : n ≤ 64 := by omega
  have HO : Hid (Rg.Ok b n) := by show Rg.Ok b n; unfold Rg.Ok; omega
  have hmk : ∀ w : World, (Instr.makeSlice 32 (.int .i64 (1 + 4 * (n : Int))) (.int .i64 (1 + 4 * (n : Int)))).run Try.prog w = .ok (.slice (some ⟨w.heap.size, 0, none⟩) (1 + 4 * n) (1 + 4 * n)) (w.alloc (.cells (markCells (1 + 4 * n) []) 4)) := fun w => by
    have := make_marks (1 + 4 * n) (by omega) w
    simpa using this
  generalize hmc : markCells (1 + 4 * n) [] = mc at *
  have HMC := Lib.hid hmc
  clear hmc
  go_enter Try.func4, Try.ntmps4
  go_wp2_with fail
  rw [hsh]
  clear hsh hba
  refine (rcells_in n n1 _).mono ?_
  rintro e w1 ⟨rfl, rfl⟩
  go_wp2_with fail
  have hS := Seen.start w (b := b) HMC.out
  generalize (w.alloc (.cells #[.int .i64 (b : Int), .int .i64 (n : Int)] 23)).alloc (.cells mc 4) = W1 at hS ⊢
  have c0 := hS.c0
  have c1 := hS.c1
  have i3 : IntKind.i64.wrap (4 * (n : Int)) = 4 * (n : Int) := by rw [IntKind.wrap_i64]; omega
  have i4 : IntKind.i64.wrap (1 + 4 * (n : Int)) = 1 + 4 * (n : Int) := by rw [IntKind.wrap_i64]; omega
  have HS := Lib.hid hS
  clear hS
  go_region_held3 (fun w' => w'.cell? ⟨w.heap.size, 0, none⟩ = some (.int .i64 b) ∧ w'.cell? ⟨w.heap.size, 1, none⟩ = some (.int .i64 n) ∧ Below W1.heap.size W1 w')
    (first | assumption | exact ⟨c0, c1, (Below.refl _ _).drew⟩)
    (first | (go_at_call 9; refine (tail_yes b n HO.out _).mono ?_; rintro e w2 ⟨rfl, hb3⟩; have hk := kept2 (w := W1) (by assumption) hb3; clear hb3))
  have hS := HS.out.kept hk.2.2
  clear c0 c1 hk HS
  have HS := Lib.hid hS
  clear hS
  have ht48 := u64_low48 t ht
  have hlt48 : t % 281474976710656 < 281474976710656 := Nat.mod_lt _ (by decide)
  generalize hx : t % 281474976710656 = x at *
  have HX := Lib.hid hx
  clear hx
  go_wp2_with fail
  go_loopg [11] n (fun g s11 wr => ∃ (k : Nat) (td : List Nat), k ≤ n ∧ g = n - k ∧ s11 = .int .i64 k ∧ Hid (Met n x k 0 td) ∧ Hid (Seen w wr b n td))
  case atStart => exact ⟨0, [], Nat.zero_le _, rfl, rfl, Met.none _ _, HS⟩
  case round =>
    clear HS
    obtain ⟨k, td, hk, rfl, rfl, hM, hS⟩ := hrel
    have c0 := hS.out.c0
    have c1 := hS.out.c1
    by_cases hkn : k < n
    · go_wp2_with fail
      refine (stand_yes b n (x + k) HO.out (by omega) _).mono ?_
      rintro e w3 ⟨rfl, hb3⟩
      have hS3 := Lib.hid (hS.out.kept hb3)
      have hst : ((Rg.stand b n (x + k) : Nat) : Int) = (b : Int) + 1 + 4 * (((x + k) % n : Nat) : Int) := by unfold Rg.stand; push_cast; rfl
      rw [hst]
      have hym := Nat.mod_lt (x + k) (show 0 < n by omega)
      have hyx : ((x : Int) + (k : Int)).tmod (n : Int) = (((x + k) % n : Nat) : Int) := by rw [Int.tmod_eq_emod_of_nonneg (by omega)]; simp
      have hn0 : n ≠ 0 := by omega
      generalize hy : (x + k) % n = y at *
      have HY := Lib.hid hy
      clear hy hst hb3 hS c0 c1
      have c0 := hS3.out.c0
      have c1 := hS3.out.c1
      go_wp2_with fail
      have j1 : IntKind.i64.wrap ((b : Int) + 1) = (b : Int) + 1 := by rw [IntKind.wrap_i64]; omega
      have j2 : IntKind.i64.wrap (4 * (y : Int)) = 4 * (y : Int) := by rw [IntKind.wrap_i64]; omega
      have j3 : IntKind.i64.wrap ((b : Int) + 1 + 4 * (y : Int)) = (b : Int) + 1 + 4 * (y : Int) := by rw [IntKind.wrap_i64]; omega
      have j4 : IntKind.u64.wrap (n : Int) = (n : Int) := by rw [IntKind.wrap_u64]; omega
      have j5 : IntKind.i64.wrap (y : Int) = (y : Int) := by rw [IntKind.wrap_i64]; omega
      refine wp_region_held_drew (S := fun w' => w'.cell? ⟨w.heap.size, 0, none⟩ = some (.int .i64 b) ∧ w'.cell? ⟨w.heap.size, 1, none⟩ = some (.int .i64 n)) (by kernel_rfl) ⟨c0, c1⟩ (fun hHeld => ?_)
      refine wpAnyH_yield 0 (.int .i64 ((b : Int) + 1 + 4 * y)) rfl (by kernel_rfl) (by kernel_rfl) (by kernel_rfl) (fun d _ _ _ h => by cases d <;> exact h) (by rfl) (by assumption) (fun _ _ => by go_simp) ?_
      simp only [Act.put, List.setIfInBounds_toArray, List.set_cons_zero, List.set_cons_succ]
      refine wpAnyH_yield 1 (.pointer (some ⟨w.heap.size, 0, none⟩)) rfl (by kernel_rfl) (by kernel_rfl) (by kernel_rfl) (fun d _ _ _ h => by cases d <;> exact h) (by rfl) (by assumption) (fun _ _ => by go_simp) ?_
      simp only [Act.put, List.setIfInBounds_toArray, List.set_cons_zero, List.set_cons_succ]
      refine wpAnyH_yield 2 (.int .i64 b) rfl (by kernel_rfl) (by kernel_rfl) (by kernel_rfl) (fun d _ _ _ h => by cases d <;> exact h) (by rfl) (by assumption) (fun _ hSw => by (try dsimp only at hSw); go_simp) ?_
      simp only [Act.put, List.setIfInBounds_toArray, List.set_cons_zero, List.set_cons_succ]
      refine wpAnyH_yield 3 (.int .i64 ((b : Int) + 1)) rfl (by kernel_rfl) (by kernel_rfl) (by kernel_rfl) (fun d _ _ _ h => by cases d <;> exact h) (by rfl) (by assumption) (fun _ _ => by go_simp) ?_
      simp only [Act.put, List.setIfInBounds_toArray, List.set_cons_zero, List.set_cons_succ]
      refine wpAnyH_yield 4 (.int .u64 ((x : Int) + k)) rfl (by kernel_rfl) (by kernel_rfl) (by kernel_rfl) (fun d _ _ _ h => by cases d <;> exact h) (by rfl) (by assumption) (fun _ _ => by go_simp) ?_
      simp only [Act.put, List.setIfInBounds_toArray, List.set_cons_zero, List.set_cons_succ]
      refine wpAnyH_yield 5 (.int .i64 n) rfl (by kernel_rfl) (by kernel_rfl) (by kernel_rfl) (fun d _ _ _ h => by cases d <;> exact h) (by rfl) (by assumption) (fun _ _ => by go_simp) ?_
      simp only [Act.put, List.setIfInBounds_toArray, List.set_cons_zero, List.set_cons_succ]
      refine wpAnyH_yield 6 (.int .u64 n) rfl (by kernel_rfl) (by kernel_rfl) (by kernel_rfl) (fun d _ _ _ h => by cases d <;> exact h) (by rfl) (by assumption) (fun _ _ => by go_simp) ?_
      simp only [Act.put, List.setIfInBounds_toArray, List.set_cons_zero, List.set_cons_succ]
      refine wpAnyH_yield 7 (.int .u64 y) rfl (by kernel_rfl) (by kernel_rfl) (by kernel_rfl) (fun d _ _ _ h => by cases d <;> exact h) (by rfl) (by assumption) (fun _ _ => by go_simp) ?_
      simp only [Act.put, List.setIfInBounds_toArray, List.set_cons_zero, List.set_cons_succ]
      refine wpAnyH_yield 8 (.int .i64 y) rfl (by kernel_rfl) (by kernel_rfl) (by kernel_rfl) (fun d _ _ _ h => by cases d <;> exact h) (by rfl) (by assumption) (fun _ _ => by go_simp) ?_
      simp only [Act.put, List.setIfInBounds_toArray, List.set_cons_zero, List.set_cons_succ]
      refine wpAnyH_yield 9 (.int .i64 (4 * y)) rfl (by kernel_rfl) (by kernel_rfl) (by kernel_rfl) (fun d _ _ _ h => by cases d <;> exact h) (by rfl) (by assumption) (fun _ _ => by go_simp) ?_
      simp only [Act.put, List.setIfInBounds_toArray, List.set_cons_zero, List.set_cons_succ]
      refine wpAnyH_yield 10 (.int .i64 ((b : Int) + 1 + 4 * y)) rfl (by kernel_rfl) (by kernel_rfl) (by kernel_rfl) (fun d _ _ _ h => by cases d <;> exact h) (by rfl) (by assumption) (fun _ _ => by go_simp) ?_
      simp only [Act.put, List.setIfInBounds_toArray, List.set_cons_zero, List.set_cons_succ]
      refine wpAnyH_yield 11 (.bool false) rfl (by kernel_rfl) (by kernel_rfl) (by kernel_rfl) (fun d _ _ _ h => by cases d <;> exact h) (by rfl) (by assumption) (fun _ _ => by go_simp) ?_
      simp only [Act.put, List.setIfInBounds_toArray, List.set_cons_zero, List.set_cons_succ]
      refine wpAnyH_done (by kernel_rfl) ?_ _
      clear hHeld j1 j2 j3 j4 j5 hyx c0 c1
      have hS3 := Lib.hid (hS3.out.kept (Below.refl _ _).drew)
      go_wp2_with fail
      clear hn0
      have c0 := hS3.out.c0
      go_loopg [14] 4 (fun g s14 wr => ∃ (i : Nat) (td : List Nat), i ≤ 4 ∧ g = 4 - i ∧ s14 = .int .i64 i ∧ Hid (Met n x k i td) ∧ Hid (Seen w wr b n td))
      case atStart => exact ⟨0, td, by omega, rfl, rfl, hM, hS3⟩
      case round =>
        clear hS3 hM c0
        obtain ⟨i, td, hi, rfl, rfl, hM, hS⟩ := hrel
        have c0 := hS.out.c0
        have c1 := hS.out.c1
        by_cases hi4 : i < 4
        · have hnew := hM.out.new hi4 hn hkn
          have hmore := Lib.hid (hM.out.more hi4)
          rw [HY.out] at hnew hmore
          have hoff : b + 1 + 4 * y + i - b = 1 + 4 * y + i := by omega
          have HNEW := Lib.hid hnew
          have HOFF := Lib.hid hoff
          rw [← hoff] at hmore
          clear hnew hM hoff
          by_cases hi0 : i = 0
          · subst hi0
            have hsat := hS.out.at (j := b + 1 + 4 * y + 0 - b) (by omega) (by rw [HOFF.out]; exact HNEW.out)
            have hsfr := hS.out.free (b + 1 + 4 * y + 0 - b)
            have HSS := Lib.hid (hS.out.store (b + 1 + 4 * y + 0 - b))
            simp only [Nat.add_zero] at hsat hsfr HSS hmore
            go_wp2_with fail
            go_roundg (4 - (0 + 1))
            case measure => go_light; omega
            case rel => exact ⟨1, _, by omega, rfl, by go_num, hmore, HSS⟩
          · have hi1 : (i : Int) - 1 = ((i - 1 : Nat) : Int) := by omega
            have hdt : ((Rg.stand b n (x + k) + 1 + (i - 1) : Nat) : Int) = (b : Int) + 1 + 4 * (y : Int) + (i : Int) := by unfold Rg.stand; rw [HY.out]; omega
            have HI := Lib.hid (And.intro hi1 hdt)
            have hi2 : (0 : Int) < i := by omega
            clear hi1 hdt hi0
            go_wp2_with fail
            rw [HI.out.1]
            refine (data_yes b n (x + k) (i - 1) HO.out (by omega) (by omega) _).mono ?_
            rintro e w4 ⟨rfl, hb4⟩
            rw [HI.out.2]
            have hS4 := Lib.hid (hS.out.kept hb4)
            clear c0 c1 hS hb4
            have c0 := hS4.out.c0
            have hsat := hS4.out.at (j := b + 1 + 4 * y + i - b) (by omega) (by rw [HOFF.out]; exact HNEW.out)
            have hsfr := hS4.out.free (b + 1 + 4 * y + i - b)
            have HSS := Lib.hid (hS4.out.store (b + 1 + 4 * y + i - b))
            go_wp2_with fail
            go_roundg (4 - (i + 1))
            case measure => go_light; omega
            case rel => exact ⟨i + 1, _, by omega, rfl, by go_num, hmore, HSS⟩
        · obtain rfl : i = 4 := by omega
          have HM := Lib.hid hM.out.turn
          clear hM c0 c1
          go_wp2_with fail
          go_roundg (n - (k + 1))
          case measure => go_light; omega
          case rel => exact ⟨k + 1, td, by omega, rfl, by go_num, HM, hS⟩
    · obtain rfl : k = n := by omega
      have HB := Lib.hid hS.out.bel
      clear hM
      go_wp2_with fail
      refine (awake6_any _).mono ?_
      rintro e w3 ⟨rfl, hb3⟩
      have hS3 := Lib.hid (hS.out.kept hb3)
      clear c0 c1 hS hb3 HB
      have c0 := hS3.out.c0
      have c1 := hS3.out.c1
      go_wp2_with fail
      refine (data_out b k x 3 HO.out (by omega) (by omega) _).mono ?_
      rintro e w4 ⟨rfl, hb4⟩
      have hS4 := Lib.hid (hS3.out.kept hb4)
      clear c0 c1 hS3 hb4
      have c0 := hS4.out.c0
      have c1 := hS4.out.c1
      go_wp2_with fail
      refine (data_out b k x (-1) HO.out (by omega) (by omega) _).mono ?_
      rintro e w5 ⟨rfl, hb5⟩
      have HB := (hS4.out.kept hb5).bel
      clear c0 c1 hS4 hb5
      go_wp2_with fail
      go_ret
      exact ⟨rfl, HB⟩

end Go.Proofs.Ytfecdnaphccmiaa
