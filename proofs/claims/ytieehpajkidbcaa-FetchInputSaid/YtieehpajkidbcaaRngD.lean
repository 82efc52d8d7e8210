/- A ring that is begun in an arena; one that may not be, or for which the arena has too few cells, is not. -/
import Derived.Test.YtieehpajkidbcaaRngC
import Derived.Test.YtieehpajkidbcaaSkip
namespace Go.Proofs.Ytieehpajkidbcaa
open Go.RowKit
attribute [local go_sem ↓] Go.wp_at_zero Go.wp_at_succ

theorem len_kept {B : Nat} {s : Spot} {a : Ar} {w w1 : World} {p q : Prop} (h : Arena w B s a) (hk : p ∧ q ∧ Below w.heap.size w w1) :
    Calls Try.prog 24 #[.pointer (some ⟨s.P, 0, none⟩)] w1 fun e w' => e = .returned (.int .i64 (a.cs.length : Nat)) ∧ w1 = w' :=
  len_any _ (h.kept (Rest.of_below hk.2.2) (fun _ _ => id))

set_option maxHeartbeats 2000000 in
/-- Init. -/
theorem init_yes {B : Nat} {s : Spot} {a : Ar} (b n : Nat) (hR : Rg.Ok b n) (w : World) (h : Arena w B s a) (hl : b + 1 + 4 * n ≤ a.cs.length) :
    Calls Try.prog 8 #[.pointer (some ⟨s.P, 0, none⟩), .agg #[.int .i64 b, .int .i64 n]] w fun e w' => e = .returned (.int .i64 0) ∧ ∃ a', a'.cs = Rg.laid b a.cs n ∧ Now w w' B s a' := by
  have H := Lib.hid h
  have HR := Lib.hid hR
  obtain ⟨h1, h2, h3⟩ := hR.pos
  have hgt : decide ((a.cs.length : Int) < IntKind.i64.wrap ((b : Int) + (1 + 4 * (n : Int)))) = false := by rw [IntKind.wrap_i64]; simp; omega
  clear h hR
  go_enter Try.func8, Try.ntmps8
  go_wp2_with fail
  obtain ⟨c0, c1, hb2⟩ := kept (t := 26) (w := w) (x := .int .i64 b) (y := .int .i64 n) (Below.refl _ _)
  go_region_held3 (fun w' => w'.cell? ⟨w.heap.size, 0, none⟩ = some (.int .i64 b) ∧ w'.cell? ⟨w.heap.size, 1, none⟩ = some (.int .i64 n) ∧ Below w.heap.size w w')
    (first | assumption | exact ⟨c0, c1, hb2.drew⟩)
    (first | (go_at_call 23; refine (rgmay_yes b n HR.out _).mono ?_; rintro e w2 ⟨rfl, hb3⟩; have hk := kept2 (by assumption) hb3; clear hb3)
           | (go_at_call 7; refine (rcells_in n h2 _).mono ?_; rintro e w2 ⟨rfl, rfl⟩)
           | (go_at_call 24; refine (len_kept H.out (by assumption)).mono ?_; rintro e w2 ⟨rfl, rfl⟩))
  clear c0 c1 hb2 hgt
  obtain ⟨c0, c1, hb⟩ := hk
  have hA := Lib.hid (H.out.kept (Rest.of_below hb) (fun _ _ => id))
  have hbox : ¬ s.has w.heap.size := fun hk => Nat.lt_irrefl _ (H.out.old _ hk)
  have hbs := cell_block c0
  have HC := Lib.hid (And.intro c0 c1)
  have HX := Lib.hid hbox
  have HB := Lib.hid hb
  clear hbox hb
  go_wp2_with fail
  refine (tail_yes b n HR.out _).mono ?_
  rintro e w3 ⟨rfl, hb3⟩
  have hA3 := hA.out.kept (Rest.of_below hb3) (fun _ _ => id)
  go_wp2_with fail
  refine (write_in b 0 _ hA3 (by omega) (by decide)).mono ?_
  rintro e w4 ⟨rfl, hN⟩
  have hN4 := Lib.hid (Now.ahead hb3 hN)
  have hcs : ((a.touch b).put b 0).cs = Rg.laid b a.cs 0 := by simp [Ar.put, Ar.touch_cs, Rg.laid]
  clear c0 c1 hA3 hN hb3
  have c0 := (hN4.out.cell (p := ⟨w.heap.size, 0, none⟩) hbs HX.out).trans HC.out.1
  have c1 := (hN4.out.cell (p := ⟨w.heap.size, 1, none⟩) hbs HX.out).trans HC.out.2
  have HE : Hid (∃ a', a'.cs = Rg.laid b a.cs 0 ∧ Now w2 w4 B s a') := ⟨_, hcs, hN4.out⟩
  clear hN4 hcs
  go_wp2_with fail
  go_loopg [27] n (fun g s27 wr => ∃ k : Nat, k ≤ n ∧ g = n - k ∧ s27 = .int .u64 k ∧ Hid (∃ a', a'.cs = Rg.laid b a.cs k ∧ Now w2 wr B s a'))
  case atStart => exact ⟨0, Nat.zero_le _, rfl, rfl, HE⟩
  case round =>
    clear c0 c1 HE
    obtain ⟨k, hk, rfl, rfl, hE⟩ := hrel
    obtain ⟨ak, hak, hN⟩ := hE.out
    have c0 := (hN.cell (p := ⟨w.heap.size, 0, none⟩) hbs HX.out).trans HC.out.1
    have c1 := (hN.cell (p := ⟨w.heap.size, 1, none⟩) hbs HX.out).trans HC.out.2
    have HAK := Lib.hid hak
    have HN := Lib.hid hN
    clear hak hN hE
    by_cases hkn : k < n
    · go_wp2_with fail
      refine (stand_yes b n k HR.out (by omega) _).mono ?_
      rintro e w5 ⟨rfl, hb5⟩
      rw [Rg.stand_small hkn]
      obtain ⟨T, hA5, hnext⟩ := (HN.out.behind hb5).arena
      have hlen : ak.cs.length = a.cs.length := by rw [HAK.out, Rg.laid_length]
      have HNX := Lib.hid hnext
      clear hb5 hnext
      go_wp2_with fail
      refine (write_in (b + 1 + 4 * k) k _ hA5 (by omega) (by omega)).mono ?_
      rintro e w6 ⟨rfl, hN6⟩
      have HE : Hid (∃ a', a'.cs = Rg.laid b a.cs (k + 1) ∧ Now w2 w6 B s a') := ⟨_, by simp [Ar.put, Ar.touch_cs, Rg.laid, HAK.out], HNX.out _ _ hN6⟩
      clear hA5 hN6
      go_wp2_with fail
      go_roundg (n - (k + 1))
      case measure => go_light; omega
      case rel => exact ⟨k + 1, by omega, rfl, by go_num, HE⟩
    · obtain rfl : k = n := by omega
      go_wp2
      go_ret
      exact ⟨rfl, ak, HAK.out, Now.ahead HB.out HN.out⟩

set_option maxHeartbeats 1000000 in
/-- .. the arena has fewer cells. -/
theorem init_few {B : Nat} {s : Spot} {a : Ar} (b n : Nat) (hR : Rg.Ok b n) (w : World) (h : Arena w B s a) (hl : a.cs.length < b + 1 + 4 * n) :
    Calls Try.prog 8 #[.pointer (some ⟨s.P, 0, none⟩), .agg #[.int .i64 b, .int .i64 n]] w fun e w' => e = .returned (.int .i64 1) ∧ Below w.heap.size w w' := by
  have H := Lib.hid h
  have HR := Lib.hid hR
  obtain ⟨h1, h2, h3⟩ := hR.pos
  have hgt : decide ((a.cs.length : Int) < IntKind.i64.wrap ((b : Int) + (1 + 4 * (n : Int)))) = true := by rw [IntKind.wrap_i64]; simp; omega
  clear h hR
  go_enter Try.func8, Try.ntmps8
  go_wp2_with fail
  obtain ⟨c0, c1, hb2⟩ := kept (t := 26) (w := w) (x := .int .i64 b) (y := .int .i64 n) (Below.refl _ _)
  go_region_held3 (fun w' => w'.cell? ⟨w.heap.size, 0, none⟩ = some (.int .i64 b) ∧ w'.cell? ⟨w.heap.size, 1, none⟩ = some (.int .i64 n) ∧ Below w.heap.size w w')
    (first | assumption | exact ⟨c0, c1, hb2.drew⟩)
    (first | (go_at_call 23; refine (rgmay_yes b n HR.out _).mono ?_; rintro e w2 ⟨rfl, hb3⟩; have hk := kept2 (by assumption) hb3; clear hb3)
           | (go_at_call 7; refine (rcells_in n h2 _).mono ?_; rintro e w2 ⟨rfl, rfl⟩)
           | (go_at_call 24; refine (len_kept H.out (by assumption)).mono ?_; rintro e w2 ⟨rfl, rfl⟩))
  clear c0 c1 hb2
  go_wp2
  go_ret
  exact ⟨rfl, hk.2.2⟩

set_option maxHeartbeats 1000000 in
/-- .. it may not be: whatever arena, or none. -/
theorem init_no (b p : Int) (v : Option Addr) (hM : ¬ Rg.May b p) (hb : -9223372036854775808 ≤ b ∧ b ≤ 9223372036854775807) (w : World) :
    Calls Try.prog 8 #[.pointer v, .agg #[.int .i64 b, .int .i64 p]] w fun e w' => e = .returned (.int .i64 1) ∧ Below w.heap.size w w' := by
  have H := Lib.hid hM
  have HB := Lib.hid hb
  clear hM hb
  go_enter Try.func8, Try.ntmps8
  go_wp2_with fail
  obtain ⟨c0, c1, hb2⟩ := kept (t := 26) (w := w) (x := .int .i64 b) (y := .int .i64 p) (Below.refl _ _)
  refine wp_region_held_drew (S := fun w' => w'.cell? ⟨w.heap.size, 0, none⟩ = some (.int .i64 b) ∧ w'.cell? ⟨w.heap.size, 1, none⟩ = some (.int .i64 p) ∧ Below w.heap.size w w') (by kernel_rfl) ⟨c0, c1, hb2.drew⟩ (fun hHeld => ?_)
  refine wpAnyH_yield 0 (.agg #[.int .i64 b, .int .i64 p]) rfl (by kernel_rfl) (by kernel_rfl) (by kernel_rfl) (fun d _ _ _ h => by cases d <;> exact h) (by rfl) (by assumption) ?_ ?_
  · intro w hSw
    go_simp
  simp only [Act.put, List.setIfInBounds_toArray, List.set_cons_zero, List.set_cons_succ]
  refine wpAnyH_ready (rs := [1]) (by kernel_rfl) (by simp) (AllReadyH.cons rfl (fun K hK => ?_) AllReadyH.nil)
  go_simp
  go_at_call 23
  refine (rgmay_no b p H.out HB.out _).mono ?_
  rintro e w2 ⟨rfl, hb3⟩
  have hk := kept2 hHeld hb3
  clear hb3
  refine hK.out _ _ hk (fun hHeld => ?_)
  clear hK K
  refine wpAnyH_yield 2 (.bool true) rfl (by kernel_rfl) (by kernel_rfl) (by kernel_rfl) (fun d _ _ _ h => by cases d <;> exact h) (by rfl) (by assumption) (fun _ _ => by go_simp) ?_
  simp only [Act.put, List.setIfInBounds_toArray, List.set_cons_zero, List.set_cons_succ]
  refine wpAnyH_yield 3 (.bool true) rfl (by kernel_rfl) (by kernel_rfl) (by kernel_rfl) (fun d _ _ _ h => by cases d <;> exact h) (by rfl) (by assumption) (fun _ _ => by go_simp) ?_
  simp only [Act.put, List.setIfInBounds_toArray, List.set_cons_zero, List.set_cons_succ]
  refine wpAnyH_skip 4 rfl (by kernel_rfl) (by kernel_rfl) (by kernel_rfl) (fun d _ _ _ h => by cases d <;> exact h) (by rfl) (by assumption) ?_
  simp only [Act.put, List.setIfInBounds_toArray, List.set_cons_zero, List.set_cons_succ]
  refine wpAnyH_skip 5 rfl (by kernel_rfl) (by kernel_rfl) (by kernel_rfl) (fun d _ _ _ h => by cases d <;> exact h) (by rfl) (by assumption) ?_
  simp only [Act.put, List.setIfInBounds_toArray, List.set_cons_zero, List.set_cons_succ]
  refine wpAnyH_skip 6 rfl (by kernel_rfl) (by kernel_rfl) (by kernel_rfl) (fun d _ _ _ h => by cases d <;> exact h) (by rfl) (by assumption) ?_
  simp only [Act.put, List.setIfInBounds_toArray, List.set_cons_zero, List.set_cons_succ]
  refine wpAnyH_skip 7 rfl (by kernel_rfl) (by kernel_rfl) (by kernel_rfl) (fun d _ _ _ h => by cases d <;> exact h) (by rfl) (by assumption) ?_
  simp only [Act.put, List.setIfInBounds_toArray, List.set_cons_zero, List.set_cons_succ]
  refine wpAnyH_skip 8 rfl (by kernel_rfl) (by kernel_rfl) (by kernel_rfl) (fun d _ _ _ h => by cases d <;> exact h) (by rfl) (by assumption) ?_
  simp only [Act.put, List.setIfInBounds_toArray, List.set_cons_zero, List.set_cons_succ]
  refine wpAnyH_skip 9 rfl (by kernel_rfl) (by kernel_rfl) (by kernel_rfl) (fun d _ _ _ h => by cases d <;> exact h) (by rfl) (by assumption) ?_
  simp only [Act.put, List.setIfInBounds_toArray, List.set_cons_zero, List.set_cons_succ]
  refine wpAnyH_skip 10 rfl (by kernel_rfl) (by kernel_rfl) (by kernel_rfl) (fun d _ _ _ h => by cases d <;> exact h) (by rfl) (by assumption) ?_
  simp only [Act.put, List.setIfInBounds_toArray, List.set_cons_zero, List.set_cons_succ]
  refine wpAnyH_skip 11 rfl (by kernel_rfl) (by kernel_rfl) (by kernel_rfl) (fun d _ _ _ h => by cases d <;> exact h) (by rfl) (by assumption) ?_
  simp only [Act.put, List.setIfInBounds_toArray, List.set_cons_zero, List.set_cons_succ]
  refine wpAnyH_skip 12 rfl (by kernel_rfl) (by kernel_rfl) (by kernel_rfl) (fun d _ _ _ h => by cases d <;> exact h) (by rfl) (by assumption) ?_
  simp only [Act.put, List.setIfInBounds_toArray, List.set_cons_zero, List.set_cons_succ]
  refine wpAnyH_yield 13 (.bool true) rfl (by kernel_rfl) (by kernel_rfl) (by kernel_rfl) (fun d _ _ _ h => by cases d <;> exact h) (by rfl) (by assumption) (fun _ _ => by go_simp) ?_
  simp only [Act.put, List.setIfInBounds_toArray, List.set_cons_zero, List.set_cons_succ]
  refine wpAnyH_done (by kernel_rfl) ?_ _
  clear c0 c1 hb2
  go_wp2
  go_ret
  exact ⟨rfl, hk.2.2⟩

end Go.Proofs.Ytieehpajkidbcaa
