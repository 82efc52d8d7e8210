/- How entries are compared: cmp.Compare, cmp.Or, order, over any numbers. -/
import Derived.Test.YtfjhknmpolhfeaaRowK
import Derived.Test.YtfjhknmpolhfeaaHpMath
import Derived.Test.YtfjhknmpolhfeaaSkip
import Derived.Test.YtfjhknmpolhfeaaRest
import Derived.Sort.Grow
import Derived.WalkSpells
import Derived.WalkLawsBesides
import Derived.Below
import Derived.Deep.QuietTactic
import Derived.Shelf.SlSortCmp.QuietGrown
namespace Go.Proofs.Ytfjhknmpolhfeaa
open Go.RowKit Go.Sort

namespace Hp
/-- Two numbers are compared. -/
def cmp (a b : Int) : Int := if a < b then -1 else if b < a then 1 else 0
def cmpE (a b : En) : Int := if cmp a.t b.t ≠ 0 then cmp a.t b.t else cmp a.n b.n
theorem cmpE_lt (a b : En) : decide (cmpE a b < 0) = En.lt a b := by
  unfold cmpE cmp En.lt
  congr 1
  apply propext
  constructor
  · intro h; split at h <;> split at h <;> (try split at h) <;> (try split at h) <;> (try omega) <;> simp_all <;> omega
  · intro h; split <;> split <;> (try split) <;> (try split) <;> (try omega) <;> simp_all <;> omega
/-- An entry's cells. -/
def enc (a : En) : List Value := [.int .i64 a.t, .int .i64 a.c, .int .i64 a.s, .int .i64 a.g, .int .i64 a.x, .int .i64 a.n]
/-- .. and its alarm's. -/
def alarm (a : En) : List Value := [.int .i64 a.t, .int .i64 a.c, .int .i64 a.s, .int .i64 a.g, .int .i64 a.x]
end Hp

/-- Six cells of a block. -/
theorem six_cells {w : World} {B : Nat} {t : TypeId} {c0 c1 c2 c3 c4 c5 : Value} (h : w.heap[B]? = some (.cells #[c0, c1, c2, c3, c4, c5] t (0, 0))) :
    w.cell? ⟨B, 0, none⟩ = some c0 ∧ w.cell? ⟨B, 1, none⟩ = some c1 ∧ w.cell? ⟨B, 2, none⟩ = some c2 ∧ w.cell? ⟨B, 3, none⟩ = some c3 ∧ w.cell? ⟨B, 4, none⟩ = some c4 ∧ w.cell? ⟨B, 5, none⟩ = some c5 :=
  ⟨cell_of_row _ _ _ _ _ _ h, cell_of_row _ _ _ _ _ _ h, cell_of_row _ _ _ _ _ _ h, cell_of_row _ _ _ _ _ _ h, cell_of_row _ _ _ _ _ _ h, cell_of_row _ _ _ _ _ _ h⟩
theorem nan_tick (a : Int) (w : World) : Calls Try.prog 37 #[.int .i64 a] w fun e w' => e = .returned (.bool false) ∧ w = w' := by
  go_enter Try.func37, Try.ntmps37
  go_wp2
  go_ret
  exact ⟨retb (by simp), rfl⟩
theorem nan_int (a : Int) (w : World) : Calls Try.prog 38 #[.int .i64 a] w fun e w' => e = .returned (.bool false) ∧ w = w' := by
  go_enter Try.func38, Try.ntmps38
  go_wp2
  go_ret
  exact ⟨retb (by simp), rfl⟩
theorem cmp_tick (a b : Int) (w : World) : Calls Try.prog 25 #[.int .i64 a, .int .i64 b] w fun e w' => e = .returned (.int .i64 (Hp.cmp a b)) ∧ w = w' := by
  go_enter Try.func25, Try.ntmps25
  go_wp2_with (go_at_call 37; refine (nan_tick _ _).mono ?_; rintro e w' ⟨rfl, rfl⟩)
  all_goals go_ret
  all_goals exact ⟨reti (by unfold Hp.cmp; (repeat' split) <;> omega), rfl⟩
theorem cmp_int (a b : Int) (w : World) : Calls Try.prog 26 #[.int .i64 a, .int .i64 b] w fun e w' => e = .returned (.int .i64 (Hp.cmp a b)) ∧ w = w' := by
  go_enter Try.func26, Try.ntmps26
  go_wp2_with (go_at_call 38; refine (nan_int _ _).mono ?_; rintro e w' ⟨rfl, rfl⟩)
  all_goals go_ret
  all_goals exact ⟨reti (by unfold Hp.cmp; (repeat' split) <;> omega), rfl⟩
/-- The first of two that is not 0. -/
theorem or_two (a b : Int) (g : Nat) (w : World) (c0 : w.cell? ⟨g, 0, none⟩ = some (.int .i64 a)) (c1 : w.cell? ⟨g, 1, none⟩ = some (.int .i64 b)) :
    Calls Try.prog 24 #[.slice (some ⟨g, 0, none⟩) 2 2] w fun e w' => e = .returned (.int .i64 (if a ≠ 0 then a else b)) ∧ w = w' := by
  go_enter Try.func24, Try.ntmps24
  go_wp2
  go_loopw [8] (fun v wr => wr = w ∧ (v = .int .i64 0 ∨ (v = .int .i64 1 ∧ a = 0) ∨ (v = .int .i64 2 ∧ a = 0 ∧ b = 0))) (fun v _ => 2 - (intOf v).toNat)
  case atStart => exact ⟨rfl, .inl rfl⟩
  case round =>
    obtain ⟨rfl, h⟩ := hrel
    rcases h with rfl | ⟨rfl, rfl⟩ | ⟨rfl, rfl, rfl⟩
    · by_cases ha : a = 0
      · subst ha
        go_wp2
        exact ⟨⟨trivial, .inr (.inl ⟨rfl, trivial⟩)⟩, by simp [intOf]⟩
      · go_wp2
        go_ret
        exact ⟨reti (by simp), rfl⟩
    · by_cases hb : b = 0
      · subst hb
        go_wp2
        exact ⟨⟨trivial, .inr (.inr ⟨rfl, trivial, trivial⟩)⟩, by simp [intOf]⟩
      · go_wp2
        go_ret
        exact ⟨reti (by simp), rfl⟩
    · go_wp2
      go_ret
      exact ⟨reti (by simp), rfl⟩

theorem grown_three (w : World) (a b c : Obj) : (((w.alloc a).alloc b).drew).alloc c = grow (w.drewN 1) #[a, b, c] := by
  rw [alloc_eq_grow w, alloc_eq_grow (grow w _), grow_grow, drew_grow, alloc_eq_grow, grow_grow]; rfl
set_option maxHeartbeats 1000000 in
/-- Which of two entries comes first: below 0, the first one. -/
theorem order_any (a b : En) (w : World) : Calls Try.prog 19 #[.agg (Hp.enc a).toArray, .agg (Hp.enc b).toArray] w fun e w' => e = .returned (.int .i64 (Hp.cmpE a b)) ∧ ∃ q os, w' = grow (w.drewN q) os := by
  obtain ⟨p1, p2, p3, p4, p5, p6⟩ := a
  obtain ⟨r1, r2, r3, r4, r5, r6⟩ := b
  simp only [Hp.enc]
  have hr : Hp.cmpE ⟨p1, p2, p3, p4, p5, p6⟩ ⟨r1, r2, r3, r4, r5, r6⟩ = if Hp.cmp p1 r1 ≠ 0 then Hp.cmp p1 r1 else Hp.cmp p6 r6 := rfl
  rw [hr]
  clear hr
  have hc1 := fun w => cmp_tick p1 r1 w
  have hc2 := fun w => cmp_int p6 r6 w
  generalize Hp.cmp p1 r1 = u1 at hc1 ⊢
  generalize Hp.cmp p6 r6 = u2 at hc2 ⊢
  generalize hR : (if u1 ≠ 0 then u1 else u2) = r
  have HR := Lib.hid hR
  clear hR
  have b1 : (w.alloc (.cells #[.int .i64 p1, .int .i64 p2, .int .i64 p3, .int .i64 p4, .int .i64 p5, .int .i64 p6] 47)).heap[w.heap.size]? = some (.cells #[.int .i64 p1, .int .i64 p2, .int .i64 p3, .int .i64 p4, .int .i64 p5, .int .i64 p6] 47 (0, 0)) := heap_alloc_new _ _
  have b2 : ((w.alloc (.cells #[.int .i64 p1, .int .i64 p2, .int .i64 p3, .int .i64 p4, .int .i64 p5, .int .i64 p6] 47)).alloc (.cells #[.int .i64 r1, .int .i64 r2, .int .i64 r3, .int .i64 r4, .int .i64 r5, .int .i64 r6] 47)).heap[w.heap.size]? = some (.cells #[.int .i64 p1, .int .i64 p2, .int .i64 p3, .int .i64 p4, .int .i64 p5, .int .i64 p6] 47 (0, 0)) := (Below.heap_alloc _ _ _ (by simp)).trans b1
  have b3 : ((w.alloc (.cells #[.int .i64 p1, .int .i64 p2, .int .i64 p3, .int .i64 p4, .int .i64 p5, .int .i64 p6] 47)).alloc (.cells #[.int .i64 r1, .int .i64 r2, .int .i64 r3, .int .i64 r4, .int .i64 r5, .int .i64 r6] 47)).heap[w.heap.size + 1]? = some (.cells #[.int .i64 r1, .int .i64 r2, .int .i64 r3, .int .i64 r4, .int .i64 r5, .int .i64 r6] 47 (0, 0)) := by
    have := heap_alloc_new (w.alloc (.cells #[.int .i64 p1, .int .i64 p2, .int .i64 p3, .int .i64 p4, .int .i64 p5, .int .i64 p6] 47)) (.cells #[.int .i64 r1, .int .i64 r2, .int .i64 r3, .int .i64 r4, .int .i64 r5, .int .i64 r6] 47)
    simpa using this
  obtain ⟨c0, -, -, -, -, c1⟩ := six_cells b2
  obtain ⟨d0, -, -, -, -, d1⟩ := six_cells b3
  clear b1 b2 b3
  go_enter Try.func19, Try.ntmps19
  go_wp2_with fail
  refine wp_region_held_drew (S := fun w' => w'.cell? ⟨w.heap.size, 0, none⟩ = some (.int .i64 p1) ∧ w'.cell? ⟨w.heap.size, 5, none⟩ = some (.int .i64 p6) ∧ w'.cell? ⟨w.heap.size + 1, 0, none⟩ = some (.int .i64 r1) ∧ w'.cell? ⟨w.heap.size + 1, 5, none⟩ = some (.int .i64 r6)) (by kernel_rfl) ⟨c0, c1, d0, d1⟩ (fun hHeld => ?_)
  clear c0 c1 d0 d1
  generalize hwd : World.drew _ = wd at hHeld ⊢
  refine wpAnyH_yield 0 (.pointer (some ⟨w.heap.size, 0, none⟩)) rfl (by kernel_rfl) (by kernel_rfl) (by kernel_rfl) (fun d _ _ _ h => by cases d <;> exact h) (by rfl) (by assumption) (fun _ _ => by go_simp) ?_
  simp only [Act.put, List.setIfInBounds_toArray, List.set_cons_zero, List.set_cons_succ]
  refine wpAnyH_yield 1 (.pointer (some ⟨w.heap.size, 0, none⟩)) rfl (by kernel_rfl) (by kernel_rfl) (by kernel_rfl) (fun d _ _ _ h => by cases d <;> exact h) (by rfl) (by assumption) (fun _ _ => by go_simp) ?_
  simp only [Act.put, List.setIfInBounds_toArray, List.set_cons_zero, List.set_cons_succ]
  refine wpAnyH_yield 2 (.int .i64 p1) rfl (by kernel_rfl) (by kernel_rfl) (by kernel_rfl) (fun d _ _ _ h => by cases d <;> exact h) (by rfl) (by assumption) (fun _ hSw => by (try dsimp only at hSw); go_simp) ?_
  simp only [Act.put, List.setIfInBounds_toArray, List.set_cons_zero, List.set_cons_succ]
  refine wpAnyH_yield 3 (.pointer (some ⟨w.heap.size + 1, 0, none⟩)) rfl (by kernel_rfl) (by kernel_rfl) (by kernel_rfl) (fun d _ _ _ h => by cases d <;> exact h) (by rfl) (by assumption) (fun _ _ => by go_simp) ?_
  simp only [Act.put, List.setIfInBounds_toArray, List.set_cons_zero, List.set_cons_succ]
  refine wpAnyH_yield 4 (.pointer (some ⟨w.heap.size + 1, 0, none⟩)) rfl (by kernel_rfl) (by kernel_rfl) (by kernel_rfl) (fun d _ _ _ h => by cases d <;> exact h) (by rfl) (by assumption) (fun _ _ => by go_simp) ?_
  simp only [Act.put, List.setIfInBounds_toArray, List.set_cons_zero, List.set_cons_succ]
  refine wpAnyH_yield 5 (.int .i64 r1) rfl (by kernel_rfl) (by kernel_rfl) (by kernel_rfl) (fun d _ _ _ h => by cases d <;> exact h) (by rfl) (by assumption) (fun _ hSw => by (try dsimp only at hSw); go_simp) ?_
  simp only [Act.put, List.setIfInBounds_toArray, List.set_cons_zero, List.set_cons_succ]
  refine wpAnyH_yield 7 (.pointer (some ⟨w.heap.size, 5, none⟩)) rfl (by kernel_rfl) (by kernel_rfl) (by kernel_rfl) (fun d _ _ _ h => by cases d <;> exact h) (by rfl) (by assumption) (fun _ _ => by go_simp) ?_
  simp only [Act.put, List.setIfInBounds_toArray, List.set_cons_zero, List.set_cons_succ]
  refine wpAnyH_yield 8 (.int .i64 p6) rfl (by kernel_rfl) (by kernel_rfl) (by kernel_rfl) (fun d _ _ _ h => by cases d <;> exact h) (by rfl) (by assumption) (fun _ hSw => by (try dsimp only at hSw); go_simp) ?_
  simp only [Act.put, List.setIfInBounds_toArray, List.set_cons_zero, List.set_cons_succ]
  refine wpAnyH_yield 9 (.pointer (some ⟨w.heap.size + 1, 5, none⟩)) rfl (by kernel_rfl) (by kernel_rfl) (by kernel_rfl) (fun d _ _ _ h => by cases d <;> exact h) (by rfl) (by assumption) (fun _ _ => by go_simp) ?_
  simp only [Act.put, List.setIfInBounds_toArray, List.set_cons_zero, List.set_cons_succ]
  refine wpAnyH_yield 10 (.int .i64 r6) rfl (by kernel_rfl) (by kernel_rfl) (by kernel_rfl) (fun d _ _ _ h => by cases d <;> exact h) (by rfl) (by assumption) (fun _ hSw => by (try dsimp only at hSw); go_simp) ?_
  simp only [Act.put, List.setIfInBounds_toArray, List.set_cons_zero, List.set_cons_succ]
  refine wpAnyH_ready (rs := [6]) (by kernel_rfl) (by simp) (AllReadyH.cons rfl (fun K hK => ?_) AllReadyH.nil)
  go_simp
  go_at_call 25
  refine (hc1 _).mono ?_
  rintro e w3 ⟨rfl, rfl⟩
  refine hK.out _ _ (hHeld) (fun hHeld => ?_)
  clear hK K
  try simp only [Act.put, List.setIfInBounds_toArray, List.set_cons_zero, List.set_cons_succ]
  refine wpAnyH_ready (rs := [11]) (by kernel_rfl) (by simp) (AllReadyH.cons rfl (fun K hK => ?_) AllReadyH.nil)
  go_simp
  go_at_call 26
  refine (hc2 _).mono ?_
  rintro e w3 ⟨rfl, rfl⟩
  refine hK.out _ _ (hHeld) (fun hHeld => ?_)
  clear hK K
  try simp only [Act.put, List.setIfInBounds_toArray, List.set_cons_zero, List.set_cons_succ]
  refine wpAnyH_ready (rs := [12]) (by kernel_rfl) (by simp) (AllReadyH.cons rfl (fun K hK => ?_) AllReadyH.nil)
  go_simp
  have hsz : wd.heap.size = w.heap.size + 2 := by rw [← hwd]; simp [World.drew]
  have hB : Below wd.heap.size wd (wd.alloc (.cells #[.int .i64 u1, .int .i64 u2] 3)) := (Below.refl _ _).alloc (Nat.le_refl _) _
  have e0 : (wd.alloc (.cells #[.int .i64 u1, .int .i64 u2] 3)).cell? ⟨wd.heap.size, 0, none⟩ = some (.int .i64 u1) := cell_two_new wd _ _ _ 0 _ rfl
  have e1 : (wd.alloc (.cells #[.int .i64 u1, .int .i64 u2] 3)).cell? ⟨wd.heap.size, 1, none⟩ = some (.int .i64 u2) := cell_two_new wd _ _ _ 1 _ rfl
  refine hK.out _ _ ((by obtain ⟨k0, k1, k2, k3⟩ := hHeld; refine ⟨?_, ?_, ?_, ?_⟩ <;> rw [hB.cell (by simp [hsz])] <;> assumption)) (fun hHeld => ?_)
  clear hK K
  try simp only [Act.put, List.setIfInBounds_toArray, List.set_cons_zero, List.set_cons_succ]
  generalize hw5 : wd.alloc _ = w5 at hHeld e0 e1 ⊢
  have hor := or_two u1 u2 _ _ e0 e1
  rw [HR.out] at hor
  have HW := Lib.hid hw5
  have HD := Lib.hid hwd
  clear e0 e1 hB hsz hc1 hc2 hw5 hwd
  refine wpAnyH_ready (rs := [13]) (by kernel_rfl) (by simp) (AllReadyH.cons rfl (fun K hK => ?_) AllReadyH.nil)
  go_simp
  go_at_call 24
  refine hor.mono ?_
  rintro e w3 ⟨rfl, rfl⟩
  refine hK.out _ _ (hHeld) (fun hHeld => ?_)
  clear hK K
  try simp only [Act.put, List.setIfInBounds_toArray, List.set_cons_zero, List.set_cons_succ]
  refine wpAnyH_yield 14 (.int .i64 r) rfl (by kernel_rfl) (by kernel_rfl) (by kernel_rfl) (fun d _ _ _ h => by cases d <;> exact h) (by rfl) (by assumption) (fun _ _ => by go_simp) ?_
  simp only [Act.put, List.setIfInBounds_toArray, List.set_cons_zero, List.set_cons_succ]
  refine wpAnyH_done (by kernel_rfl) ?_ _
  go_wp2
  go_ret
  refine ⟨rfl, 1, ?_⟩
  rw [← HW.out, ← HD.out]
  exact ⟨_, grown_three _ _ _ _⟩
end Go.Proofs.Ytfjhknmpolhfeaa
