/- The time goes on: a round's places are laid anew. -/
import Derived.Test.YtcjidobdbdfjlaaWhD
namespace Go.Proofs.Ytcjidobdbdfjlaa
open Go.RowKit Go.Sort

namespace Wh
/-- Those of each time lie where they belong by now, or where they lay, in a place that was not passed by. -/
def Moves (now : Int) (vis : Nat → Prop) (loc loc' : Int → Nat) : Prop := ∀ t, loc' t = home now t ∨ (loc' t = loc t ∧ ¬ vis (loc t))
theorem Moves.refl (now : Int) (loc : Int → Nat) : Moves now (fun _ => False) loc loc := fun _ => .inr ⟨rfl, fun h => h⟩
theorem Moves.trans {now : Int} {v1 v2 : Nat → Prop} {l l1 l2 : Int → Nat} (h : Moves now v1 l l1) (k : Moves now v2 l1 l2) : Moves now (fun q => v1 q ∨ v2 q) l l2 := fun t => by
  rcases k t with k | ⟨k1, k2⟩
  · exact .inl k
  · rcases h t with h | ⟨h1, h2⟩
    · exact .inl (k1.trans h)
    · refine .inr ⟨k1.trans h1, fun o => ?_⟩
      rcases o with o | o
      · exact h2 o
      · rw [h1] at k2; exact k2 o
theorem Moves.mono {now : Int} {v1 v2 : Nat → Prop} {l l1 : Int → Nat} (h : Moves now v1 l l1) (hv : ∀ q, v2 q → v1 q) : Moves now v2 l l1 := fun t => by
  rcases h t with h | ⟨h1, h2⟩
  · exact .inl h
  · exact .inr ⟨h1, fun o => h2 (hv _ o)⟩
theorem Moves.again (now : Int) (q : Nat) (loc : Int → Nat) : Moves now (fun r => r = q) loc (fun t => if loc t = q then home now t else loc t) := fun t => by
  by_cases e : loc t = q
  · exact .inl (if_pos e)
  · exact .inr ⟨if_neg e, e⟩
theorem spread_again {M : List En} (h : Asc M) (loc : Int → Nat) (now : Int) (q : Nat) : part (spread M loc) (home now) q (spread M loc q) (spread M loc q).length = spread M (fun t => if loc t = q then home now t else loc t) := part_end h loc (home now) q
end Wh

set_option maxHeartbeats 2000000 in
set_option maxRecDepth 100000 in
theorem pass0_any {B P : Nat} {w : World} {now was : Int} {M : List En} {loc : Int → Nat} {V : Nat → Value} {K : List Nat} (h : Whl B w P now (Wh.spread M loc) V K) (w0 : 0 ≤ was) (w1 : was ≤ now) (n1 : now < 1099511627776) (ha : Wh.Asc M) (hl : M.length ≤ 300) (ht : ∀ a ∈ M, 0 ≤ a.t ∧ a.t < 1099511627776) :
    Calls Try.prog 19 #[.pointer (some ⟨P, 0, none⟩), .int .i64 0, .int .i64 1, .int .i64 was] w fun e w' => e = .returned (.tuple #[]) ∧ ∃ V' loc', Wh.Moves now (fun r => ∃ k : Nat, (k : Int) < min (now / 1 - was / 1) 16 ∧ r = 1 + ((now - k * 1) / 1 % 16).toNat) loc loc' ∧ Whl B w' P now (Wh.spread M loc') V' K ∧ Rest (fun k => B ≤ k ∧ k ∉ K) w w' := by
  have mixed : Try.prog.follows .mixedOrders = true := by kernel_rfl
  have c0 := h.cell0
  have q1 : now.tdiv 1 = now := by rw [Int.tdiv_eq_ediv_of_nonneg (by omega)]; omega
  have q2 : was.tdiv 1 = was := by rw [Int.tdiv_eq_ediv_of_nonneg w0]; omega
  obtain ⟨m, hm⟩ : ∃ m : Nat, (m : Int) = min (now / 1 - was / 1) 16 := ⟨(min (now / 1 - was / 1) 16).toNat, by omega⟩
  have HM := Lib.hid hm
  rw [← hm]
  have u1 : IntKind.i64.wrap (now) = now := by rw [IntKind.wrap_i64]; omega
  have u2 : IntKind.i64.wrap (was) = was := by rw [IntKind.wrap_i64]; omega
  have u3 : IntKind.i64.wrap (now - was) = now - was := by rw [IntKind.wrap_i64]; omega
  have m16 : m ≤ 16 := by omega
  have hif : (if 16 < now - was then 16 else now - was) = (m : Int) := by split <;> omega
  have hif2 : min (now - was) 16 = (m : Int) := by omega
  have HW := Lib.hid h
  have HA := Lib.hid ha
  have HL := Lib.hid hl
  have HT := Lib.hid ht
  have H0 := Lib.hid (⟨w0, w1, n1⟩ : 0 ≤ was ∧ was ≤ now ∧ now < 1099511627776)
  clear h ha hl ht hm w0 w1 n1
  go_enter Try.func19, Try.ntmps19
  go_wp2_with fail
  refine wp_region_held_drew (S := fun w' => w'.cell? ⟨P, 0, none⟩ = some (.int .i64 now)) (by kernel_rfl) c0 (fun hHeld => ?_)
  have HWd := Lib.hid (HW.out.past (Rest.drew (fun _ => False) _))
  have HRd : Hid (Rest (fun _ => False) w w.drew) := Lib.hid (Rest.drew (fun _ => False) _)
  clear c0 HW
  generalize w.drew = wd at HWd HRd hHeld ⊢
  refine wpAnyH_yield 0 (.pointer (some ⟨P, 0, none⟩)) rfl (by kernel_rfl) (by kernel_rfl) (by kernel_rfl) (fun d _ _ _ h => by cases d <;> exact h) (by rfl) (by assumption) (fun _ _ => by go_simp) ?_
  simp only [Act.put, List.setIfInBounds_toArray, List.set_cons_zero, List.set_cons_succ]
  refine wpAnyH_yield 1 (.pointer (some ⟨P, 0, none⟩)) rfl (by kernel_rfl) (by kernel_rfl) (by kernel_rfl) (fun d _ _ _ h => by cases d <;> exact h) (by rfl) (by assumption) (fun _ _ => by go_simp) ?_
  simp only [Act.put, List.setIfInBounds_toArray, List.set_cons_zero, List.set_cons_succ]
  refine wpAnyH_yield 2 (.pointer (some ⟨P, 0, none⟩)) rfl (by kernel_rfl) (by kernel_rfl) (by kernel_rfl) (fun d _ _ _ h => by cases d <;> exact h) (by rfl) (by assumption) (fun _ _ => by go_simp) ?_
  simp only [Act.put, List.setIfInBounds_toArray, List.set_cons_zero, List.set_cons_succ]
  refine wpAnyH_yield 3 (.int .i64 now) rfl (by kernel_rfl) (by kernel_rfl) (by kernel_rfl) (fun d _ _ _ h => by cases d <;> exact h) (by rfl) (by assumption) (fun _ hSw => by (try dsimp only at hSw); go_simp) ?_
  simp only [Act.put, List.setIfInBounds_toArray, List.set_cons_zero, List.set_cons_succ]
  refine wpAnyH_yield 4 (.int .i64 1) rfl (by kernel_rfl) (by kernel_rfl) (by kernel_rfl) (fun d _ _ _ h => by cases d <;> exact h) (by rfl) (by assumption) (fun _ _ => by go_simp) ?_
  simp only [Act.put, List.setIfInBounds_toArray, List.set_cons_zero, List.set_cons_succ]
  refine wpAnyH_yield 5 (.int .i64 (now)) rfl (by kernel_rfl) (by kernel_rfl) (by kernel_rfl) (fun d _ _ _ h => by cases d <;> exact h) (by rfl) (by assumption) (fun _ _ => by go_simp) ?_
  simp only [Act.put, List.setIfInBounds_toArray, List.set_cons_zero, List.set_cons_succ]
  refine wpAnyH_yield 6 (.int .i64 was) rfl (by kernel_rfl) (by kernel_rfl) (by kernel_rfl) (fun d _ _ _ h => by cases d <;> exact h) (by rfl) (by assumption) (fun _ _ => by go_simp) ?_
  simp only [Act.put, List.setIfInBounds_toArray, List.set_cons_zero, List.set_cons_succ]
  refine wpAnyH_yield 7 (.int .i64 1) rfl (by kernel_rfl) (by kernel_rfl) (by kernel_rfl) (fun d _ _ _ h => by cases d <;> exact h) (by rfl) (by assumption) (fun _ _ => by go_simp) ?_
  simp only [Act.put, List.setIfInBounds_toArray, List.set_cons_zero, List.set_cons_succ]
  refine wpAnyH_yield 8 (.int .i64 (was)) rfl (by kernel_rfl) (by kernel_rfl) (by kernel_rfl) (fun d _ _ _ h => by cases d <;> exact h) (by rfl) (by assumption) (fun _ _ => by go_simp) ?_
  simp only [Act.put, List.setIfInBounds_toArray, List.set_cons_zero, List.set_cons_succ]
  refine wpAnyH_yield 9 (.int .i64 (now - was)) rfl (by kernel_rfl) (by kernel_rfl) (by kernel_rfl) (fun d _ _ _ h => by cases d <;> exact h) (by rfl) (by assumption) (fun _ _ => by go_simp) ?_
  simp only [Act.put, List.setIfInBounds_toArray, List.set_cons_zero, List.set_cons_succ]
  refine wpAnyH_yield 10 (.int .i64 (m : Nat)) rfl (by kernel_rfl) (by kernel_rfl) (by kernel_rfl) (fun d _ _ _ h => by cases d <;> exact h) (by rfl) (by assumption) (fun _ _ => by go_simp) ?_
  simp only [Act.put, List.setIfInBounds_toArray, List.set_cons_zero, List.set_cons_succ]
  refine wpAnyH_yield 11 (.int .i64 0) rfl (by kernel_rfl) (by kernel_rfl) (by kernel_rfl) (fun d _ _ _ h => by cases d <;> exact h) (by rfl) (by assumption) (fun _ _ => by go_simp) ?_
  simp only [Act.put, List.setIfInBounds_toArray, List.set_cons_zero, List.set_cons_succ]
  refine wpAnyH_done (by kernel_rfl) ?_ _
  clear q1 q2 u1 u2 u3 hif hif2 hHeld
  go_wp2_with fail
  go_loopg [20] (20 : Nat) (fun g1 s20 wr => ∃ (k : Nat) (V' : Nat → Value) (loc' : Int → Nat), s20 = .int .i64 k ∧ k ≤ m ∧ 20 - k ≤ g1 ∧ Hid (Wh.Moves now (fun r => ∃ i : Nat, i < k ∧ r = 1 + ((now - i * 1) / 1 % 16).toNat) loc loc' ∧ Whl B wr P now (Wh.spread M loc') V' K ∧ Rest (fun k => B ≤ k ∧ k ∉ K) w wr))
  case atStart => exact ⟨0, _, loc, rfl, Nat.zero_le _, by omega, ⟨(Wh.Moves.refl now loc).mono (fun q ⟨i, hi, _⟩ => absurd hi (Nat.not_lt_zero _)), HWd.out, HRd.out.mono (fun _ _ => False.elim)⟩⟩
  case round =>
    obtain ⟨k, V', loc', rfl, hk, hg, HI⟩ := hrel
    clear HWd HRd
    by_cases hlt : k < m
    · have hlt' : (k : Int) < (m : Int) := by omega
      have hs := slot_any (now - (k : Int)) 1 (by decide) (by decide)
      have hmm := HM.out
      obtain ⟨z0, z1, z2⟩ := H0.out
      rw [Tk.clamp_in (by omega) (by omega)] at hs
      obtain ⟨s, hsd⟩ : ∃ s : Nat, (s : Int) = (now - (k : Int) * 1) / 1 % 16 := ⟨((now - (k : Int) * 1) / 1 % 16).toNat, by omega⟩
      have hs16 : s < 16 := by omega
      have hs16' : (s : Int) < 16 := by omega
      rw [show (now - (k : Int)) / 1 % 16 = (now - (k : Int) * 1) / 1 % 16 by omega, ← hsd] at hs
      have HS := Lib.hid hs
      have HSd := Lib.hid (show s = ((now - (k : Int) * 1) / 1 % 16).toNat by omega)
      have v1 : IntKind.i64.wrap ((k : Int)) = (k : Int) := by rw [IntKind.wrap_i64]; omega
      have v2 : IntKind.i64.wrap (now - (k : Int)) = now - (k : Int) := by rw [IntKind.wrap_i64]; omega
      have hw1 : IntKind.i64.wrap ((k : Int) + 1) = (k : Int) + 1 := by rw [IntKind.wrap_i64]; omega
      clear hs hsd hmm z0 z1 z2
      have c0 := HI.out.2.1.cell0
      go_wp2_with fail
      refine wp_region_held_drew (S := fun w' => w'.cell? ⟨P, 0, none⟩ = some (.int .i64 now)) (by kernel_rfl) c0 (fun hHeld => ?_)
      have HWr := Lib.hid (HI.out.2.1.past (Rest.drew (fun _ => False) _))
      have HRr : Hid (Rest (fun k => B ≤ k ∧ k ∉ K) w wr.drew) := Lib.hid (HI.out.2.2.trans (o3 := fun k => B ≤ k ∧ k ∉ K) (Rest.drew (fun _ => False) _) (fun _ _ => id) (fun _ _ => False.elim))
      clear c0
      generalize wr.drew = wx at HWr HRr hHeld ⊢
      refine wpAnyH_yield 0 (.pointer (some ⟨P, 0, none⟩)) rfl (by kernel_rfl) (by kernel_rfl) (by kernel_rfl) (fun d _ _ _ h => by cases d <;> exact h) (by rfl) (by assumption) (fun _ _ => by go_simp) ?_
      simp only [Act.put, List.setIfInBounds_toArray, List.set_cons_zero, List.set_cons_succ]
      refine wpAnyH_yield 1 (.pointer (some ⟨P, 0, none⟩)) rfl (by kernel_rfl) (by kernel_rfl) (by kernel_rfl) (fun d _ _ _ h => by cases d <;> exact h) (by rfl) (by assumption) (fun _ _ => by go_simp) ?_
      simp only [Act.put, List.setIfInBounds_toArray, List.set_cons_zero, List.set_cons_succ]
      refine wpAnyH_yield 2 (.int .i64 0) rfl (by kernel_rfl) (by kernel_rfl) (by kernel_rfl) (fun d _ _ _ h => by cases d <;> exact h) (by rfl) (by assumption) (fun _ _ => by go_simp) ?_
      simp only [Act.put, List.setIfInBounds_toArray, List.set_cons_zero, List.set_cons_succ]
      refine wpAnyH_yield 3 (.pointer (some ⟨P, 0, none⟩)) rfl (by kernel_rfl) (by kernel_rfl) (by kernel_rfl) (fun d _ _ _ h => by cases d <;> exact h) (by rfl) (by assumption) (fun _ _ => by go_simp) ?_
      simp only [Act.put, List.setIfInBounds_toArray, List.set_cons_zero, List.set_cons_succ]
      refine wpAnyH_yield 4 (.pointer (some ⟨P, 0, none⟩)) rfl (by kernel_rfl) (by kernel_rfl) (by kernel_rfl) (fun d _ _ _ h => by cases d <;> exact h) (by rfl) (by assumption) (fun _ _ => by go_simp) ?_
      simp only [Act.put, List.setIfInBounds_toArray, List.set_cons_zero, List.set_cons_succ]
      refine wpAnyH_yield 5 (.pointer (some ⟨P, 0, none⟩)) rfl (by kernel_rfl) (by kernel_rfl) (by kernel_rfl) (fun d _ _ _ h => by cases d <;> exact h) (by rfl) (by assumption) (fun _ _ => by go_simp) ?_
      simp only [Act.put, List.setIfInBounds_toArray, List.set_cons_zero, List.set_cons_succ]
      refine wpAnyH_yield 6 (.int .i64 now) rfl (by kernel_rfl) (by kernel_rfl) (by kernel_rfl) (fun d _ _ _ h => by cases d <;> exact h) (by rfl) (by assumption) (fun _ hSw => by (try dsimp only at hSw); go_simp) ?_
      simp only [Act.put, List.setIfInBounds_toArray, List.set_cons_zero, List.set_cons_succ]
      refine wpAnyH_yield 7 (.int .i64 (k : Nat)) rfl (by kernel_rfl) (by kernel_rfl) (by kernel_rfl) (fun d _ _ _ h => by cases d <;> exact h) (by rfl) (by assumption) (fun _ _ => by go_simp) ?_
      simp only [Act.put, List.setIfInBounds_toArray, List.set_cons_zero, List.set_cons_succ]
      refine wpAnyH_yield 8 (.int .i64 1) rfl (by kernel_rfl) (by kernel_rfl) (by kernel_rfl) (fun d _ _ _ h => by cases d <;> exact h) (by rfl) (by assumption) (fun _ _ => by go_simp) ?_
      simp only [Act.put, List.setIfInBounds_toArray, List.set_cons_zero, List.set_cons_succ]
      refine wpAnyH_yield 9 (.int .i64 ((k : Int))) rfl (by kernel_rfl) (by kernel_rfl) (by kernel_rfl) (fun d _ _ _ h => by cases d <;> exact h) (by rfl) (by assumption) (fun _ _ => by go_simp) ?_
      simp only [Act.put, List.setIfInBounds_toArray, List.set_cons_zero, List.set_cons_succ]
      refine wpAnyH_yield 10 (.int .i64 (now - (k : Int))) rfl (by kernel_rfl) (by kernel_rfl) (by kernel_rfl) (fun d _ _ _ h => by cases d <;> exact h) (by rfl) (by assumption) (fun _ _ => by go_simp) ?_
      simp only [Act.put, List.setIfInBounds_toArray, List.set_cons_zero, List.set_cons_succ]
      refine wpAnyH_yield 11 (.int .i64 1) rfl (by kernel_rfl) (by kernel_rfl) (by kernel_rfl) (fun d _ _ _ h => by cases d <;> exact h) (by rfl) (by assumption) (fun _ _ => by go_simp) ?_
      simp only [Act.put, List.setIfInBounds_toArray, List.set_cons_zero, List.set_cons_succ]
      refine wpAnyH_yield 13 (.pointer (some ⟨P, 0, none⟩)) rfl (by kernel_rfl) (by kernel_rfl) (by kernel_rfl) (fun d _ _ _ h => by cases d <;> exact h) (by rfl) (by assumption) (fun _ _ => by go_simp) ?_
      simp only [Act.put, List.setIfInBounds_toArray, List.set_cons_zero, List.set_cons_succ]
      refine wpAnyH_yield 14 (.pointer (some ⟨P, 2, none⟩)) rfl (by kernel_rfl) (by kernel_rfl) (by kernel_rfl) (fun d _ _ _ h => by cases d <;> exact h) (by rfl) (by assumption) (fun _ _ => by go_simp) ?_
      simp only [Act.put, List.setIfInBounds_toArray, List.set_cons_zero, List.set_cons_succ]
      refine wpAnyH_yield 15 (.pointer (some ⟨P, 2, none⟩)) rfl (by kernel_rfl) (by kernel_rfl) (by kernel_rfl) (fun d _ _ _ h => by cases d <;> exact h) (by rfl) (by assumption) (fun _ _ => by go_simp) ?_
      simp only [Act.put, List.setIfInBounds_toArray, List.set_cons_zero, List.set_cons_succ]
      refine wpAnyH_ready (rs := [12]) (by kernel_rfl) (by simp) (AllReadyH.cons rfl (fun K hK => ?_) AllReadyH.nil)
      go_simp
      go_at_call 29
      refine (HS.out _).mono ?_
      rintro e w3 ⟨rfl, rfl⟩
      refine hK.out _ _ (hHeld) (fun hHeld => ?_)
      clear hK K
      try simp only [Act.put, List.setIfInBounds_toArray, List.set_cons_zero, List.set_cons_succ]
      refine wpAnyH_yield 16 (.pointer (some ⟨P, 2 + s, none⟩)) rfl (by kernel_rfl) (by kernel_rfl) (by kernel_rfl) (fun d _ _ _ h => by cases d <;> exact h) (by rfl) (by assumption) (fun _ _ => by go_simp) ?_
      simp only [Act.put, List.setIfInBounds_toArray, List.set_cons_zero, List.set_cons_succ]
      refine wpAnyH_ready (rs := [17]) (by kernel_rfl) (by simp) (AllReadyH.cons rfl (fun K hK => ?_) AllReadyH.nil)
      go_simp
      rw [show 2 + s = (1 + s) + 1 by omega]
      go_at_call 20
      refine (again_any HWr.out (q := 1 + s) (by omega) (by have := H0.out; omega) H0.out.2.2 (fun r => Wh.asc_spread HA.out _ _) (fun r => Nat.le_trans (Wh.spread_le _ _ _) HL.out) (fun a ha => HT.out a (Wh.spread_mem.1 ha).1)).mono ?_
      rintro e w4 ⟨rfl, V2, hW4, hR4⟩
      rw [Wh.spread_again HA.out] at hW4
      refine hK.out _ _ (hW4.cell0) (fun hHeld => ?_)
      clear hK K
      try simp only [Act.put, List.setIfInBounds_toArray, List.set_cons_zero, List.set_cons_succ]
      refine wpAnyH_done (by kernel_rfl) ?_ _
      have HE : Hid (Wh.Moves now (fun r => ∃ i : Nat, i < k + 1 ∧ r = 1 + ((now - i * 1) / 1 % 16).toNat) loc (fun t => if loc' t = 1 + s then Wh.home now t else loc' t) ∧ Whl B w4 P now (Wh.spread M (fun t => if loc' t = 1 + s then Wh.home now t else loc' t)) V2 K ∧ Rest (fun k => B ≤ k ∧ k ∉ K) w w4) :=
        Lib.hid ⟨(HI.out.1.trans (Wh.Moves.again now (1 + s) loc')).mono (fun r ⟨i, hi, hr⟩ => by
          by_cases e : i < k
          · exact .inl ⟨i, e, hr⟩
          · obtain rfl : i = k := by omega
            exact .inr (by rw [hr, HSd.out])), hW4, HRr.out.trans (o3 := fun k => B ≤ k ∧ k ∉ K) hR4 (fun _ _ => id) (fun _ _ => id)⟩
      clear hW4 hR4 HI
      go_wp2_with fail
      go_roundg (20 - (k + 1))
      case measure => omega
      case rel => exact ⟨k + 1, V2, _, by go_num, by omega, by omega, HE⟩
    · obtain rfl : k = m := by omega
      go_wp2_with fail
      go_end0
      exact ⟨rfl, V', loc', HI.out.1.mono (fun r ⟨i, hi, hr⟩ => ⟨i, by omega, hr⟩), HI.out.2⟩

set_option maxHeartbeats 2000000 in
set_option maxRecDepth 100000 in
theorem pass1_any {B P : Nat} {w : World} {now was : Int} {M : List En} {loc : Int → Nat} {V : Nat → Value} {K : List Nat} (h : Whl B w P now (Wh.spread M loc) V K) (w0 : 0 ≤ was) (w1 : was ≤ now) (n1 : now < 1099511627776) (ha : Wh.Asc M) (hl : M.length ≤ 300) (ht : ∀ a ∈ M, 0 ≤ a.t ∧ a.t < 1099511627776) :
    Calls Try.prog 19 #[.pointer (some ⟨P, 0, none⟩), .int .i64 1, .int .i64 16, .int .i64 was] w fun e w' => e = .returned (.tuple #[]) ∧ ∃ V' loc', Wh.Moves now (fun r => ∃ k : Nat, (k : Int) < min (now / 16 - was / 16) 16 ∧ r = 17 + ((now - k * 16) / 16 % 16).toNat) loc loc' ∧ Whl B w' P now (Wh.spread M loc') V' K ∧ Rest (fun k => B ≤ k ∧ k ∉ K) w w' := by
  have mixed : Try.prog.follows .mixedOrders = true := by kernel_rfl
  have c0 := h.cell0
  have q1 : now.tdiv 16 = now / 16 := by rw [Int.tdiv_eq_ediv_of_nonneg (by omega)]
  have q2 : was.tdiv 16 = was / 16 := by rw [Int.tdiv_eq_ediv_of_nonneg w0]
  obtain ⟨m, hm⟩ : ∃ m : Nat, (m : Int) = min (now / 16 - was / 16) 16 := ⟨(min (now / 16 - was / 16) 16).toNat, by omega⟩
  have HM := Lib.hid hm
  rw [← hm]
  have u1 : IntKind.i64.wrap (now / 16) = now / 16 := by rw [IntKind.wrap_i64]; omega
  have u2 : IntKind.i64.wrap (was / 16) = was / 16 := by rw [IntKind.wrap_i64]; omega
  have u3 : IntKind.i64.wrap (now / 16 - was / 16) = now / 16 - was / 16 := by rw [IntKind.wrap_i64]; omega
  have m16 : m ≤ 16 := by omega
  have hif : (if 16 < now / 16 - was / 16 then 16 else now / 16 - was / 16) = (m : Int) := by split <;> omega
  have hif2 : min (now / 16 - was / 16) 16 = (m : Int) := by omega
  have HW := Lib.hid h
  have HA := Lib.hid ha
  have HL := Lib.hid hl
  have HT := Lib.hid ht
  have H0 := Lib.hid (⟨w0, w1, n1⟩ : 0 ≤ was ∧ was ≤ now ∧ now < 1099511627776)
  clear h ha hl ht hm w0 w1 n1
  go_enter Try.func19, Try.ntmps19
  go_wp2_with fail
  refine wp_region_held_drew (S := fun w' => w'.cell? ⟨P, 0, none⟩ = some (.int .i64 now)) (by kernel_rfl) c0 (fun hHeld => ?_)
  have HWd := Lib.hid (HW.out.past (Rest.drew (fun _ => False) _))
  have HRd : Hid (Rest (fun _ => False) w w.drew) := Lib.hid (Rest.drew (fun _ => False) _)
  clear c0 HW
  generalize w.drew = wd at HWd HRd hHeld ⊢
  refine wpAnyH_yield 0 (.pointer (some ⟨P, 0, none⟩)) rfl (by kernel_rfl) (by kernel_rfl) (by kernel_rfl) (fun d _ _ _ h => by cases d <;> exact h) (by rfl) (by assumption) (fun _ _ => by go_simp) ?_
  simp only [Act.put, List.setIfInBounds_toArray, List.set_cons_zero, List.set_cons_succ]
  refine wpAnyH_yield 1 (.pointer (some ⟨P, 0, none⟩)) rfl (by kernel_rfl) (by kernel_rfl) (by kernel_rfl) (fun d _ _ _ h => by cases d <;> exact h) (by rfl) (by assumption) (fun _ _ => by go_simp) ?_
  simp only [Act.put, List.setIfInBounds_toArray, List.set_cons_zero, List.set_cons_succ]
  refine wpAnyH_yield 2 (.pointer (some ⟨P, 0, none⟩)) rfl (by kernel_rfl) (by kernel_rfl) (by kernel_rfl) (fun d _ _ _ h => by cases d <;> exact h) (by rfl) (by assumption) (fun _ _ => by go_simp) ?_
  simp only [Act.put, List.setIfInBounds_toArray, List.set_cons_zero, List.set_cons_succ]
  refine wpAnyH_yield 3 (.int .i64 now) rfl (by kernel_rfl) (by kernel_rfl) (by kernel_rfl) (fun d _ _ _ h => by cases d <;> exact h) (by rfl) (by assumption) (fun _ hSw => by (try dsimp only at hSw); go_simp) ?_
  simp only [Act.put, List.setIfInBounds_toArray, List.set_cons_zero, List.set_cons_succ]
  refine wpAnyH_yield 4 (.int .i64 16) rfl (by kernel_rfl) (by kernel_rfl) (by kernel_rfl) (fun d _ _ _ h => by cases d <;> exact h) (by rfl) (by assumption) (fun _ _ => by go_simp) ?_
  simp only [Act.put, List.setIfInBounds_toArray, List.set_cons_zero, List.set_cons_succ]
  refine wpAnyH_yield 5 (.int .i64 (now / 16)) rfl (by kernel_rfl) (by kernel_rfl) (by kernel_rfl) (fun d _ _ _ h => by cases d <;> exact h) (by rfl) (by assumption) (fun _ _ => by go_simp) ?_
  simp only [Act.put, List.setIfInBounds_toArray, List.set_cons_zero, List.set_cons_succ]
  refine wpAnyH_yield 6 (.int .i64 was) rfl (by kernel_rfl) (by kernel_rfl) (by kernel_rfl) (fun d _ _ _ h => by cases d <;> exact h) (by rfl) (by assumption) (fun _ _ => by go_simp) ?_
  simp only [Act.put, List.setIfInBounds_toArray, List.set_cons_zero, List.set_cons_succ]
  refine wpAnyH_yield 7 (.int .i64 16) rfl (by kernel_rfl) (by kernel_rfl) (by kernel_rfl) (fun d _ _ _ h => by cases d <;> exact h) (by rfl) (by assumption) (fun _ _ => by go_simp) ?_
  simp only [Act.put, List.setIfInBounds_toArray, List.set_cons_zero, List.set_cons_succ]
  refine wpAnyH_yield 8 (.int .i64 (was / 16)) rfl (by kernel_rfl) (by kernel_rfl) (by kernel_rfl) (fun d _ _ _ h => by cases d <;> exact h) (by rfl) (by assumption) (fun _ _ => by go_simp) ?_
  simp only [Act.put, List.setIfInBounds_toArray, List.set_cons_zero, List.set_cons_succ]
  refine wpAnyH_yield 9 (.int .i64 (now / 16 - was / 16)) rfl (by kernel_rfl) (by kernel_rfl) (by kernel_rfl) (fun d _ _ _ h => by cases d <;> exact h) (by rfl) (by assumption) (fun _ _ => by go_simp) ?_
  simp only [Act.put, List.setIfInBounds_toArray, List.set_cons_zero, List.set_cons_succ]
  refine wpAnyH_yield 10 (.int .i64 (m : Nat)) rfl (by kernel_rfl) (by kernel_rfl) (by kernel_rfl) (fun d _ _ _ h => by cases d <;> exact h) (by rfl) (by assumption) (fun _ _ => by go_simp) ?_
  simp only [Act.put, List.setIfInBounds_toArray, List.set_cons_zero, List.set_cons_succ]
  refine wpAnyH_yield 11 (.int .i64 0) rfl (by kernel_rfl) (by kernel_rfl) (by kernel_rfl) (fun d _ _ _ h => by cases d <;> exact h) (by rfl) (by assumption) (fun _ _ => by go_simp) ?_
  simp only [Act.put, List.setIfInBounds_toArray, List.set_cons_zero, List.set_cons_succ]
  refine wpAnyH_done (by kernel_rfl) ?_ _
  clear q1 q2 u1 u2 u3 hif hif2 hHeld
  go_wp2_with fail
  go_loopg [20] (20 : Nat) (fun g1 s20 wr => ∃ (k : Nat) (V' : Nat → Value) (loc' : Int → Nat), s20 = .int .i64 k ∧ k ≤ m ∧ 20 - k ≤ g1 ∧ Hid (Wh.Moves now (fun r => ∃ i : Nat, i < k ∧ r = 17 + ((now - i * 16) / 16 % 16).toNat) loc loc' ∧ Whl B wr P now (Wh.spread M loc') V' K ∧ Rest (fun k => B ≤ k ∧ k ∉ K) w wr))
  case atStart => exact ⟨0, _, loc, rfl, Nat.zero_le _, by omega, ⟨(Wh.Moves.refl now loc).mono (fun q ⟨i, hi, _⟩ => absurd hi (Nat.not_lt_zero _)), HWd.out, HRd.out.mono (fun _ _ => False.elim)⟩⟩
  case round =>
    obtain ⟨k, V', loc', rfl, hk, hg, HI⟩ := hrel
    clear HWd HRd
    by_cases hlt : k < m
    · have hlt' : (k : Int) < (m : Int) := by omega
      have hs := slot_any (now - (k : Int) * 16) 16 (by decide) (by decide)
      have hmm := HM.out
      obtain ⟨z0, z1, z2⟩ := H0.out
      rw [Tk.clamp_in (by omega) (by omega)] at hs
      obtain ⟨s, hsd⟩ : ∃ s : Nat, (s : Int) = (now - (k : Int) * 16) / 16 % 16 := ⟨((now - (k : Int) * 16) / 16 % 16).toNat, by omega⟩
      have hs16 : s < 16 := by omega
      have hs16' : (s : Int) < 16 := by omega
      rw [show (now - (k : Int) * 16) / 16 % 16 = (now - (k : Int) * 16) / 16 % 16 by omega, ← hsd] at hs
      have HS := Lib.hid hs
      have HSd := Lib.hid (show s = ((now - (k : Int) * 16) / 16 % 16).toNat by omega)
      have v1 : IntKind.i64.wrap ((k : Int) * 16) = (k : Int) * 16 := by rw [IntKind.wrap_i64]; omega
      have v2 : IntKind.i64.wrap (now - (k : Int) * 16) = now - (k : Int) * 16 := by rw [IntKind.wrap_i64]; omega
      have hw1 : IntKind.i64.wrap ((k : Int) + 1) = (k : Int) + 1 := by rw [IntKind.wrap_i64]; omega
      clear hs hsd hmm z0 z1 z2
      have c0 := HI.out.2.1.cell0
      go_wp2_with fail
      refine wp_region_held_drew (S := fun w' => w'.cell? ⟨P, 0, none⟩ = some (.int .i64 now)) (by kernel_rfl) c0 (fun hHeld => ?_)
      have HWr := Lib.hid (HI.out.2.1.past (Rest.drew (fun _ => False) _))
      have HRr : Hid (Rest (fun k => B ≤ k ∧ k ∉ K) w wr.drew) := Lib.hid (HI.out.2.2.trans (o3 := fun k => B ≤ k ∧ k ∉ K) (Rest.drew (fun _ => False) _) (fun _ _ => id) (fun _ _ => False.elim))
      clear c0
      generalize wr.drew = wx at HWr HRr hHeld ⊢
      refine wpAnyH_yield 0 (.pointer (some ⟨P, 0, none⟩)) rfl (by kernel_rfl) (by kernel_rfl) (by kernel_rfl) (fun d _ _ _ h => by cases d <;> exact h) (by rfl) (by assumption) (fun _ _ => by go_simp) ?_
      simp only [Act.put, List.setIfInBounds_toArray, List.set_cons_zero, List.set_cons_succ]
      refine wpAnyH_yield 1 (.pointer (some ⟨P, 0, none⟩)) rfl (by kernel_rfl) (by kernel_rfl) (by kernel_rfl) (fun d _ _ _ h => by cases d <;> exact h) (by rfl) (by assumption) (fun _ _ => by go_simp) ?_
      simp only [Act.put, List.setIfInBounds_toArray, List.set_cons_zero, List.set_cons_succ]
      refine wpAnyH_yield 2 (.int .i64 1) rfl (by kernel_rfl) (by kernel_rfl) (by kernel_rfl) (fun d _ _ _ h => by cases d <;> exact h) (by rfl) (by assumption) (fun _ _ => by go_simp) ?_
      simp only [Act.put, List.setIfInBounds_toArray, List.set_cons_zero, List.set_cons_succ]
      refine wpAnyH_yield 3 (.pointer (some ⟨P, 0, none⟩)) rfl (by kernel_rfl) (by kernel_rfl) (by kernel_rfl) (fun d _ _ _ h => by cases d <;> exact h) (by rfl) (by assumption) (fun _ _ => by go_simp) ?_
      simp only [Act.put, List.setIfInBounds_toArray, List.set_cons_zero, List.set_cons_succ]
      refine wpAnyH_yield 4 (.pointer (some ⟨P, 0, none⟩)) rfl (by kernel_rfl) (by kernel_rfl) (by kernel_rfl) (fun d _ _ _ h => by cases d <;> exact h) (by rfl) (by assumption) (fun _ _ => by go_simp) ?_
      simp only [Act.put, List.setIfInBounds_toArray, List.set_cons_zero, List.set_cons_succ]
      refine wpAnyH_yield 5 (.pointer (some ⟨P, 0, none⟩)) rfl (by kernel_rfl) (by kernel_rfl) (by kernel_rfl) (fun d _ _ _ h => by cases d <;> exact h) (by rfl) (by assumption) (fun _ _ => by go_simp) ?_
      simp only [Act.put, List.setIfInBounds_toArray, List.set_cons_zero, List.set_cons_succ]
      refine wpAnyH_yield 6 (.int .i64 now) rfl (by kernel_rfl) (by kernel_rfl) (by kernel_rfl) (fun d _ _ _ h => by cases d <;> exact h) (by rfl) (by assumption) (fun _ hSw => by (try dsimp only at hSw); go_simp) ?_
      simp only [Act.put, List.setIfInBounds_toArray, List.set_cons_zero, List.set_cons_succ]
      refine wpAnyH_yield 7 (.int .i64 (k : Nat)) rfl (by kernel_rfl) (by kernel_rfl) (by kernel_rfl) (fun d _ _ _ h => by cases d <;> exact h) (by rfl) (by assumption) (fun _ _ => by go_simp) ?_
      simp only [Act.put, List.setIfInBounds_toArray, List.set_cons_zero, List.set_cons_succ]
      refine wpAnyH_yield 8 (.int .i64 16) rfl (by kernel_rfl) (by kernel_rfl) (by kernel_rfl) (fun d _ _ _ h => by cases d <;> exact h) (by rfl) (by assumption) (fun _ _ => by go_simp) ?_
      simp only [Act.put, List.setIfInBounds_toArray, List.set_cons_zero, List.set_cons_succ]
      refine wpAnyH_yield 9 (.int .i64 ((k : Int) * 16)) rfl (by kernel_rfl) (by kernel_rfl) (by kernel_rfl) (fun d _ _ _ h => by cases d <;> exact h) (by rfl) (by assumption) (fun _ _ => by go_simp) ?_
      simp only [Act.put, List.setIfInBounds_toArray, List.set_cons_zero, List.set_cons_succ]
      refine wpAnyH_yield 10 (.int .i64 (now - (k : Int) * 16)) rfl (by kernel_rfl) (by kernel_rfl) (by kernel_rfl) (fun d _ _ _ h => by cases d <;> exact h) (by rfl) (by assumption) (fun _ _ => by go_simp) ?_
      simp only [Act.put, List.setIfInBounds_toArray, List.set_cons_zero, List.set_cons_succ]
      refine wpAnyH_yield 11 (.int .i64 16) rfl (by kernel_rfl) (by kernel_rfl) (by kernel_rfl) (fun d _ _ _ h => by cases d <;> exact h) (by rfl) (by assumption) (fun _ _ => by go_simp) ?_
      simp only [Act.put, List.setIfInBounds_toArray, List.set_cons_zero, List.set_cons_succ]
      refine wpAnyH_yield 13 (.pointer (some ⟨P, 0, none⟩)) rfl (by kernel_rfl) (by kernel_rfl) (by kernel_rfl) (fun d _ _ _ h => by cases d <;> exact h) (by rfl) (by assumption) (fun _ _ => by go_simp) ?_
      simp only [Act.put, List.setIfInBounds_toArray, List.set_cons_zero, List.set_cons_succ]
      refine wpAnyH_yield 14 (.pointer (some ⟨P, 2, none⟩)) rfl (by kernel_rfl) (by kernel_rfl) (by kernel_rfl) (fun d _ _ _ h => by cases d <;> exact h) (by rfl) (by assumption) (fun _ _ => by go_simp) ?_
      simp only [Act.put, List.setIfInBounds_toArray, List.set_cons_zero, List.set_cons_succ]
      refine wpAnyH_yield 15 (.pointer (some ⟨P, 18, none⟩)) rfl (by kernel_rfl) (by kernel_rfl) (by kernel_rfl) (fun d _ _ _ h => by cases d <;> exact h) (by rfl) (by assumption) (fun _ _ => by go_simp) ?_
      simp only [Act.put, List.setIfInBounds_toArray, List.set_cons_zero, List.set_cons_succ]
      refine wpAnyH_ready (rs := [12]) (by kernel_rfl) (by simp) (AllReadyH.cons rfl (fun K hK => ?_) AllReadyH.nil)
      go_simp
      go_at_call 29
      refine (HS.out _).mono ?_
      rintro e w3 ⟨rfl, rfl⟩
      refine hK.out _ _ (hHeld) (fun hHeld => ?_)
      clear hK K
      try simp only [Act.put, List.setIfInBounds_toArray, List.set_cons_zero, List.set_cons_succ]
      refine wpAnyH_yield 16 (.pointer (some ⟨P, 18 + s, none⟩)) rfl (by kernel_rfl) (by kernel_rfl) (by kernel_rfl) (fun d _ _ _ h => by cases d <;> exact h) (by rfl) (by assumption) (fun _ _ => by go_simp) ?_
      simp only [Act.put, List.setIfInBounds_toArray, List.set_cons_zero, List.set_cons_succ]
      refine wpAnyH_ready (rs := [17]) (by kernel_rfl) (by simp) (AllReadyH.cons rfl (fun K hK => ?_) AllReadyH.nil)
      go_simp
      rw [show 18 + s = (17 + s) + 1 by omega]
      go_at_call 20
      refine (again_any HWr.out (q := 17 + s) (by omega) (by have := H0.out; omega) H0.out.2.2 (fun r => Wh.asc_spread HA.out _ _) (fun r => Nat.le_trans (Wh.spread_le _ _ _) HL.out) (fun a ha => HT.out a (Wh.spread_mem.1 ha).1)).mono ?_
      rintro e w4 ⟨rfl, V2, hW4, hR4⟩
      rw [Wh.spread_again HA.out] at hW4
      refine hK.out _ _ (hW4.cell0) (fun hHeld => ?_)
      clear hK K
      try simp only [Act.put, List.setIfInBounds_toArray, List.set_cons_zero, List.set_cons_succ]
      refine wpAnyH_done (by kernel_rfl) ?_ _
      have HE : Hid (Wh.Moves now (fun r => ∃ i : Nat, i < k + 1 ∧ r = 17 + ((now - i * 16) / 16 % 16).toNat) loc (fun t => if loc' t = 17 + s then Wh.home now t else loc' t) ∧ Whl B w4 P now (Wh.spread M (fun t => if loc' t = 17 + s then Wh.home now t else loc' t)) V2 K ∧ Rest (fun k => B ≤ k ∧ k ∉ K) w w4) :=
        Lib.hid ⟨(HI.out.1.trans (Wh.Moves.again now (17 + s) loc')).mono (fun r ⟨i, hi, hr⟩ => by
          by_cases e : i < k
          · exact .inl ⟨i, e, hr⟩
          · obtain rfl : i = k := by omega
            exact .inr (by rw [hr, HSd.out])), hW4, HRr.out.trans (o3 := fun k => B ≤ k ∧ k ∉ K) hR4 (fun _ _ => id) (fun _ _ => id)⟩
      clear hW4 hR4 HI
      go_wp2_with fail
      go_roundg (20 - (k + 1))
      case measure => omega
      case rel => exact ⟨k + 1, V2, _, by go_num, by omega, by omega, HE⟩
    · obtain rfl : k = m := by omega
      go_wp2_with fail
      go_end0
      exact ⟨rfl, V', loc', HI.out.1.mono (fun r ⟨i, hi, hr⟩ => ⟨i, by omega, hr⟩), HI.out.2⟩

set_option maxHeartbeats 2000000 in
set_option maxRecDepth 100000 in
theorem pass2_any {B P : Nat} {w : World} {now was : Int} {M : List En} {loc : Int → Nat} {V : Nat → Value} {K : List Nat} (h : Whl B w P now (Wh.spread M loc) V K) (w0 : 0 ≤ was) (w1 : was ≤ now) (n1 : now < 1099511627776) (ha : Wh.Asc M) (hl : M.length ≤ 300) (ht : ∀ a ∈ M, 0 ≤ a.t ∧ a.t < 1099511627776) :
    Calls Try.prog 19 #[.pointer (some ⟨P, 0, none⟩), .int .i64 2, .int .i64 256, .int .i64 was] w fun e w' => e = .returned (.tuple #[]) ∧ ∃ V' loc', Wh.Moves now (fun r => ∃ k : Nat, (k : Int) < min (now / 256 - was / 256) 16 ∧ r = 33 + ((now - k * 256) / 256 % 16).toNat) loc loc' ∧ Whl B w' P now (Wh.spread M loc') V' K ∧ Rest (fun k => B ≤ k ∧ k ∉ K) w w' := by
  have mixed : Try.prog.follows .mixedOrders = true := by kernel_rfl
  have c0 := h.cell0
  have q1 : now.tdiv 256 = now / 256 := by rw [Int.tdiv_eq_ediv_of_nonneg (by omega)]
  have q2 : was.tdiv 256 = was / 256 := by rw [Int.tdiv_eq_ediv_of_nonneg w0]
  obtain ⟨m, hm⟩ : ∃ m : Nat, (m : Int) = min (now / 256 - was / 256) 16 := ⟨(min (now / 256 - was / 256) 16).toNat, by omega⟩
  have HM := Lib.hid hm
  rw [← hm]
  have u1 : IntKind.i64.wrap (now / 256) = now / 256 := by rw [IntKind.wrap_i64]; omega
  have u2 : IntKind.i64.wrap (was / 256) = was / 256 := by rw [IntKind.wrap_i64]; omega
  have u3 : IntKind.i64.wrap (now / 256 - was / 256) = now / 256 - was / 256 := by rw [IntKind.wrap_i64]; omega
  have m16 : m ≤ 16 := by omega
  have hif : (if 16 < now / 256 - was / 256 then 16 else now / 256 - was / 256) = (m : Int) := by split <;> omega
  have hif2 : min (now / 256 - was / 256) 16 = (m : Int) := by omega
  have HW := Lib.hid h
  have HA := Lib.hid ha
  have HL := Lib.hid hl
  have HT := Lib.hid ht
  have H0 := Lib.hid (⟨w0, w1, n1⟩ : 0 ≤ was ∧ was ≤ now ∧ now < 1099511627776)
  clear h ha hl ht hm w0 w1 n1
  go_enter Try.func19, Try.ntmps19
  go_wp2_with fail
  refine wp_region_held_drew (S := fun w' => w'.cell? ⟨P, 0, none⟩ = some (.int .i64 now)) (by kernel_rfl) c0 (fun hHeld => ?_)
  have HWd := Lib.hid (HW.out.past (Rest.drew (fun _ => False) _))
  have HRd : Hid (Rest (fun _ => False) w w.drew) := Lib.hid (Rest.drew (fun _ => False) _)
  clear c0 HW
  generalize w.drew = wd at HWd HRd hHeld ⊢
  refine wpAnyH_yield 0 (.pointer (some ⟨P, 0, none⟩)) rfl (by kernel_rfl) (by kernel_rfl) (by kernel_rfl) (fun d _ _ _ h => by cases d <;> exact h) (by rfl) (by assumption) (fun _ _ => by go_simp) ?_
  simp only [Act.put, List.setIfInBounds_toArray, List.set_cons_zero, List.set_cons_succ]
  refine wpAnyH_yield 1 (.pointer (some ⟨P, 0, none⟩)) rfl (by kernel_rfl) (by kernel_rfl) (by kernel_rfl) (fun d _ _ _ h => by cases d <;> exact h) (by rfl) (by assumption) (fun _ _ => by go_simp) ?_
  simp only [Act.put, List.setIfInBounds_toArray, List.set_cons_zero, List.set_cons_succ]
  refine wpAnyH_yield 2 (.pointer (some ⟨P, 0, none⟩)) rfl (by kernel_rfl) (by kernel_rfl) (by kernel_rfl) (fun d _ _ _ h => by cases d <;> exact h) (by rfl) (by assumption) (fun _ _ => by go_simp) ?_
  simp only [Act.put, List.setIfInBounds_toArray, List.set_cons_zero, List.set_cons_succ]
  refine wpAnyH_yield 3 (.int .i64 now) rfl (by kernel_rfl) (by kernel_rfl) (by kernel_rfl) (fun d _ _ _ h => by cases d <;> exact h) (by rfl) (by assumption) (fun _ hSw => by (try dsimp only at hSw); go_simp) ?_
  simp only [Act.put, List.setIfInBounds_toArray, List.set_cons_zero, List.set_cons_succ]
  refine wpAnyH_yield 4 (.int .i64 256) rfl (by kernel_rfl) (by kernel_rfl) (by kernel_rfl) (fun d _ _ _ h => by cases d <;> exact h) (by rfl) (by assumption) (fun _ _ => by go_simp) ?_
  simp only [Act.put, List.setIfInBounds_toArray, List.set_cons_zero, List.set_cons_succ]
  refine wpAnyH_yield 5 (.int .i64 (now / 256)) rfl (by kernel_rfl) (by kernel_rfl) (by kernel_rfl) (fun d _ _ _ h => by cases d <;> exact h) (by rfl) (by assumption) (fun _ _ => by go_simp) ?_
  simp only [Act.put, List.setIfInBounds_toArray, List.set_cons_zero, List.set_cons_succ]
  refine wpAnyH_yield 6 (.int .i64 was) rfl (by kernel_rfl) (by kernel_rfl) (by kernel_rfl) (fun d _ _ _ h => by cases d <;> exact h) (by rfl) (by assumption) (fun _ _ => by go_simp) ?_
  simp only [Act.put, List.setIfInBounds_toArray, List.set_cons_zero, List.set_cons_succ]
  refine wpAnyH_yield 7 (.int .i64 256) rfl (by kernel_rfl) (by kernel_rfl) (by kernel_rfl) (fun d _ _ _ h => by cases d <;> exact h) (by rfl) (by assumption) (fun _ _ => by go_simp) ?_
  simp only [Act.put, List.setIfInBounds_toArray, List.set_cons_zero, List.set_cons_succ]
  refine wpAnyH_yield 8 (.int .i64 (was / 256)) rfl (by kernel_rfl) (by kernel_rfl) (by kernel_rfl) (fun d _ _ _ h => by cases d <;> exact h) (by rfl) (by assumption) (fun _ _ => by go_simp) ?_
  simp only [Act.put, List.setIfInBounds_toArray, List.set_cons_zero, List.set_cons_succ]
  refine wpAnyH_yield 9 (.int .i64 (now / 256 - was / 256)) rfl (by kernel_rfl) (by kernel_rfl) (by kernel_rfl) (fun d _ _ _ h => by cases d <;> exact h) (by rfl) (by assumption) (fun _ _ => by go_simp) ?_
  simp only [Act.put, List.setIfInBounds_toArray, List.set_cons_zero, List.set_cons_succ]
  refine wpAnyH_yield 10 (.int .i64 (m : Nat)) rfl (by kernel_rfl) (by kernel_rfl) (by kernel_rfl) (fun d _ _ _ h => by cases d <;> exact h) (by rfl) (by assumption) (fun _ _ => by go_simp) ?_
  simp only [Act.put, List.setIfInBounds_toArray, List.set_cons_zero, List.set_cons_succ]
  refine wpAnyH_yield 11 (.int .i64 0) rfl (by kernel_rfl) (by kernel_rfl) (by kernel_rfl) (fun d _ _ _ h => by cases d <;> exact h) (by rfl) (by assumption) (fun _ _ => by go_simp) ?_
  simp only [Act.put, List.setIfInBounds_toArray, List.set_cons_zero, List.set_cons_succ]
  refine wpAnyH_done (by kernel_rfl) ?_ _
  clear q1 q2 u1 u2 u3 hif hif2 hHeld
  go_wp2_with fail
  go_loopg [20] (20 : Nat) (fun g1 s20 wr => ∃ (k : Nat) (V' : Nat → Value) (loc' : Int → Nat), s20 = .int .i64 k ∧ k ≤ m ∧ 20 - k ≤ g1 ∧ Hid (Wh.Moves now (fun r => ∃ i : Nat, i < k ∧ r = 33 + ((now - i * 256) / 256 % 16).toNat) loc loc' ∧ Whl B wr P now (Wh.spread M loc') V' K ∧ Rest (fun k => B ≤ k ∧ k ∉ K) w wr))
  case atStart => exact ⟨0, _, loc, rfl, Nat.zero_le _, by omega, ⟨(Wh.Moves.refl now loc).mono (fun q ⟨i, hi, _⟩ => absurd hi (Nat.not_lt_zero _)), HWd.out, HRd.out.mono (fun _ _ => False.elim)⟩⟩
  case round =>
    obtain ⟨k, V', loc', rfl, hk, hg, HI⟩ := hrel
    clear HWd HRd
    by_cases hlt : k < m
    · have hlt' : (k : Int) < (m : Int) := by omega
      have hs := slot_any (now - (k : Int) * 256) 256 (by decide) (by decide)
      have hmm := HM.out
      obtain ⟨z0, z1, z2⟩ := H0.out
      rw [Tk.clamp_in (by omega) (by omega)] at hs
      obtain ⟨s, hsd⟩ : ∃ s : Nat, (s : Int) = (now - (k : Int) * 256) / 256 % 16 := ⟨((now - (k : Int) * 256) / 256 % 16).toNat, by omega⟩
      have hs16 : s < 16 := by omega
      have hs16' : (s : Int) < 16 := by omega
      rw [show (now - (k : Int) * 256) / 256 % 16 = (now - (k : Int) * 256) / 256 % 16 by omega, ← hsd] at hs
      have HS := Lib.hid hs
      have HSd := Lib.hid (show s = ((now - (k : Int) * 256) / 256 % 16).toNat by omega)
      have v1 : IntKind.i64.wrap ((k : Int) * 256) = (k : Int) * 256 := by rw [IntKind.wrap_i64]; omega
      have v2 : IntKind.i64.wrap (now - (k : Int) * 256) = now - (k : Int) * 256 := by rw [IntKind.wrap_i64]; omega
      have hw1 : IntKind.i64.wrap ((k : Int) + 1) = (k : Int) + 1 := by rw [IntKind.wrap_i64]; omega
      clear hs hsd hmm z0 z1 z2
      have c0 := HI.out.2.1.cell0
      go_wp2_with fail
      refine wp_region_held_drew (S := fun w' => w'.cell? ⟨P, 0, none⟩ = some (.int .i64 now)) (by kernel_rfl) c0 (fun hHeld => ?_)
      have HWr := Lib.hid (HI.out.2.1.past (Rest.drew (fun _ => False) _))
      have HRr : Hid (Rest (fun k => B ≤ k ∧ k ∉ K) w wr.drew) := Lib.hid (HI.out.2.2.trans (o3 := fun k => B ≤ k ∧ k ∉ K) (Rest.drew (fun _ => False) _) (fun _ _ => id) (fun _ _ => False.elim))
      clear c0
      generalize wr.drew = wx at HWr HRr hHeld ⊢
      refine wpAnyH_yield 0 (.pointer (some ⟨P, 0, none⟩)) rfl (by kernel_rfl) (by kernel_rfl) (by kernel_rfl) (fun d _ _ _ h => by cases d <;> exact h) (by rfl) (by assumption) (fun _ _ => by go_simp) ?_
      simp only [Act.put, List.setIfInBounds_toArray, List.set_cons_zero, List.set_cons_succ]
      refine wpAnyH_yield 1 (.pointer (some ⟨P, 0, none⟩)) rfl (by kernel_rfl) (by kernel_rfl) (by kernel_rfl) (fun d _ _ _ h => by cases d <;> exact h) (by rfl) (by assumption) (fun _ _ => by go_simp) ?_
      simp only [Act.put, List.setIfInBounds_toArray, List.set_cons_zero, List.set_cons_succ]
      refine wpAnyH_yield 2 (.int .i64 2) rfl (by kernel_rfl) (by kernel_rfl) (by kernel_rfl) (fun d _ _ _ h => by cases d <;> exact h) (by rfl) (by assumption) (fun _ _ => by go_simp) ?_
      simp only [Act.put, List.setIfInBounds_toArray, List.set_cons_zero, List.set_cons_succ]
      refine wpAnyH_yield 3 (.pointer (some ⟨P, 0, none⟩)) rfl (by kernel_rfl) (by kernel_rfl) (by kernel_rfl) (fun d _ _ _ h => by cases d <;> exact h) (by rfl) (by assumption) (fun _ _ => by go_simp) ?_
      simp only [Act.put, List.setIfInBounds_toArray, List.set_cons_zero, List.set_cons_succ]
      refine wpAnyH_yield 4 (.pointer (some ⟨P, 0, none⟩)) rfl (by kernel_rfl) (by kernel_rfl) (by kernel_rfl) (fun d _ _ _ h => by cases d <;> exact h) (by rfl) (by assumption) (fun _ _ => by go_simp) ?_
      simp only [Act.put, List.setIfInBounds_toArray, List.set_cons_zero, List.set_cons_succ]
      refine wpAnyH_yield 5 (.pointer (some ⟨P, 0, none⟩)) rfl (by kernel_rfl) (by kernel_rfl) (by kernel_rfl) (fun d _ _ _ h => by cases d <;> exact h) (by rfl) (by assumption) (fun _ _ => by go_simp) ?_
      simp only [Act.put, List.setIfInBounds_toArray, List.set_cons_zero, List.set_cons_succ]
      refine wpAnyH_yield 6 (.int .i64 now) rfl (by kernel_rfl) (by kernel_rfl) (by kernel_rfl) (fun d _ _ _ h => by cases d <;> exact h) (by rfl) (by assumption) (fun _ hSw => by (try dsimp only at hSw); go_simp) ?_
      simp only [Act.put, List.setIfInBounds_toArray, List.set_cons_zero, List.set_cons_succ]
      refine wpAnyH_yield 7 (.int .i64 (k : Nat)) rfl (by kernel_rfl) (by kernel_rfl) (by kernel_rfl) (fun d _ _ _ h => by cases d <;> exact h) (by rfl) (by assumption) (fun _ _ => by go_simp) ?_
      simp only [Act.put, List.setIfInBounds_toArray, List.set_cons_zero, List.set_cons_succ]
      refine wpAnyH_yield 8 (.int .i64 256) rfl (by kernel_rfl) (by kernel_rfl) (by kernel_rfl) (fun d _ _ _ h => by cases d <;> exact h) (by rfl) (by assumption) (fun _ _ => by go_simp) ?_
      simp only [Act.put, List.setIfInBounds_toArray, List.set_cons_zero, List.set_cons_succ]
      refine wpAnyH_yield 9 (.int .i64 ((k : Int) * 256)) rfl (by kernel_rfl) (by kernel_rfl) (by kernel_rfl) (fun d _ _ _ h => by cases d <;> exact h) (by rfl) (by assumption) (fun _ _ => by go_simp) ?_
      simp only [Act.put, List.setIfInBounds_toArray, List.set_cons_zero, List.set_cons_succ]
      refine wpAnyH_yield 10 (.int .i64 (now - (k : Int) * 256)) rfl (by kernel_rfl) (by kernel_rfl) (by kernel_rfl) (fun d _ _ _ h => by cases d <;> exact h) (by rfl) (by assumption) (fun _ _ => by go_simp) ?_
      simp only [Act.put, List.setIfInBounds_toArray, List.set_cons_zero, List.set_cons_succ]
      refine wpAnyH_yield 11 (.int .i64 256) rfl (by kernel_rfl) (by kernel_rfl) (by kernel_rfl) (fun d _ _ _ h => by cases d <;> exact h) (by rfl) (by assumption) (fun _ _ => by go_simp) ?_
      simp only [Act.put, List.setIfInBounds_toArray, List.set_cons_zero, List.set_cons_succ]
      refine wpAnyH_yield 13 (.pointer (some ⟨P, 0, none⟩)) rfl (by kernel_rfl) (by kernel_rfl) (by kernel_rfl) (fun d _ _ _ h => by cases d <;> exact h) (by rfl) (by assumption) (fun _ _ => by go_simp) ?_
      simp only [Act.put, List.setIfInBounds_toArray, List.set_cons_zero, List.set_cons_succ]
      refine wpAnyH_yield 14 (.pointer (some ⟨P, 2, none⟩)) rfl (by kernel_rfl) (by kernel_rfl) (by kernel_rfl) (fun d _ _ _ h => by cases d <;> exact h) (by rfl) (by assumption) (fun _ _ => by go_simp) ?_
      simp only [Act.put, List.setIfInBounds_toArray, List.set_cons_zero, List.set_cons_succ]
      refine wpAnyH_yield 15 (.pointer (some ⟨P, 34, none⟩)) rfl (by kernel_rfl) (by kernel_rfl) (by kernel_rfl) (fun d _ _ _ h => by cases d <;> exact h) (by rfl) (by assumption) (fun _ _ => by go_simp) ?_
      simp only [Act.put, List.setIfInBounds_toArray, List.set_cons_zero, List.set_cons_succ]
      refine wpAnyH_ready (rs := [12]) (by kernel_rfl) (by simp) (AllReadyH.cons rfl (fun K hK => ?_) AllReadyH.nil)
      go_simp
      go_at_call 29
      refine (HS.out _).mono ?_
      rintro e w3 ⟨rfl, rfl⟩
      refine hK.out _ _ (hHeld) (fun hHeld => ?_)
      clear hK K
      try simp only [Act.put, List.setIfInBounds_toArray, List.set_cons_zero, List.set_cons_succ]
      refine wpAnyH_yield 16 (.pointer (some ⟨P, 34 + s, none⟩)) rfl (by kernel_rfl) (by kernel_rfl) (by kernel_rfl) (fun d _ _ _ h => by cases d <;> exact h) (by rfl) (by assumption) (fun _ _ => by go_simp) ?_
      simp only [Act.put, List.setIfInBounds_toArray, List.set_cons_zero, List.set_cons_succ]
      refine wpAnyH_ready (rs := [17]) (by kernel_rfl) (by simp) (AllReadyH.cons rfl (fun K hK => ?_) AllReadyH.nil)
      go_simp
      rw [show 34 + s = (33 + s) + 1 by omega]
      go_at_call 20
      refine (again_any HWr.out (q := 33 + s) (by omega) (by have := H0.out; omega) H0.out.2.2 (fun r => Wh.asc_spread HA.out _ _) (fun r => Nat.le_trans (Wh.spread_le _ _ _) HL.out) (fun a ha => HT.out a (Wh.spread_mem.1 ha).1)).mono ?_
      rintro e w4 ⟨rfl, V2, hW4, hR4⟩
      rw [Wh.spread_again HA.out] at hW4
      refine hK.out _ _ (hW4.cell0) (fun hHeld => ?_)
      clear hK K
      try simp only [Act.put, List.setIfInBounds_toArray, List.set_cons_zero, List.set_cons_succ]
      refine wpAnyH_done (by kernel_rfl) ?_ _
      have HE : Hid (Wh.Moves now (fun r => ∃ i : Nat, i < k + 1 ∧ r = 33 + ((now - i * 256) / 256 % 16).toNat) loc (fun t => if loc' t = 33 + s then Wh.home now t else loc' t) ∧ Whl B w4 P now (Wh.spread M (fun t => if loc' t = 33 + s then Wh.home now t else loc' t)) V2 K ∧ Rest (fun k => B ≤ k ∧ k ∉ K) w w4) :=
        Lib.hid ⟨(HI.out.1.trans (Wh.Moves.again now (33 + s) loc')).mono (fun r ⟨i, hi, hr⟩ => by
          by_cases e : i < k
          · exact .inl ⟨i, e, hr⟩
          · obtain rfl : i = k := by omega
            exact .inr (by rw [hr, HSd.out])), hW4, HRr.out.trans (o3 := fun k => B ≤ k ∧ k ∉ K) hR4 (fun _ _ => id) (fun _ _ => id)⟩
      clear hW4 hR4 HI
      go_wp2_with fail
      go_roundg (20 - (k + 1))
      case measure => omega
      case rel => exact ⟨k + 1, V2, _, by go_num, by omega, by omega, HE⟩
    · obtain rfl : k = m := by omega
      go_wp2_with fail
      go_end0
      exact ⟨rfl, V', loc', HI.out.1.mono (fun r ⟨i, hi, hr⟩ => ⟨i, by omega, hr⟩), HI.out.2⟩
end Go.Proofs.Ytcjidobdbdfjlaa
