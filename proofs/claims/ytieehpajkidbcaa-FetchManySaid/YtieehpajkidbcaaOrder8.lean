/- Frames that are sent and fetched one behind the other, as plain numbers: a ring in which nothing is under way. -/
import Derived.Test.YtieehpajkidbcaaRngInv
import Derived.Test.YtieehpajkidbcaaSndE
namespace Go.Proofs.Ytieehpajkidbcaa
open Go.RowKit
namespace Rg

theorem getD_set_ifs (l : List Nat) (i j x : Nat) (h : i < l.length) : (l.set i x).getD j 0 = if j = i then x else l.getD j 0 := by
  by_cases e : j = i
  · subst e; rw [if_pos rfl]; exact getD_set_same _ _ _ h
  · rw [if_neg e]; exact getD_set_other _ _ _ _ (Ne.symm e)

/-- Nobody is putting anything: what is there is there whole. -/
theorem Inv.whole {b n H T : Nat} {cs : List Nat} {own : Nat → Nat} {W : Nat → Nat × Nat × Nat} {S : Nat → Snd} (h : Inv b n cs H T own W 0 S) {τ : Nat} (h1 : H ≤ τ) (h2 : τ < T) :
    cs.getD (stand b n τ) 0 = τ + 1 ∧ ∀ m, m < 3 → cs.getD (stand b n τ + 1 + m) 0 = pick (W τ) m := by
  rcases h.busy τ h1 h2 with ⟨_, g, _⟩ | g
  · exact absurd g (Nat.not_lt_zero _)
  · exact g

/-- The cells behind a frame that was sent. -/
def sentCells (b n T : Nat) (cs : List Nat) (x y z : Nat) : List Nat :=
  ((((cs.set b (T + 1)).set (stand b n T + 1) x).set (stand b n T + 2) y).set (stand b n T + 3) z).set (stand b n T) (T + 1)

theorem Inv.put {b n H T : Nat} {cs : List Nat} {own : Nat → Nat} {W : Nat → Nat × Nat × Nat} {S : Nat → Snd} (h : Inv b n cs H T own W 0 S) (hT : T < H + n) (x y z : Nat) :
    Inv b n (sentCells b n T cs x y z) H (T + 1) own (fun τ => if τ = T then (x, y, z) else W τ) 0 S := by
  obtain ⟨hp2, _⟩ := h.ok.pos
  have hlen := h.len
  have hHT := h.HT
  have hsl := stand_lt h.ok T
  have hsg := stand_gt b n T
  have g : ∀ j, (sentCells b n T cs x y z).getD j 0 = if j = stand b n T then T + 1 else if j = stand b n T + 3 then z else if j = stand b n T + 2 then y else if j = stand b n T + 1 then x else if j = b then T + 1 else cs.getD j 0 := fun j => by
    unfold sentCells
    rw [getD_set_ifs _ _ _ _ (by simp only [List.length_set]; omega), getD_set_ifs _ _ _ _ (by simp only [List.length_set]; omega), getD_set_ifs _ _ _ _ (by simp only [List.length_set]; omega), getD_set_ifs _ _ _ _ (by simp only [List.length_set]; omega), getD_set_ifs _ _ _ _ (by omega)]
  have hst : ∀ τ, H ≤ τ → τ < H + n → τ ≠ T → ∀ m, m ≤ 3 → (sentCells b n T cs x y z).getD (stand b n τ + m) 0 = cs.getD (stand b n τ + m) 0 := fun τ g1 g2 g3 m hm => by
    have e0 := cells_ne (b := b) g1 g2 hHT hT g3 m 0 hm (by omega)
    have e1 := cells_ne (b := b) g1 g2 hHT hT g3 m 1 hm (by omega)
    have e2 := cells_ne (b := b) g1 g2 hHT hT g3 m 2 hm (by omega)
    have e3 := cells_ne (b := b) g1 g2 hHT hT g3 m 3 hm (by omega)
    have e4 := stand_gt b n τ
    rw [g, if_neg (by omega), if_neg (by omega), if_neg (by omega), if_neg (by omega), if_neg (by omega)]
  refine ⟨h.ok, by unfold sentCells; simpa using hlen, ?_, by omega, by omega, fun τ g1 g2 => ?_, fun τ g1 g2 => .inr ?_, fun m hm => absurd hm (Nat.not_lt_zero _)⟩
  · rw [g, if_neg (by omega), if_neg (by omega), if_neg (by omega), if_neg (by omega), if_pos rfl]
  · have := hst τ (by omega) g2 (by omega) 0 (by omega)
    rw [Nat.add_zero] at this
    rw [this]; exact h.free τ (by omega) g2
  · by_cases e : τ = T
    · subst e
      refine ⟨by rw [g, if_pos rfl], fun m hm => ?_⟩
      rw [if_pos rfl]
      obtain rfl | rfl | rfl : m = 0 ∨ m = 1 ∨ m = 2 := by omega
      · rw [g, if_neg (by omega), if_neg (by omega), if_neg (by omega), if_pos (by omega)]; rfl
      · rw [g, if_neg (by omega), if_neg (by omega), if_pos (by omega)]; rfl
      · rw [g, if_neg (by omega), if_pos (by omega)]; rfl
    · obtain ⟨q1, q2⟩ := h.whole g1 (show τ < T by omega)
      have := hst τ g1 (by omega) e 0 (by omega)
      rw [Nat.add_zero] at this
      refine ⟨by rw [this]; exact q1, fun m hm => ?_⟩
      rw [Nat.add_assoc, hst τ g1 (by omega) e (1 + m) (by omega), ← Nat.add_assoc, q2 m hm, if_neg e]

/-- A frame that is sent while nothing else is done: there is room. -/
theorem Inv.run_put {b n H T : Nat} {a : Ar} {own : Nat → Nat} {W : Nat → Nat × Nat × Nat} {S : Nat → Snd} (h : Inv b n a.cs H T own W 0 S) (hT : T < H + n) (h64 : T + 1 < 18446744073709551616) (x y z : Nat) :
    ∃ a', Snd.run ⟨b, n, x, y, z, false, 0, 0, 0⟩ a 7 = (⟨b, n, x, y, z, false, T, 5, 3⟩, a') ∧ (∀ i, i < 7 → (Snd.run ⟨b, n, x, y, z, false, 0, 0, 0⟩ a i).1.k < 5) ∧ Inv b n a'.cs H (T + 1) own (fun τ => if τ = T then (x, y, z) else W τ) 0 S := by
  obtain ⟨a', hr, hcs, hk⟩ := Snd.run_new b n x y z T a h.tail (h.free T (Nat.le_refl _) hT)
  refine ⟨a', hr, hk, ?_⟩
  rw [hcs, Rg.next_small h64]
  exact h.put hT x y z

/-- .. there is none. -/
theorem Inv.run_full {b n H T : Nat} {a : Ar} {own : Nat → Nat} {W : Nat → Nat × Nat × Nat} {S : Nat → Snd} (h : Inv b n a.cs H T own W 0 S) (hT : H + n ≤ T) (x y z : Nat) :
    ∃ a', Snd.run ⟨b, n, x, y, z, false, 0, 0, 0⟩ a 2 = (⟨b, n, x, y, z, false, T, 6, 0⟩, a') ∧ (∀ i, i < 2 → (Snd.run ⟨b, n, x, y, z, false, 0, 0, 0⟩ a i).1.k < 5) ∧ Inv b n a'.cs H T own W 0 S := by
  obtain ⟨hp2, _⟩ := h.ok.pos
  have hTH := h.TH
  have e : T = H + n := by omega
  have hs : a.cs.getD (stand b n T) 0 = H + 1 := by rw [e, stand_wrap]; exact (h.whole (Nat.le_refl _) (by omega)).1
  obtain ⟨a', hr, hcs, hk⟩ := Snd.run_full b n x y z T a h.tail (by rw [hs]; omega)
  exact ⟨a', hr, hk, by rw [hcs]; exact h⟩

/-- So many stand full, one behind the other. -/
theorem Inv.held {b n H T : Nat} {cs : List Nat} {own : Nat → Nat} {W : Nat → Nat × Nat × Nat} {S : Nat → Snd} (h : Inv b n cs H T own W 0 S) :
    (∀ j, j < T - H → cs.getD (stand b n (H + j)) 0 = H + j + 1) ∧ cs.getD (stand b n (H + (T - H))) 0 ≠ H + (T - H) + 1 := by
  obtain ⟨hp2, _⟩ := h.ok.pos
  have hHT := h.HT
  have hTH := h.TH
  refine ⟨fun j hj => (h.whole (by omega) (by omega)).1, ?_⟩
  rw [show H + (T - H) = T by omega]
  by_cases e : T < H + n
  · rw [h.free T (Nat.le_refl _) e]; omega
  · have e2 : T = H + n := by omega
    rw [e2, stand_wrap, (h.whole (Nat.le_refl _) (by omega)).1]; omega

/-- Is one there? -/
theorem Inv.head {b n H T : Nat} {cs : List Nat} {own : Nat → Nat} {W : Nat → Nat × Nat × Nat} {S : Nat → Snd} (h : Inv b n cs H T own W 0 S) : (cs.getD (stand b n H) 0 = H + 1 ∧ H < T) ∨ (cs.getD (stand b n H) 0 = H ∧ H = T) := by
  obtain ⟨hp2, _⟩ := h.ok.pos
  have hHT := h.HT
  by_cases e : H < T
  · exact .inl ⟨(h.whole (Nat.le_refl _) e).1, e⟩
  · exact .inr ⟨h.free H (by omega) (by omega), by omega⟩

end Rg
end Go.Proofs.Ytieehpajkidbcaa
