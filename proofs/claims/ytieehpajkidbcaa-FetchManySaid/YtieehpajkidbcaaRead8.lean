/- One who fetches while many send, as plain numbers: a frame is read whole, whatever the others do meanwhile. -/
import Derived.Test.YtieehpajkidbcaaMany8
import Derived.Test.YtieehpajkidbcaaFchD
namespace Go.Proofs.Ytieehpajkidbcaa
open Go.RowKit

/-- What a step makes of a fetching and of the cells. -/
def Ftc.next (d : Ftc) (cs : List Nat) : Ftc × List Nat :=
  if d.k = 0 then ((if cs.getD d.at_ 0 = Rg.next d.t then { d with k := 1 } else { d with k := 4 }), cs)
  else if d.k = 1 then (d.got (cs.getD (d.at_ + 1 + d.j) 0), cs)
  else if d.k = 2 then ({ d with k := 3 }, cs.set d.at_ (Rg.over d.p d.t))
  else (d, cs)
theorem Ftc.step_next (d : Ftc) (a : Ar) : (d.step a).1 = (d.next a.cs).1 ∧ (d.step a).2.cs = (d.next a.cs).2 := by
  unfold Ftc.step Ftc.next
  split
  · exact ⟨rfl, Ar.touch_cs _ _⟩
  split
  · exact ⟨rfl, Ar.touch_cs _ _⟩
  split
  · exact ⟨rfl, Ftc.put_cs _ _ _ _⟩
  · exact ⟨rfl, rfl⟩

namespace Rg
/-- What one knows who fetches the turn H. -/
structure Reads (b n : Nat) (cs : List Nat) (H : Nat) (W : Nat → Nat × Nat × Nat) (u : Ftc) : Prop where
  hb : u.b = b
  hp : u.p = n
  ht : u.t = H
  k3 : u.k < 3
  j1 : u.k = 1 → u.j < 3
  j0 : u.k = 0 → u.j = 0
  j2 : u.k = 2 → u.j = 3
  full : u.k = 1 ∨ u.k = 2 → cs.getD (stand b n H) 0 = H + 1
  got : u.k = 1 ∨ u.k = 2 → ∀ m, m < u.j → pick (u.x, u.y, u.z) m = pick (W H) m

theorem Reads.new {b n H : Nat} {cs : List Nat} {W : Nat → Nat × Nat × Nat} : Reads b n cs H W ⟨b, n, H, 0, 0, 0, 0, 0⟩ :=
  ⟨rfl, rfl, rfl, by show 0 < 3; decide, fun e => (by cases e), fun _ => rfl, fun e => (by cases e), fun e => (by rcases e with e | e <;> cases e), fun e => (by rcases e with e | e <;> cases e)⟩

/-- A first place that stands full does so behind any sender's step. -/
theorem Inv.full_kept {b n H T K : Nat} {cs : List Nat} {own : Nat → Nat} {W : Nat → Nat × Nat × Nat} {S : Nat → Snd} (h : Inv b n cs H T own W K S) {i : Nat} (hi : i < K) (hv : cs.getD (stand b n H) 0 = H + 1) :
    ((S i).next cs).2.getD (stand b n H) 0 = H + 1 := by
  have hs := h.snd i hi
  obtain ⟨hlt, _⟩ := h.head_full hv
  have hTH := h.TH
  rcases hd : S i with ⟨b', p', x, y, z, l, t, k, j⟩
  rw [hd] at hs
  obtain ⟨hb, hn, hl, j0, k1, k2, k3, j3, j4⟩ := hs
  simp only at hb hn hl j0 k1 k2 k3 j3 j4
  subst hb hn hl
  by_cases e0 : k = 0
  · subst e0; exact hv
  by_cases e1 : k = 1
  · subst e1; exact hv
  by_cases e2 : k = 2
  · subst e2
    have en : Snd.next ⟨b', p', x, y, z, false, t, 2, j⟩ cs = if cs.getD b' 0 = t then (⟨b', p', x, y, z, false, t, 3, j⟩, cs.set b' (Rg.next t)) else (⟨b', p', x, y, z, false, 0, 0, 0⟩, cs) := rfl
    rw [en]
    split
    · show (cs.set b' (Rg.next t)).getD _ 0 = _
      rw [getD_set_other _ _ _ _ (by have := stand_gt b' p' H; omega)]; exact hv
    · exact hv
  by_cases e3 : k = 3
  · have hj := j3 e3
    subst e3
    have en : (Snd.next ⟨b', p', x, y, z, false, t, 3, j⟩ cs).2 = cs.set (stand b' p' t + 1 + j) (pick (x, y, z) j) := rfl
    rw [en, getD_set_other _ _ _ _ (by unfold stand; omega)]; exact hv
  by_cases e4 : k = 4
  · obtain ⟨q1, q2, _, _, q5, _⟩ := k3 (.inr e4)
    subst e4
    have en : (Snd.next ⟨b', p', x, y, z, false, t, 4, j⟩ cs).2 = cs.set (stand b' p' t) (Rg.next t) := rfl
    have hne : H ≠ t := fun e => by subst e; omega
    rw [en, getD_set_other _ _ _ _ (by have := cells_ne (b := b') (Nat.le_refl H) (show H < H + p' by omega) q1 (show t < H + p' by omega) hne 0 0 (by omega) (by omega); omega)]; exact hv
  have en : Snd.next ⟨b', p', x, y, z, false, t, k, j⟩ cs = (⟨b', p', x, y, z, false, t, k, j⟩, cs) := by unfold Snd.next; simp only [e0, e1, e2, e3, e4, if_false]
  rw [en]; exact hv

/-- .. and what was read stays what it is. -/
theorem Reads.other {b n H T K : Nat} {cs : List Nat} {own : Nat → Nat} {W W' : Nat → Nat × Nat × Nat} {S : Nat → Snd} {u : Ftc} (hr : Reads b n cs H W u) (h : Inv b n cs H T own W K S) {i : Nat} (hi : i < K) (hW : ∀ τ, τ < T → W' τ = W τ) : Reads b n ((S i).next cs).2 H W' u :=
  { hr with
    full := fun e => h.full_kept hi (hr.full e)
    got := fun e m hm => by rw [hW H (h.head_full (hr.full e)).1]; exact hr.got e m hm }

/-- A step of his: it goes on, or there was none, or the frame was fetched. -/
theorem Reads.step {b n H T K : Nat} {cs : List Nat} {own : Nat → Nat} {W : Nat → Nat × Nat × Nat} {S : Nat → Snd} {u : Ftc} (hr : Reads b n cs H W u) (h : Inv b n cs H T own W K S) (h64 : H + n < 18446744073709551616) :
    ((u.next cs).1.k < 3 ∧ (u.next cs).2 = cs ∧ Reads b n cs H W (u.next cs).1) ∨ ((u.next cs).1.k = 4 ∧ (u.next cs).2 = cs) ∨
    ((u.next cs).1.k = 3 ∧ (u.next cs).2 = cs.set (stand b n H) (H + n) ∧ cs.getD (stand b n H) 0 = H + 1 ∧ H < T ∧ ((u.next cs).1.x, (u.next cs).1.y, (u.next cs).1.z) = W H) := by
  obtain ⟨hp2, _⟩ := h.ok.pos
  obtain ⟨b', p', t, k, j, x, y, z⟩ := u
  obtain ⟨hb, hp, ht, k3, j1, j0, j2, full, got⟩ := hr
  simp only at hb hp ht k3 j1 j0 j2 full got
  subst hb hp ht
  have hnx : Rg.next t = t + 1 := Nat.mod_eq_of_lt (by omega)
  have hov : Rg.over p' t = t + p' := Nat.mod_eq_of_lt h64
  by_cases e0 : k = 0
  · have hj := j0 e0
    subst e0 hj
    have en : Ftc.next ⟨b', p', t, 0, 0, x, y, z⟩ cs = ((if cs.getD (stand b' p' t) 0 = t + 1 then ⟨b', p', t, 1, 0, x, y, z⟩ else ⟨b', p', t, 4, 0, x, y, z⟩), cs) := by rw [← hnx]; rfl
    rw [en]
    by_cases e : cs.getD (stand b' p' t) 0 = t + 1
    · rw [if_pos e]
      exact .inl ⟨by show 1 < 3; decide, rfl, rfl, rfl, rfl, by show 1 < 3; decide, fun _ => by show 0 < 3; decide, fun e => (by cases e), fun e => (by cases e), fun _ => e, fun _ m hm => absurd hm (Nat.not_lt_zero _)⟩
    · rw [if_neg e]
      exact .inr (.inl ⟨rfl, rfl⟩)
  by_cases e1 : k = 1
  · have hj := j1 e1
    have hf := full (.inl e1)
    have hg := got (.inl e1)
    subst e1
    obtain ⟨_, hw⟩ := h.head_full hf
    obtain rfl | rfl | rfl : j = 0 ∨ j = 1 ∨ j = 2 := by omega
    · refine .inl ⟨by show 1 < 3; decide, rfl, rfl, rfl, rfl, by show 1 < 3; decide, fun _ => by show 1 < 3; decide, fun e => (by cases e), fun e => (by cases e), fun _ => hf, fun _ m hm => ?_⟩
      obtain rfl : m = 0 := by have : m < 1 := hm; omega
      exact hw 0 (by omega)
    · refine .inl ⟨by show 1 < 3; decide, rfl, rfl, rfl, rfl, by show 1 < 3; decide, fun _ => by show 2 < 3; decide, fun e => (by cases e), fun e => (by cases e), fun _ => hf, fun _ m hm => ?_⟩
      have hm2 : m < 2 := hm
      obtain rfl | rfl : m = 0 ∨ m = 1 := by omega
      · exact hg 0 (by omega)
      · exact hw 1 (by omega)
    · refine .inl ⟨by show 2 < 3; decide, rfl, rfl, rfl, rfl, by show 2 < 3; decide, fun e => (by cases e), fun e => (by cases e), fun _ => rfl, fun _ => hf, fun _ m hm => ?_⟩
      have hm3 : m < 3 := hm
      obtain rfl | rfl | rfl : m = 0 ∨ m = 1 ∨ m = 2 := by omega
      · exact hg 0 (by omega)
      · exact hg 1 (by omega)
      · exact hw 2 (by omega)
  have e2 : k = 2 := by omega
  have hj := j2 e2
  have hf := full (.inr e2)
  have hg := got (.inr e2)
  subst e2 hj
  have en : Ftc.next ⟨b', p', t, 2, 3, x, y, z⟩ cs = (⟨b', p', t, 3, 3, x, y, z⟩, cs.set (stand b' p' t) (t + p')) := by rw [← hov]; rfl
  rw [en]
  refine .inr (.inr ⟨rfl, rfl, hf, (h.head_full hf).1, ?_⟩)
  have g0 := hg 0 (by omega)
  have g1 := hg 1 (by omega)
  have g2 := hg 2 (by omega)
  show (x, y, z) = W t
  rcases hW : W t with ⟨p, q, r⟩
  rw [hW] at g0 g1 g2
  have e0 : x = p := g0
  have e1 : y = q := g1
  have e2 : z = r := g2
  rw [e0, e1, e2]

/-- His steps change nothing that senders know, but the place that is given back. -/
theorem Reads.good {b n H T K : Nat} {cs : List Nat} {own : Nat → Nat} {W : Nat → Nat × Nat × Nat} {S : Nat → Snd} {u : Ftc} (hr : Reads b n cs H W u) (h : Inv b n cs H T own W K S) (h64 : H + n < 18446744073709551616) {a : Ar} (ha : a.cs = cs) : u.Good a := by
  obtain ⟨hp2, _⟩ := h.ok.pos
  refine ⟨by rw [hr.hb, hr.hp]; exact h.ok, by rw [hr.hb, hr.hp, ha]; exact h.len, by rw [hr.ht]; omega, fun e => ?_⟩
  by_cases e0 : u.k = 0
  · have := hr.j0 e0; omega
  · exact hr.j1 (by omega)
end Rg

end Go.Proofs.Ytieehpajkidbcaa
