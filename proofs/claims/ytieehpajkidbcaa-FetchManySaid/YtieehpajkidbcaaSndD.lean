/- A sending as plain numbers, and what a step comes to, whatever it stands at. -/
import Derived.Test.YtieehpajkidbcaaSndC
namespace Go.Proofs.Ytieehpajkidbcaa
open Go.RowKit

/-- A sending: its ring, its words, whether it is alone, its turn, what comes next, which word. -/
structure Snd where
  b : Nat
  p : Nat
  x : Nat
  y : Nat
  z : Nat
  l : Bool
  t : Nat
  k : Nat
  j : Nat

namespace Snd
def val (d : Snd) : Value := .agg #[.int .i64 d.b, .int .i64 d.p, .int .u64 d.x, .int .u64 d.y, .int .u64 d.z, .bool d.l, .int .u64 d.t, .int .i64 d.k, .int .i64 d.j]
def word (d : Snd) : Nat := if d.j = 0 then d.x else if d.j = 1 then d.y else d.z
def again (d : Snd) : Snd := { d with l := false, t := 0, k := 0, j := 0 }
/-- Where its turn's place tells how it stands. -/
def at_ (d : Snd) : Nat := Rg.stand d.b d.p d.t
/-- How its place was found. -/
def found (d : Snd) (n : Nat) : Snd :=
  if n = d.t then (if d.l then { d with k := 3 } else { d with k := 2 }) else if n < d.t ∨ d.l = true then { d with k := 6 } else d.again
/-- One step. -/
def step (d : Snd) (a : Ar) : Snd × Ar :=
  if d.k = 0 then ({ d with t := a.cs.getD d.b 0, k := 1 }, a.touch d.b)
  else if d.k = 1 then (d.found (a.cs.getD d.at_ 0), a.touch d.at_)
  else if d.k = 2 then (if a.cs.getD d.b 0 = d.t then ({ d with k := 3 }, (a.touch d.b).put d.b (Rg.next d.t)) else (d.again, a.touch d.b))
  else if d.k = 3 then ({ d with j := d.j + 1, k := if d.j = 2 then 4 else 3 }, (a.touch (d.at_ + 1 + d.j)).put (d.at_ + 1 + d.j) d.word)
  else if d.k = 4 then ({ d with k := 5 }, (a.touch d.at_).put d.at_ (Rg.next d.t))
  else (d, a)
/-- What every sending into a ring that may be is like. -/
structure Good (d : Snd) (a : Ar) : Prop where
  ok : Rg.Ok d.b d.p
  cells : d.b + 1 + 4 * d.p ≤ a.cs.length
  hx : d.x < 18446744073709551616
  hy : d.y < 18446744073709551616
  hz : d.z < 18446744073709551616
  ht : d.t < 18446744073709551616
  hj : d.k ≤ 3 → d.j < 3

theorem again_lone {d : Snd} (h : d.l = false) : d.again = { d with t := 0, k := 0, j := 0 } := by
  obtain ⟨b, p, x, y, z, l, t, k, j⟩ := d
  simp only at h; subst h; rfl
end Snd

theorem Ar.touch_len (a : Ar) (i : Nat) : (a.touch i).cs.length = a.cs.length := by rw [Ar.touch_cs]
theorem Ar.put_len (a : Ar) (i x : Nat) : (a.put i x).cs.length = a.cs.length := by simp [Ar.put]

/-- Step. -/
theorem sstep_any {B : Nat} {s : Spot} {a : Ar} (d : Snd) (hd : d.Good a) (w : World) (hA : Arena w B s a) :
    Calls Try.prog 20 #[d.val, .pointer (some ⟨s.P, 0, none⟩)] w fun e w' => e = .returned (d.step a).1.val ∧ Now w w' B s (d.step a).2 := by
  obtain ⟨h, hl, hx, hy, hz, ht, hj⟩ := hd
  obtain ⟨b, p, x, y, z, l, t, k, j⟩ := d
  simp only at h hl hx hy hz ht hj
  show Calls Try.prog 20 #[.agg #[.int .i64 b, .int .i64 p, .int .u64 x, .int .u64 y, .int .u64 z, .bool l, .int .u64 t, .int .i64 k, .int .i64 j], .pointer (some ⟨s.P, 0, none⟩)] w _
  by_cases k0 : k = 0
  · subst k0
    exact sstep_read b p (a.cs.getD b 0) x y z t j l h w hA hl rfl
  by_cases k1 : k = 1
  · subst k1
    have e : ∀ v, a.cs.getD (Rg.stand b p t) 0 = v → Snd.step ⟨b, p, x, y, z, l, t, 1, j⟩ a = (Snd.found ⟨b, p, x, y, z, l, t, 1, j⟩ v, a.touch (Rg.stand b p t)) := fun v hv => by rw [← hv]; rfl
    generalize hv : a.cs.getD (Rg.stand b p t) 0 = v at *
    rw [e v rfl]
    by_cases h1 : v = t
    · subst h1
      cases l
      · refine (sstep_open b p v x y z j h w hA hl ht hv).mono ?_
        rintro e w' ⟨rfl, hN⟩
        exact ⟨by simp [Snd.found, Snd.val], hN⟩
      · refine (sstep_lone b p v x y z j h w hA hl ht hv).mono ?_
        rintro e w' ⟨rfl, hN⟩
        exact ⟨by simp [Snd.found, Snd.val], hN⟩
    by_cases h2 : v < t
    · refine (sstep_below b p t v x y z j l h w hA hl ht hv h2).mono ?_
      rintro e w' ⟨rfl, hN⟩
      exact ⟨by simp [Snd.found, Snd.val, h1, h2], hN⟩
    cases l
    · refine (sstep_over b p t v x y z j h w hA hl ht hv (by omega)).mono ?_
      rintro e w' ⟨rfl, hN⟩
      exact ⟨by simp [Snd.found, Snd.val, Snd.again, h1, h2], hN⟩
    · refine (sstep_past b p t v x y z j h w hA hl ht hv (by omega)).mono ?_
      rintro e w' ⟨rfl, hN⟩
      exact ⟨by simp [Snd.found, Snd.val, h1, h2], hN⟩
  by_cases k2 : k = 2
  · subst k2
    have e : Snd.step ⟨b, p, x, y, z, l, t, 2, j⟩ a = if a.cs.getD b 0 = t then (⟨b, p, x, y, z, l, t, 3, j⟩, (a.touch b).put b (Rg.next t)) else (⟨b, p, x, y, z, false, 0, 0, 0⟩, a.touch b) := rfl
    by_cases h1 : a.cs.getD b 0 = t
    · rw [e, if_pos h1]
      exact sstep_swap b p t x y z j l h w hA hl h1
    · rw [e, if_neg h1]
      exact sstep_lost b p t _ x y z j l h w hA hl rfl h1
  by_cases k3 : k = 3
  · subst k3
    have hj := hj (by omega)
    obtain rfl | rfl | rfl : j = 0 ∨ j = 1 ∨ j = 2 := by omega
    · exact sstep_put0 b p x y z t l h w hA hl ht hx
    · exact sstep_put1 b p x y z t l h w hA hl ht hy
    · exact sstep_put2 b p x y z t l h w hA hl ht hz
  by_cases k4 : k = 4
  · subst k4
    exact sstep_over4 b p t x y z j l h w hA hl ht
  have e : Snd.step ⟨b, p, x, y, z, l, t, k, j⟩ a = (⟨b, p, x, y, z, l, t, k, j⟩, a) := by unfold Snd.step; simp only [k0, k1, k2, k3, k4, if_false]
  rw [e]
  refine (sstep_done b p x y z t k j l _ h (by omega) w).mono ?_
  rintro e w' ⟨rfl, hb⟩
  exact ⟨rfl, (Now.same hA).behind hb⟩

namespace Snd
/-- A step leaves it as every one is. -/
theorem Good.step {d : Snd} {a : Ar} (h : d.Good a) (hw : ∀ i, i < a.cs.length → a.cs.getD i 0 < 18446744073709551616) : (d.step a).1.Good (d.step a).2 ∧ (d.step a).2.cs.length = a.cs.length := by
  obtain ⟨h, hl, hx, hy, hz, ht, hj⟩ := h
  obtain ⟨b, p, x, y, z, l, t, k, j⟩ := d
  simp only at h hl hx hy hz ht hj
  have hb : b < a.cs.length := by have := h.pos; omega
  have hv := hw _ hb
  have hn := Rg.next_lt t
  by_cases k0 : k = 0
  · subst k0
    exact ⟨⟨h, by show _ ≤ (a.touch b).cs.length; rw [Ar.touch_len]; exact hl, hx, hy, hz, hv, fun _ => hj (by decide)⟩, Ar.touch_len _ _⟩
  by_cases k1 : k = 1
  · subst k1
    have hj1 := hj (by decide)
    have e : Snd.step ⟨b, p, x, y, z, l, t, 1, j⟩ a = (Snd.found ⟨b, p, x, y, z, l, t, 1, j⟩ (a.cs.getD (Rg.stand b p t) 0), a.touch (Rg.stand b p t)) := rfl
    rw [e]
    have hl2 : b + 1 + 4 * p ≤ (a.touch (Rg.stand b p t)).cs.length := by rw [Ar.touch_len]; exact hl
    refine ⟨?_, Ar.touch_len _ _⟩
    unfold Snd.found
    split
    · split
      · exact ⟨h, hl2, hx, hy, hz, ht, fun _ => hj1⟩
      · exact ⟨h, hl2, hx, hy, hz, ht, fun _ => hj1⟩
    split
    · exact ⟨h, hl2, hx, hy, hz, ht, fun e => absurd e (by show ¬ 6 ≤ 3; decide)⟩
    · exact ⟨h, hl2, hx, hy, hz, by show 0 < 18446744073709551616; decide, fun _ => by show 0 < 3; decide⟩
  by_cases k2 : k = 2
  · subst k2
    have hj1 := hj (by decide)
    have e : Snd.step ⟨b, p, x, y, z, l, t, 2, j⟩ a = if a.cs.getD b 0 = t then (⟨b, p, x, y, z, l, t, 3, j⟩, (a.touch b).put b (Rg.next t)) else (⟨b, p, x, y, z, false, 0, 0, 0⟩, a.touch b) := rfl
    rw [e]
    split
    · exact ⟨⟨h, by rw [Ar.put_len, Ar.touch_len]; exact hl, hx, hy, hz, ht, fun _ => hj1⟩, by rw [Ar.put_len, Ar.touch_len]⟩
    · exact ⟨⟨h, by rw [Ar.touch_len]; exact hl, hx, hy, hz, by show 0 < 18446744073709551616; decide, fun _ => by show 0 < 3; decide⟩, Ar.touch_len _ _⟩
  by_cases k3 : k = 3
  · subst k3
    have hj1 := hj (by decide)
    have e : Snd.step ⟨b, p, x, y, z, l, t, 3, j⟩ a = (⟨b, p, x, y, z, l, t, if j = 2 then 4 else 3, j + 1⟩, (a.touch (Rg.stand b p t + 1 + j)).put (Rg.stand b p t + 1 + j) (Snd.word ⟨b, p, x, y, z, l, t, 3, j⟩)) := rfl
    rw [e]
    refine ⟨⟨h, by rw [Ar.put_len, Ar.touch_len]; exact hl, hx, hy, hz, ht, fun e => ?_⟩, by rw [Ar.put_len, Ar.touch_len]⟩
    simp only at e ⊢
    split at e <;> omega
  by_cases k4 : k = 4
  · subst k4
    exact ⟨⟨h, by show _ ≤ (((a.touch (Rg.stand b p t)).put (Rg.stand b p t) (Rg.next t))).cs.length; rw [Ar.put_len, Ar.touch_len]; exact hl, hx, hy, hz, ht, fun e => absurd e (by show ¬ 5 ≤ 3; decide)⟩, by show (((a.touch (Rg.stand b p t)).put (Rg.stand b p t) (Rg.next t))).cs.length = _; rw [Ar.put_len, Ar.touch_len]⟩
  have e : Snd.step ⟨b, p, x, y, z, l, t, k, j⟩ a = (⟨b, p, x, y, z, l, t, k, j⟩, a) := by unfold Snd.step; simp only [k0, k1, k2, k3, k4, if_false]
  rw [e]
  exact ⟨⟨h, hl, hx, hy, hz, ht, hj⟩, rfl⟩

theorem Good.same {d : Snd} {a a' : Ar} (h : d.Good a) (e : a'.cs = a.cs) : d.Good a' := { h with cells := by rw [e]; exact h.cells }

theorem touch_one {a : Ar} (h : a.td = []) (i : Nat) : (a.touch i).td = [i] := by simp [Ar.touch, h]
/-- One that is not done touches one cell. -/
theorem step_touch {d : Snd} {a : Ar} (h : a.td = []) (hk : d.k < 5) : ((d.step a).2.td).length = 1 := by
  have ht : ∀ i, (a.touch i).td.length = 1 := fun i => by rw [touch_one h]; rfl
  have hp : ∀ i x, ((a.touch i).put i x).td.length = 1 := fun i x => ht i
  unfold Snd.step
  split
  · exact ht _
  split
  · exact ht _
  split
  · split
    · exact hp _ _
    · exact ht _
  split
  · exact hp _ _
  split
  · exact hp _ _
  · omega

/-- So many steps, one behind the other; each begins. -/
def run (d : Snd) (a : Ar) : Nat → Snd × Ar
  | 0 => (d, a)
  | n + 1 => let r := run d a n; r.1.step r.2.begin
end Snd

end Go.Proofs.Ytieehpajkidbcaa
