/- A fetching as plain numbers, and what a step comes to, whatever it stands at. -/
import Derived.Test.YtieehpajkidbcaaFchB
import Derived.Test.YtieehpajkidbcaaSndD
namespace Go.Proofs.Ytieehpajkidbcaa
open Go.RowKit

/-- A fetching: its ring, its turn, what comes next, which word, its words. -/
structure Ftc where
  b : Nat
  p : Nat
  t : Nat
  k : Nat
  j : Nat
  x : Nat
  y : Nat
  z : Nat

namespace Ftc
def val (d : Ftc) : Value := .agg #[.int .i64 d.b, .int .i64 d.p, .int .u64 d.t, .int .i64 d.k, .int .i64 d.j, .int .u64 d.x, .int .u64 d.y, .int .u64 d.z]
/-- Where its turn's place tells how it stands. -/
def at_ (d : Ftc) : Nat := Rg.stand d.b d.p d.t
/-- A word was read. -/
def got (d : Ftc) (v : Nat) : Ftc :=
  if d.j = 0 then { d with x := v, j := 1, k := 1 } else if d.j = 1 then { d with y := v, j := 2, k := 1 } else { d with z := v, j := 3, k := 2 }
/-- One step. -/
def step (d : Ftc) (a : Ar) : Ftc × Ar :=
  if d.k = 0 then ((if a.cs.getD d.at_ 0 = Rg.next d.t then { d with k := 1 } else { d with k := 4 }), a.touch d.at_)
  else if d.k = 1 then (d.got (a.cs.getD (d.at_ + 1 + d.j) 0), a.touch (d.at_ + 1 + d.j))
  else if d.k = 2 then ({ d with k := 3 }, (a.touch d.at_).put d.at_ (Rg.over d.p d.t))
  else (d, a)
/-- What every fetching from a ring that may be is like. -/
structure Good (d : Ftc) (a : Ar) : Prop where
  ok : Rg.Ok d.b d.p
  cells : d.b + 1 + 4 * d.p ≤ a.cs.length
  ht : d.t < 18446744073709551616
  hj : d.k ≤ 1 → d.j < 3
end Ftc

/-- Step. -/
theorem fstep_any {B : Nat} {s : Spot} {a : Ar} (d : Ftc) (hd : d.Good a) (w : World) (hA : Arena w B s a) :
    Calls Try.prog 21 #[d.val, .pointer (some ⟨s.P, 0, none⟩)] w fun e w' => e = .returned (d.step a).1.val ∧ Now w w' B s (d.step a).2 := by
  obtain ⟨h, hl, ht, hj⟩ := hd
  obtain ⟨b, p, t, k, j, x, y, z⟩ := d
  simp only at h hl ht hj
  show Calls Try.prog 21 #[.agg #[.int .i64 b, .int .i64 p, .int .u64 t, .int .i64 k, .int .i64 j, .int .u64 x, .int .u64 y, .int .u64 z], .pointer (some ⟨s.P, 0, none⟩)] w _
  by_cases k0 : k = 0
  · subst k0
    have e : Ftc.step ⟨b, p, t, 0, j, x, y, z⟩ a = ((if a.cs.getD (Rg.stand b p t) 0 = Rg.next t then ⟨b, p, t, 1, j, x, y, z⟩ else ⟨b, p, t, 4, j, x, y, z⟩), a.touch (Rg.stand b p t)) := rfl
    rw [e]
    by_cases h1 : a.cs.getD (Rg.stand b p t) 0 = Rg.next t
    · rw [if_pos h1]
      exact ftstep_there b p t _ j x y z h w hA hl ht rfl h1
    · rw [if_neg h1]
      exact ftstep_none b p t _ j x y z h w hA hl ht rfl h1
  by_cases k1 : k = 1
  · subst k1
    have hj := hj (by omega)
    obtain rfl | rfl | rfl : j = 0 ∨ j = 1 ∨ j = 2 := by omega
    · exact ftstep_read0 b p t _ x y z h w hA hl ht rfl
    · exact ftstep_read1 b p t _ x y z h w hA hl ht rfl
    · exact ftstep_read2 b p t _ x y z h w hA hl ht rfl
  by_cases k2 : k = 2
  · subst k2
    exact ftstep_over b p t j x y z h w hA hl ht
  have e : Ftc.step ⟨b, p, t, k, j, x, y, z⟩ a = (⟨b, p, t, k, j, x, y, z⟩, a) := by unfold Ftc.step; simp only [k0, k1, k2, if_false]
  rw [e]
  refine (ftstep_done b p t k j x y z _ h (by omega) w).mono ?_
  rintro e w' ⟨rfl, hb⟩
  exact ⟨rfl, (Now.same hA).behind hb⟩

namespace Ftc
/-- A step leaves it as every one is. -/
theorem Good.step {d : Ftc} {a : Ar} (h : d.Good a) : (d.step a).1.Good (d.step a).2 ∧ (d.step a).2.cs.length = a.cs.length := by
  obtain ⟨h, hl, ht, hj⟩ := h
  obtain ⟨b, p, t, k, j, x, y, z⟩ := d
  simp only at h hl ht hj
  have hl2 : ∀ i, b + 1 + 4 * p ≤ (a.touch i).cs.length := fun i => by rw [Ar.touch_len]; exact hl
  by_cases k0 : k = 0
  · subst k0
    have hj1 := hj (by decide)
    have e : Ftc.step ⟨b, p, t, 0, j, x, y, z⟩ a = ((if a.cs.getD (Rg.stand b p t) 0 = Rg.next t then ⟨b, p, t, 1, j, x, y, z⟩ else ⟨b, p, t, 4, j, x, y, z⟩), a.touch (Rg.stand b p t)) := rfl
    rw [e]
    refine ⟨?_, Ar.touch_len _ _⟩
    split
    · exact ⟨h, hl2 _, ht, fun _ => hj1⟩
    · exact ⟨h, hl2 _, ht, fun e => absurd e (by show ¬ 4 ≤ 1; decide)⟩
  by_cases k1 : k = 1
  · subst k1
    have hj1 := hj (by decide)
    obtain rfl | rfl | rfl : j = 0 ∨ j = 1 ∨ j = 2 := by omega
    · exact ⟨⟨h, hl2 _, ht, fun _ => by show 1 < 3; decide⟩, Ar.touch_len _ _⟩
    · exact ⟨⟨h, hl2 _, ht, fun _ => by show 2 < 3; decide⟩, Ar.touch_len _ _⟩
    · exact ⟨⟨h, hl2 _, ht, fun e => absurd e (by show ¬ 2 ≤ 1; decide)⟩, Ar.touch_len _ _⟩
  by_cases k2 : k = 2
  · subst k2
    have e : Ftc.step ⟨b, p, t, 2, j, x, y, z⟩ a = (⟨b, p, t, 3, j, x, y, z⟩, (a.touch (Rg.stand b p t)).put (Rg.stand b p t) (Rg.over p t)) := rfl
    rw [e]
    exact ⟨⟨h, by rw [Ar.put_len, Ar.touch_len]; exact hl, ht, fun e => absurd e (by show ¬ 3 ≤ 1; decide)⟩, by rw [Ar.put_len, Ar.touch_len]⟩
  have e : Ftc.step ⟨b, p, t, k, j, x, y, z⟩ a = (⟨b, p, t, k, j, x, y, z⟩, a) := by unfold Ftc.step; simp only [k0, k1, k2, if_false]
  rw [e]
  exact ⟨⟨h, hl, ht, hj⟩, rfl⟩

theorem Good.same {d : Ftc} {a a' : Ar} (h : d.Good a) (e : a'.cs = a.cs) : d.Good a' := { h with cells := by rw [e]; exact h.cells }

/-- One that is not done touches one cell. -/
theorem step_touch {d : Ftc} {a : Ar} (h : a.td = []) (hk : d.k < 3) : ((d.step a).2.td).length = 1 := by
  have ht : ∀ i, (a.touch i).td.length = 1 := fun i => by rw [Snd.touch_one h]; rfl
  have hp : ∀ i x, ((a.touch i).put i x).td.length = 1 := fun i x => ht i
  unfold Ftc.step
  split
  · exact ht _
  split
  · exact ht _
  split
  · exact hp _ _
  · omega

/-- So many steps, one behind the other; each begins. -/
def run (d : Ftc) (a : Ar) : Nat → Ftc × Ar
  | 0 => (d, a)
  | n + 1 => let r := run d a n; r.1.step r.2.begin
theorem run_zero (d : Ftc) (a : Ar) : run d a 0 = (d, a) := rfl
theorem run_succ (d : Ftc) (a : Ar) (n : Nat) : run d a (n + 1) = (run d a n).1.step (run d a n).2.begin := rfl

theorem put_cs (a : Ar) (i j x : Nat) : ((a.touch i).put j x).cs = a.cs.set j x := by simp [Ar.put, Ar.touch_cs]

/-- Its frame is there: five steps. -/
theorem run_there (b p t : Nat) (a : Ar) (h : a.cs.getD (Rg.stand b p t) 0 = Rg.next t) :
    ∃ a', run ⟨b, p, t, 0, 0, 0, 0, 0⟩ a 5 = (⟨b, p, t, 3, 3, a.cs.getD (Rg.stand b p t + 1) 0, a.cs.getD (Rg.stand b p t + 1 + 1) 0, a.cs.getD (Rg.stand b p t + 1 + 2) 0⟩, a') ∧ a'.cs = a.cs.set (Rg.stand b p t) (Rg.over p t) ∧ ∀ i, i < 5 → (run ⟨b, p, t, 0, 0, 0, 0, 0⟩ a i).1.k < 3 := by
  generalize hd : (⟨b, p, t, 0, 0, 0, 0, 0⟩ : Ftc) = d
  generalize hS : Rg.stand b p t = S at h ⊢
  have bc : ∀ a : Ar, a.begin.cs = a.cs := fun _ => rfl
  have g1 : run d a 1 = (⟨b, p, t, 1, 0, 0, 0, 0⟩, a.begin.touch S) := by
    rw [run_succ, run_zero, ← hd]
    show ((if a.begin.cs.getD (Rg.stand b p t) 0 = Rg.next t then (⟨b, p, t, 1, 0, 0, 0, 0⟩ : Ftc) else ⟨b, p, t, 4, 0, 0, 0, 0⟩), a.begin.touch (Rg.stand b p t)) = _
    rw [hS, bc, if_pos h]
  generalize ha1 : a.begin.touch S = a1 at g1
  have c1 : a1.cs = a.cs := by rw [← ha1, Ar.touch_cs, bc]
  have g2 : run d a 2 = (⟨b, p, t, 1, 1, a.cs.getD (S + 1) 0, 0, 0⟩, a1.begin.touch (S + 1)) := by
    rw [run_succ, g1]
    show ((⟨b, p, t, 1, 1, a1.begin.cs.getD (Rg.stand b p t + 1 + 0) 0, 0, 0⟩ : Ftc), a1.begin.touch (Rg.stand b p t + 1 + 0)) = _
    rw [hS, bc, c1]
  generalize ha2 : a1.begin.touch (S + 1) = a2 at g2
  have c2 : a2.cs = a.cs := by rw [← ha2, Ar.touch_cs, bc, c1]
  generalize hx : a.cs.getD (S + 1) 0 = x at g2 ⊢
  have g3 : run d a 3 = (⟨b, p, t, 1, 2, x, a.cs.getD (S + 1 + 1) 0, 0⟩, a2.begin.touch (S + 1 + 1)) := by
    rw [run_succ, g2]
    show ((⟨b, p, t, 1, 2, x, a2.begin.cs.getD (Rg.stand b p t + 1 + 1) 0, 0⟩ : Ftc), a2.begin.touch (Rg.stand b p t + 1 + 1)) = _
    rw [hS, bc, c2]
  generalize ha3 : a2.begin.touch (S + 1 + 1) = a3 at g3
  have c3 : a3.cs = a.cs := by rw [← ha3, Ar.touch_cs, bc, c2]
  generalize hy : a.cs.getD (S + 1 + 1) 0 = y at g3 ⊢
  have g4 : run d a 4 = (⟨b, p, t, 2, 3, x, y, a.cs.getD (S + 1 + 2) 0⟩, a3.begin.touch (S + 1 + 2)) := by
    rw [run_succ, g3]
    show ((⟨b, p, t, 2, 3, x, y, a3.begin.cs.getD (Rg.stand b p t + 1 + 2) 0⟩ : Ftc), a3.begin.touch (Rg.stand b p t + 1 + 2)) = _
    rw [hS, bc, c3]
  generalize ha4 : a3.begin.touch (S + 1 + 2) = a4 at g4
  have c4 : a4.cs = a.cs := by rw [← ha4, Ar.touch_cs, bc, c3]
  generalize hz : a.cs.getD (S + 1 + 2) 0 = z at g4 ⊢
  have g5 : run d a 5 = (⟨b, p, t, 3, 3, x, y, z⟩, (a4.begin.touch S).put S (Rg.over p t)) := by
    rw [run_succ, g4]
    show ((⟨b, p, t, 3, 3, x, y, z⟩ : Ftc), (a4.begin.touch (Rg.stand b p t)).put (Rg.stand b p t) (Rg.over p t)) = _
    rw [hS]
  refine ⟨_, g5, by rw [put_cs, bc, c4], fun i hi => ?_⟩
  obtain rfl | rfl | rfl | rfl | rfl : i = 0 ∨ i = 1 ∨ i = 2 ∨ i = 3 ∨ i = 4 := by omega
  · rw [run_zero, ← hd]; show 0 < 3; decide
  · rw [g1]; show 1 < 3; decide
  · rw [g2]; show 1 < 3; decide
  · rw [g3]; show 1 < 3; decide
  · rw [g4]; show 2 < 3; decide

/-- It is not there: one step. -/
theorem run_none (b p t : Nat) (a : Ar) (h : a.cs.getD (Rg.stand b p t) 0 ≠ Rg.next t) :
    ∃ a', run ⟨b, p, t, 0, 0, 0, 0, 0⟩ a 1 = (⟨b, p, t, 4, 0, 0, 0, 0⟩, a') ∧ a'.cs = a.cs ∧ ∀ i, i < 1 → (run ⟨b, p, t, 0, 0, 0, 0, 0⟩ a i).1.k < 3 := by
  refine ⟨a.begin.touch (Rg.stand b p t), ?_, by rw [Ar.touch_cs]; rfl, fun i hi => ?_⟩
  · rw [run_succ, run_zero]
    show ((if a.begin.cs.getD (Rg.stand b p t) 0 = Rg.next t then (⟨b, p, t, 1, 0, 0, 0, 0⟩ : Ftc) else ⟨b, p, t, 4, 0, 0, 0, 0⟩), a.begin.touch (Rg.stand b p t)) = _
    rw [show a.begin.cs = a.cs from rfl, if_neg h]
  · obtain rfl : i = 0 := by omega
    rw [run_zero]; show 0 < 3; decide
end Ftc

end Go.Proofs.Ytieehpajkidbcaa
