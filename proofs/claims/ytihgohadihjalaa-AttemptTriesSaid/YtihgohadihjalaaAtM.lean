/- A call's tries as plain numbers: which are out, how many were retries, hedges, what becomes of each call. Nothing here speaks of a program. -/
import Derived.Test.YtihgohadihjalaaHdM
namespace Go.Proofs.Ytihgohadihjalaa.At

/-- What stays of a call's tries: its request, when it ends, how its hedges are sent. -/
structure Rq where
  k : Int
  c : Int
  s : Int
  t : Int
  g : Int
  a : Int
  r : Int
  su : Bool
  st : Bool
  q : Int
  v : Int
  E : Int
  M : Int
  A : Int
/-- How many hedges it may have. -/
def Rq.hm (u : Rq) : Nat := Hd.most u.M u.A u.su u.st
/-- What changes: how many were sent, of them retries, hedges; whether a retry is waited for; which are out. -/
structure St where
  n : Nat
  p : Nat
  h : Nat
  b : Bool
  o : Nat → Bool
/-- What is to be done: a try is sent, an alarm at a time, for something, is asked for, or the call failed. -/
inductive Mv where
  | send (n : Nat)
  | wait (z x : Int)
  | fail

def put (o : Nat → Bool) (k : Nat) (v : Bool) : Nat → Bool := fun i => if i = k then v else o i
/-- How many of the first ones are. -/
def cnt (o : Nat → Bool) : Nat → Nat
  | 0 => 0
  | n + 1 => cnt o n + if o n = true then 1 else 0
theorem cnt_le (o : Nat → Bool) : ∀ n, cnt o n ≤ n
  | 0 => Nat.le_refl _
  | n + 1 => by have := cnt_le o n; unfold cnt; split <;> omega
theorem cnt_yes {o : Nat → Bool} {n : Nat} (h : o n = true) : cnt o (n + 1) = cnt o n + 1 := by
  show cnt o n + (if o n = true then 1 else 0) = _
  rw [if_pos h]
theorem cnt_no {o : Nat → Bool} {n : Nat} (h : o n = false) : cnt o (n + 1) = cnt o n := by
  show cnt o n + (if o n = true then 1 else 0) = _
  rw [h]; rfl

namespace St
def new : St := ⟨0, 0, 0, false, fun _ => false⟩
def many (s : St) : Nat := cnt s.o s.n
/-- One more is sent. -/
def sent (s : St) : St := ⟨s.n + 1, s.p, s.h, s.b, put s.o s.n true⟩
/-- One is out no more. -/
def gone (s : St) (k : Nat) : St := ⟨s.n, s.p, s.h, s.b, put s.o k false⟩
def wait (s : St) (v : Bool) : St := ⟨s.n, s.p, s.h, v, s.o⟩
def again (s : St) : St := ⟨s.n, s.p + 1, s.h, s.b, s.o⟩
def hedge (s : St) : St := ⟨s.n, s.p, s.h + 1, s.b, s.o⟩
/-- Retries, with one that is waited for. -/
def tried (s : St) : Nat := if s.b = true then s.p + 1 else s.p
/-- The numbers fit. -/
def Ok (s : St) : Prop := s.n ≤ 16 ∧ s.p ≤ s.n ∧ s.h ≤ s.n
end St

/-- The waiting for the next hedge, if there is to be one. -/
def hedges (u : Rq) (s : St) (now : Int) : List Mv := if Hd.next u.hm u.A (s.h : Int) now u.E = 1099511627776 then [] else [.wait (Hd.next u.hm u.A (s.h : Int) now u.E) 3]
/-- The next try, and that. -/
def moves (u : Rq) (s : St) (now : Int) : List Mv := .send s.n :: hedges u s now

/-- Begin. -/
def begin_ (u : Rq) (s : St) (now : Int) : St × List Mv := if 0 < s.n then (s, []) else (s.sent, moves u s now)
/-- Due, a retry. -/
def retry (s : St) : St × List Mv :=
  if s.b = false then (s, []) else if 16 ≤ s.n then (s.wait false, []) else (((s.wait false).again).sent, [.send s.n])
/-- Due, a hedge. -/
def beside (u : Rq) (s : St) (now : Int) : St × List Mv :=
  if u.hm ≤ s.h ∨ 16 ≤ s.n then (s, []) else (s.hedge.sent, moves u s.hedge now)
def due (u : Rq) (s : St) (x now : Int) : St × List Mv :=
  if s.n = 0 then (s, []) else if x = 2 then retry s else if x = 3 then beside u s now else (s, [])

theorem next_soon {m : Nat} {A s l e : Int} (h : Hd.next m A s l e ≠ 1099511627776) : min (Tk.after (Hd.next m A s l e) 0) (Tk.clamp e) = Hd.next m A s l e := by
  have h0 := Hd.next_lo m A s l e
  have h1 := Hd.next_hi m A s l e
  have h2 : ¬Tk.clamp e ≤ Hd.next m A s l e := by
    unfold Hd.next at h ⊢
    split at h
    · exact absurd rfl h
    · rename_i hc
      rw [if_neg hc]
      omega
  generalize Hd.next m A s l e = z at *
  have h3 : Tk.after z 0 = z := by
    unfold Tk.after
    rw [show Tk.clamp z = z from Tk.clamp_in h0 h1, show Tk.clamp 0 = 0 from Tk.clamp_in (by decide) (by decide), Int.add_zero]
    exact Tk.clamp_in h0 h1
  omega

/-- What a budget has: how often, what it costs, how long it waits, at most, what is left. -/
structure Bg where
  m : Int
  g : Int
  c : Int
  r : Int
  t : Int
  b : Int
  l : Int
def Bg.take (x : Bg) : Bg := ⟨x.m, x.g, x.c, x.r, x.t, x.b, x.l - x.c⟩
/-- When the retry would come. -/
def when_ (u : Rq) (x : Bg) (s : St) (now : Int) : Int := min (Tk.after now (max 1 (Tk.twice x.t s.p x.b))) (Tk.clamp u.E)
/-- It is tried again. -/
def May (u : Rq) (x : Bg) (s : St) : Prop := u.st = false ∧ (s.p : Int) < x.m ∧ s.n < 16 ∧ x.c ≤ x.l
instance (u : Rq) (x : Bg) (s : St) : Decidable (May u x s) := by unfold May; infer_instance
/-- That try is out. -/
def IsOut (s : St) (k : Int) : Prop := 0 ≤ k ∧ k < (s.n : Int) ∧ s.o k.toNat = true
instance (s : St) (k : Int) : Decidable (IsOut s k) := by unfold IsOut; infer_instance
/-- Failed. -/
def failed (u : Rq) (x : Bg) (s : St) (k now : Int) : St × Bg × List Mv :=
  if IsOut s k then
    if 0 < (s.gone k.toNat).many ∨ s.b = true then (s.gone k.toNat, x, [])
    else if May u x s then
      if when_ u x s now < Tk.clamp u.E then ((s.gone k.toNat).wait true, x.take, [.wait (when_ u x s now) 2]) else (s.gone k.toNat, x.take, [.fail])
    else (s.gone k.toNat, x, [.fail])
  else (s, x, [])

/-! What stays true of them. -/
/-- Retries and hedges add up to what was sent, and are no more than may be. -/
structure Inv (u : Rq) (R : Int) (x : Bg) (s : St) : Prop where
  one : s.n = 1 + s.p + s.h
  most : s.n ≤ 16
  few : (s.tried : Int) ≤ x.m
  room : (s.tried : Int) + x.l ≤ R
  cost : x.c = 1
  left : 0 ≤ x.l
  hed : s.h ≤ u.hm
  str : u.st = true → s.p = 0 ∧ s.b = false
namespace Inv
variable {u : Rq} {R : Int} {x : Bg} {s : St}
theorem ok (h : Inv u R x s) : s.Ok := by have := h.one; have := h.most; unfold St.Ok; omega
theorem begin_ (hl : 0 ≤ x.l ∧ x.l ≤ R) (hm : 0 ≤ x.m) (hc : x.c = 1) (now : Int) : Inv u R x (At.begin_ u St.new now).1 := by
  unfold At.begin_
  rw [if_neg (show ¬0 < St.new.n from Nat.lt_irrefl _)]
  exact ⟨rfl, by show (0 + 1 : Nat) ≤ 16; omega, hm, by show ((0 : Nat) : Int) + x.l ≤ R; omega, hc, hl.1, Nat.zero_le _, fun _ => ⟨rfl, rfl⟩⟩
theorem retry (h : Inv u R x s) : Inv u R x (At.retry s).1 := by
  obtain ⟨h1, h2, h3, h4, h5, h6, h7, h8⟩ := h
  unfold At.retry
  cases hb : s.b
  · rw [if_pos rfl]; exact ⟨h1, h2, h3, h4, h5, h6, h7, h8⟩
  · rw [if_neg (by decide)]
    have ht : s.tried = s.p + 1 := by unfold St.tried; rw [if_pos hb]
    rw [ht] at h3 h4
    split
    · exact ⟨h1, h2, by show ((s.p : Nat) : Int) ≤ _; omega, by show ((s.p : Nat) : Int) + _ ≤ _; omega, h5, h6, h7, fun hs => ⟨(h8 hs).1, rfl⟩⟩
    · exact ⟨by show s.n + 1 = 1 + (s.p + 1) + s.h; omega, by show s.n + 1 ≤ 16; omega, by show ((s.p + 1 : Nat) : Int) ≤ _; omega, by show ((s.p + 1 : Nat) : Int) + _ ≤ _; omega, h5, h6, h7, fun hs => absurd ((h8 hs).2.symm.trans hb) (by decide)⟩
theorem beside (h : Inv u R x s) (now : Int) : Inv u R x (At.beside u s now).1 := by
  obtain ⟨h1, h2, h3, h4, h5, h6, h7, h8⟩ := h
  unfold At.beside
  split
  · exact ⟨h1, h2, h3, h4, h5, h6, h7, h8⟩
  · exact ⟨by show s.n + 1 = 1 + s.p + (s.h + 1); omega, by show s.n + 1 ≤ 16; omega, h3, h4, h5, h6, by show s.h + 1 ≤ _; omega, h8⟩
theorem due (h : Inv u R x s) (y now : Int) : Inv u R x (At.due u s y now).1 := by
  unfold At.due
  split
  · exact h
  split
  · exact h.retry
  split
  · exact h.beside now
  · exact h
theorem gone (h : Inv u R x s) (k : Nat) : Inv u R x (s.gone k) := ⟨h.one, h.most, h.few, h.room, h.cost, h.left, h.hed, h.str⟩
theorem failed (h : Inv u R x s) (k now : Int) : Inv u R (At.failed u x s k now).2.1 (At.failed u x s k now).1 := by
  unfold At.failed
  split
  · split
    · exact h.gone _
    rename_i hb
    obtain ⟨h1, h2, h3, h4, h5, h6, h7, h8⟩ := h
    have hbf : s.b = false := by cases hs : s.b; rfl; exact absurd (.inr hs) hb
    have ht : s.tried = s.p := by unfold St.tried; rw [hbf]; rfl
    rw [ht] at h3 h4
    have ht' : ∀ k, (s.gone k).tried = s.p := fun k => by unfold St.tried St.gone; rw [hbf]; rfl
    split
    · rename_i hm
      obtain ⟨m1, m2, -, m4⟩ := hm
      split
      · exact ⟨h1, h2, by show ((s.p + 1 : Nat) : Int) ≤ x.m; omega, by show ((s.p + 1 : Nat) : Int) + (x.l - x.c) ≤ R; omega, h5, by show 0 ≤ x.l - x.c; omega, h7, fun hs => absurd (m1.symm.trans hs) (by decide)⟩
      · exact ⟨h1, h2, by rw [ht']; exact h3, by rw [ht']; show (s.p : Int) + (x.l - x.c) ≤ R; omega, h5, by show 0 ≤ x.l - x.c; omega, h7, fun hs => ⟨(h8 hs).1, hbf⟩⟩
    · exact ⟨h1, h2, by rw [ht']; exact h3, by rw [ht']; exact h4, h5, h6, h7, fun hs => ⟨(h8 hs).1, hbf⟩⟩
  · exact h
/-- What the law asks. -/
theorem sum (h : Inv u R x s) : (s.n : Int) ≤ 1 + (s.tried : Int) + (s.h : Int) := by
  have := h.one
  have : s.p ≤ s.tried := by unfold St.tried; split <;> omega
  omega
theorem out (_ : Inv u R x s) : (s.many : Int) ≤ (s.n : Int) := by have := cnt_le s.o s.n; unfold St.many; omega
end Inv
end Go.Proofs.Ytihgohadihjalaa.At
