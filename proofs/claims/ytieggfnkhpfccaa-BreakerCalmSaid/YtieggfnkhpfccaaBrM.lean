/- Plain numbers: a breaker that is shut, open or half open, what it does at a time, what a note makes of it. Nothing here speaks of a program. -/
import Derived.Test.YtieggfnkhpfccaaWinM
import Derived.Test.YtieggfnkhpfccaaTkMath
namespace Go.Proofs.Ytieggfnkhpfccaa

/-- A rule's numbers as they lie. -/
structure BRule where
  (n wd le pa co tr : Int)
structure BRule.Good (r : BRule) : Prop where
  pa0 : 1 ≤ r.pa
  pa1 : r.pa ≤ 100
  tr0 : 1 ≤ r.tr
  tr1 : r.tr ≤ 9223372036854775807
/-- .. cut to their bounds. -/
def BRule.near (r : BRule) : BRule := ⟨r.n, r.wd, max 1 r.le, max 1 (min r.pa 100), max 1 r.co, max 1 r.tr⟩
theorem BRule.near_good {r : BRule} (h : r.tr ≤ 9223372036854775807) : r.near.Good := ⟨by dsimp only [near]; omega, by dsimp only [near]; omega, by dsimp only [near]; omega, by dsimp only [near]; omega⟩
/-- How many buckets. -/
def BRule.many (r : BRule) : Int := max 1 (min r.n 16)

/-- How it stands: its state, until when it is open, how many went to try, how many of them well, the latest bucket, what happened. -/
structure Br where
  (st un we wl last : Int)
  ev : List (Int × Bool)
  deriving DecidableEq
namespace Br
def new : Br := ⟨0, 0, 0, 0, 0, []⟩
structure Ok (r : BRule) (s : Br) : Prop where
  kind : s.st = 0 ∨ s.st = 1 ∨ s.st = 2
  wl0 : 0 ≤ s.wl
  wl1 : s.wl ≤ s.we
  we1 : s.we ≤ r.tr
/-- At a time. -/
def at_ (s : Br) (t : Int) : Br := if s.st = 1 ∧ Tk.past t s.un = true then ⟨2, s.un, 0, 0, s.last, s.ev⟩ else s
/-- Whether one may go, and what is left behind it. -/
def went (r : BRule) (s : Br) : Bool := !(s.st == 1) && !(s.st == 2 && s.we == r.tr)
def gone (r : BRule) (s : Br) : Br := if s.st = 2 ∧ s.we ≠ r.tr then ⟨s.st, s.un, s.we + 1, s.wl, s.last, s.ev⟩ else s
def met (r : BRule) (s : Br) (t : Int) : Int := max s.last (Tk.clamp t / max 1 r.wd)
def meet (r : BRule) (s : Br) (t : Int) : Br := ⟨s.st, s.un, s.we, s.wl, s.met r t, s.ev⟩
def noted (r : BRule) (s : Br) (t : Int) (v : Bool) : Br := ⟨s.st, s.un, s.we, s.wl, s.met r t, s.ev ++ [(s.met r t, v)]⟩
/-- So many went so lately. -/
def lately (r : BRule) (s : Br) (v : Bool) : Int := Wn.above s.ev (s.last - r.many) v
def bad (r : BRule) (s : Br) : Bool := decide (r.le ≤ s.lately r true + s.lately r false ∧ (s.lately r true + s.lately r false) * r.pa ≤ s.lately r false * 100)
def opened (r : BRule) (s : Br) (t : Int) : Br := ⟨1, Tk.after t r.co, s.we, s.wl, s.last, []⟩
def shut (s : Br) : Br := ⟨0, s.un, s.we, s.wl, s.last, []⟩
def back (s : Br) : Br := ⟨s.st, s.un, s.we, if s.wl < s.we then s.wl + 1 else s.wl, s.last, s.ev⟩
def tried (r : BRule) (s : Br) (t : Int) (v : Bool) : Br := if v = true then if s.back.wl = r.tr then s.back.shut else s.back else s.opened r t
def note (r : BRule) (s : Br) (t : Int) (v : Bool) : Br :=
  if (s.at_ t).st = 1 then s.at_ t
  else if (s.at_ t).st = 2 then ((s.at_ t).noted r t v).tried r t v
  else if ((s.at_ t).noted r t v).bad r = true then ((s.at_ t).noted r t v).opened r t else (s.at_ t).noted r t v

theorem at_other {s : Br} (t : Int) (h : s.st ≠ 1) : s.at_ t = s := by unfold at_; rw [if_neg (fun k => h k.1)]
theorem at_yes {s : Br} {t : Int} (h : s.st = 1) (hp : Tk.past t s.un = true) : s.at_ t = ⟨2, s.un, 0, 0, s.last, s.ev⟩ := by unfold at_; rw [if_pos ⟨h, hp⟩]
theorem at_no {s : Br} {t : Int} (hp : Tk.past t s.un = false) : s.at_ t = s := by unfold at_; rw [if_neg (fun k => by rw [hp] at k; cases k.2)]
variable {r : BRule} {s : Br}
theorem noted_meet (t : Int) (v : Bool) : (s.noted r t v).meet r t = s.noted r t v := by
  simp only [noted, meet, met, Br.mk.injEq, true_and, and_true]
  omega
theorem Ok.new (h : r.Good) : Br.new.Ok r := ⟨.inl rfl, Int.le_refl _, Int.le_refl _, by have := h.tr0; dsimp only [Br.new]; omega⟩
theorem Ok.at_ (h : s.Ok r) (hr : r.Good) (t : Int) : (s.at_ t).Ok r := by
  unfold Br.at_
  split
  · exact ⟨.inr (.inr rfl), Int.le_refl _, Int.le_refl _, by have := hr.tr0; dsimp only; omega⟩
  · exact h
theorem Ok.gone (h : s.Ok r) : (s.gone r).Ok r := by
  have h0 := h.wl0; have h1 := h.wl1; have h2 := h.we1
  unfold Br.gone
  split
  · rename_i k
    exact ⟨h.kind, h0, by dsimp only; omega, by have := k.2; dsimp only; omega⟩
  · exact h
theorem Ok.meet (h : s.Ok r) (t : Int) : (s.meet r t).Ok r := ⟨h.kind, h.wl0, h.wl1, h.we1⟩
theorem Ok.noted (h : s.Ok r) (t : Int) (v : Bool) : (s.noted r t v).Ok r := ⟨h.kind, h.wl0, h.wl1, h.we1⟩
theorem Ok.opened (h : s.Ok r) (t : Int) : (s.opened r t).Ok r := ⟨.inr (.inl rfl), h.wl0, h.wl1, h.we1⟩
theorem Ok.shut (h : s.Ok r) : s.shut.Ok r := ⟨.inl rfl, h.wl0, h.wl1, h.we1⟩
theorem Ok.back (h : s.Ok r) : s.back.Ok r := by
  have h0 := h.wl0; have h1 := h.wl1; have h2 := h.we1
  refine ⟨h.kind, ?_, ?_, h2⟩ <;> dsimp only [Br.back] <;> split <;> omega
end Br
end Go.Proofs.Ytieggfnkhpfccaa
