/- A service as plain values: its workers, the calls it knows, its state, what was begun, and the answers that wait for each client; what each of its calls makes of it. -/
import Derived.Test.YtgboiejiodgcnaaWkR
import Derived.Test.YtgboiejiodgcnaaDdQ
import Derived.Test.YtgboiejiodgcnaaRtM
namespace Go.Proofs.Ytgboiejiodgcnaa
open Go.RowKit Go.Sort

namespace Dd
/-- Where a call is known: the first place of this name. -/
def look (c k : Int) : List Cl → Option (Nat × Cl)
  | [] => none
  | x :: r => if x.c = c ∧ x.k = k then some (0, x) else (look c k r).map fun p => (p.1 + 1, p.2)
theorem look_some {c k : Int} : ∀ {q : List Cl} {i : Nat} {x : Cl}, look c k q = some (i, x) → At q c k i x
  | [], i, x, h => by cases h
  | y :: r, i, x, h => by
    rw [look] at h
    split at h
    · rename_i he
      cases h
      exact ⟨rfl, he, (fun j _ hj => absurd hj (Nat.not_lt_zero j))⟩
    · rename_i he
      obtain ⟨⟨i', x'⟩, hp, e⟩ := Option.map_eq_some_iff.1 h
      cases e
      have hA := look_some hp
      refine ⟨hA.at_, hA.is, fun j z hj hz => ?_⟩
      match j with
      | 0 => cases hz; exact he
      | j + 1 => exact hA.first j z (by dsimp only at hj; omega) hz
theorem look_none {c k : Int} : ∀ {q : List Cl}, look c k q = none → Non q c k
  | [], _ => fun j y hy => by cases hy
  | x :: r, h => by
    rw [look] at h
    split at h
    · cases h
    · rename_i he
      have hN := look_none (Option.map_eq_none_iff.1 h)
      intro j y hy
      match j with
      | 0 => cases hy; exact he
      | j + 1 => exact hN j y hy
/-- How often it was begun; what became of it. -/
def runs (c k : Int) (q : List Cl) : Int := match look c k q with | none => 0 | some (_, x) => x.r
def val (c k : Int) (q : List Cl) : Int × Bool × Bool := match look c k q with | none => (0, false, false) | some (_, x) => (x.v, x.o, x.d)
/-- Met: what is told, and what is known then. -/
def told (su d : Bool) : Int := if su then (if d then 3 else 2) else 0
def more (x : Cl) (t : Nat) (su : Bool) : Cl := if su then x.tick t else (x.tick t).run
def meet (n : Int) (c k t : Int) (su : Bool) (q : List Cl) : Int × List Cl :=
  if t < 0 ∨ 15 < t then (4, q) else match look c k q with
  | none => if (q.length : Int) < n then (0, q ++ [first c k t.toNat]) else (4, q)
  | some (i, x) => if x.m t.toNat then (1, q) else (told su x.d, q.set i (more x t.toNat su))
def fin (c k : Int) (ok : Bool) (v : Int) (q : List Cl) : List Cl := match look c k q with
  | none => q
  | some (i, x) => if x.d then q else q.set i (x.done ok v)
theorem fin_length (c k : Int) (ok : Bool) (v : Int) (q : List Cl) : (fin c k ok v q).length = q.length := by
  unfold fin
  split
  · rfl
  · split <;> simp
end Dd

namespace Wk
/-- What a handler does: what it answers, the state behind it, is it done; and what the worker is then. -/
def Wo.step (o : Wo) (out s : Int) : (Fr × Int × Bool) × Wo :=
  if out = 1 then ((o.fin s, o.stt s, true), o.rest)
  else if out = 2 then ((o.j.ans 7 0 1, s, true), o.rest)
  else if out = 3 ∧ o.n < 65535 ∧ o.l ≠ 0 then ((o.j.ans 3 o.n (ch o.j.q o.j.v o.n), s, true), { o with l := IntKind.i64.wrap (o.l - 1), n := IntKind.i64.wrap (o.n + 1) })
  else ((zero, 0, false), o)
end Wk

namespace Sv
structure Ob where
  ws : List Wk.Wo
  win : Int
  n : Int
  q : List Dd.Cl
  st : Int
  runs : List Wk.Fr
  out : Nat → List Wk.Fr
namespace Ob
variable (o : Ob)
/-- How much each worker has; how much it may have. -/
def load (i : Nat) : Int := match o.ws[i]? with | some w => w.load | none => 0
def room : Int := match o.ws[0]? with | some w => IntKind.i64.wrap (w.m + 1) | none => 0
/-- Who has the least to do. -/
def least : Option Nat := Rt.best o.load o.room o.ws.length
/-- How many answers wait. -/
def waits (c : Int) : Nat := if 0 ≤ c ∧ c < 4 then (o.out c.toNat).length else 0
/-- An answer waits, or is lost. -/
def put (f : Wk.Fr) : Ob := if 0 ≤ f.c ∧ f.c < 4 ∧ (o.out f.c.toNat).length < 32 then { o with out := fun c => if c = f.c.toNat then o.out c ++ [f] else o.out c } else o
/-- A worker is given something, a worker is this. -/
def give (i : Nat) (f : Wk.Fr) : Ob := match o.ws[i]? with | some w => { o with ws := o.ws.set i { w with q := w.q ++ [f] } } | none => o
def at_ (i : Nat) (w : Wk.Wo) : Ob := { o with ws := o.ws.set i w }
/-- A call that is done is told again. -/
def again (f : Wk.Fr) : Ob := if (Dd.val f.c f.a o.q).2.1 then o.put (f.ans 2 0 (Dd.val f.c f.a o.q).1) else o.put (f.ans 7 0 1)
/-- What is done with a request. -/
def request (f : Wk.Fr) : Ob :=
  if o.least = none ∧ (f.su = false ∨ Dd.runs f.c f.a o.q = 0) then o.put (f.ans 7 0 3)
  else
    let m := Dd.meet o.n f.c f.a f.r f.su o.q
    let o' : Ob := { o with q := m.2 }
    if m.1 = 0 then (match o.least with | some i => o'.give i f | none => o')
    else if m.1 = 3 then o'.again f
    else if m.1 = 4 then o'.put (f.ans 7 0 3)
    else o'
/-- A worker begins. -/
def begin_ (i : Nat) (w : Wk.Wo) : Ob × Bool := match w.q with
  | [] => (o, false)
  | x :: q => ({ o.at_ i ⟨w.m, q, true, x, if x.st then IntKind.i64.wrap (w.l + Cr.cut 0 (Cr.cut 1 o.win)) else w.l, w.n⟩ with runs := o.runs ++ [x] }, true)
/-- What a handler answered is noted, and waits. -/
def note (f : Wk.Fr) : Ob := ({ o with q := if f.k = 2 then Dd.fin f.c f.a true f.v o.q else if f.k = 7 ∨ f.k = 4 then Dd.fin f.c f.a false f.v o.q else o.q } : Ob).put f
/-- A handler does something. -/
def step (i : Nat) (w : Wk.Wo) (out : Int) : Ob × Bool :=
  if (w.step out o.st).1.2.2 then (({ o.at_ i (w.step out o.st).2 with st := (w.step out o.st).1.2.1 } : Ob).note (w.step out o.st).1.1, true) else (o, false)
def work (n out : Int) : Ob × Bool :=
  if n < 0 then (o, false) else match o.ws[n.toNat]? with
  | none => (o, false)
  | some w => if w.b then (if o.waits w.j.c < 32 then o.step n.toNat w out else (o, false)) else o.begin_ n.toNat w
/-- The first answer goes. -/
def sent (c : Int) : Ob := if 0 ≤ c ∧ c < 4 then { o with out := fun i => if i = c.toNat then (o.out i).tail else o.out i } else o
end Ob
/-- A service that was just made. -/
def new (workers queue known win : Int) : Ob := ⟨List.replicate (max 1 (min workers 4)).toNat (Wk.new (Wk.room queue)), win, Dd.room known, [], 0, [], fun _ => []⟩
/-- What its calls ask: few workers, each with few that wait and the same room; few calls are known. -/
structure Ok (o : Ob) : Prop where
  few : o.ws.length ≤ 1000
  q : ∀ x ∈ o.ws, x.q.length ≤ 999
  rm : ∀ x ∈ o.ws, IntKind.i64.wrap (x.m + 1) = o.room
  k : o.q.length ≤ 999
/-- A request that no worker takes; one that is met. -/
def busy (o : Ob) (f : Wk.Fr) : Bool := o.least.isNone && (!f.su || decide (Dd.runs f.c f.a o.q = 0))
theorem request_busy {o : Ob} {f : Wk.Fr} (h : busy o f = true) : o.request f = o.put (f.ans 7 0 3) := by
  unfold busy at h
  unfold Ob.request
  rw [if_pos]
  simp only [Bool.and_eq_true, Option.isNone_iff_eq_none, Bool.or_eq_true, Bool.not_eq_true', decide_eq_true_eq] at h
  exact h
theorem request_met {o : Ob} {f : Wk.Fr} (h : busy o f = false) {c : Int} {q : List Dd.Cl} (hm : Dd.meet o.n f.c f.a f.r f.su o.q = (c, q)) : o.request f =
    if c = 0 then (match o.least with | some i => ({ o with q := q } : Ob).give i f | none => { o with q := q }) else if c = 3 then ({ o with q := q } : Ob).again f else if c = 4 then ({ o with q := q } : Ob).put (f.ans 7 0 3) else { o with q := q } := by
  unfold busy at h
  unfold Ob.request
  rw [if_neg, hm]
  intro hh
  rw [Bool.and_eq_false_iff] at h
  rcases h with h | h
  · rw [hh.1] at h; cases h
  · rw [Bool.or_eq_false_iff] at h
    rcases hh.2 with e | e
    · rw [e] at h; exact absurd h.1 (by decide)
    · exact of_decide_eq_false h.2 e
end Sv
end Go.Proofs.Ytgboiejiodgcnaa
