/- One call that is sure, whatever comes of it: which states a service passes through (no program's memory). -/
import Derived.Test.YtgboiejiodgcnaaSvG
namespace Go.Proofs.Ytgboiejiodgcnaa
open Go.RowKit Go.Sort

namespace So
/-- The request, by a try. -/
def F (t : Int) : Wk.Fr := ⟨1, 1, 0, 0, 0, 9, t, true, false, 1, 7⟩
def w0 : Wk.Wo := ⟨1, [], false, Wk.zero, 0, 0⟩
def o0 : Sv.Ob := ⟨[w0, w0], 2, 4, [], 0, [], fun _ => []⟩
theorem new_is : Sv.new 2 1 4 2 = o0 := rfl
/-- One worker has it in its queue, does it, or nobody any more. -/
def has (k : Nat) (w : Wk.Wo) : List Wk.Wo := if k = 0 then [w, w0] else [w0, w]
def put_ (t : Int) : Wk.Wo := ⟨1, [F t], false, Wk.zero, 0, 0⟩
def run_ (t : Int) : Wk.Wo := ⟨1, [], true, F t, 0, 0⟩
structure Its (x : Dd.Cl) (d : Bool) : Prop where
  c : x.c = 1
  k : x.k = 9
  d : x.d = d
theorem Its.tick {x : Dd.Cl} {d : Bool} (h : Its x d) (t : Nat) : Its (x.tick t) d := ⟨h.c, h.k, h.d⟩
/-- How it ended, and what is told of that. -/
def Told (x : Dd.Cl) (s : Int) (q : List Wk.Fr) : Prop := q.length ≤ 32 ∧ ((x.o = true ∧ x.v = 7 ∧ s = 7 ∧ ∀ y ∈ q, y.k = 2 ∧ y.v = 7) ∨ (x.o = false ∧ s = 0 ∧ ∀ y ∈ q, y.k = 7))
inductive Gm : Sv.Ob → Prop
  | none_ : Gm o0
  | waits (k : Nat) (t : Int) (x : Dd.Cl) (hx : Its x false) : Gm ⟨has k (put_ t), 2, 4, [x], 0, [], fun _ => []⟩
  | runs (k : Nat) (t : Int) (x : Dd.Cl) (hx : Its x false) : Gm ⟨has k (run_ t), 2, 4, [x], 0, [F t], fun _ => []⟩
  | ended (t s : Int) (x : Dd.Cl) (out : Nat → List Wk.Fr) (hx : Its x true) (ht : Told x s (out 1)) : Gm ⟨[w0, w0], 2, 4, [x], s, [F t], out⟩

theorem look_it {x : Dd.Cl} {d : Bool} (h : Its x d) : Dd.look 1 9 [x] = some (0, x) := by
  simp [Dd.look, h.c, h.k]
/-- It is met again. -/
theorem meet_it {x : Dd.Cl} {d : Bool} (h : Its x d) {t : Int} (h0 : 0 ≤ t) (h15 : t ≤ 15) : Dd.meet 4 1 9 t true [x] = if x.m t.toNat then (1, [x]) else (Dd.told true d, [x.tick t.toNat]) := by
  unfold Dd.meet
  rw [if_neg (by omega), look_it h]
  dsimp only
  rw [h.d]
  split
  · rfl
  · rfl
theorem least_has (k : Nat) (w : Wk.Wo) (win n st : Int) (q : List Dd.Cl) (runs : List Wk.Fr) (out : Nat → List Wk.Fr) (hm : w.m = 1) : (⟨has k w, win, n, q, st, runs, out⟩ : Sv.Ob).least ≠ none := by
  intro h
  by_cases hk : k = 0
  · subst hk
    have h1 := Rt.best_none h 1 (by show 1 < 2; decide)
    rw [show (⟨has 0 w, win, n, q, st, runs, out⟩ : Sv.Ob).load 1 = 0 from rfl, show (⟨has 0 w, win, n, q, st, runs, out⟩ : Sv.Ob).room = IntKind.i64.wrap (w.m + 1) from rfl, hm] at h1
    exact absurd h1 (by decide)
  · have he : has k w = [w0, w] := if_neg hk
    rw [he] at h
    have h1 := Rt.best_none h 0 (by show 0 < 2; decide)
    rw [show (⟨[w0, w], win, n, q, st, runs, out⟩ : Sv.Ob).load 0 = 0 from rfl, show (⟨[w0, w], win, n, q, st, runs, out⟩ : Sv.Ob).room = 2 from rfl] at h1
    exact absurd h1 (by decide)
theorem busy_has {k : Nat} {w : Wk.Wo} {win n st : Int} {q : List Dd.Cl} {runs : List Wk.Fr} {out : Nat → List Wk.Fr} (hm : w.m = 1) (f : Wk.Fr) : Sv.busy ⟨has k w, win, n, q, st, runs, out⟩ f = false := by
  unfold Sv.busy
  have := least_has k w win n st q runs out hm
  cases h : (⟨has k w, win, n, q, st, runs, out⟩ : Sv.Ob).least with
  | none => exact absurd h this
  | some i => rfl
theorem Told.put {x : Dd.Cl} {s : Int} {out : Nat → List Wk.Fr} {t rt : Int} {ws : List Wk.Wo} {q : List Dd.Cl} (h : Told x s (out 1)) (y : Wk.Fr) (hc : y.c = 1) (hy : (x.o = true → y.k = 2 ∧ y.v = 7) ∧ (x.o = false → y.k = 7)) : ∃ out', (⟨ws, 2, 4, q, s, [F rt], out⟩ : Sv.Ob).put y = ⟨ws, 2, 4, q, s, [F rt], out'⟩ ∧ Told x s (out' 1) := by
  unfold Sv.Ob.put
  rw [hc]
  by_cases hl : (out 1).length < 32
  · rw [if_pos ⟨by decide, by decide, hl⟩]
    refine ⟨_, rfl, ?_⟩
    obtain ⟨-, hh⟩ := h
    refine ⟨by simp only [Int.toNat_one, if_true, List.length_append, List.length_singleton]; omega, ?_⟩
    simp only [Int.toNat_one, if_true, List.mem_append, List.mem_singleton]
    rcases hh with ⟨a, b, c, d⟩ | ⟨a, b, c⟩
    · exact .inl ⟨a, b, c, fun z hz => hz.elim (d z) (fun e => e ▸ hy.1 a)⟩
    · exact .inr ⟨a, b, fun z hz => hz.elim (c z) (fun e => e ▸ hy.2 a)⟩
  · rw [if_neg (fun e => hl e.2.2)]
    exact ⟨out, rfl, h⟩
/-- The request comes. -/
theorem Gm.request {o : Sv.Ob} (h : Gm o) {t : Int} (h0 : 0 ≤ t) (h15 : t ≤ 15) : Gm (o.request (F t)) := by
  cases h with
  | none_ =>
    have hb : Sv.busy o0 (F t) = false := rfl
    have hm : Dd.meet 4 1 9 t true [] = (0, [Dd.first 1 9 t.toNat]) := by
      unfold Dd.meet
      rw [if_neg (by omega)]; rfl
    rw [Sv.request_met hb hm, if_pos rfl]
    exact .waits 0 t (Dd.first 1 9 t.toNat) ⟨rfl, rfl, rfl⟩
  | waits k t' x hx =>
    have hm := meet_it hx h0 h15
    by_cases hxm : x.m t.toNat = true
    · rw [if_pos hxm] at hm
      rw [Sv.request_met (busy_has rfl _) hm]
      exact .waits k t' x hx
    · rw [if_neg hxm] at hm
      rw [Sv.request_met (busy_has rfl _) hm]
      exact .waits k t' _ (hx.tick _)
  | runs k t' x hx =>
    have hm := meet_it hx h0 h15
    by_cases hxm : x.m t.toNat = true
    · rw [if_pos hxm] at hm
      rw [Sv.request_met (busy_has rfl _) hm]
      exact .runs k t' x hx
    · rw [if_neg hxm] at hm
      rw [Sv.request_met (busy_has rfl _) hm]
      exact .runs k t' _ (hx.tick _)
  | ended t' s x out hx ht =>
    have hm := meet_it hx h0 h15
    have hb : Sv.busy ⟨[w0, w0], 2, 4, [x], s, [F t'], out⟩ (F t) = false := rfl
    by_cases hxm : x.m t.toNat = true
    · rw [if_pos hxm] at hm
      rw [Sv.request_met hb hm]
      exact .ended t' s x out hx ht
    · rw [if_neg hxm] at hm
      rw [Sv.request_met hb hm, if_neg (by decide), if_pos (by decide)]
      unfold Sv.Ob.again
      have hv : Dd.val 1 9 [x.tick t.toNat] = (x.v, x.o, x.d) := by unfold Dd.val; rw [look_it (hx.tick _)]; rfl
      rw [show Dd.val (F t).c (F t).a [x.tick t.toNat] = (x.v, x.o, x.d) from hv]
      have ht' : Told (x.tick t.toNat) s (out 1) := ht
      dsimp only
      cases ho : x.o with
      | true =>
        have hv7 : x.v = 7 := by
          rcases ht.2 with ⟨-, b, -⟩ | ⟨a, -⟩
          · exact b
          · rw [ho] at a; cases a
        rw [if_pos rfl, hv7]
        obtain ⟨out', e, h'⟩ := ht'.put (t := t) (rt := t') (ws := [w0, w0]) (q := [x.tick t.toNat]) ((F t).ans 2 0 7) rfl ⟨fun _ => ⟨rfl, rfl⟩, fun e => absurd (ho.symm.trans e) (by decide)⟩
        rw [e]
        exact .ended t' s _ out' (hx.tick _) h'
      | false =>
        rw [if_neg (by decide)]
        obtain ⟨out', e, h'⟩ := ht'.put (t := t) (rt := t') (ws := [w0, w0]) (q := [x.tick t.toNat]) ((F t).ans 7 0 1) rfl ⟨fun e => absurd (ho.symm.trans e) (by decide), fun _ => rfl⟩
        rw [e]
        exact .ended t' s _ out' (hx.tick _) h'
/-- It is done, fails, or nothing. -/
theorem step_it (ws : List Wk.Wo) (k : Nat) {t : Int} {x : Dd.Cl} (hx : Its x false) (hk : ws.set k w0 = [w0, w0]) (out : Int) : Gm ((⟨ws, 2, 4, [x], 0, [F t], fun _ => []⟩ : Sv.Ob).step k (run_ t) out).1 ∨ ((⟨ws, 2, 4, [x], 0, [F t], fun _ => []⟩ : Sv.Ob).step k (run_ t) out).1 = ⟨ws, 2, 4, [x], 0, [F t], fun _ => []⟩ := by
  by_cases h1 : out = 1
  · subst h1
    left
    have hs : (run_ t).step 1 0 = (((F t).ans 2 0 7, 7, true), w0) := rfl
    unfold Sv.Ob.step
    dsimp only
    rw [hs, if_pos rfl]
    dsimp only
    unfold Sv.Ob.note Sv.Ob.at_
    dsimp only
    rw [hk, show ((F t).ans 2 0 7).k = 2 from rfl, if_pos rfl]
    have hf : Dd.fin ((F t).ans 2 0 7).c ((F t).ans 2 0 7).a true ((F t).ans 2 0 7).v [x] = [x.done true 7] := by
      show Dd.fin 1 9 true 7 [x] = _
      unfold Dd.fin
      rw [look_it hx]
      dsimp only
      rw [hx.d]; rfl
    rw [hf]
    exact .ended t 7 _ _ ⟨hx.c, hx.k, rfl⟩ ⟨by show 1 ≤ 32; decide, .inl ⟨rfl, rfl, rfl, fun y hy => by simp only [Int.toNat_one, F, Wk.Fr.ans, if_true, List.nil_append, List.mem_singleton] at hy; subst hy; exact ⟨rfl, rfl⟩⟩⟩
  by_cases h2 : out = 2
  · subst h2
    left
    have hs : (run_ t).step 2 0 = (((F t).ans 7 0 1, 0, true), w0) := rfl
    unfold Sv.Ob.step
    dsimp only
    rw [hs, if_pos rfl]
    dsimp only
    unfold Sv.Ob.note Sv.Ob.at_
    dsimp only
    rw [hk, show ((F t).ans 7 0 1).k = 7 from rfl, if_neg (by decide), if_pos (.inl rfl)]
    have hf : Dd.fin ((F t).ans 7 0 1).c ((F t).ans 7 0 1).a false ((F t).ans 7 0 1).v [x] = [x.done false 1] := by
      show Dd.fin 1 9 false 1 [x] = _
      unfold Dd.fin
      rw [look_it hx]
      dsimp only
      rw [hx.d]; rfl
    rw [hf]
    exact .ended t 0 _ _ ⟨hx.c, hx.k, rfl⟩ ⟨by show 1 ≤ 32; decide, .inr ⟨rfl, rfl, fun y hy => by simp only [Int.toNat_one, F, Wk.Fr.ans, if_true, List.nil_append, List.mem_singleton] at hy; subst hy; rfl⟩⟩
  right
  have hs : (run_ t).step out 0 = ((Wk.zero, 0, false), run_ t) := by
    unfold Wk.Wo.step
    rw [if_neg h1, if_neg h2, if_neg (fun e => e.2.2 rfl)]
  unfold Sv.Ob.step
  dsimp only
  rw [hs]
  rfl
/-- A worker does something. -/
theorem Gm.work {o : Sv.Ob} (h : Gm o) {k : Nat} (hk : k < 2) (out : Int) : Gm (o.work k out).1 := by
  cases h with
  | none_ =>
    rcases (show k = 0 ∨ k = 1 by omega) with rfl | rfl <;> exact .none_
  | waits j t x hx =>
    by_cases hj : j = 0
    · subst hj
      rcases (show k = 0 ∨ k = 1 by omega) with rfl | rfl
      · exact .runs 0 t x hx
      · exact .waits 0 t x hx
    · have he : ∀ w, has j w = has 1 w := fun w => by unfold has; rw [if_neg hj]; rfl
      rw [he]
      rcases (show k = 0 ∨ k = 1 by omega) with rfl | rfl
      · exact .waits 1 t x hx
      · exact .runs 1 t x hx
  | runs j t x hx =>
    by_cases hj : j = 0
    · subst hj
      rcases (show k = 0 ∨ k = 1 by omega) with rfl | rfl
      · rcases step_it (has 0 (run_ t)) 0 (t := t) hx rfl out with h | h
        · exact h
        · show Gm (Sv.Ob.step _ 0 (run_ t) out).1
          rw [h]; exact .runs 0 t x hx
      · exact .runs 0 t x hx
    · have he : ∀ w, has j w = has 1 w := fun w => by unfold has; rw [if_neg hj]; rfl
      rw [he]
      rcases (show k = 0 ∨ k = 1 by omega) with rfl | rfl
      · exact .runs 1 t x hx
      · rcases step_it (has 1 (run_ t)) 1 (t := t) hx rfl out with h | h
        · exact h
        · show Gm (Sv.Ob.step _ 1 (run_ t) out).1
          rw [h]; exact .runs 1 t x hx
  | ended t s x out' hx ht =>
    rcases (show k = 0 ∨ k = 1 by omega) with rfl | rfl <;> exact .ended t s x out' hx ht
/-- The first answer goes. -/
theorem Gm.sent {o : Sv.Ob} (h : Gm o) {y : Wk.Fr} {q : List Wk.Fr} (hq : o.out 1 = y :: q) : Gm (o.outs 1 q) ∧ (y.k = 2 → y.v = 7) ∧ q.length ≤ 1000 := by
  cases h with
  | none_ => cases hq
  | waits k t x hx => cases hq
  | runs k t x hx => cases hq
  | ended t s x out hx ht =>
    dsimp only at hq
    rw [hq] at ht
    have hl : q.length ≤ 31 := by have := ht.1; simp only [List.length_cons] at this; omega
    refine ⟨.ended t s x _ hx ⟨by simp only [if_true]; omega, ?_⟩, fun hy => ?_, by omega⟩
    · simp only [if_true]
      exact ht.2.imp (fun ⟨a, b, c, d⟩ => ⟨a, b, c, fun z hz => d z (List.mem_cons_of_mem _ hz)⟩) (fun ⟨a, b, c⟩ => ⟨a, b, fun z hz => c z (List.mem_cons_of_mem _ hz)⟩)
    · rcases ht.2 with ⟨-, -, -, d⟩ | ⟨-, -, c⟩
      · exact (d y List.mem_cons_self).2
      · rw [c y List.mem_cons_self] at hy; exact absurd hy (by decide)
/-- What the law asks. -/
theorem Gm.asks {o : Sv.Ob} (h : Gm o) : Sv.Ok o ∧ o.ws.length = 2 ∧ o.runs.length ≤ 1 ∧ (o.st = 0 ∨ o.st = 7) := by
  have hw : ∀ x ∈ [w0, w0], x.q.length ≤ 999 ∧ IntKind.i64.wrap (x.m + 1) = 2 := fun x hx => by
    simp only [List.mem_cons, List.not_mem_nil, or_false, or_self] at hx
    subst hx; exact ⟨by decide, rfl⟩
  have hh : ∀ (k : Nat) (w : Wk.Wo), w.m = 1 → w.q.length ≤ 1 → (∀ x ∈ has k w, x.q.length ≤ 999 ∧ IntKind.i64.wrap (x.m + 1) = 2) ∧ (has k w).length = 2 ∧ ∀ win n q st runs out, (⟨has k w, win, n, q, st, runs, out⟩ : Sv.Ob).room = 2 := fun k w h1 h2 => by
    have hx : ∀ x, x = w ∨ x = w0 → x.q.length ≤ 999 ∧ IntKind.i64.wrap (x.m + 1) = 2 := fun x hx => by
      rcases hx with rfl | rfl
      · exact ⟨by omega, by rw [h1]; rfl⟩
      · exact ⟨by decide, rfl⟩
    unfold has
    split
    · refine ⟨fun x hm => hx x (by simpa using hm), rfl, fun win n q st runs out => ?_⟩
      show IntKind.i64.wrap (w.m + 1) = 2
      rw [h1]; rfl
    · exact ⟨fun x hm => hx x (by simpa [or_comm] using hm), rfl, fun win n q st runs out => rfl⟩
  cases h with
  | none_ => exact ⟨⟨by decide, fun x hx => (hw x hx).1, fun x hx => (hw x hx).2, by decide⟩, rfl, by decide, .inl rfl⟩
  | waits k t x hx =>
    obtain ⟨a, b, c⟩ := hh k (put_ t) rfl (by show 1 ≤ 1; decide)
    exact ⟨⟨by dsimp only; omega, fun x hx => (a x hx).1, fun x hx => (a x hx).2.trans (c _ _ _ _ _ _).symm, by show 1 ≤ 999; decide⟩, b, Nat.le_of_ble_eq_true rfl, .inl rfl⟩
  | runs k t x hx =>
    obtain ⟨a, b, c⟩ := hh k (run_ t) rfl (by show 0 ≤ 1; decide)
    exact ⟨⟨by dsimp only; omega, fun x hx => (a x hx).1, fun x hx => (a x hx).2.trans (c _ _ _ _ _ _).symm, by show 1 ≤ 999; decide⟩, b, Nat.le_of_ble_eq_true rfl, .inl rfl⟩
  | ended t s x out hx ht =>
    refine ⟨⟨by show 2 ≤ 1000; decide, fun x hx => (hw x hx).1, fun x hx => (hw x hx).2, by show 1 ≤ 999; decide⟩, rfl, by show 1 ≤ 1; decide, ?_⟩
    rcases ht.2 with ⟨-, -, c, -⟩ | ⟨-, c, -⟩
    · exact .inr c
    · exact .inl c
end So
end Go.Proofs.Ytgboiejiodgcnaa
