/- A service in memory: its block, its workers behind a row of pointers, its calls, what was begun, and the answers that wait, all apart. The contracts of isClient, Waits, State, worker, room. -/
import Derived.Test.YtgboiejiodgcnaaSvM
import Derived.Test.YtgboiejiodgcnaaFrw
import Derived.BigQuiet
import Derived.Deep.DeepCutAuto
namespace Go.Proofs.Ytgboiejiodgcnaa
open Go.RowKit Go.Sort

namespace Sv
/-- Where its rows and its calls lie. -/
structure Mem where
  g : Nat
  off : Nat
  cap : Nat
  C : Nat
  ba : Option Addr
  bc : Nat
  oa : Nat → Option Addr
  oc : Nat → Nat
def cells (o : Ob) (m : Mem) : List Value := [.slice (some ⟨m.g, m.off, none⟩) o.ws.length m.cap, .int .i64 o.win, .pointer (some ⟨m.C, 0, none⟩), .int .u32 o.st, .slice m.ba o.runs.length m.bc, .slice (m.oa 0) (o.out 0).length (m.oc 0), .slice (m.oa 1) (o.out 1).length (m.oc 1), .slice (m.oa 2) (o.out 2).length (m.oc 2), .slice (m.oa 3) (o.out 3).length (m.oc 3)]
def ptrs (ps : List Nat) : List Value := ps.map fun P => Value.pointer (some ⟨P, 0, none⟩)
def parts (S : Nat) (ps : List Nat) (o : Ob) (m : Mem) : List Part := .box S (.cells (cells o m).toArray 52 (0, 0)) :: .row 53 1 m.g m.off o.ws.length m.cap (ptrs ps) :: .dc m.C o.n o.q :: .fr m.ba m.bc o.runs :: .fr (m.oa 0) (m.oc 0) (o.out 0) :: .fr (m.oa 1) (m.oc 1) (o.out 1) :: .fr (m.oa 2) (m.oc 2) (o.out 2) :: .fr (m.oa 3) (m.oc 3) (o.out 3) :: List.zipWith Part.wk ps o.ws
/-- A service at S, its workers at ps. -/
def part (S : Nat) (ps : List Nat) (o : Ob) : Part := .ex fun m : Mem => .with_ (ps.length = o.ws.length) (.all (parts S ps o m))
section
variable {G : Nat → Prop} {w0 w w' : World} {l : List Part} {S : Nat} {ps : List Nat} {o : Ob}
theorem opens (h : Own G w0 w [part S ps o]) : ∃ m, ps.length = o.ws.length ∧ Own G w0 w (parts S ps o m) := by
  obtain ⟨m, h⟩ := h.open_ex
  obtain ⟨hl, h⟩ := h.open_with
  exact ⟨m, hl, by simpa using h.open_all⟩
theorem closes {m : Mem} (hl : ps.length = o.ws.length) (h : Own G w0 w (parts S ps o m)) : Own G w0 w [part S ps o] :=
  Own.close_ex (f := fun m : Mem => .with_ (ps.length = o.ws.length) (.all (parts S ps o m))) (a := m) (Own.close_with hl (Own.close_all (l := []) (by simpa using h)))
/-- One of its workers, one of its rows of answers: where it stands among the parts. -/
theorem wk_at {m : Mem} {k P : Nat} {x : Wk.Wo} (hp : ps[k]? = some P) (hx : o.ws[k]? = some x) : (parts S ps o m)[8 + k]? = some (.wk P x) := by
  rw [Nat.add_comm]
  exact (List.getElem?_zipWith ..).trans (by simp [hp, hx])
theorem fr_at {m : Mem} {c : Nat} (hc : c < 4) : (parts S ps o m)[4 + c]? = some (.fr (m.oa c) (m.oc c) (o.out c)) := by
  rcases (show c = 0 ∨ c = 1 ∨ c = 2 ∨ c = 3 by omega) with rfl | rfl | rfl | rfl <;> rfl
/-- What may be read of it. -/
theorem seen (h : Own G w0 w l) (i : Nat) (e : l[i]? = some (part S ps o)) : ∃ m : Mem, ps.length = o.ws.length ∧ w.heap[S]? = some (.cells (cells o m).toArray 52 (0, 0)) ∧ RowK w 0 53 1 m.g m.off o.ws.length m.cap (ptrs ps) := by
  obtain ⟨F, hF, back⟩ := h.lift i e
  obtain ⟨m, hl, k⟩ := opens hF
  exact ⟨m, hl, k.box 0 rfl, k.row 1 rfl⟩
theorem cells_at {w : World} {m : Mem} (h : w.heap[S]? = some (.cells (cells o m).toArray 52 (0, 0))) : w.cell? ⟨S, 0, none⟩ = some (.slice (some ⟨m.g, m.off, none⟩) o.ws.length m.cap) ∧ w.cell? ⟨S, 1, none⟩ = some (.int .i64 o.win) ∧ w.cell? ⟨S, 2, none⟩ = some (.pointer (some ⟨m.C, 0, none⟩)) ∧ w.cell? ⟨S, 3, none⟩ = some (.int .u32 o.st) ∧ w.cell? ⟨S, 4, none⟩ = some (.slice m.ba o.runs.length m.bc) ∧ ∀ c, c < 4 → w.cell? ⟨S, 5 + c, none⟩ = some (.slice (m.oa c) (o.out c).length (m.oc c)) := by
  refine ⟨cell_of_row _ _ _ _ _ _ h, cell_of_row _ _ _ _ _ _ h, cell_of_row _ _ _ _ _ _ h, cell_of_row _ _ _ _ _ _ h, cell_of_row _ _ _ _ _ _ h, fun c hc => ?_⟩
  rcases (show c = 0 ∨ c = 1 ∨ c = 2 ∨ c = 3 by omega) with rfl | rfl | rfl | rfl <;> exact cell_of_row _ _ _ _ _ _ h
theorem ptr_at {w : World} {g off n cap k P : Nat} (h : RowK w 0 53 1 g off n cap (ptrs ps)) (hp : ps[k]? = some P) : w.cell? ⟨g, off + k, none⟩ = some (.pointer (some ⟨P, 0, none⟩)) := h.cell (by simp [ptrs, hp])
/-- One of its workers is called. -/
theorem wk (h : Own G w0 w l) (i : Nat) (e : l[i]? = some (part S ps o)) {k P : Nat} {x : Wk.Wo} (hp : ps[k]? = some P) (hx : o.ws[k]? = some x) : ∃ L, Wd w P x L ∧ ∀ {w' : World} {x' : Wk.Wo} {L' : Option Nat}, Wd w' P x' L' → (L' = L ∨ ∀ j, L' = some j → w.heap.size ≤ j) → Rest (fun k => k = P ∨ L = some k) w w' → Own G w0 w' (l.set i (part S ps (o.at_ k x'))) := by
  obtain ⟨F, hF, back⟩ := h.lift i e
  obtain ⟨m, hl, k1⟩ := opens hF
  obtain ⟨L, hw, hb⟩ := k1.wk (8 + k) (wk_at hp hx)
  refine ⟨L, hw, fun {w' x' L'} j1 j2 j3 => back (closes (o := o.at_ k x') (m := m) (by rw [hl]; simp [Ob.at_]) ?_)⟩
  have hk := (List.getElem?_eq_some_iff.1 hx).1
  have hz : (List.zipWith Part.wk ps o.ws).set k (.wk P x') = List.zipWith Part.wk ps (o.ws.set k x') := by
    apply List.ext_getElem?
    intro j
    rw [List.getElem?_set, List.getElem?_zipWith, List.getElem?_zipWith, List.getElem?_set]
    by_cases hj : k = j
    · subst hj
      rw [if_pos rfl, if_pos rfl, if_pos hk, if_pos (by rw [List.length_zipWith]; omega), hp]
    · rw [if_neg hj, if_neg hj]
  have := hb j1 j2 j3
  rw [show 8 + k = k + 1 + 1 + 1 + 1 + 1 + 1 + 1 + 1 by omega] at this
  simp only [parts, List.set_cons_succ, hz] at this
  have hlen : (o.at_ k x').ws.length = o.ws.length := by simp [Ob.at_]
  have hc : cells (o.at_ k x') m = cells o m := by simp [cells, Ob.at_]
  simp only [parts, hlen, hc]
  exact this
/-- Its calls are called. -/
theorem dc (h : Own G w0 w l) (i : Nat) (e : l[i]? = some (part S ps o)) : ∃ (m : Mem) (L : Option Nat), w.heap[S]? = some (.cells (cells o m).toArray 52 (0, 0)) ∧ Dc w m.C o.n o.q L ∧ ∀ {w' : World} {Q' : List Dd.Cl} {L' : Option Nat}, Dc w' m.C o.n Q' L' → (L' = L ∨ ∀ j, L' = some j → w.heap.size ≤ j) → Rest (fun k => k = m.C ∨ L = some k) w w' → Own G w0 w' (l.set i (part S ps { o with q := Q' })) := by
  obtain ⟨F, hF, back⟩ := h.lift i e
  obtain ⟨m, hl, k1⟩ := opens hF
  obtain ⟨L, hw, hb⟩ := k1.dc 2 rfl
  exact ⟨m, L, k1.box 0 rfl, hw, fun {w' Q' L'} j1 j2 j3 => back (closes (o := { o with q := Q' }) (m := m) hl (hb j1 j2 j3))⟩
end
end Sv

/-- isClient. -/
theorem svclient_yes {c : Int} (h0 : 0 ≤ c) (h4 : c < 4) (w : World) : Calls Try.prog 31 #[.int .i64 c] w fun e w' => e = .returned (.bool true) ∧ w = w' := by
  have hd0 : decide (0 ≤ c) = true := decide_eq_true h0
  have hd4 : decide (c < 4) = true := decide_eq_true h4
  go_enter Try.func31, Try.ntmps31
  go_wp2
  go_ret
  exact ⟨rfl, rfl⟩
theorem svclient_no {c : Int} (h : c < 0 ∨ 4 ≤ c) (w : World) : Calls Try.prog 31 #[.int .i64 c] w fun e w' => e = .returned (.bool false) ∧ w = w' := by
  by_cases h0 : 0 ≤ c
  · have hd0 : decide (0 ≤ c) = true := decide_eq_true h0
    have hd4 : decide (c < 4) = false := decide_eq_false (by omega)
    clear h
    go_enter Try.func31, Try.ntmps31
    go_wp2
    go_ret
    exact ⟨rfl, rfl⟩
  · have hd0 : decide (0 ≤ c) = false := decide_eq_false h0
    clear h
    go_enter Try.func31, Try.ntmps31
    go_wp2
    go_ret
    exact ⟨rfl, rfl⟩

section
variable {G : Nat → Prop} {w0 : World} {l : List Part} {S i : Nat} {ps : List Nat} {o : Sv.Ob}
/-- Waits. -/
theorem svwaits_nil (c : Int) (w : World) : Calls Try.prog 16 #[.pointer none, .int .i64 c] w fun e w' => e = .returned (.int .i64 0) ∧ w = w' := by
  go_enter Try.func16, Try.ntmps16
  go_wp2
  go_ret
  exact ⟨rfl, rfl⟩
theorem svwaits_any (c : Int) (w : World) (h : Own G w0 w l) (e : l[i]? = some (Sv.part S ps o)) : Calls Try.prog 16 #[.pointer (some ⟨S, 0, none⟩), .int .i64 c] w fun e w' => e = .returned (.int .i64 (o.waits c : Nat)) ∧ w = w' := by
  obtain ⟨m, -, hS, -⟩ := Sv.seen h i e
  obtain ⟨p0, p1, p2, p3, p4, p5⟩ := Sv.cells_at hS
  clear h e
  by_cases hc : 0 ≤ c ∧ c < 4
  · obtain ⟨k, rfl⟩ : ∃ k : Nat, c = k := ⟨c.toNat, by omega⟩
    have hk : k < 4 := by omega
    have hki : (k : Int) < 4 := by omega
    have pk := p5 k hk
    rw [show o.waits (k : Int) = (o.out k).length by unfold Sv.Ob.waits; rw [if_pos hc]; rfl]
    clear hc p0 p1 p2 p3 p4 p5 hS
    go_enter Try.func16, Try.ntmps16
    go_wp2_with fail
    refine (svclient_yes (by omega) hki w).mono ?_
    rintro e w1 ⟨rfl, rfl⟩
    go_wp2_with fail
    go_ret
    exact ⟨rfl, rfl⟩
  · rw [show o.waits c = 0 by unfold Sv.Ob.waits; rw [if_neg hc]]
    have hn : c < 0 ∨ 4 ≤ c := by omega
    clear hc p0 p1 p2 p3 p4 p5 hS
    go_enter Try.func16, Try.ntmps16
    go_wp2_with fail
    refine (svclient_no hn w).mono ?_
    rintro e w1 ⟨rfl, rfl⟩
    go_wp2_with fail
    go_ret
    exact ⟨rfl, rfl⟩
/-- State. -/
theorem svstate_nil (w : World) : Calls Try.prog 11 #[.pointer none] w fun e w' => e = .returned (.int .u32 0) ∧ w = w' := by
  go_enter Try.func11, Try.ntmps11
  go_wp2
  go_ret
  exact ⟨rfl, rfl⟩
theorem svstate_any (w : World) (h : Own G w0 w l) (e : l[i]? = some (Sv.part S ps o)) : Calls Try.prog 11 #[.pointer (some ⟨S, 0, none⟩)] w fun e w' => e = .returned (.int .u32 o.st) ∧ w = w' := by
  obtain ⟨m, -, hS, -⟩ := Sv.seen h i e
  obtain ⟨p0, p1, p2, p3, p4, p5⟩ := Sv.cells_at hS
  clear h e hS p5
  go_enter Try.func11, Try.ntmps11
  go_wp2
  go_ret
  exact ⟨rfl, rfl⟩
/-- worker. -/
theorem svworker_nil (n : Int) (w : World) : Calls Try.prog 19 #[.pointer none, .int .i64 n] w fun e w' => e = .returned (.pointer none) ∧ w = w' := by
  go_enter Try.func19, Try.ntmps19
  go_wp2
  go_ret
  exact ⟨rfl, rfl⟩
theorem svworker_no {n : Int} (hn : n < 0 ∨ (o.ws.length : Int) ≤ n) (w : World) (h : Own G w0 w l) (e : l[i]? = some (Sv.part S ps o)) : Calls Try.prog 19 #[.pointer (some ⟨S, 0, none⟩), .int .i64 n] w fun e w' => e = .returned (.pointer none) ∧ w = w' := by
  obtain ⟨m, -, hS, -⟩ := Sv.seen h i e
  obtain ⟨p0, p1, p2, p3, p4, p5⟩ := Sv.cells_at hS
  clear h e hS p5
  by_cases h0 : n < 0
  · have hd : decide (n < 0) = true := decide_eq_true h0
    clear hn
    go_enter Try.func19, Try.ntmps19
    go_wp2
    go_ret
    exact ⟨rfl, rfl⟩
  · have hd : decide (n < 0) = false := decide_eq_false h0
    have hl : (o.ws.length : Int) ≤ n := by omega
    have hd2 : decide ((o.ws.length : Int) ≤ n) = true := decide_eq_true hl
    clear hn
    go_enter Try.func19, Try.ntmps19
    go_wp2
    go_ret
    exact ⟨rfl, rfl⟩
theorem svworker_yes {k P : Nat} (hp : ps[k]? = some P) (w : World) (h : Own G w0 w l) (e : l[i]? = some (Sv.part S ps o)) : Calls Try.prog 19 #[.pointer (some ⟨S, 0, none⟩), .int .i64 (k : Nat)] w fun e w' => e = .returned (.pointer (some ⟨P, 0, none⟩)) ∧ w = w' := by
  obtain ⟨m, hl, hS, hr⟩ := Sv.seen h i e
  obtain ⟨p0, p1, p2, p3, p4, p5⟩ := Sv.cells_at hS
  have hk : k < o.ws.length := hl ▸ (List.getElem?_eq_some_iff.1 hp).1
  have hki : ¬(o.ws.length : Int) ≤ (k : Int) := by omega
  have hd0 : decide ((k : Int) < 0) = false := decide_eq_false (by omega)
  have hd : decide ((o.ws.length : Int) ≤ (k : Int)) = false := decide_eq_false hki
  have hki2 : (k : Int) < (o.ws.length : Int) := by omega
  have pk := Sv.ptr_at hr hp
  clear h e hS p5 hr hl
  go_enter Try.func19, Try.ntmps19
  go_wp2
  go_ret
  exact ⟨rfl, rfl⟩
/-- room. -/
theorem svroom_any (w : World) (h : Own G w0 w l) (e : l[i]? = some (Sv.part S ps o)) : Calls Try.prog 37 #[.pointer (some ⟨S, 0, none⟩)] w fun e w' => e = .returned (.int .i64 o.room) ∧ w = w' := by
  obtain ⟨m, hl, -, -⟩ := Sv.seen h i e
  cases hx : o.ws[0]? with
  | none =>
    have h0 : o.ws.length = 0 := by simpa using hx
    rw [show o.room = 0 by unfold Sv.Ob.room; rw [hx]]
    go_enter Try.func37, Try.ntmps37
    go_wp2_with fail
    refine (svworker_no (n := 0) (.inr (by omega)) w h e).mono ?_
    rintro e w1 ⟨rfl, rfl⟩
    go_wp2_with fail
    refine (wkroom_nil w).mono ?_
    rintro e w1 ⟨rfl, rfl⟩
    go_wp2_with fail
    go_ret
    exact ⟨rfl, rfl⟩
  | some x =>
    rw [show o.room = IntKind.i64.wrap (x.m + 1) by unfold Sv.Ob.room; rw [hx]]
    have h0 : 0 < ps.length := hl ▸ (List.getElem?_eq_some_iff.1 hx).1
    obtain ⟨P, hp⟩ : ∃ P, ps[0]? = some P := ⟨ps[0], List.getElem?_eq_getElem h0⟩
    obtain ⟨L, hw, -⟩ := Sv.wk h i e hp hx
    have HW := Lib.hid hw
    have hW := Lib.hid (svworker_yes (k := 0) hp w h e)
    generalize hm : IntKind.i64.wrap (x.m + 1) = m
    have HM := Lib.hid hm
    clear h e hw hx hp h0 hl hm
    go_enter Try.func37, Try.ntmps37
    go_wp2_with fail
    refine hW.out.mono ?_
    rintro e w1 ⟨rfl, rfl⟩
    go_wp2_with fail
    refine (wkroom_any HM.out w HW.out).mono ?_
    rintro e w1 ⟨rfl, rfl⟩
    go_wp2_with fail
    go_ret
    exact ⟨rfl, rfl⟩
end
end Go.Proofs.Ytgboiejiodgcnaa
