/- A book of records in memory: its block, its row of pointers, each record's block, apart. The contracts of New, Len, Room, and of the closures that seek a record. -/
import Derived.Test.YtnllgomafmgbeaaFr
import Derived.Test.YtnllgomafmgbeaaPrtR
import Derived.RegionTactic
import Derived.BigRegion
import Derived.BigQuiet
import Derived.Deep.RegionWith
import Derived.Deep.DeepCutAuto
namespace Go.Proofs.Ytnllgomafmgbeaa
open Go.RowKit Go.Sort

namespace Rc
/-- What a client knows of a call, as plain values. -/
structure Rec where
  f : Wk.Fr
  e : Int
  how : Int
  v : Int
  tr : Option Addr
  w : Int
  g : Int
  k : Int
  ch : Option Addr
  on : Bool
  st : Bool
  ow : Bool
def Rec.cells (r : Rec) : List Value := [.int .i64 r.f.k, .int .i64 r.f.c, .int .i64 r.f.s, .int .i64 r.f.t, .int .i64 r.f.g, .int .u32 r.f.a, .int .i64 r.f.r, .bool r.f.su, .bool r.f.st, .int .i64 r.f.q, .int .u32 r.f.v, .int .i64 r.e, .int .i64 r.how, .int .u32 r.v, .pointer r.tr, .int .i64 r.w, .int .i64 r.g, .int .i64 r.k, .pointer r.ch, .bool r.on, .bool r.st, .bool r.ow]
def obj (r : Rec) : Obj := .cells r.cells.toArray 35 (0, 0)
/-- Is it of this call; does it go on in this slot's turn? -/
def Rec.of (c : Int) (r : Rec) : Bool := decide (r.f.a = c)
def Rec.live (t g : Int) (r : Rec) : Bool := decide (r.f.t = t) && (decide (r.f.g = g) && decide (r.how = 0))
def room (n : Int) : Int := max 0 (min n 32)
def ptr (x : Nat × Rec) : Value := .pointer (some ⟨x.1, 0, none⟩)
def head (n : Int) (a : Option Addr) (m c : Nat) : Obj := .cells #[.int .i64 n, .slice a m c] 46 (0, 0)
def parts (B : Nat) (n : Int) (q : List (Nat × Rec)) (a : Option Addr) (c : Nat) : List Part := .box B (head n a q.length c) :: .nl 26 a c (q.map ptr) :: q.map fun x => .box x.1 (obj x.2)
/-- A book at B with room for n, and its records, in the order in which they came. -/
def part (B : Nat) (n : Int) (q : List (Nat × Rec)) : Part := .ex fun m : Option Addr × Nat => .with_ ((q.length : Int) ≤ n ∧ n ≤ 32) (.all (parts B n q m.1 m.2))
/-- What may be read of it. -/
structure In (w : World) (B : Nat) (n : Int) (q : List (Nat × Rec)) (a : Option Addr) (c : Nat) : Prop where
  few : (q.length : Int) ≤ n ∧ n ≤ 32
  head : w.heap[B]? = some (head n a q.length c)
  row : Nl w 26 a c (q.map ptr)
  recs : ∀ x ∈ q, w.heap[x.1]? = some (obj x.2)
section
variable {G : Nat → Prop} {w0 w w' : World} {l : List Part} {B c i : Nat} {n : Int} {q : List (Nat × Rec)} {a : Option Addr}
theorem opens (h : Own G w0 w [part B n q]) : ∃ a c, ((q.length : Int) ≤ n ∧ n ≤ 32) ∧ Own G w0 w (parts B n q a c) := by
  obtain ⟨⟨a, c⟩, h⟩ := h.open_ex
  obtain ⟨hl, h⟩ := h.open_with
  exact ⟨a, c, hl, by simpa using h.open_all⟩
theorem opens_ {r : List Part} (h : Own G w0 w (part B n q :: r)) : ∃ a c, ((q.length : Int) ≤ n ∧ n ≤ 32) ∧ Own G w0 w (parts B n q a c ++ r) := by
  obtain ⟨⟨a, c⟩, h⟩ := h.open_ex
  obtain ⟨hl, h⟩ := h.open_with
  exact ⟨a, c, hl, h.open_all⟩
theorem closes (hl : (q.length : Int) ≤ n ∧ n ≤ 32) (h : Own G w0 w (parts B n q a c)) : Own G w0 w [part B n q] :=
  Own.close_ex (f := fun m : Option Addr × Nat => .with_ ((q.length : Int) ≤ n ∧ n ≤ 32) (.all (parts B n q m.1 m.2))) (a := (a, c)) (Own.close_with hl (Own.close_all (l := []) (by simpa using h)))
theorem closes_ {r : List Part} (hl : (q.length : Int) ≤ n ∧ n ≤ 32) (h : Own G w0 w (parts B n q a c ++ r)) : Own G w0 w (part B n q :: r) :=
  Own.close_ex (f := fun m : Option Addr × Nat => .with_ ((q.length : Int) ≤ n ∧ n ≤ 32) (.all (parts B n q m.1 m.2))) (a := (a, c)) (Own.close_with hl (Own.close_all h))
theorem inside (hl : (q.length : Int) ≤ n ∧ n ≤ 32) (h : Own G w0 w (parts B n q a c)) : In w B n q a c := by
  refine ⟨hl, h.box 0 rfl, ?_, fun x hx => ?_⟩
  · obtain ⟨F, h1, -⟩ := h.part 1 rfl
    exact h1.1
  · obtain ⟨k, hk⟩ := List.getElem?_of_mem hx
    exact h.box (k + 2) (by simp [parts, hk])
theorem seen (h : Own G w0 w l) (i : Nat) (e : l[i]? = some (part B n q)) : ∃ a c, In w B n q a c := by
  obtain ⟨F, hF, back⟩ := h.lift i e
  obtain ⟨a, c, hl, k⟩ := opens hF
  exact ⟨a, c, inside hl k⟩
end
namespace In
variable {w w' : World} {B c k : Nat} {n : Int} {q : List (Nat × Rec)} {a : Option Addr}
theorem call (h : In w B n q a c) (hb : Below w.heap.size w w') : In w' B n q a c :=
  ⟨h.few, keep h.head hb, h.row.past (Rest.of_below (own := fun _ => False) hb) (fun _ _ => id), fun x hx => keep (h.recs x hx) hb⟩
theorem cells (h : In w B n q a c) : w.cell? ⟨B, 0, none⟩ = some (.int .i64 n) ∧ w.cell? ⟨B, 1, none⟩ = some (.slice a q.length c) := ⟨cell_of_row _ _ _ _ _ _ h.head, cell_of_row _ _ _ _ _ _ h.head⟩
theorem ptr_at (h : In w B n q a c) {x : Nat × Rec} (hx : q[k]? = some x) : ∃ g off, a = some ⟨g, off, none⟩ ∧ w.cell? ⟨g, off + k, none⟩ = some (.pointer (some ⟨x.1, 0, none⟩)) := by
  rcases h.row with ⟨-, -, e⟩ | ⟨g, off, e, hr⟩
  · have h1 := congrArg List.length e
    have h2 := (List.getElem?_eq_some_iff.1 hx).1
    rw [List.length_map] at h1
    rw [h1] at h2
    exact absurd h2 (Nat.not_lt_zero _)
  · refine ⟨g, off, e, ?_⟩
    have := hr.cell (j := k) (u := ptr x) (by simp [hx])
    exact this
end In
end Rc
/-- Its cells. -/
theorem rc_cells {w : World} {P : Nat} {r : Rc.Rec} (h : w.heap[P]? = some (Rc.obj r)) : w.cell? ⟨P, 3, none⟩ = some (.int .i64 r.f.t) ∧ w.cell? ⟨P, 4, none⟩ = some (.int .i64 r.f.g) ∧ w.cell? ⟨P, 5, none⟩ = some (.int .u32 r.f.a) ∧ w.cell? ⟨P, 12, none⟩ = some (.int .i64 r.how) :=
  ⟨cell_of_row _ _ _ _ _ _ h, cell_of_row _ _ _ _ _ _ h, cell_of_row _ _ _ _ _ _ h, cell_of_row _ _ _ _ _ _ h⟩

/-- New. -/
theorem rcnew_any (n : Int) (w : World) : Calls Try.prog 12 #[.int .i64 n] w fun e w' => e = .returned (.pointer (some ⟨w.heap.size, 0, none⟩)) ∧ w' = w.alloc (Rc.head (Rc.room n) none 0 0) := by
  have h1 : (if (32 : Int) < n then 32 else n) = min n 32 := by omega
  have h2 : (if n < (32 : Int) then n else 32) = min n 32 := by omega
  have h3 : (if (0 : Int) < min n 32 then min n 32 else 0) = max 0 (min n 32) := by omega
  have h4 : (if min n 32 < (0 : Int) then 0 else min n 32) = max 0 (min n 32) := by omega
  go_enter Try.func12, Try.ntmps12
  go_wp2
  go_ret
  exact ⟨rfl, rfl⟩
section
variable {G : Nat → Prop} {w0 w w' : World} {l : List Part} {B i : Nat} {n : Int} {q : List (Nat × Rc.Rec)} {a : Option Addr} {c : Nat}
theorem rc_made (h : Own G w0 w l) (n : Int) : Own G w0 (w.alloc (Rc.head (Rc.room n) none 0 0)) (Rc.part w.heap.size (Rc.room n) [] :: l) := by
  have k := (Own.start (fun _ => False) w).lay (Rc.head (Rc.room n) none 0 0)
  have k2 := (k.nil_nl 26).swap
  exact h.join (Rc.closes ⟨by simp [Rc.room]; omega, by simp [Rc.room]; omega⟩ k2)
/-- Len. -/
theorem rclen_nil (w : World) : Calls Try.prog 9 #[.pointer none] w fun e w' => e = .returned (.int .i64 0) ∧ w = w' := by
  go_enter Try.func9, Try.ntmps9
  go_wp2
  go_ret
  exact ⟨rfl, rfl⟩
theorem rclen_in (w : World) (h : Rc.In w B n q a c) : Calls Try.prog 9 #[.pointer (some ⟨B, 0, none⟩)] w fun e w' => e = .returned (.int .i64 q.length) ∧ w = w' := by
  obtain ⟨p0, p1⟩ := h.cells
  clear h
  go_enter Try.func9, Try.ntmps9
  go_wp2
  go_ret
  exact ⟨rfl, rfl⟩
theorem rclen_any (w : World) (h : Own G w0 w l) (e : l[i]? = some (Rc.part B n q)) : Calls Try.prog 9 #[.pointer (some ⟨B, 0, none⟩)] w fun e w' => e = .returned (.int .i64 q.length) ∧ w = w' := by
  obtain ⟨a, c, k⟩ := Rc.seen h i e
  exact rclen_in w k
/-- Room. -/
theorem rcroom_nil (w : World) : Calls Try.prog 10 #[.pointer none] w fun e w' => e = .returned (.bool false) ∧ Below w.heap.size w w' := by
  go_enter Try.func10, Try.ntmps10
  go_upto_region 1 with fail
  go_quiet (fail)
  go_wp2_with fail
  go_ret
  exact ⟨rfl, rfl, rfl, rfl, Nat.le_refl _, fun _ _ => rfl⟩
theorem rcroom_in (w : World) (h : Rc.In w B n q a c) : Calls Try.prog 10 #[.pointer (some ⟨B, 0, none⟩)] w fun e w' => e = .returned (.bool (decide ((q.length : Int) < n))) ∧ Below w.heap.size w w' := by
  obtain ⟨p0, p1⟩ := h.cells
  have hL := fun m => rclen_in (w.drewN m) (h.call ⟨rfl, rfl, rfl, Nat.le_refl _, fun _ _ => rfl⟩)
  clear h
  go_enter Try.func10, Try.ntmps10
  go_upto_region 1 with fail
  go_quiet (first | (go_at_call 9; exact Calls.quiet_of_same ((hL _).mono (fun _ _ h => And.intro h.1 h.2.symm))) | fail)
  go_wp2_with fail
  go_ret
  exact ⟨rfl, rfl, rfl, rfl, Nat.le_refl _, fun _ _ => rfl⟩
theorem rcroom_any (w : World) (h : Own G w0 w l) (e : l[i]? = some (Rc.part B n q)) : Calls Try.prog 10 #[.pointer (some ⟨B, 0, none⟩)] w fun e w' => e = .returned (.bool (decide ((q.length : Int) < n))) ∧ Below w.heap.size w w' := by
  obtain ⟨a, c, k⟩ := Rc.seen h i e
  exact rcroom_in w k
/-- isOf, goesOn: a closure that seeks. -/
theorem rcisof_any (c : Int) (w : World) : Calls Try.prog 14 #[.int .u32 c] w fun e w' => e = .returned (.func (.func 18) #[] #[.pointer (some ⟨w.heap.size, 0, none⟩)]) ∧ w' = w.alloc (.cells #[.int .u32 c] 22 (0, 0)) := by
  go_enter Try.func14, Try.ntmps14
  go_wp2
  go_ret
  exact ⟨rfl, rfl⟩
theorem rcgoes_any (t g : Int) (w : World) : Calls Try.prog 15 #[.int .i64 t, .int .i64 g] w fun e w' => e = .returned (.func (.func 19) #[] #[.pointer (some ⟨w.heap.size, 0, none⟩), .pointer (some ⟨w.heap.size + 1, 0, none⟩)]) ∧ w' = (w.alloc (.cells #[.int .i64 t] 3 (0, 0))).alloc (.cells #[.int .i64 g] 3 (0, 0)) := by
  go_enter Try.func15, Try.ntmps15
  go_wp2
  go_ret
  exact ⟨rfl, rfl⟩
set_option maxRecDepth 10000 in
theorem rcof1_any {w : World} {b P : Nat} {c : Int} {r : Rc.Rec} (hb : w.heap[b]? = some (.cells #[.int .u32 c] 22 (0, 0))) (hr : w.heap[P]? = some (Rc.obj r)) : Calls Try.prog 18 #[.pointer (some ⟨P, 0, none⟩), .pointer (some ⟨b, 0, none⟩)] w fun e w' => e = .returned (.bool (r.of c)) ∧ Below w.heap.size w w' := by
  obtain ⟨-, -, q5, -⟩ := rc_cells hr
  have p0 := cell_of_row _ _ 0 _ _ _ hb
  clear hb hr
  go_enter Try.func18, Try.ntmps18
  go_upto_region 1 with fail
  go_quiet (fail)
  go_wp2_with fail
  go_ret
  exact ⟨rfl, rfl, rfl, rfl, Nat.le_refl _, fun _ _ => rfl⟩
set_option maxRecDepth 10000 in
theorem rclive1_any {w : World} {b1 b2 P : Nat} {t g : Int} {r : Rc.Rec} (hb : w.heap[b1]? = some (.cells #[.int .i64 t] 3 (0, 0))) (hb2 : w.heap[b2]? = some (.cells #[.int .i64 g] 3 (0, 0))) (hr : w.heap[P]? = some (Rc.obj r)) : Calls Try.prog 19 #[.pointer (some ⟨P, 0, none⟩), .pointer (some ⟨b1, 0, none⟩), .pointer (some ⟨b2, 0, none⟩)] w fun e w' => e = .returned (.bool (r.live t g)) ∧ Below w.heap.size w w' := by
  obtain ⟨q3, q4, -, q12⟩ := rc_cells hr
  have p0 := cell_of_row _ _ 0 _ _ _ hb
  have p1 := cell_of_row _ _ 0 _ _ _ hb2
  clear hb hb2 hr
  go_enter Try.func19, Try.ntmps19
  go_upto_region 1 with fail
  by_cases h1 : r.f.t = t
  · by_cases h2 : r.f.g = g
    · go_quiet (fail)
      go_wp2_with fail
      go_ret
      exact ⟨by simp only [Rc.Rec.live, h1, h2, decide_true, Bool.true_and]; rfl, rfl, rfl, rfl, Nat.le_refl _, fun _ _ => rfl⟩
    · go_quiet (fail)
      go_wp2_with fail
      go_ret
      exact ⟨by simp [Rc.Rec.live, *], rfl, rfl, rfl, Nat.le_refl _, fun _ _ => rfl⟩
  · go_quiet (fail)
    go_wp2_with fail
    go_ret
    exact ⟨by simp [Rc.Rec.live, *], rfl, rfl, rfl, Nat.le_refl _, fun _ _ => rfl⟩
end
end Go.Proofs.Ytnllgomafmgbeaa
