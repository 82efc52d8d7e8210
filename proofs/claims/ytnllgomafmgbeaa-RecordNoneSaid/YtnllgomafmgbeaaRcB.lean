/- The contracts of slices.IndexFunc over records, of place, first, Find, Live. -/
import Derived.Test.YtnllgomafmgbeaaRcA
import Derived.Deep.LoopGhost
namespace Go.Proofs.Ytnllgomafmgbeaa
open Go.RowKit Go.Sort

namespace Rc
/-- What a closure that seeks says of each record, in this world and in later ones. -/
def Says (w : World) (k : Nat) (bs : Array Value) (p : Rec → Bool) : Prop := ∀ (w' : World) (P : Nat) (r : Rec), Below w.heap.size w w' → w'.heap[P]? = some (obj r) → Calls Try.prog k (#[.pointer (some ⟨P, 0, none⟩)] ++ bs) w' fun e w'' => e = .returned (.bool (p r)) ∧ Below w'.heap.size w' w''
theorem Says.call {w w' : World} {k : Nat} {bs : Array Value} {p : Rec → Bool} (h : Says w k bs p) (hb : Below w.heap.size w w') : Says w' k bs p := fun w2 P r h2 => h w2 P r (on hb h2)
theorem says_of {w : World} {b : Nat} {c : Int} (hb : w.heap[b]? = some (.cells #[.int .u32 c] 22 (0, 0))) : Says w 18 #[.pointer (some ⟨b, 0, none⟩)] (Rec.of c) := fun _ _ _ h hr => rcof1_any (keep hb h) hr
theorem says_live {w : World} {b1 b2 : Nat} {t g : Int} (hb : w.heap[b1]? = some (.cells #[.int .i64 t] 3 (0, 0))) (hb2 : w.heap[b2]? = some (.cells #[.int .i64 g] 3 (0, 0))) : Says w 19 #[.pointer (some ⟨b1, 0, none⟩), .pointer (some ⟨b2, 0, none⟩)] (Rec.live t g) := fun _ _ _ h hr => rclive1_any (keep hb h) (keep hb2 h) hr
/-- The place of the first record that is sought. -/
def at_ (p : Rec → Bool) (q : List (Nat × Rec)) : Option Nat := q.findIdx? fun x => p x.2
def place (p : Rec → Bool) (q : List (Nat × Rec)) : Int := match at_ p q with | some k => k | none => -1
/-- .. and that record. -/
def first (p : Rec → Bool) (q : List (Nat × Rec)) : Option (Nat × Rec) := q.find? fun x => p x.2
def tell (o : Option (Nat × Rec)) : Value := .pointer (o.map fun x => ⟨x.1, 0, none⟩)
theorem place_some {p : Rec → Bool} {q : List (Nat × Rec)} {k : Nat} {x : Nat × Rec} (hx : q[k]? = some x) (hp : p x.2 = true) (hn : ∀ (j : Nat) (y : Nat × Rec), j < k → q[j]? = some y → p y.2 = false) : at_ p q = some k ∧ place p q = k ∧ first p q = some x := by
  have hk := (List.getElem?_eq_some_iff.1 hx).1
  have e : q[k] = x := (List.getElem?_eq_some_iff.1 hx).2
  have h1 : at_ p q = some k := by
    unfold at_
    rw [List.findIdx?_eq_some_iff_getElem]
    refine ⟨hk, by rw [e]; exact hp, fun j hj => ?_⟩
    rw [hn j _ hj (List.getElem?_eq_getElem (by omega))]
    simp
  refine ⟨h1, by unfold place; rw [h1], ?_⟩
  unfold first
  rw [List.find?_eq_some_iff_getElem]
  refine ⟨hp, k, hk, e, fun j hj => ?_⟩
  rw [hn j _ hj (List.getElem?_eq_getElem (by omega))]
  rfl
theorem place_none {p : Rec → Bool} {q : List (Nat × Rec)} (hn : ∀ (j : Nat) (y : Nat × Rec), q[j]? = some y → p y.2 = false) : at_ p q = none ∧ place p q = -1 ∧ first p q = none := by
  have hm : ∀ x ∈ q, p x.2 = false := fun x hx => by
    obtain ⟨j, hj⟩ := List.getElem?_of_mem hx
    exact hn j x hj
  have h1 : at_ p q = none := by
    unfold at_
    rw [List.findIdx?_eq_none_iff]
    exact hm
  refine ⟨h1, by unfold place; rw [h1], ?_⟩
  unfold first
  rw [List.find?_eq_none]
  intro x hx
  rw [hm x hx]
  simp
/-- Either it stands there, or nowhere. -/
theorem there (p : Rec → Bool) (q : List (Nat × Rec)) : (∃ k x, q[k]? = some x ∧ p x.2 = true ∧ at_ p q = some k ∧ place p q = k ∧ first p q = some x) ∨ (at_ p q = none ∧ place p q = -1 ∧ first p q = none) := by
  cases h : at_ p q with
  | none =>
    refine .inr ⟨rfl, ?_⟩
    have := place_none (p := p) (q := q) fun j y hy => by
      have h' := h
      unfold at_ at h'
      rw [List.findIdx?_eq_none_iff] at h'
      exact h' y (List.mem_of_getElem? hy)
    exact this.2
  | some k =>
    have h' := h
    unfold at_ at h'
    rw [List.findIdx?_eq_some_iff_getElem] at h'
    obtain ⟨hk, hp, hn⟩ := h'
    have := place_some (p := p) (q := q) (k := k) (x := q[k]) (List.getElem?_eq_getElem hk) hp fun j y hj hy => by
      have hjl := (List.getElem?_eq_some_iff.1 hy).1
      have e := (List.getElem?_eq_some_iff.1 hy).2
      have := hn j hj
      rw [e] at this
      simpa using this
    exact .inl ⟨k, q[k], List.getElem?_eq_getElem hk, hp, rfl, this.2⟩
end Rc

section
variable {G : Nat → Prop} {w0 w w' : World} {l : List Part} {B i : Nat} {n : Int} {q : List (Nat × Rc.Rec)} {a : Option Addr} {c : Nat} {k : Nat} {bs : Array Value} {p : Rc.Rec → Bool}
set_option maxRecDepth 10000 in
/-- slices.IndexFunc. -/
theorem rcindex_any (hk : k = 18 ∨ k = 19) (w : World) (h : Rc.In w B n q a c) (hs : Rc.Says w k bs p) : Calls Try.prog 20 #[.slice a q.length c, .func (.func k) #[] bs] w fun e w' => e = .returned (.int .i64 (Rc.place p q)) ∧ Below w.heap.size w w' := by
  have hq : q.length ≤ 32 := by have := h.few; omega
  have HI := Lib.hid h
  have HS := Lib.hid hs
  clear h hs
  generalize hm : q.length = m at *
  have HM := Lib.hid hm
  clear hm
  go_enter Try.func20, Try.ntmps20
  go_wp2
  go_loopg [8] (32 : Nat) (fun g1 s8 wr => ∃ j : Nat, j ≤ m ∧ 32 - j ≤ g1 ∧ s8 = .int .i64 j ∧ Hid (Below w.heap.size w wr ∧ ∀ (i : Nat) (y : Nat × Rc.Rec), i < j → q[i]? = some y → p y.2 = false))
  case atStart => exact ⟨0, Nat.zero_le _, by omega, rfl, ⟨Below.refl _ _, fun j _ hj => absurd hj (Nat.not_lt_zero _)⟩⟩
  case round =>
    obtain ⟨j, hj, hg, rfl, HJ⟩ := hrel
    by_cases hlt : j < m
    · have hlt' : (j : Int) < (m : Int) := by omega
      have hwk : IntKind.i64.wrap ((j : Int) + 1) = (j : Int) + 1 := by rw [IntKind.wrap_i64]; omega
      obtain ⟨x, hx⟩ : ∃ x, q[j]? = some x := ⟨q[j]'(by rw [HM.out]; exact hlt), List.getElem?_eq_getElem _⟩
      obtain ⟨g, off, rfl, p0⟩ := (HI.out.call HJ.out.1).ptr_at hx
      have hcl := HS.out wr x.1 x.2 HJ.out.1 ((HI.out.call HJ.out.1).recs x (List.mem_of_getElem? hx))
      have HX := Lib.hid hx
      clear hx
      cases hs : p x.2 with
      | true =>
        rw [hs] at hcl
        have HP := Lib.hid hs
        clear hs
        rcases hk with rfl | rfl
        all_goals
          go_wp2_with fail
          refine hcl.mono ?_
          rintro e w' ⟨rfl, hr⟩
          clear p0
          go_wp2_with fail
          go_ret
          exact ⟨by rw [(Rc.place_some HX.out HP.out HJ.out.2).2.1]; rfl, on HJ.out.1 hr⟩
      | false =>
        rw [hs] at hcl
        have HP := Lib.hid hs
        clear hs
        rcases hk with rfl | rfl
        all_goals
          go_wp2_with fail
          refine hcl.mono ?_
          rintro e w' ⟨rfl, hr⟩
          clear p0
          go_wp2_with fail
          go_roundg (32 - (j + 1))
          case measure => omega
          case rel =>
            refine ⟨j + 1, by omega, by omega, by go_num, ⟨on HJ.out.1 hr, fun i y hi hy => ?_⟩⟩
            by_cases e : i = j
            · subst e
              rw [HX.out] at hy
              cases hy
              exact HP.out
            · exact HJ.out.2 i y (by omega) hy
    · obtain rfl : j = m := by omega
      go_wp2
      go_ret
      exact ⟨by rw [(Rc.place_none (p := p) fun i y hy => HJ.out.2 i y (by have := (List.getElem?_eq_some_iff.1 hy).1; have := HM.out; omega) hy).2.1]; rfl, HJ.out.1⟩
/-- place. -/
theorem rcplace_nil (v : Value) (w : World) : Calls Try.prog 16 #[.pointer none, v] w fun e w' => e = .returned (.int .i64 (-1)) ∧ w = w' := by
  go_enter Try.func16, Try.ntmps16
  go_wp2
  go_ret
  exact ⟨rfl, rfl⟩
theorem rcplace_any (hk : k = 18 ∨ k = 19) (w : World) (h : Rc.In w B n q a c) (hs : Rc.Says w k bs p) : Calls Try.prog 16 #[.pointer (some ⟨B, 0, none⟩), .func (.func k) #[] bs] w fun e w' => e = .returned (.int .i64 (Rc.place p q)) ∧ Below w.heap.size w w' := by
  have hX := Lib.hid (rcindex_any hk w h hs)
  obtain ⟨p0, p1⟩ := h.cells
  clear h hs
  generalize Rc.place p q = z at *
  go_enter Try.func16, Try.ntmps16
  go_wp2_with fail
  refine hX.out.mono ?_
  rintro e w' ⟨rfl, hr⟩
  clear p0 p1
  go_wp2_with fail
  go_ret
  exact ⟨rfl, hr⟩
/-- first. -/
theorem rcfirst_nil (v : Value) (w : World) : Calls Try.prog 13 #[.pointer none, v] w fun e w' => e = .returned (.pointer none) ∧ w = w' := by
  go_enter Try.func13, Try.ntmps13
  go_wp2_with fail
  refine (rcplace_nil v w).mono ?_
  rintro e w' ⟨rfl, rfl⟩
  go_wp2_with fail
  go_ret
  exact ⟨rfl, rfl⟩
theorem rcfirst_any (hk : k = 18 ∨ k = 19) (w : World) (h : Rc.In w B n q a c) (hs : Rc.Says w k bs p) : Calls Try.prog 13 #[.pointer (some ⟨B, 0, none⟩), .func (.func k) #[] bs] w fun e w' => e = .returned (Rc.tell (Rc.first p q)) ∧ Below w.heap.size w w' := by
  have hX := Lib.hid (rcplace_any hk w h hs)
  have HI := Lib.hid h
  clear h hs
  rcases Rc.there p q with ⟨j, x, hx, -, -, e2, e3⟩ | ⟨-, e2, e3⟩
  · rw [e2] at hX
    rw [e3]
    have hj0 : ¬(j : Int) < 0 := by omega
    have hj2 : (j : Int) < (q.length : Int) := by have := (List.getElem?_eq_some_iff.1 hx).1; omega
    have HX := Lib.hid hx
    clear e2 e3 hx
    go_enter Try.func13, Try.ntmps13
    go_wp2_with fail
    refine hX.out.mono ?_
    rintro e w' ⟨rfl, hr⟩
    have h2 := HI.out.call hr
    have HR := Lib.hid hr
    obtain ⟨g, off, rfl, p2⟩ := h2.ptr_at HX.out
    obtain ⟨p0, p1⟩ := h2.cells
    clear h2 hr
    go_wp2_with fail
    go_ret
    exact ⟨rfl, HR.out⟩
  · rw [e2] at hX
    rw [e3]
    clear e2 e3
    go_enter Try.func13, Try.ntmps13
    go_wp2_with fail
    refine hX.out.mono ?_
    rintro e w' ⟨rfl, hr⟩
    go_wp2_with fail
    go_ret
    exact ⟨rfl, hr⟩
/-- Find. -/
theorem rcfind_nil (C : Int) (w : World) : Calls Try.prog 6 #[.pointer none, .int .u32 C] w fun e w' => e = .returned (.pointer none) ∧ Below w.heap.size w w' := by
  go_enter Try.func6, Try.ntmps6
  go_wp2_with fail
  refine (rcisof_any C w).mono ?_
  rintro e w' ⟨rfl, rfl⟩
  have HB := Lib.hid (((Own.start (fun _ => False) w).lay (.cells #[.int .u32 C] 22 (0, 0))).below (fun _ => id))
  generalize w.alloc _ = w1 at HB ⊢
  go_wp2_with fail
  refine (rcfirst_nil _ _).mono ?_
  rintro e w' ⟨rfl, rfl⟩
  go_wp2_with fail
  go_ret
  exact ⟨rfl, HB.out⟩
theorem rcfind_in (C : Int) (w : World) (h : Rc.In w B n q a c) : Calls Try.prog 6 #[.pointer (some ⟨B, 0, none⟩), .int .u32 C] w fun e w' => e = .returned (Rc.tell (Rc.first (Rc.Rec.of C) q)) ∧ Below w.heap.size w w' := by
  have HB := Lib.hid (((Own.start (fun _ => False) w).lay (.cells #[.int .u32 C] 22 (0, 0))).below (fun _ => id))
  have HF := Lib.hid (rcfirst_any (.inl rfl) _ (h.call HB.out) (Rc.says_of (heap_alloc_new w (.cells #[.int .u32 C] 22 (0, 0)))))
  generalize Rc.tell (Rc.first (Rc.Rec.of C) q) = z at HF ⊢
  clear h
  go_enter Try.func6, Try.ntmps6
  go_wp2_with fail
  refine (rcisof_any C w).mono ?_
  rintro e w' ⟨rfl, rfl⟩
  generalize w.alloc _ = w1 at HB HF ⊢
  go_wp2_with fail
  refine HF.out.mono ?_
  rintro e w' ⟨rfl, hr⟩
  go_wp2_with fail
  go_ret
  exact ⟨rfl, on HB.out hr⟩
theorem rcfind_any (C : Int) (w : World) (h : Own G w0 w l) (e : l[i]? = some (Rc.part B n q)) : Calls Try.prog 6 #[.pointer (some ⟨B, 0, none⟩), .int .u32 C] w fun e w' => e = .returned (Rc.tell (Rc.first (Rc.Rec.of C) q)) ∧ Below w.heap.size w w' := by
  obtain ⟨a, c, k⟩ := Rc.seen h i e
  exact rcfind_in C w k
/-- Live. -/
theorem rclive_nil (T S : Int) (w : World) : Calls Try.prog 7 #[.pointer none, .int .i64 T, .int .i64 S] w fun e w' => e = .returned (.pointer none) ∧ Below w.heap.size w w' := by
  go_enter Try.func7, Try.ntmps7
  go_wp2_with fail
  refine (rcgoes_any T S w).mono ?_
  rintro e w' ⟨rfl, rfl⟩
  have HB := Lib.hid (((Own.start (fun _ => False) w).lay2 (.cells #[.int .i64 T] 3 (0, 0)) (.cells #[.int .i64 S] 3 (0, 0))).below (fun _ => id))
  generalize (w.alloc _).alloc _ = w1 at HB ⊢
  go_wp2_with fail
  refine (rcfirst_nil _ _).mono ?_
  rintro e w' ⟨rfl, rfl⟩
  go_wp2_with fail
  go_ret
  exact ⟨rfl, HB.out⟩
theorem rclive_in (T S : Int) (w : World) (h : Rc.In w B n q a c) : Calls Try.prog 7 #[.pointer (some ⟨B, 0, none⟩), .int .i64 T, .int .i64 S] w fun e w' => e = .returned (Rc.tell (Rc.first (Rc.Rec.live T S) q)) ∧ Below w.heap.size w w' := by
  have HO := Lib.hid ((Own.start (fun _ => False) w).lay2 (.cells #[.int .i64 T] 3 (0, 0)) (.cells #[.int .i64 S] 3 (0, 0)))
  have HB := Lib.hid (HO.out.below (fun _ => id))
  have HF := Lib.hid (rcfirst_any (.inr rfl) _ (h.call HB.out) (Rc.says_live (HO.out.box 1 rfl) (HO.out.box 0 rfl)))
  generalize Rc.tell (Rc.first (Rc.Rec.live T S) q) = z at HF ⊢
  clear h HO
  go_enter Try.func7, Try.ntmps7
  go_wp2_with fail
  refine (rcgoes_any T S w).mono ?_
  rintro e w' ⟨rfl, rfl⟩
  generalize (w.alloc _).alloc _ = w1 at HB HF ⊢
  go_wp2_with fail
  refine HF.out.mono ?_
  rintro e w' ⟨rfl, hr⟩
  go_wp2_with fail
  go_ret
  exact ⟨rfl, on HB.out hr⟩
theorem rclive_any (T S : Int) (w : World) (h : Own G w0 w l) (e : l[i]? = some (Rc.part B n q)) : Calls Try.prog 7 #[.pointer (some ⟨B, 0, none⟩), .int .i64 T, .int .i64 S] w fun e w' => e = .returned (Rc.tell (Rc.first (Rc.Rec.live T S) q)) ∧ Below w.heap.size w w' := by
  obtain ⟨a, c, k⟩ := Rc.seen h i e
  exact rclive_in T S w k
end
end Go.Proofs.Ytnllgomafmgbeaa
