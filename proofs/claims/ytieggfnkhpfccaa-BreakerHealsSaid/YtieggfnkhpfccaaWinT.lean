/- A window that was made since a world, beside blocks of one's own: the contracts to use. -/
import Derived.Test.YtieggfnkhpfccaaWinD
namespace Go.Proofs.Ytieggfnkhpfccaa
open Go.RowKit

/-- A window that was made since the world w, and one's own blocks beside it. -/
structure Wnl (w wx : World) (P R n : Nat) (wd last : Int) (ev : List (Int × Bool)) (l : List (Nat × Obj)) : Prop where
  wv : Wv wx P R n wd last ev
  held : Held w wx l
  far : w.heap.size ≤ P ∧ w.heap.size ≤ R
  apart : ∀ p ∈ l, p.1 ≠ P ∧ p.1 ≠ R
namespace Wnl
variable {w wx wy : World} {P R n : Nat} {wd last : Int} {ev : List (Int × Bool)} {l : List (Nat × Obj)}
theorem below (h : Wnl w wx P R n wd last ev l) : Below w.heap.size w wx := h.held.below
theorem made (h : Held w wx l) (hv : Wv wy P R n wd last ev) (hb : Below wx.heap.size wx wy) (hP : wx.heap.size ≤ P) (hR : wx.heap.size ≤ R) : Wnl w wy P R n wd last ev l :=
  ⟨hv, h.call hb, ⟨Nat.le_trans h.below.size hP, Nat.le_trans h.below.size hR⟩, fun p hp => by have := heap_lt (h.own p hp).2; omega⟩
theorem turn {last' : Int} {ev' : List (Int × Bool)} (h : Wnl w wx P R n wd last ev l) (hv : Wv wy P R n wd last' ev') (hr : Rest (fun k => k = P ∨ k = R) wx wy) : Wnl w wy P R n wd last' ev' l :=
  ⟨hv, h.held.past hr (fun p hp e => by have := h.apart p hp; rcases e with e | e <;> simp_all) (fun k e => by have := h.far; rcases e with e | e <;> omega), h.far, h.apart⟩
theorem lay (h : Wnl w wx P R n wd last ev l) (o : Obj) : Wnl w (wx.alloc o) P R n wd last ev ((wx.heap.size, o) :: l) :=
  ⟨h.wv.below (below_box wx o), h.held.lay o, h.far, fun p hp => by
    rcases List.mem_cons.1 hp with rfl | hp
    · have := heap_lt h.wv.win.win
      have := heap_lt h.wv.win.row
      dsimp only
      omega
    · exact h.apart p hp⟩
theorem call (h : Wnl w wx P R n wd last ev l) (hb : Below wx.heap.size wx wy) : Wnl w wy P R n wd last ev l := ⟨h.wv.below hb, h.held.call hb, h.far, h.apart⟩
theorem tail {p : Nat × Obj} (h : Wnl w wx P R n wd last ev (p :: l)) : Wnl w wx P R n wd last ev l := ⟨h.wv, h.held.tail, h.far, fun q hq => h.apart q (List.mem_cons_of_mem _ hq)⟩
theorem swap {p q : Nat × Obj} (h : Wnl w wx P R n wd last ev (p :: q :: l)) : Wnl w wx P R n wd last ev (q :: p :: l) :=
  ⟨h.wv, h.held.swap, h.far, fun r hr => h.apart r (by simp only [List.mem_cons] at hr ⊢; rcases hr with h | h | h <;> simp [h])⟩
/-- One's first block is written. -/
theorem put {b : Nat} {o o' : Obj} (h : Wnl w wx P R n wd last ev ((b, o) :: l)) (hr : Rest (fun k => k = b) wx wy) (hn : wy.heap[b]? = some o') : Wnl w wy P R n wd last ev ((b, o') :: l) := by
  have ha := h.apart (b, o) List.mem_cons_self
  refine ⟨h.wv.past hr (fun e => ha.1 e.symm) (fun e => ha.2 e.symm), h.held.rest hr hn, h.far, fun p hp => ?_⟩
  rcases List.mem_cons.1 hp with rfl | hp
  · exact ha
  · exact h.apart p (List.mem_cons_of_mem _ hp)
/-- .. two cells of it. -/
theorem two {b : Nat} {t : TypeId} {c0 c1 : Value} (h : Wnl w wx P R n wd last ev ((b, .cells #[c0, c1] t (0, 0)) :: l)) (x y : Value) :
    Wnl w ((wx.setCell ⟨b, 0, none⟩ x).setCell ⟨b, 1, none⟩ y) P R n wd last ev ((b, .cells #[x, y] t (0, 0)) :: l) :=
  h.put ((Rest.setCell (own := fun k => k = b) wx ⟨b, 0, none⟩ x rfl).trans (o3 := fun k => k = b) (Rest.setCell (own := fun k => k = b) _ ⟨b, 1, none⟩ y rfl) (fun _ _ => id) (fun _ _ => id)) (heap_setCell_same _ _ 1 _ _ _ (heap_setCell_same _ _ 0 _ _ _ (h.held.get 0 rfl)))
end Wnl

/-! The contracts. -/
theorem wnl_new (n wd : Int) {w wx : World} {l : List (Nat × Obj)} (h : Held w wx l) :
    Calls Try.prog 12 #[.int .i64 n, .int .i64 wd] wx fun e w' => e = .returned (.pointer (some ⟨wx.heap.size + 1, 0, none⟩)) ∧ Wnl w w' (wx.heap.size + 1) wx.heap.size (Wn.many n) (max 1 wd) 0 [] l :=
  (wdnew_any n wd wx).mono fun _ _ ⟨he, hv, hb⟩ => ⟨he, Wnl.made h hv hb (by omega) (by omega)⟩
theorem wnl_note {P R n : Nat} {wd last : Int} {ev : List (Int × Bool)} {l : List (Nat × Obj)} (t : Int) (v : Bool) {w wx : World} (h : Wnl w wx P R n wd last ev l) (hf : ev.length < 1000000) :
    Calls Try.prog 14 #[.pointer (some ⟨P, 0, none⟩), .int .i64 t, .bool v] wx fun e w' => e = .returned (.tuple #[]) ∧ Wnl w w' P R n wd (max last (Tk.clamp t / wd)) (ev ++ [(max last (Tk.clamp t / wd), v)]) l :=
  (wnote_any t v wx h.wv hf).mono fun _ _ ⟨he, hv, hr⟩ => ⟨he, h.turn hv hr⟩
theorem wnl_counts {P R n : Nat} {wd last : Int} {ev : List (Int × Bool)} {l : List (Nat × Obj)} (t : Int) {w wx : World} (h : Wnl w wx P R n wd last ev l) :
    Calls Try.prog 19 #[.pointer (some ⟨P, 0, none⟩), .int .i64 t] wx fun e w' =>
      e = .returned (.agg #[.int .i64 (Wn.above ev (max last (Tk.clamp t / wd) - n) true), .int .i64 (Wn.above ev (max last (Tk.clamp t / wd) - n) false)]) ∧ Wnl w w' P R n wd (max last (Tk.clamp t / wd)) ev l :=
  (wcounts_any t wx h.wv).mono fun _ _ ⟨he, hv, hr⟩ => ⟨he, h.turn hv hr⟩
theorem wnl_clear {P R n : Nat} {wd last : Int} {ev : List (Int × Bool)} {l : List (Nat × Obj)} {w wx : World} (h : Wnl w wx P R n wd last ev l) :
    Calls Try.prog 23 #[.pointer (some ⟨P, 0, none⟩)] wx fun e w' => e = .returned (.tuple #[]) ∧ Wnl w w' P R n wd last [] l :=
  (wclear_any wx h.wv).mono fun _ _ ⟨he, hv, hr⟩ => ⟨he, h.turn hv hr⟩
end Go.Proofs.Ytieggfnkhpfccaa
