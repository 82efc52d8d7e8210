/- A window of the program's beside the document's own, which lies in a variable: what the law's acts leave of both. -/
import Derived.Test.YtakenaejmhdhnaaLaw16A
import Derived.Test.YtakenaejmhdhnaaRwC
namespace Go.Proofs.Ytakenaejmhdhnaa
open Go.RowKit

theorem Wnl.but {w wx : World} {P R n : Nat} {wd last : Int} {ev : List (Int × Bool)} {l : List (Nat × Obj)} {p q : Nat × Obj} (h : Wnl w wx P R n wd last ev (p :: q :: l)) : Wnl w wx P R n wd last ev (p :: l) :=
  ⟨h.wv, h.held.but, h.far, fun r hr => h.apart r (by
    rcases List.mem_cons.1 hr with e | e
    · rw [e]; exact List.mem_cons_self
    · exact List.mem_cons_of_mem _ (List.mem_cons_of_mem _ e))⟩

/-- The program's window, and the document's in the block M: rows a, a2 tell what it knows. -/
structure Wp (w wx : World) (P R M m : Nat) (d d' last : Int) (ev : List (Int × Bool)) (lm : Int) (em : List (Int × Bool)) (a : Option Addr) (c : Nat) (a2 : Option Addr) (c2 : Nat) (l : List (Nat × Obj)) : Prop where
  wl : Wnl w wx P R m d last ev ((M, .cells #[.int .i64 (m : Nat), .int .i64 d', .int .i64 lm, .slice a em.length c, .slice a2 em.length c2] 29 (0, 0)) :: l)
  at_ : Nl wx 2 a c (Wn.ats em)
  how : Nl wx 4 a2 c2 (Wn.wls em)
  far : ∀ k o, (a = some ⟨k, o, none⟩ ∨ a2 = some ⟨k, o, none⟩) → k ≠ P ∧ k ≠ R ∧ k ≠ M
namespace Wp
variable {w wx wy : World} {P R M m : Nat} {d d' last lm : Int} {ev em : List (Int × Bool)} {a a2 : Option Addr} {c c2 : Nat} {l : List (Nat × Obj)}
theorem start (h : Wnl w wx P R m d 0 [] l) : Wp w (wx.alloc (.cells #[.int .i64 (m : Nat), .int .i64 d', .int .i64 0, .slice none 0 0, .slice none 0 0] 29)) P R wx.heap.size m d d' 0 [] 0 [] none 0 none 0 l :=
  ⟨h.lay _, Nl.nil _ _, Nl.nil _ _, fun k o e => by rcases e with e | e <;> cases e⟩
theorem lay (h : Wp w wx P R M m d d' last ev lm em a c a2 c2 l) (o : Obj) : Wp w (wx.alloc o) P R M m d d' last ev lm em a c a2 c2 ((wx.heap.size, o) :: l) :=
  ⟨(h.wl.lay o).swap, h.at_.below (below_box wx o), h.how.below (below_box wx o), h.far⟩
theorem call (h : Wp w wx P R M m d d' last ev lm em a c a2 c2 l) (hb : Below wx.heap.size wx wy) : Wp w wy P R M m d d' last ev lm em a c a2 c2 l := ⟨h.wl.call hb, h.at_.below hb, h.how.below hb, h.far⟩
theorem but {p : Nat × Obj} (h : Wp w wx P R M m d d' last ev lm em a c a2 c2 (p :: l)) : Wp w wx P R M m d d' last ev lm em a c a2 c2 l := ⟨h.wl.but, h.at_, h.how, h.far⟩
/-- A call on the window. -/
theorem turn {last' : Int} {ev' : List (Int × Bool)} (h : Wp w wx P R M m d d' last ev lm em a c a2 c2 l) (hv : Wv wy P R m d last' ev') (hr : Rest (fun k => k = P ∨ k = R) wx wy) : Wp w wy P R M m d d' last' ev' lm em a c a2 c2 l :=
  ⟨h.wl.turn hv hr, h.at_.past hr (fun k ⟨o, e⟩ x => by have := h.far k o (.inl e); rcases x with x | x <;> simp_all), h.how.past hr (fun k ⟨o, e⟩ x => by have := h.far k o (.inr e); rcases x with x | x <;> simp_all), h.far⟩
/-- The document's is written anew. -/
theorem store {lm' : Int} {em' : List (Int × Bool)} {b b2 : Option Addr} {q q2 : Nat} (h : Wp w wx P R M m d d' last ev lm em a c a2 c2 l) (h1 : Nl wx 2 b q (Wn.ats em')) (h2 : Nl wx 4 b2 q2 (Wn.wls em')) (hf : ∀ k o, (b = some ⟨k, o, none⟩ ∨ b2 = some ⟨k, o, none⟩) → k ≠ P ∧ k ≠ R ∧ k ≠ M) :
    Wp w (((((wx.setCell ⟨M, 0, none⟩ (.int .i64 (m : Nat))).setCell ⟨M, 1, none⟩ (.int .i64 d')).setCell ⟨M, 2, none⟩ (.int .i64 lm')).setCell ⟨M, 3, none⟩ (.slice b em'.length q)).setCell ⟨M, 4, none⟩ (.slice b2 em'.length q2)) P R M m d d' last ev lm' em' b q b2 q2 l := by
  have hr := rest_five wx M (.int .i64 (m : Nat)) (.int .i64 d') (.int .i64 lm') (.slice b em'.length q) (.slice b2 em'.length q2)
  exact ⟨h.wl.put hr (h.wl.held.alarm.get 0 rfl), h1.past hr (fun k ⟨o, e⟩ x => (hf k o (.inl e)).2.2 x), h2.past hr (fun k ⟨o, e⟩ x => (hf k o (.inr e)).2.2 x), hf⟩
/-- .. by a row that is new. -/
theorem newer {wz : World} {g o q g2 o2 q2 n : Nat} {lm' : Int} {em' : List (Int × Bool)} (h : Wp w wx P R M m d d' last ev lm em a c a2 c2 l) (hb : Below wx.heap.size wx wy) (hn : em'.length = n)
    (h1 : RowK wy wx.heap.size 2 1 g o n q (Wn.ats em')) (h2 : RowK wy wx.heap.size 4 1 g2 o2 n q2 (Wn.wls em'))
    (hz : wz = ((((wy.setCell ⟨M, 0, none⟩ (.int .i64 (m : Nat))).setCell ⟨M, 1, none⟩ (.int .i64 d')).setCell ⟨M, 2, none⟩ (.int .i64 lm')).setCell ⟨M, 3, none⟩ (.slice (some ⟨g, o, none⟩) n q)).setCell ⟨M, 4, none⟩ (.slice (some ⟨g2, o2, none⟩) n q2)) :
    Wp w wz P R M m d d' last ev lm' em' (some ⟨g, o, none⟩) q (some ⟨g2, o2, none⟩) q2 l := by
  subst hn hz
  have hM := heap_lt (h.wl.held.get 0 rfl)
  have hP := heap_lt h.wl.wv.win.win
  have hR := heap_lt h.wl.wv.win.row
  refine (h.call hb).store (.inr ⟨g, o, rfl, ?_⟩) (.inr ⟨g2, o2, rfl, ?_⟩) (fun k p e => ?_)
  · rw [Wn.ats_length]; exact h1.lower (Nat.zero_le _)
  · rw [Wn.wls_length]; exact h2.lower (Nat.zero_le _)
  · have e1 := h1.from_
    have e2 := h2.from_
    rcases e with e | e <;> cases e <;> omega
theorem cells (h : Wp w wx P R M m d d' last ev lm em a c a2 c2 l) : wx.cell? ⟨M, 0, none⟩ = some (.int .i64 (m : Nat)) ∧ wx.cell? ⟨M, 1, none⟩ = some (.int .i64 d') ∧ wx.cell? ⟨M, 2, none⟩ = some (.int .i64 lm) ∧ wx.cell? ⟨M, 3, none⟩ = some (.slice a em.length c) ∧ wx.cell? ⟨M, 4, none⟩ = some (.slice a2 em.length c2) :=
  cells_five (h.wl.held.get 0 rfl)
theorem free (h : Wp w wx P R M m d d' last ev lm em a c a2 c2 l) (i : Nat) : wx.frozen? ⟨M, i, none⟩ = false := frozen_of_row _ _ _ _ _ (h.wl.held.get 0 rfl)
theorem below (h : Wp w wx P R M m d d' last ev lm em a c a2 c2 l) : Below w.heap.size w wx := h.wl.below
end Wp

/-- Two widths that give every early time the same bucket. -/
theorem same_bucket {wd t : Int} (h : t ≤ 100000000) : Tk.clamp t / max 1 wd = Tk.clamp t / max 1 (Tk.clamp wd) := by
  rcases Tk.clamp_ways wd with ⟨h1, h2, hc⟩ | ⟨h1, h2, hc⟩ | ⟨h1, h2, hc⟩
  · rw [hc, show max 1 wd = 1 by omega]; rfl
  · rw [hc]
    have h0 := Tk.clamp_lo t
    have h3 : Tk.clamp t ≤ 100000000 := by unfold Tk.clamp; split <;> (try split) <;> omega
    rw [Int.ediv_eq_zero_of_lt h0 (by omega), Int.ediv_eq_zero_of_lt h0 (by omega)]
  · rw [hc]
end Go.Proofs.Ytakenaejmhdhnaa
