/- What stands behind several calls that do something to an arena: they add up; boxes and blocks of others' lie beside it. -/
import Derived.Test.YteijikcggflaoaaDoorArnC
import Derived.Test.YteijikcggflaoaaDoorBox
namespace Go.Proofs.YteijikcggflaoaaDoor
open Go.RowKit

theorem Now.below {w w' : World} {B : Nat} {s : Spot} {a0 a : Ar} (h0 : Arena w B s a0) (h : Now w w' B s a) : Below B w w' := by
  obtain ⟨T, _, _, hR⟩ := h
  exact hR.below (by have := h0.size; omega) h0.from

/-- What lies by itself behind the arena's own pieces is as it was. -/
theorem Now.cell {w w' : World} {B : Nat} {s : Spot} {a : Ar} (h : Now w w' B s a) {p : Addr} (hp : p.block < w.heap.size) (hn : ¬ s.has p.block) : w'.cell? p = w.cell? p := by
  obtain ⟨T, _, _, hR⟩ := h
  exact World.cell?_of_block (hR.block _ hp hn)
theorem Now.size {w w' : World} {B : Nat} {s : Spot} {a : Ar} (h : Now w w' B s a) : w.heap.size ≤ w'.heap.size := by
  obtain ⟨T, _, _, hR⟩ := h
  exact hR.size
/-- Blocks that are laid ahead, and behind. -/
theorem Now.behind {w w1 w2 : World} {B : Nat} {s : Spot} {a : Ar} (h : Now w w1 B s a) (hb : Below w1.heap.size w1 w2) : Now w w2 B s a := by
  obtain ⟨T, hT, hA, hR⟩ := h
  exact ⟨T, hT, hA.kept (Rest.of_below hb) (fun _ _ => id), hR.trans (o2 := fun _ => False) (Rest.of_below hb) (fun _ _ x => x) (fun _ _ x => x.elim)⟩
theorem Now.ahead {w w1 w2 : World} {B : Nat} {s : Spot} {a : Ar} (hb : Below w.heap.size w w1) (h : Now w1 w2 B s a) : Now w w2 B s a := by
  obtain ⟨T, hT, hA, hR⟩ := h
  refine ⟨T, ?_, hA, (Rest.of_below (own := fun _ => False) hb).trans hR (fun _ _ x => x.elim) (fun _ _ x => x)⟩
  rcases hT with e | e
  · exact .inl e
  · exact .inr (fun k hk => by have := e k hk; have := hb.size; omega)
/-- A call that does something to the arena, behind others. -/
theorem Now.call {w w1 w2 : World} {B : Nat} {s : Spot} {a a' : Ar} (h : Now w w1 B s a) (hc : ∀ T, Arena w1 B { s with T := T } a → Now w1 w2 B { s with T := T } a') : Now w w2 B s a' := by
  obtain ⟨T, hT, hA, hR⟩ := h
  exact Now.step hT hR (hc T hA)
theorem Now.arena {w w' : World} {B : Nat} {s : Spot} {a : Ar} (h : Now w w' B s a) : ∃ T, Arena w' B { s with T := T } a ∧ (∀ (w2 : World) (a' : Ar), Now w' w2 B { s with T := T } a' → Now w w2 B s a') := by
  obtain ⟨T, hT, hA, hR⟩ := h
  exact ⟨T, hA, fun _ _ h => Now.step hT hR h⟩
/-- A box that was laid ahead of all that is done to the arena. -/
theorem Now.box {w w' : World} {B : Nat} {s : Spot} {a0 a : Ar} {x y : Value} {t : TypeId} (h0 : Arena w B s a0) (h : Now (w.alloc (.cells #[x, y] t)) w' B s a) :
    w'.cell? ⟨w.heap.size, 0, none⟩ = some x ∧ w'.cell? ⟨w.heap.size, 1, none⟩ = some y ∧ Now w w' B s a := by
  have hn : ¬ s.has w.heap.size := fun hk => Nat.lt_irrefl _ (h0.old _ hk)
  refine ⟨?_, ?_, Now.ahead (below_box w _) h⟩
  · rw [h.cell (by simp) hn]; exact cell_two_new w x y t 0 x rfl
  · rw [h.cell (by simp) hn]; exact cell_two_new w x y t 1 y rfl

end Go.Proofs.YteijikcggflaoaaDoor
