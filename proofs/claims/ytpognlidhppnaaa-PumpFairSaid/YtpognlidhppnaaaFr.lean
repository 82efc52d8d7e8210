/- Frames as plain numbers; whole blocks written in their middle. -/
import Derived.Test.YtpognlidhppnaaaItmK
import Derived.Test.YtpognlidhppnaaaUpn
namespace Go.Proofs.Ytpognlidhppnaaa
open Go.RowKit Go.Sort

/-- Cells are stored one behind the other into a block: what it is then. -/
theorem heap_setCells_list {w : World} {b o : Nat} {t : TypeId} {cs vs : List Value} (h : w.heap[b]? = some (.cells cs.toArray t (0, 0))) (hs : o + vs.length ≤ cs.length) : (w.setCells b o vs).heap[b]? = some (.cells (cs.take o ++ vs ++ cs.drop (o + vs.length)).toArray t (0, 0)) := by
  obtain ⟨c1, k1, k2, k3⟩ := setCells_all b vs o w cs.toArray h (by simpa using hs)
  rw [k1]
  congr 2
  apply Array.ext_getElem?
  intro k
  rw [k3 k]
  simp only [List.getElem?_toArray]
  have hto : (cs.take o).length = o := by rw [List.length_take]; omega
  by_cases e1 : o ≤ k ∧ k < o + vs.length
  · rw [if_pos e1, List.append_assoc, List.getElem?_append_right (by omega), hto, List.getElem?_append_left (by omega)]
  · rw [if_neg e1, List.append_assoc]
    by_cases e2 : k < o
    · rw [List.getElem?_append_left (by omega), List.getElem?_take_of_lt e2]
    · rw [List.getElem?_append_right (by omega), hto, List.getElem?_append_right (by omega), List.getElem?_drop]
      congr 1
      omega
theorem Rest.cells {own : Nat → Prop} (w : World) (b o : Nat) (vs : List Value) (h : own b) : Rest own w (w.setCells b o vs) := Rest.grown (grown_setCells b vs o w) (fun k hk => by cases hk; exact h)

namespace Wk
/-- A frame as plain numbers. -/
structure Fr where
  k : Int
  c : Int
  s : Int
  t : Int
  g : Int
  a : Int
  r : Int
  su : Bool
  st : Bool
  q : Int
  v : Int
def Fr.cells (f : Fr) : List Value := [.int .i64 f.k, .int .i64 f.c, .int .i64 f.s, .int .i64 f.t, .int .i64 f.g, .int .u32 f.a, .int .i64 f.r, .bool f.su, .bool f.st, .int .i64 f.q, .int .u32 f.v]
def zero : Fr := ⟨0, 0, 0, 0, 0, 0, 0, false, false, 0, 0⟩
/-- What answers it. -/
def Fr.ans (f : Fr) (k q v : Int) : Fr := ⟨k, f.c, f.s, f.t, f.g, f.a, f.r, f.su, f.st, q, v⟩
def fitm : Itm Fr 11 := ⟨Fr.cells, fun _ => rfl, fun a u hu => by
  simp only [Fr.cells, List.mem_cons, List.not_mem_nil, or_false] at hu
  rcases hu with rfl | rfl | rfl | rfl | rfl | rfl | rfl | rfl | rfl | rfl | rfl <;> rfl⟩
end Wk
/-- A frame's block is written over, whole, or in three of its cells. -/
theorem fr_over {w : World} {b : Nat} {cs : List Value} {t : TypeId} (f : Wk.Fr) (h : w.heap[b]? = some (.cells cs.toArray t (0, 0))) (hl : cs.length = 11) : (w.setCells b 0 f.cells).heap[b]? = some (.cells f.cells.toArray t (0, 0)) := by
  refine (heap_setCells_list h (by rw [hl]; exact Nat.le_refl _)).trans ?_
  rw [List.take_zero, List.nil_append, List.drop_of_length_le (by rw [hl]; exact Nat.le_refl _), List.append_nil]
theorem ans_laid {w : World} {b : Nat} {t : TypeId} {f : Wk.Fr} (h : w.heap[b]? = some (.cells f.cells.toArray t (0, 0))) (k q v : Int) : (((w.setCell ⟨b, 0, none⟩ (.int .i64 k)).setCell ⟨b, 9, none⟩ (.int .i64 q)).setCell ⟨b, 10, none⟩ (.int .u32 v)).heap[b]? = some (.cells (f.ans k q v).cells.toArray t (0, 0)) :=
  heap_setCell_same _ _ 10 _ _ _ (heap_setCell_same _ _ 9 _ _ _ (heap_setCell_same _ _ 0 _ _ _ h))
theorem ans_rest (w : World) (b : Nat) (k q v : Value) : Rest (fun i => i = b) w (((w.setCell ⟨b, 0, none⟩ k).setCell ⟨b, 9, none⟩ q).setCell ⟨b, 10, none⟩ v) := by
  have hh := fun (u : World) (i : Nat) (v : Value) => Rest.setCell (own := fun k => k = b) u ⟨b, i, none⟩ v rfl
  exact ((hh _ _ _).trans (hh _ _ _) (fun _ _ => id) (fun _ _ => id)).trans (o3 := fun k => k = b) (hh _ _ _) (fun _ _ => id) (fun _ _ => id)
end Go.Proofs.Ytpognlidhppnaaa
