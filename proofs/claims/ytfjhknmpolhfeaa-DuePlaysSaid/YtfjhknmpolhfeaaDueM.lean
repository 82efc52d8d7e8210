/- Due's All. -/
import Derived.Test.YtfjhknmpolhfeaaDueL
import Derived.Test.YtfjhknmpolhfeaaItems
import Derived.Laws.Cover3
namespace Go.Proofs.Ytfjhknmpolhfeaa
open Go.RowKit Go.Sort

/-- append in a plain region, by its run. -/
theorem wpList_append_run {P : Program} {w : World} {ops : Array Oper} {rest : List Oper} {o : Oper} {a : Act} {Q : Exit → Act → World → Prop} (hgd : o.guard = none) (s x : Operand) (t : TypeId)
    (ho : o.op = .call { callee := .builtin .append, args := #[s, x], argTypes := #[t, t] }) {v vx v' : Value} {w' : World} (hs : a.eval s = v) (hx : a.eval x = vx)
    (hr : (Builtin.append_ #[t, t] o.type #[v, vx]).run P w = .ok v' w') (h : wpList P ops Q rest (a.put o.dst v') w') : wpList P ops Q (o :: rest) a w := by
  refine wpList_plain hgd fun K hK => ?_
  unfold Oper.wp execOp
  simp only [ho, resolve, invoke, builtin, Sem.run_bind, Sem.run_pure, Result.andThen_ok, List.map_toArray, List.map_cons, List.map_nil, hs, hx, hr]
  exact hK _ _ h
theorem eql_nilq (a : Option Addr) (n c : Nat) (w : World) : (binOp .eql 25 (.slice a n c) (.slice none 0 0)).run Try.prog w = .ok (.bool a.isNone) w := by
  unfold binOp
  simp [run_equal_slice_nil w 25 47 a n c Try.underlying25]

/-- What comes of copying a queue. -/
theorem clone_way {B g off cap : Nat} {q : List En} (w : World) (h : RowK w B 47 6 g off q.length cap (flat q)) (hm : q.length ≤ 1000000) (ty : TypeId) :
    ∃ g' off' cap' w2, (Builtin.append_ #[25, 25] ty #[.slice (some ⟨w.heap.size, 0, none⟩) 0 0, .slice (some ⟨g, off, none⟩) q.length cap]).run Try.prog (w.alloc (.cells #[] 47)) = .ok (.slice (some ⟨g', off', none⟩) q.length cap') w2 ∧ RowK w2 w.heap.size 47 6 g' off' q.length cap' (flat q) ∧ Rest (fun _ => False) w w2 := by
  obtain ⟨i0, hinf, hz0, hz1, hz2⟩ := info_parts Try.infoEn
  have h1 := h.kept (Below.heap_alloc w (.cells #[] 47) _ h.lt)
  obtain ⟨g', off', cap', w2, hrun, hrow, hgr, hw⟩ := run_append_rowK (P := Try.prog) (w.alloc (.cells #[] 47)) 25 ty w.heap.size 6 47 i0 _ 48 Try.underlying25 hinf hz0 hz1 hz2 rfl (by decide) w.heap.size 0 0 0 [] (RowK.nil w w.heap.size 6 47 (Nat.le_refl _)) ⟨g, off, none⟩ q.length cap (flat q) (flat_length q) (fun j u hu => by rw [Addr.add_lit]; exact h1.cell hu) (flat_one q) (by unfold maxLen; omega) (by omega) (by simp)
  rw [Nat.zero_add] at hrun hrow
  exact ⟨g', off', cap', w2, hrun, hrow, (Rest.alloc (fun _ => False) w _).trans (o3 := fun _ => False) (Rest.grown (own := fun k => k = w.heap.size) hgr (fun k e => by cases e; rfl)) (fun _ _ => id) (fun i hi e => by omega)⟩

set_option maxHeartbeats 1000000 in
/-- A queue is copied. -/
theorem clone_q {B g off cap : Nat} {q : List En} (w : World) (h : RowK w B 47 6 g off q.length cap (flat q)) (hm : q.length ≤ 1000000) :
    Calls Try.prog 17 #[.slice (some ⟨g, off, none⟩) q.length cap] w fun e w' => ∃ g' off' cap', e = .returned (.slice (some ⟨g', off', none⟩) q.length cap') ∧ RowK w' w.heap.size 47 6 g' off' q.length cap' (flat q) ∧ Rest (fun _ => False) w w' := by
  have HH := Lib.hid h
  have he := eql_nilq (some ⟨g, off, none⟩) q.length cap
  have HW := Lib.hid (clone_way w HH.out hm 25)
  clear h hm HH
  go_enter Try.func17, Try.ntmps17
  obtain ⟨g', off', cap', w2, hrun, hrow, hr⟩ := HW.out
  have HE := Lib.hid (show RowK w2 w.heap.size 47 6 g' off' q.length cap' (flat q) ∧ Rest (fun _ => False) w w2 from ⟨hrow, hr⟩)
  clear hrow hr HW
  go_wp2_with (at_builtin; refine wpList_append_run rfl _ _ 25 rfl rfl rfl hrun ?_)
  go_ret
  exact ⟨g', off', cap', rfl, HE.out⟩
theorem clone_nil (w : World) : Calls Try.prog 17 #[.slice none 0 0] w fun e w' => e = .returned (.slice none 0 0) ∧ w = w' := by
  have he := eql_nilq none 0 0
  go_enter Try.func17, Try.ntmps17
  go_wp2
  go_ret
  exact ⟨rfl, rfl⟩
end Go.Proofs.Ytfjhknmpolhfeaa
