/- container/heap's up and down over a queue of entries. -/
import Derived.Test.YtfjhknmpolhfeaaDueC
namespace Go.Proofs.Ytfjhknmpolhfeaa
open Go.RowKit Go.Sort

/-- A queue that is not nil, in its Due. -/
structure Dq (w : World) (B P g off cap : Nat) (n : Int) (q : List En) : Prop where
  hP : w.heap[P]? = some (.cells #[.slice (some ⟨g, off, none⟩) q.length cap, .int .i64 n] 27 (0, 0))
  row : RowK w B 47 6 g off q.length cap (flat q)
  bP : B ≤ P
  dP : g ≠ P

namespace Dq
variable {w w' : World} {B P g off cap : Nat} {n : Int} {q : List En}
theorem cell (h : Dq w B P g off cap n q) : w.cell? ⟨P, 0, none⟩ = some (.slice (some ⟨g, off, none⟩) q.length cap) := by rw [cell_of_row _ _ _ _ _ _ h.hP]; rfl
theorem laid (h : Dq w B P g off cap n q) : w.cell? ⟨P, 1, none⟩ = some (.int .i64 n) := by rw [cell_of_row _ _ _ _ _ _ h.hP]; rfl
theorem old (h : Dq w B P g off cap n q) : P < w.heap.size := lt_of_block h.hP
theorem kept {own : Nat → Prop} (h : Dq w B P g off cap n q) (hr : Rest own w w') (hp : ¬ own P) (hg : ¬ own g) : Dq w' B P g off cap n q :=
  ⟨(hr.block _ h.old hp).trans h.hP, h.row.kept (hr.block _ h.row.lt hg), h.bP, h.dP⟩
theorem none (h : Dq w B P g off cap n q) (hr : Rest (fun _ => False) w w') : Dq w' B P g off cap n q := h.kept hr (fun x => x) (fun x => x)
theorem turned {q' : List En} (h : Dq w B P g off cap n q) (hr : Rest (fun k => k = g) w w') (hl : q'.length = q.length) (hrow : RowK w' B 47 6 g off q.length cap (flat q')) : Dq w' B P g off cap n q' :=
  ⟨by rw [hl]; exact (hr.block _ h.old (fun e => h.dP e.symm)).trans h.hP, by rw [hl]; exact hrow, h.bP, h.dP⟩
end Dq

theorem less_met (w : World) (P : Nat) (v : Value) (h : w.cell? ⟨P, 0, none⟩ = some v) : Sem.run Try.prog (method (Try.prog.types.size + 100) 49 (.pointer (some ⟨P, 0, none⟩)) "Less") w = .ok (62, v) w := by
  have e : Sem.run Try.prog (method (Try.prog.types.size + 100) 49 (.pointer (some ⟨P, 0, none⟩)) "Less") w = Sem.run Try.prog (do pure (62, ← loadVar 25 ⟨P, 0, none⟩)) w := by kernel_rfl
  rw [e]
  have ha : ∀ w, Sem.run Try.prog (isAgg 25) w = .ok false w := fun _ => by kernel_rfl
  simp [loadVar, Sem.run_bind, ha, h]
theorem len_met (w : World) (P : Nat) (v : Value) (h : w.cell? ⟨P, 0, none⟩ = some v) : Sem.run Try.prog (method (Try.prog.types.size + 100) 49 (.pointer (some ⟨P, 0, none⟩)) "Len") w = .ok (61, v) w := by
  have e : Sem.run Try.prog (method (Try.prog.types.size + 100) 49 (.pointer (some ⟨P, 0, none⟩)) "Len") w = Sem.run Try.prog (do pure (61, ← loadVar 25 ⟨P, 0, none⟩)) w := by kernel_rfl
  rw [e]
  have ha : ∀ w, Sem.run Try.prog (isAgg 25) w = .ok false w := fun _ => by kernel_rfl
  simp [loadVar, Sem.run_bind, ha, h]
theorem swap_met (w : World) (P : Nat) (v : Value) (h : w.cell? ⟨P, 0, none⟩ = some v) : Sem.run Try.prog (method (Try.prog.types.size + 100) 49 (.pointer (some ⟨P, 0, none⟩)) "Swap") w = .ok (63, v) w := by
  have e : Sem.run Try.prog (method (Try.prog.types.size + 100) 49 (.pointer (some ⟨P, 0, none⟩)) "Swap") w = Sem.run Try.prog (do pure (63, ← loadVar 25 ⟨P, 0, none⟩)) w := by kernel_rfl
  rw [e]
  have ha : ∀ w, Sem.run Try.prog (isAgg 25) w = .ok false w := fun _ => by kernel_rfl
  simp [loadVar, Sem.run_bind, ha, h]
theorem push_met (w : World) (P : Nat) : Sem.run Try.prog (method (Try.prog.types.size + 100) 49 (.pointer (some ⟨P, 0, none⟩)) "Push") w = .ok (65, .pointer (some ⟨P, 0, none⟩)) w := by kernel_rfl
theorem pop_met (w : World) (P : Nat) : Sem.run Try.prog (method (Try.prog.types.size + 100) 49 (.pointer (some ⟨P, 0, none⟩)) "Pop") w = .ok (64, .pointer (some ⟨P, 0, none⟩)) w := by kernel_rfl

set_option maxHeartbeats 2000000 in
/-- The last one goes up. -/
theorem up_any {B P g off cap : Nat} {n : Int} {q : List En} (w : World) (h : Dq w B P g off cap n q) (hm : q.length ≤ 1000000) {q0 : List En} {j : Nat} (hu : Hp.Up q0 q j) :
    Calls Try.prog 21 #[.iface 49 (.pointer (some ⟨P, 0, none⟩)), .int .i64 j] w fun e w' => e = .returned (.tuple #[]) ∧ ∃ q', Dq w' B P g off cap n q' ∧ q'.Perm q0 ∧ Hp.Heap q' q'.length ∧ Rest (fun k => k = g) w w' := by
  have HH := Lib.hid h
  have HU := Lib.hid hu
  have HM := Lib.hid hm
  clear h hu hm
  go_enter Try.func21, Try.ntmps21
  go_wp2_with fail
  go_loopg [1] j (fun g1 v wr => ∃ (k : Nat) (qk : List En), v = .int .i64 k ∧ k ≤ g1 ∧ Hid (Dq wr B P g off cap n qk) ∧ Hid (Hp.Up q0 qk k) ∧ Hid (qk.length ≤ 1000000) ∧ Hid (Rest (fun k => k = g) w wr))
  case atStart => exact ⟨j, q, rfl, Nat.le_refl _, HH, HU, HM, Rest.refl _ _⟩
  case round =>
    obtain ⟨k, qk, rfl, hk, HD, HUk, HMk, HRk⟩ := hrel
    have c0 := HD.out.cell
    have hlt := HUk.out.lt
    have hml := HMk.out
    match k, hk, HUk, hlt with
    | 0, hk, HUk, hlt =>
      go_wp2
      go_end0
      exact ⟨rfl, qk, HD.out, HUk.out.perm, HUk.out.stop (.inl rfl), HRk.out⟩
    | k + 1, hk, HUk, hlt =>
      have mL := less_met wr P _ c0
      simp only [Try.types_size, Nat.reduceAdd] at mL
      have hk2 : ((k : Int) / 2 == (k : Int) + 1) = false := by simp; omega
      have hl := qless_any wr HD.out.row hml (i := k + 1) (j := k / 2) hlt (by omega)
      have e1 : (((k + 1 : Nat)) : Int) = (k : Int) + 1 := by omega
      have e2 : (((k / 2 : Nat)) : Int) = (k : Int) / 2 := by omega
      rw [e1, e2] at hl
      have HP : (k + 1 - 1) / 2 = k / 2 := by omega
      cases hv : En.lt (Hp.e qk (k + 1)) (Hp.e qk (k / 2)) with
      | true =>
        rw [hv] at hl
        go_wp2_with fail
        refine hl.mono ?_
        rintro e w2 ⟨rfl, m, os, hw2⟩
        have hr2 : Rest (fun _ => False) wr w2 := by rw [hw2]; exact Rest.grow _ _ _ _
        clear hw2 hl mL
        have HD2 := Lib.hid (HD.out.none hr2)
        have c2 := HD2.out.cell
        have mS := swap_met w2 P _ c2
        simp only [Try.types_size, Nat.reduceAdd] at mS
        have hs := qswap_any w2 HD2.out.row hml (i := k / 2) (j := k + 1) (by omega) hlt
        rw [e1, e2] at hs
        go_wp2_with fail
        refine hs.mono ?_
        rintro e w3 ⟨rfl, hrow, hr3⟩
        have HD3 := Lib.hid (HD2.out.turned hr3 (Hp.sw_length _ _ _) hrow)
        have HU3 := Lib.hid (HUk.out.step (Nat.succ_pos k) (by rw [HP]; exact hv))
        rw [HP] at HU3
        have HR3 := Lib.hid ((HRk.out.trans (o3 := fun k => k = g) hr2 (fun _ _ => id) (fun _ _ => False.elim)).trans (o3 := fun k => k = g) hr3 (fun _ _ => id) (fun _ _ => id))
        have HM3 := Lib.hid (show (Hp.sw qk (k / 2) (k + 1)).length ≤ 1000000 by rw [Hp.sw_length]; exact hml)
        clear hs mS hr2 hr3 hrow c2 c0 HD HD2 HUk HRk HMk
        go_wp2_with fail
        go_roundg (k / 2)
        case measure => omega
        case rel => exact ⟨k / 2, _, by rw [e2], Nat.le_refl _, HD3, HU3, HM3, HR3⟩
      | false =>
        rw [hv] at hl
        go_wp2_with fail
        refine hl.mono ?_
        rintro e w2 ⟨rfl, m, os, hw2⟩
        have hr2 : Rest (fun _ => False) wr w2 := by rw [hw2]; exact Rest.grow _ _ _ _
        clear hw2 hl mL
        go_wp2
        go_end0
        exact ⟨rfl, qk, HD.out.none hr2, HUk.out.perm, HUk.out.stop (.inr (by rw [HP]; exact hv)), HRk.out.trans (o3 := fun k => k = g) hr2 (fun _ _ => id) (fun _ _ => False.elim)⟩
end Go.Proofs.Ytfjhknmpolhfeaa
