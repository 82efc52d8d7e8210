/- The queue's Pop and Push; container/heap's Pop and Push. -/
import Derived.Test.YtfjhknmpolhfeaaDueE
import Derived.Deep.AppendLies
namespace Go.Proofs.Ytfjhknmpolhfeaa
open Go.RowKit Go.Sort

set_option maxHeartbeats 2000000 in
/-- The last one is taken off. -/
theorem qpop_any {B P g off cap m : Nat} {n : Int} {q : List En} (w : World) (h : Dq w B P g off cap n q) (hl : q.length = m + 1) (hm : q.length ≤ 1000000) :
    Calls Try.prog 64 #[.pointer (some ⟨P, 0, none⟩)] w fun e w' => e = .returned (.iface 47 (.agg (Hp.enc (Hp.e q m)).toArray)) ∧ Dq w' B P g off cap n (q.take m) ∧ Rest (fun k => k = P) w w' := by
  have c0 := h.cell
  have f0 : w.frozen? ⟨P, 0, none⟩ = false := frozen_of_row _ _ _ _ _ h.hP
  have hb := h.row.lt
  obtain ⟨a0, a1, a2, a3, a4, a5⟩ := h.row.en (i := m) (by omega)
  have hp := h.old
  have hr := h.row.room
  rw [hl] at hr
  have HH := Lib.hid h
  clear h
  rw [hl] at c0
  have c1 : ∀ o, (w.alloc o).cell? ⟨P, 0, none⟩ = some (.slice (some ⟨g, off, none⟩) (m + 1) cap) := fun o => by rw [World.cell?_of_block (Below.heap_alloc _ _ _ hp)]; exact c0
  have f1 : ∀ o, (w.alloc o).frozen? ⟨P, 0, none⟩ = false := fun o => by rw [World.frozen?_of_block (Below.heap_alloc _ _ _ hp)]; exact f0
  go_enter Try.func64, Try.ntmps64
  go_wp2
  go_ret
  have h := HH.out
  have hset := heap_setCell_same _ P 0 _ _ (.slice (some ⟨g, off, none⟩) m cap) h.hP
  have hrow := h.row
  rw [hl] at hrow
  refine ⟨rfl, ⟨?_, ?_, h.bP, h.dP⟩, (Rest.setCell (own := fun k => k = P) w ⟨P, 0, none⟩ _ rfl).trans (o3 := fun k => k = P) (Rest.alloc (fun _ => False) _ _) (fun _ _ => id) (fun _ _ => False.elim)⟩
  · rw [List.length_take, show min m q.length = m by omega]
    exact (Below.heap_alloc _ _ _ (by simpa [World.setCell] using hp)).trans hset
  · rw [List.length_take, show min m q.length = m by omega]
    exact (hrow.but hl).kept ((Below.heap_alloc _ _ _ (by simpa [World.setCell] using hb)).trans (Below.heap_setCell _ _ _ _ (fun e => h.dP e)))

set_option maxHeartbeats 2000000 in
/-- The root is taken. -/
theorem hpop_any {B P g off cap m : Nat} {n : Int} {q : List En} (w : World) (h : Dq w B P g off cap n q) (hl : q.length = m + 1) (hm : q.length ≤ 1000000) (hh : Hp.Heap q q.length) :
    Calls Try.prog 14 #[.iface 49 (.pointer (some ⟨P, 0, none⟩))] w fun e w' => e = .returned (.iface 47 (.agg (Hp.enc (Hp.e q 0)).toArray)) ∧ ∃ q', Dq w' B P g off cap n q' ∧ q'.length = m ∧ q.Perm (Hp.e q 0 :: q') ∧ Hp.Heap q' q'.length ∧ Rest (fun k => k = P ∨ k = g) w w' := by
  have mN := len_met w P _ h.cell
  have mS := swap_met w P _ h.cell
  simp only [Try.types_size, Nat.reduceAdd] at mN mS
  have hs := qswap_any w h.row hm (i := 0) (j := m) (by omega) (by omega)
  have hle := h.row.room
  have hmx := h.row.most
  have HH := Lib.hid h
  have HP := Lib.hid hh
  clear h hh
  rw [hl] at mN mS hs
  go_enter Try.func14, Try.ntmps14
  go_wp2_with fail
  refine (qlen_any _ _ _ _).mono ?_
  rintro e w1 ⟨rfl, rfl⟩
  go_wp2_with fail
  refine hs.mono ?_
  rintro e w1 ⟨rfl, hrow, hr1⟩
  rw [← hl] at hrow
  have HD1 := Lib.hid (HH.out.turned hr1 (Hp.sw_length _ _ _) hrow)
  have hd := down_any w1 HD1.out (by rw [Hp.sw_length]; exact hm) (Hp.Down.start hl HP.out)
  have HR1 := Lib.hid hr1
  clear hs hrow hr1 mN mS HH
  go_wp2_with fail
  refine hd.mono ?_
  rintro e w2 ⟨⟨b, rfl⟩, q1, hd2, ⟨i, hdn⟩, hheap, hr2⟩
  obtain ⟨l1, r1, p1⟩ := Hp.popped hl hdn
  have mP := pop_met w2 P
  simp only [Try.types_size, Nat.reduceAdd] at mP
  have hp := qpop_any w2 hd2 l1 (by omega)
  rw [r1] at hp
  have HR2 := Lib.hid (HR1.out.trans (o3 := fun k => k = g) hr2 (fun _ _ => id) (fun _ _ => id))
  have HQ := Lib.hid (show q.Perm (Hp.e q 0 :: q1.take m) ∧ Hp.Heap (q1.take m) m from ⟨p1, hheap.take⟩)
  clear hd hr2 hheap hdn hd2 HR1 HD1 p1
  go_wp2_with fail
  refine hp.mono ?_
  rintro e w3 ⟨rfl, hd3, hr3⟩
  have hl3 : (q1.take m).length = m := by rw [List.length_take]; omega
  have HE := Lib.hid (show ∃ q', Dq w3 B P g off cap n q' ∧ q'.length = m ∧ q.Perm (Hp.e q 0 :: q') ∧ Hp.Heap q' q'.length ∧ Rest (fun k => k = P ∨ k = g) w w3 from
    ⟨_, hd3, hl3, HQ.out.1, by rw [hl3]; exact HQ.out.2, HR2.out.trans (o3 := fun k => k = P ∨ k = g) hr3 (fun _ _ => .inr) (fun _ _ => .inl)⟩)
  clear hp hd3 hr3 HR2 HQ
  go_wp2
  go_ret
  exact ⟨rfl, HE.out⟩
end Go.Proofs.Ytfjhknmpolhfeaa
