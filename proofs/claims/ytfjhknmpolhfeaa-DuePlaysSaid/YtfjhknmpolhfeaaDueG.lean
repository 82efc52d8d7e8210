/- The queue's Push; container/heap's Push. -/
import Derived.Test.YtfjhknmpolhfeaaDueF
namespace Go.Proofs.Ytfjhknmpolhfeaa
open Go.RowKit Go.Sort

/-- append, run: its end grows, where it lay or in a new block. -/
theorem run_append_rowK {P : Program} (w : World) (t ty : TypeId) (B k : Nat) (e : TypeId) (i : TypeInfo) (z : Value) (bytes : Nat) (ht : P.underlying t = some (.slice e)) (hi : P.info? e = some i) (hz : i.zero = some z)
    (hsize : i.size = k) (hby : i.bytes = bytes) (hzs : z.cells.size = k) (hk : 0 < k)
    (g off n cap : Nat) (xs : List Value) (hl : RowK w B e k g off n cap xs)
    (ad : Addr) (m c : Nat) (news : List Value) (hn : news.length = m * k) (hnews : ∀ j u, news[j]? = some u → w.cell? (ad.add j) = some u) (h1 : ∀ u ∈ news, u.oneCell' = true)
    (h63 : n + m ≤ maxLen) (hbytes : (n + m) * bytes ≤ 140737488355328) (hB : B ≤ w.heap.size) :
    ∃ g' off' cap' w', (Builtin.append_ #[t, t] ty #[.slice (some ⟨g, off, none⟩) n cap, .slice (some ad) m c]).run P w = .ok (.slice (some ⟨g', off', none⟩) (n + m) cap') w' ∧ RowK w' B e k g' off' (n + m) cap' (xs ++ news) ∧ w.grownBy w' (some g) ∧ (g' = g ∨ w.heap.size ≤ g') := by
  obtain ⟨cur, hg, hcs, hc⟩ := hl.block
  have hll := hl.len
  by_cases hr : n + m ≤ cap
  · subst hsize
    have hmk : (n + m) * i.size ≤ cap * i.size := Nat.mul_le_mul_right i.size hr
    rw [Nat.add_mul] at hmk
    have hrun := run_append_room_cells (P := P) w t ty e i ht hi g off n cap ad m c news hn hnews h1 hr (fun j hj => by
      rw [cell_of_row _ _ _ _ _ _ hg, Array.getElem?_eq_getElem (by omega)]; rfl) (fun j hj => frozen_of_row _ _ _ _ _ hg)
    obtain ⟨cur', k1, k2, k3, k4⟩ := heap_setCells g (t := e) news (off + n * i.size) w cur hg
    refine ⟨_, _, _, _, hrun, ⟨by rw [List.length_append, hll, hn, Nat.add_mul], hl.from_, hr, hl.most, cur', k1, by omega, fun j u hj => ?_⟩, grown_setCells g news _ w, .inl rfl⟩
    rcases Nat.lt_or_ge j xs.length with hlt | hge
    · rw [List.getElem?_append_left hlt] at hj
      rw [k3 _ (by omega)]
      exact hc j u hj
    · rw [List.getElem?_append_right hge] at hj
      have hjn := (List.getElem?_eq_some_iff.1 hj).1
      have := k4 (j - xs.length) u hj (by omega)
      rw [show off + j = off + n * i.size + (j - xs.length) by omega]
      exact this
  · obtain ⟨v', w', hrun, r1, r2⟩ := run_append_arg_grows (P := P) w t ty e i z k bytes ht hi hz hsize hby hzs hk ⟨g, off, none⟩ n cap xs hll (fun j u hj => by rw [Addr.add_lit, cell_of_row _ _ _ _ _ _ hg]; exact hc j u hj) ad m c news hn hnews (by omega) h63 hbytes
    obtain ⟨g', cap', rfl, hrow⟩ := RowK.owned r1 (by omega)
    exact ⟨_, _, _, _, hrun, hrow.lower hB, grownBy_any r2, .inr hrow.from_⟩
/-- .. onto nil. -/
theorem run_append_nilK {P : Program} (w : World) (t ty : TypeId) (B k : Nat) (e : TypeId) (i : TypeInfo) (z : Value) (bytes : Nat) (ht : P.underlying t = some (.slice e)) (hi : P.info? e = some i) (hz : i.zero = some z)
    (hsize : i.size = k) (hby : i.bytes = bytes) (hzs : z.cells.size = k) (hk : 0 < k)
    (ad : Addr) (m c : Nat) (news : List Value) (hn : news.length = m * k) (hm : 0 < m) (hnews : ∀ j u, news[j]? = some u → w.cell? (ad.add j) = some u) (h1 : ∀ u ∈ news, u.oneCell' = true)
    (h63 : m ≤ maxLen) (hbytes : m * bytes ≤ 140737488355328) (hB : B ≤ w.heap.size) :
    ∃ g' off' cap' w', (Builtin.append_ #[t, t] ty #[.slice none 0 0, .slice (some ad) m c]).run P w = .ok (.slice (some ⟨g', off', none⟩) m cap') w' ∧ RowK w' B e k g' off' m cap' news ∧ w.grownBy w' none ∧ w.heap.size ≤ g' := by
  obtain ⟨v', w', hr, h2, h3, -, h5⟩ := run_append_own_at (P := P) w w.heap.size t ty e i z k bytes ht hi hz hsize hby hzs hk (.slice none 0 0) 0 [] ⟨by simp, .inl ⟨rfl, rfl⟩⟩ ad m c news hn hnews h1 (by rw [Nat.zero_add]; exact h63) (by rw [Nat.zero_add]; exact hbytes) (Nat.le_refl _)
  rw [Nat.zero_add] at h2
  obtain ⟨g', cap', rfl, hrow⟩ := RowK.owned h2 hm
  exact ⟨_, _, _, _, hr, hrow.lower hB, h3, hrow.from_⟩
/-- At a step of a drawn region: append by its run. -/
theorem step_append_run {P : Program} {w : World} {ops : Array Oper} {o : Oper} {a : Act} {K : Act → World → Prop} {Q : Exit → Act → World → Prop} {E : Prop} (hgd : o.guard = none) (s x : Operand) (t : TypeId)
    (ho : o.op = .call { callee := .builtin .append, args := #[s, x], argTypes := #[t, t] }) {v vx v' : Value} {w' : World} (hs : a.eval s = v) (hx : a.eval x = vx)
    (hr : (Builtin.append_ #[t, t] o.type #[v, vx]).run P w = .ok v' w') (h : K (a.put o.dst v') w') :
    if Region.wanted o (yielded ops a.tmps) = true then Oper.wp P o a w K Q else E := by
  have hw : Region.wanted o (yielded ops a.tmps) = true := by simp [Region.wanted, hgd]
  rw [if_pos hw]
  unfold Oper.wp execOp
  simp only [ho, resolve, invoke, builtin, Sem.run_bind, Sem.run_pure, Result.andThen_ok, List.map_toArray, List.map_cons, List.map_nil, hs, hx, hr]
  exact h

/-- A Due, its queue nil or not; where the queue lies. -/
def Dz (w : World) (B P : Nat) (n : Int) (q : List En) (L : Option Nat) : Prop :=
  (L = none ∧ B ≤ P ∧ q = [] ∧ w.heap[P]? = some (.cells #[.slice none 0 0, .int .i64 n] 27 (0, 0))) ∨ ∃ g off cap, L = some g ∧ Dq w B P g off cap n q

namespace Dz
variable {w w' : World} {B P : Nat} {n : Int} {q : List En} {L : Option Nat}
theorem shape (h : Dz w B P n q L) : ∃ a c, w.heap[P]? = some (.cells #[.slice a q.length c, .int .i64 n] 27 (0, 0)) := by
  rcases h with ⟨rfl, _, rfl, h⟩ | ⟨g, off, cap, rfl, h⟩
  · exact ⟨_, _, h⟩
  · exact ⟨_, _, h.hP⟩
theorem old (h : Dz w B P n q L) : P < w.heap.size := by
  obtain ⟨a, c, h⟩ := h.shape
  exact lt_of_block h
theorem from_ (h : Dz w B P n q L) : B ≤ P := by
  rcases h with ⟨_, h, _, _⟩ | ⟨g, off, cap, _, h⟩
  · exact h
  · exact h.bP
theorem row (h : Dz w B P n q L) {k : Nat} (hk : L = some k) : B ≤ k ∧ k < w.heap.size ∧ k ≠ P := by
  rcases h with ⟨rfl, _, _, _⟩ | ⟨g, off, cap, rfl, h⟩
  · cases hk
  · cases hk
    exact ⟨h.row.from_, h.row.lt, h.dP⟩
theorem kept {own : Nat → Prop} (h : Dz w B P n q L) (hr : Rest own w w') (hp : ¬ own P) (hg : ∀ k, L = some k → ¬ own k) : Dz w' B P n q L := by
  rcases h with ⟨rfl, h1, h2, h3⟩ | ⟨g, off, cap, rfl, h⟩
  · exact .inl ⟨rfl, h1, h2, (hr.block _ (lt_of_block h3) hp).trans h3⟩
  · exact .inr ⟨g, off, cap, rfl, h.kept hr hp (hg g rfl)⟩
theorem none (h : Dz w B P n q L) (hr : Rest (fun _ => False) w w') : Dz w' B P n q L := h.kept hr (fun x => x) (fun _ _ x => x)
end Dz

theorem Try.infoEn : (Try.prog.info? 47).map (fun i => (i.zero, i.size, i.bytes)) = some (some (.agg #[.int .i64 0, .int .i64 0, .int .i64 0, .int .i64 0, .int .i64 0, .int .i64 0]), 6, 48) := by kernel_rfl

/-- An entry is appended to a Due's queue. -/
theorem append_dz {w : World} {B P : Nat} {n : Int} {q : List En} {L : Option Nat} (h : Dz w B P n q L) (hm : q.length ≤ 1000000) {a : Option Addr} {c m : Nat} (hs : w.heap[P]? = some (.cells #[.slice a m c, .int .i64 n] 27 (0, 0)))
    (x : En) (b : Nat) (hb : w.heap[b]? = some (.cells (Hp.enc x).toArray 47 (0, 0))) (hB : B ≤ w.heap.size) (ty : TypeId) :
    ∃ g' off' cap' w', (Builtin.append_ #[25, 25] ty #[.slice a m c, .slice (some ⟨b, 0, none⟩) 1 1]).run Try.prog w = .ok (.slice (some ⟨g', off', none⟩) (m + 1) cap') w' ∧ m = q.length ∧ RowK w' B 47 6 g' off' (q.length + 1) cap' (flat (q ++ [x])) ∧ w.grownBy w' L ∧ (L = some g' ∨ w.heap.size ≤ g') := by
  have hnews : ∀ j u, (Hp.enc x)[j]? = some u → w.cell? ((⟨b, 0, none⟩ : Addr).add j) = some u := fun j u hu => by
    rw [Addr.add_lit, Nat.zero_add, cell_of_row _ _ _ _ _ _ hb]
    simpa using hu
  obtain ⟨i0, hinf, hz0, hz1, hz2⟩ := info_parts Try.infoEn
  rcases h with ⟨rfl, h1, rfl, h3⟩ | ⟨g, off, cap, rfl, h⟩
  · rw [h3] at hs
    simp at hs
    obtain ⟨rfl, rfl, rfl⟩ := hs
    obtain ⟨g', off', cap', w', hr, hrow, hg, hw⟩ := run_append_nilK (P := Try.prog) w 25 ty B 6 47 i0 _ 48 Try.underlying25 hinf hz0 hz1 hz2 rfl (by decide) ⟨b, 0, none⟩ 1 1 (Hp.enc x) rfl (by decide) hnews (enc_one x) (by unfold maxLen; omega) (by omega) hB
    exact ⟨g', off', cap', w', hr, rfl, hrow, hg, .inr hw⟩
  · rw [h.hP] at hs
    simp at hs
    obtain ⟨rfl, rfl, rfl⟩ := hs
    obtain ⟨g', off', cap', w', hr, hrow, hg, hw⟩ := run_append_rowK (P := Try.prog) w 25 ty B 6 47 i0 _ 48 Try.underlying25 hinf hz0 hz1 hz2 rfl (by decide) g off q.length cap (flat q) h.row ⟨b, 0, none⟩ 1 1 (Hp.enc x) rfl hnews (enc_one x) (by unfold maxLen; omega) (by omega) hB
    exact ⟨g', off', cap', w', hr, rfl, by rw [flat_append]; exact hrow, hg, hw.imp (fun e => by rw [e]) id⟩

/-- What comes of appending an entry, and of keeping it. -/
theorem push_way {B P : Nat} {n : Int} {q : List En} {L : Option Nat} {w wd : World} (x1 x2 x3 x4 x5 x6 : Int) (h : Dz w B P n q L) (hB : B ≤ w.heap.size) (hm : q.length ≤ 1000000) {a : Option Addr} {c : Nat}
    (hP : w.heap[P]? = some (.cells #[.slice a q.length c, .int .i64 n] 27 (0, 0))) (ty : TypeId) (hwd : w.drew = wd) :
    Hid (∃ g' off' cap' w6, (Builtin.append_ #[25, 25] ty #[.slice a q.length c, .slice (some ⟨wd.heap.size, 0, none⟩) 1 1]).run Try.prog (wd.alloc (.cells #[.int .i64 x1, .int .i64 x2, .int .i64 x3, .int .i64 x4, .int .i64 x5, .int .i64 x6] 47)) = .ok (.slice (some ⟨g', off', none⟩) (q.length + 1) cap') w6 ∧
      w6.cell? ⟨P, 0, none⟩ = some (.slice a q.length c) ∧ w6.frozen? ⟨P, 0, none⟩ = false ∧
      ∃ g2 o2 c2, Dq (w6.setCell ⟨P, 0, none⟩ (.slice (some ⟨g', off', none⟩) (q.length + 1) cap')) B P g2 o2 c2 n (q ++ [⟨x1, x2, x3, x4, x5, x6⟩]) ∧ (L = some g2 ∨ w.heap.size ≤ g2) ∧ Rest (fun k => k = P ∨ L = some k) w (w6.setCell ⟨P, 0, none⟩ (.slice (some ⟨g', off', none⟩) (q.length + 1) cap'))) := by
  show ∃ _, _
  subst hwd
  have h1 : Dz w.drew B P n q L := h.none (Rest.drew _ _)
  have hp := h.old
  have hal : ∀ (w : World) (o : Obj), (w.drew.alloc o).heap.size = w.heap.size + 1 := fun w o => by show (w.heap.push o).size = _; exact Array.size_push _
  have h2 : Dz (w.drew.alloc (.cells #[.int .i64 x1, .int .i64 x2, .int .i64 x3, .int .i64 x4, .int .i64 x5, .int .i64 x6] 47)) B P n q L := h1.none (Rest.alloc _ _ _)
  have hP2 : (w.drew.alloc (.cells #[.int .i64 x1, .int .i64 x2, .int .i64 x3, .int .i64 x4, .int .i64 x5, .int .i64 x6] 47)).heap[P]? = some (.cells #[.slice a q.length c, .int .i64 n] 27 (0, 0)) := (Below.heap_alloc _ _ _ hp).trans hP
  obtain ⟨g', off', cap', w6, hrun, -, hrow, hgr, hw⟩ := append_dz h2 hm hP2 ⟨x1, x2, x3, x4, x5, x6⟩ w.drew.heap.size (heap_alloc_new _ _) (by rw [hal]; omega) ty
  have hPL : L ≠ some P := fun e => (h.row e).2.2 rfl
  have hsz : (w.drew.alloc (.cells #[.int .i64 x1, .int .i64 x2, .int .i64 x3, .int .i64 x4, .int .i64 x5, .int .i64 x6] 47)).heap.size = w.heap.size + 1 := hal _ _
  have hP6 : w6.heap[P]? = some (.cells #[.slice a q.length c, .int .i64 n] 27 (0, 0)) := (hgr.block P (by omega) (fun e => hPL e.symm)).trans hP2
  have hgP : g' ≠ P := by
    rcases hw with hw | hw
    · exact (h.row hw).2.2
    · omega
  refine ⟨g', off', cap', w6, hrun, by rw [cell_of_row _ _ _ _ _ _ hP6]; rfl, frozen_of_row _ _ _ _ _ hP6, g', off', cap', ⟨?_, ?_, h.from_, hgP⟩, hw.imp id (fun x => by omega), ?_⟩
  · rw [List.length_append]
    exact heap_setCell_same _ P 0 _ _ _ hP6
  · rw [List.length_append]
    exact hrow.kept (Below.heap_setCell _ _ _ _ (fun e => hgP e))
  · refine (((Rest.drew (fun _ => False) w).trans (o3 := fun _ => False) (Rest.alloc (fun _ => False) _ _) (fun _ _ => id) (fun _ _ => id)).trans (o3 := fun k => k = P ∨ L = some k) (Rest.grown (own := fun k => L = some k) hgr (fun k e => e)) (fun _ _ => False.elim) (fun _ _ => .inr)).trans (o3 := fun k => k = P ∨ L = some k) (Rest.setCell (own := fun k => k = P) _ _ _ rfl) (fun _ _ => id) (fun _ _ => .inl)

/-- It is told what an any is. -/
theorem asserted (v : Value) (w : World) : Sem.run Try.prog (Instr.typeAssert (.iface 47 v) 20 47 false) w = .ok v w := by kernel_rfl

set_option maxHeartbeats 2000000 in
/-- One is put behind the last. -/
theorem qpush_any {B P : Nat} {n : Int} {q : List En} {L : Option Nat} (x : En) (w : World) (h : Dz w B P n q L) (hB : B ≤ w.heap.size) (hm : q.length ≤ 1000000) :
    Calls Try.prog 65 #[.pointer (some ⟨P, 0, none⟩), .iface 47 (.agg (Hp.enc x).toArray)] w fun e w' => e = .returned (.tuple #[]) ∧ ∃ g' off' cap', Dq w' B P g' off' cap' n (q ++ [x]) ∧ (L = some g' ∨ w.heap.size ≤ g') ∧ Rest (fun k => k = P ∨ L = some k) w w' := by
  obtain ⟨a, c, hP⟩ := h.shape
  have HH := Lib.hid h
  have HB := Lib.hid hB
  have HM := Lib.hid hm
  have HPP := Lib.hid hP
  have HO := Lib.hid h.old
  have c0 : w.drew.cell? ⟨P, 0, none⟩ = some (.slice a q.length c) := by
    rw [cell_of_row _ _ _ _ _ _ (show w.drew.heap[P]? = some (.cells #[.slice a q.length c, .int .i64 n] 27 (0, 0)) from hP)]; rfl
  clear h hB hm hP
  obtain ⟨x1, x2, x3, x4, x5, x6⟩ := x
  simp only [Hp.enc]
  have hta := fun (w : World) => asserted (.agg #[.int .i64 x1, .int .i64 x2, .int .i64 x3, .int .i64 x4, .int .i64 x5, .int .i64 x6]) w
  go_enter Try.func65, Try.ntmps65
  go_wp2_with fail
  refine wp_region_held_drew (S := fun _ => True) (by kernel_rfl) trivial (fun hHeld => ?_)
  generalize hwd : w.drew = wd at c0 ⊢
  have HW5 := push_way x1 x2 x3 x4 x5 x6 HH.out HB.out HM.out HPP.out 24 hwd
  have c1 : ∀ o, (wd.alloc o).cell? ⟨P, 0, none⟩ = some (.slice a q.length c) := fun o => by rw [World.cell?_of_block (Below.heap_alloc _ _ _ (by rw [← hwd]; exact HO.out))]; exact c0
  clear HH HB HM HPP HO hwd
  refine wpAnyH_yield 0 (.pointer (some ⟨P, 0, none⟩)) rfl (by kernel_rfl) (by kernel_rfl) (by kernel_rfl) (fun d _ _ _ h => by cases d <;> exact h) (by rfl) (by assumption) (fun _ _ => by go_simp) ?_
  simp only [Act.put, List.setIfInBounds_toArray, List.set_cons_zero, List.set_cons_succ]
  refine wpAnyH_yield 1 (.pointer (some ⟨P, 0, none⟩)) rfl (by kernel_rfl) (by kernel_rfl) (by kernel_rfl) (fun d _ _ _ h => by cases d <;> exact h) (by rfl) (by assumption) (fun _ _ => by go_simp) ?_
  simp only [Act.put, List.setIfInBounds_toArray, List.set_cons_zero, List.set_cons_succ]
  refine wpAnyH_yield 2 (.pointer (some ⟨P, 0, none⟩)) rfl (by kernel_rfl) (by kernel_rfl) (by kernel_rfl) (fun d _ _ _ h => by cases d <;> exact h) (by rfl) (by assumption) (fun _ _ => by go_simp) ?_
  simp only [Act.put, List.setIfInBounds_toArray, List.set_cons_zero, List.set_cons_succ]
  refine wpAnyH_yield 4 (.iface 47 (.agg #[.int .i64 x1, .int .i64 x2, .int .i64 x3, .int .i64 x4, .int .i64 x5, .int .i64 x6])) rfl (by kernel_rfl) (by kernel_rfl) (by kernel_rfl) (fun d _ _ _ h => by cases d <;> exact h) (by rfl) (by assumption) (fun _ _ => by go_simp) ?_
  simp only [Act.put, List.setIfInBounds_toArray, List.set_cons_zero, List.set_cons_succ]
  refine wpAnyH_yield 5 (.agg #[.int .i64 x1, .int .i64 x2, .int .i64 x3, .int .i64 x4, .int .i64 x5, .int .i64 x6]) rfl (by kernel_rfl) (by kernel_rfl) (by kernel_rfl) (fun d _ _ _ h => by cases d <;> exact h) (by rfl) (by assumption) (fun _ _ => by go_simp) ?_
  simp only [Act.put, List.setIfInBounds_toArray, List.set_cons_zero, List.set_cons_succ]
  refine wpAnyH_ready (rs := [3, 6]) (by kernel_rfl) (by simp) (AllReadyH.cons rfl (fun K hK => ?_) (AllReadyH.cons rfl (fun K hK => ?_) AllReadyH.nil))
  · go_simp
    refine hK.out _ _ (trivial) (fun hHeld => ?_)
    clear hK K
    try simp only [Act.put, List.setIfInBounds_toArray, List.set_cons_zero, List.set_cons_succ]
    refine wpAnyH_ready (rs := [6]) (by kernel_rfl) (by simp) (AllReadyH.cons rfl (fun K hK => ?_) AllReadyH.nil)
    go_simp
    refine hK.out _ _ (trivial) (fun hHeld => ?_)
    clear hK K
    try simp only [Act.put, List.setIfInBounds_toArray, List.set_cons_zero, List.set_cons_succ]
    generalize wd.alloc _ = w5 at HW5 ⊢
    obtain ⟨g', off', cap', w6, hrun, c6, f6, hE⟩ := HW5.out
    have HE := Lib.hid hE
    clear hE HW5
    refine wpAnyH_ready (rs := [7]) (by kernel_rfl) (by simp) (AllReadyH.cons rfl (fun K hK => ?_) AllReadyH.nil)
    refine step_append_run rfl _ _ 25 rfl rfl rfl hrun ?_
    refine hK.out _ _ trivial (fun hHeld => ?_)
    clear hK K
    simp only [Act.put, List.setIfInBounds_toArray]
    refine wpAnyH_yield 8 (.pointer (some ⟨P, 0, none⟩)) rfl (by kernel_rfl) (by kernel_rfl) (by kernel_rfl) (fun d _ _ _ h => by cases d <;> exact h) (by rfl) (by assumption) (fun _ _ => by go_simp) ?_
    simp only [Act.put]
    refine wpAnyH_ready (rs := [9]) (by kernel_rfl) (by simp) (AllReadyH.cons rfl (fun K hK => ?_) AllReadyH.nil)
    go_simp
    refine hK.out _ _ (trivial) (fun hHeld => ?_)
    clear hK K
    try simp only [Act.put, List.setIfInBounds_toArray, List.set_cons_zero, List.set_cons_succ]
    refine wpAnyH_done (by kernel_rfl) ?_ _
    go_wp2
    go_end0
    exact ⟨rfl, HE.out⟩
  · go_simp
    refine hK.out _ _ (trivial) (fun hHeld => ?_)
    clear hK K
    try simp only [Act.put, List.setIfInBounds_toArray, List.set_cons_zero, List.set_cons_succ]
    refine wpAnyH_ready (rs := [3]) (by kernel_rfl) (by simp) (AllReadyH.cons rfl (fun K hK => ?_) AllReadyH.nil)
    go_simp
    refine hK.out _ _ (trivial) (fun hHeld => ?_)
    clear hK K
    try simp only [Act.put, List.setIfInBounds_toArray, List.set_cons_zero, List.set_cons_succ]
    generalize wd.alloc _ = w5 at HW5 ⊢
    obtain ⟨g', off', cap', w6, hrun, c6, f6, hE⟩ := HW5.out
    have HE := Lib.hid hE
    clear hE HW5
    refine wpAnyH_ready (rs := [7]) (by kernel_rfl) (by simp) (AllReadyH.cons rfl (fun K hK => ?_) AllReadyH.nil)
    refine step_append_run rfl _ _ 25 rfl rfl rfl hrun ?_
    refine hK.out _ _ trivial (fun hHeld => ?_)
    clear hK K
    simp only [Act.put, List.setIfInBounds_toArray]
    refine wpAnyH_yield 8 (.pointer (some ⟨P, 0, none⟩)) rfl (by kernel_rfl) (by kernel_rfl) (by kernel_rfl) (fun d _ _ _ h => by cases d <;> exact h) (by rfl) (by assumption) (fun _ _ => by go_simp) ?_
    simp only [Act.put]
    refine wpAnyH_ready (rs := [9]) (by kernel_rfl) (by simp) (AllReadyH.cons rfl (fun K hK => ?_) AllReadyH.nil)
    go_simp
    refine hK.out _ _ (trivial) (fun hHeld => ?_)
    clear hK K
    try simp only [Act.put, List.setIfInBounds_toArray, List.set_cons_zero, List.set_cons_succ]
    refine wpAnyH_done (by kernel_rfl) ?_ _
    go_wp2
    go_end0
    exact ⟨rfl, HE.out⟩
end Go.Proofs.Ytfjhknmpolhfeaa