/- The contract of slices.Delete of the first frame: what waits moves up, the last place is cleared. -/
import Derived.Test.YtpognlidhppnaaaFrR
import Derived.Test.YtpognlidhppnaaaCopyK
import Derived.Test.YtpognlidhppnaaaSkip
import Derived.Sort.Grow
import Derived.Laws.Slices
import Derived.ArgAppend
import Derived.Deep.DeepCutAuto
namespace Go.Proofs.Ytpognlidhppnaaa
open Go.RowKit Go.Sort

set_option maxRecDepth 10000 in
theorem Try.elemFr : Try.prog.elem 32 = 27 := by kernel_rfl
set_option maxRecDepth 10000 in
theorem fr_size (w : World) : (sizeOf 27).run Try.prog w = .ok 11 w := by
  obtain ⟨i, z, hi, hz, hzs, hs, -⟩ := Try.bigFrame.info
  simp [sizeOf, typeInfo, hi, hs]
set_option maxRecDepth 10000 in
theorem fr_s3 (g off n c : Nat) (h1 : 1 ≤ n) (h2 : n ≤ c) : ∃ v : Value, ∀ w, Sem.run Try.prog (Instr.sliceAt 32 (.slice (some ⟨g, off, none⟩) n c) (some (.int .i64 0)) (some (.int .i64 1)) (some (.int .i64 (n : Int)))) w = .ok v w := by
  refine ⟨sliced (some ⟨g, off, none⟩) 0 1 n 11, fun w => ?_⟩
  rw [run_sliceAt_slice w _ _ _ _ _ Try.underlying32, run_slice_lhm w _ _ _ _ Try.underlying32 .i64 .i64 .i64 0 1 (n : Int) (by omega) (by omega) (by omega) (by omega), Try.elemFr, fr_size]
  rfl
set_option maxRecDepth 10000 in
theorem fr_tail (g off n c : Nat) (h1 : 1 ≤ n) (h2 : n ≤ c) : ∃ (ad : Addr) (cp : Nat), (∀ w, Sem.run Try.prog (Instr.sliceAt 32 (.slice (some ⟨g, off, none⟩) n c) (some (.int .i64 1)) none none) w = .ok (.slice (some ad) (n - 1) cp) w) ∧ (n = 1 ∨ ad = ⟨g, off + 11, none⟩) := by
  have hrun : ∀ w, Sem.run Try.prog (Instr.sliceAt 32 (.slice (some ⟨g, off, none⟩) n c) (some (.int .i64 1)) none none) w = .ok (sliced (some ⟨g, off, none⟩) 1 n c 11) w := fun w => by
    rw [run_sliceAt_slice w _ _ _ _ _ Try.underlying32, run_slice_l w _ _ _ _ Try.underlying32 .i64 1 (by omega) (by omega), Try.elemFr, fr_size]
    rfl
  by_cases hc : c = 1
  · exact ⟨⟨g, off, none⟩, c - 1, fun w => by rw [hrun w]; unfold sliced; rw [if_pos hc], .inl (by omega)⟩
  · exact ⟨⟨g, off + 11, none⟩, c - 1, fun w => by rw [hrun w]; unfold sliced; rw [if_neg hc]; rfl, .inr rfl⟩
set_option maxRecDepth 10000 in
theorem fr_last (g off m n c : Nat) (h1 : n = m + 1) (h2 : n ≤ c) (w : World) : Sem.run Try.prog (Instr.sliceAt 32 (.slice (some ⟨g, off, none⟩) m c) (some (.int .i64 (m : Int))) (some (.int .i64 (n : Int))) none) w = .ok (.slice (some ⟨g, off + m * 11, none⟩) 1 (c - m)) w := by
  rw [run_sliceAt_slice w _ _ _ _ _ Try.underlying32, run_slice_lh w _ _ _ _ Try.underlying32 .i64 .i64 (m : Int) (n : Int) (by omega) (by omega) (by omega), Try.elemFr, fr_size]
  simp only [Result.andThen, sliced, Int.toNat_natCast]
  rw [if_neg (by omega), show n - m = 1 by omega]
  simp only [Option.map_some, Addr.add_lit]

set_option maxRecDepth 10000 in
/-- What moved up lies there; the last place is cleared. -/
theorem fr_shift {w : World} {B g off c : Nat} {x : Wk.Fr} {q : List Wk.Fr} (h : RowK w B 27 11 g off (q.length + 1) c (Wk.fitm.flat (x :: q))) : RowK (w.setCells g off (Wk.fitm.flat q)) B 27 11 g off q.length c (Wk.fitm.flat q) := by
  obtain ⟨cur, hg, hs, hc⟩ := h.block
  have hr := h.room
  have hm := Nat.mul_le_mul_right 11 hr
  obtain ⟨c1, k1, k2, k3⟩ := setCells_all g (t := 27) (Wk.fitm.flat q) off w cur hg (by rw [Wk.fitm.flat_length]; omega)
  refine ⟨by rw [Wk.fitm.flat_length], h.from_, by omega, h.most, c1, k1, by omega, fun j u hj => ?_⟩
  have hjl := (List.getElem?_eq_some_iff.1 hj).1
  rw [k3, if_pos ⟨by omega, by omega⟩, Nat.add_sub_cancel_left]
  exact hj
set_option maxRecDepth 10000 in
theorem fr_clear {w : World} {B g off c : Nat} {q : List Wk.Fr} (h : RowK w B 27 11 g off q.length c (Wk.fitm.flat q)) (hc : q.length + 1 ≤ c) : ∃ w', (∀ ty, (Builtin.clear_ #[32] ty #[.slice (some ⟨g, off + q.length * 11, none⟩) 1 (c - q.length)]).run Try.prog w = .ok (.tuple #[]) w') ∧ RowK w' B 27 11 g off q.length c (Wk.fitm.flat q) ∧ Rest (fun k => k = g) w w' := by
  obtain ⟨cur, hg, hs, hcur⟩ := h.block
  obtain ⟨i, z, hi, hz, hzs, hsz, -⟩ := Try.bigFrame.info
  have hm := Nat.mul_le_mul_right 11 hc
  have hlen : ((Builtin.zeroCells z.cells 1).toList).length = 11 := by simp [Builtin.zeroCells, hzs]
  have hone : ∀ v ∈ (Builtin.zeroCells z.cells 1).toList, v.oneCell' = true := by
    have hzz : (Try.prog.info? 27).map (fun i => i.zero.map (fun z => (Builtin.zeroCells z.cells 1).toList.all (·.oneCell'))) = some (some true) := by kernel_rfl
    rw [hi] at hzz
    simp only [Option.map_some, hz, Option.some.injEq] at hzz
    intro v hv
    exact List.all_eq_true.1 hzz v hv
  have hfit : off + q.length * 11 + ((Builtin.zeroCells z.cells 1).toList).length ≤ cur.size := by rw [hlen]; omega
  refine ⟨_, fun ty => run_clear_rowK (P := Try.prog) w 32 ty 27 i z g (off + q.length * 11) 1 (c - q.length) cur 27 _ Try.underlying32 hi hz rfl (fun e => by cases e) hg hfit hone, ?_, Rest.setRow _ _ _ rfl⟩
  refine ⟨h.len, h.from_, h.room, h.most, _, setRow_heap w g cur _ _ _ hg, ?_, fun j u hj => ?_⟩
  · simp only [List.size_toArray, List.length_append, List.length_take, List.length_drop, Array.length_toList, hlen]
    omega
  · have hjl := (List.getElem?_eq_some_iff.1 hj).1
    rw [Wk.fitm.flat_length] at hjl
    have hcl : cur.toList.length = cur.size := Array.length_toList
    rw [List.getElem?_toArray, List.append_assoc, List.getElem?_append_left (by rw [List.length_take]; omega), List.getElem?_take_of_lt (by omega), Array.getElem?_toList]
    exact hcur j u hj

set_option maxRecDepth 10000 in
theorem fr_moved {w : World} {B g off c n m : Nat} {x : Wk.Fr} {q : List Wk.Fr} (h : RowK w B 27 11 g off n c (Wk.fitm.flat (x :: q))) (hn : n = m + 1) (hm : q.length = m) {ad : Addr} (cp : Nat) (had : n = 1 ∨ ad = ⟨g, off + 11, none⟩) (ty : TypeId) :
    (Builtin.append_ #[32, 32] ty #[.slice (some ⟨g, off, none⟩) 0 c, .slice (some ad) (n - 1) cp]).run Try.prog w = .ok (.slice (some ⟨g, off, none⟩) m c) (w.setCells g off (Wk.fitm.flat q)) := by
  obtain ⟨i, z, hi, hz, hzs, hs, -⟩ := Try.bigFrame.info
  obtain ⟨cur, hg, hsz, hc⟩ := h.block
  have hr := h.room
  have hmul := Nat.mul_le_mul_right 11 hr
  have hfl : (Wk.fitm.flat q).length = m * 11 := by rw [Wk.fitm.flat_length, hm]
  have h1 := run_append_room_cells (P := Try.prog) w 32 ty 27 i Try.underlying32 hi g off 0 c ad (n - 1) cp (Wk.fitm.flat q) (by rw [hfl, hs, show n - 1 = m by omega]) (fun j u hu => by
    have hj := (List.getElem?_eq_some_iff.1 hu).1
    rcases had with e | rfl
    · omega
    · rw [Addr.add_lit]
      have := h.cell (j := 11 + j) (u := u) (by
        show (x.cells ++ Wk.fitm.flat q)[11 + j]? = some u
        rw [List.getElem?_append_right (by show 11 ≤ 11 + j; omega), show 11 + j - x.cells.length = j by show 11 + j - 11 = j; omega]
        exact hu)
      rw [← Nat.add_assoc] at this
      exact this) (Wk.fitm.flat_ones q) (by omega) (fun j hj => by
      rw [hs, Nat.zero_mul, Nat.add_zero, cell_of_row _ _ _ _ _ _ hg, Array.getElem?_eq_getElem (by omega)]; rfl) (fun j hj => frozen_of_row _ _ _ _ _ hg)
  rw [Nat.zero_mul, Nat.add_zero, Nat.zero_add, show n - 1 = m by omega] at h1
  rw [show n - 1 = m by omega]
  exact h1

set_option maxRecDepth 10000 in
set_option maxHeartbeats 1000000 in
/-- The first one goes. -/
theorem frdel_first {B g off c n : Nat} {x : Wk.Fr} {q : List Wk.Fr} (hn : n = q.length + 1) (hq : n ≤ 1000000) (w : World) (h : RowK w B 27 11 g off n c (Wk.fitm.flat (x :: q))) : Calls Try.prog 14 #[.slice (some ⟨g, off, none⟩) n c, .int .i64 0, .int .i64 1] w fun e w' => e = .returned (.slice (some ⟨g, off, none⟩) q.length c) ∧ RowK w' B 27 11 g off q.length c (Wk.fitm.flat q) ∧ Rest (fun k => k = g) w w' := by
  have hr := h.room
  obtain ⟨v3, hs3⟩ := fr_s3 g off n c (by omega) hr
  obtain ⟨ad, cp, hs1, had⟩ := fr_tail g off n c (by omega) hr
  have hs2 := fr_last g off q.length n c hn hr
  have HN := Lib.hid hn
  have HH := Lib.hid h
  have HA := Lib.hid had
  have hc0 : (0 : Int) ≤ (c : Int) := by omega
  have HR := Lib.hid hr
  clear h had hr hn hq
  generalize hm : q.length = m at *
  have HM := Lib.hid hm
  have h1n : (1 : Int) ≤ (n : Int) := by have := HN.out; omega
  clear hm
  go_enter Try.func14, Try.ntmps14
  go_upto_region 5 with fail
  refine wp_region_held_drew (S := fun _ => True) (by kernel_rfl) trivial (fun hHeld => ?_)
  have HH2 : Hid (RowK w.drew B 27 11 g off n c (Wk.fitm.flat (x :: q))) := Lib.hid (HH.out.kept rfl)
  have HRS := Lib.hid (Rest.drew (fun k => k = g) w)
  clear HH
  generalize w.drew = w2 at HH2 HRS ⊢
  refine wpAnyH_yield 0 (.slice (some ⟨g, off, none⟩) n c) rfl (by kernel_rfl) (by kernel_rfl) (by kernel_rfl) (fun d _ _ _ h => by cases d <;> exact h) (by rfl) (by assumption) (fun _ _ => by go_simp) ?_
  simp only [Act.put, List.setIfInBounds_toArray, List.set_cons_zero, List.set_cons_succ]
  refine wpAnyH_yield 1 (.int .i64 0) rfl (by kernel_rfl) (by kernel_rfl) (by kernel_rfl) (fun d _ _ _ h => by cases d <;> exact h) (by rfl) (by assumption) (fun _ _ => by go_simp) ?_
  simp only [Act.put, List.setIfInBounds_toArray, List.set_cons_zero, List.set_cons_succ]
  refine wpAnyH_yield 2 (.slice (some ⟨g, off, none⟩) 0 c) rfl (by kernel_rfl) (by kernel_rfl) (by kernel_rfl) (fun d _ _ _ h => by cases d <;> exact h) (by rfl) (by assumption) (fun _ _ => by go_simp) ?_
  simp only [Act.put, List.setIfInBounds_toArray, List.set_cons_zero, List.set_cons_succ]
  refine wpAnyH_yield 3 (.slice (some ⟨g, off, none⟩) n c) rfl (by kernel_rfl) (by kernel_rfl) (by kernel_rfl) (fun d _ _ _ h => by cases d <;> exact h) (by rfl) (by assumption) (fun _ _ => by go_simp) ?_
  simp only [Act.put, List.setIfInBounds_toArray, List.set_cons_zero, List.set_cons_succ]
  refine wpAnyH_yield 4 (.int .i64 1) rfl (by kernel_rfl) (by kernel_rfl) (by kernel_rfl) (fun d _ _ _ h => by cases d <;> exact h) (by rfl) (by assumption) (fun _ _ => by go_simp) ?_
  simp only [Act.put, List.setIfInBounds_toArray, List.set_cons_zero, List.set_cons_succ]
  refine wpAnyH_yield 5 (.slice (some ad) (n - 1) cp) rfl (by kernel_rfl) (by kernel_rfl) (by kernel_rfl) (fun d _ _ _ h => by cases d <;> exact h) (by rfl) (by assumption) (fun _ _ => by go_simp) ?_
  simp only [Act.put, List.setIfInBounds_toArray, List.set_cons_zero, List.set_cons_succ]
  refine wpAnyH_ready (rs := [6]) (by kernel_rfl) (by simp) (AllReadyH.cons rfl (fun K hK => ?_) AllReadyH.nil)
  refine step_append_run rfl _ _ 32 rfl rfl rfl (fr_moved HH2.out HN.out HM.out cp HA.out _) ?_
  refine hK.out _ _ (trivial) (fun hHeld => ?_)
  clear hK K
  try simp only [Act.put, List.setIfInBounds_toArray]
  have hsh := HM.out
  subst hsh
  have HH3 := Lib.hid (fr_shift (x := x) (by have := HH2.out; rwa [HN.out] at this))
  have HRS3 := Lib.hid (HRS.out.trans (o3 := fun k => k = g) (Rest.cells (own := fun k => k = g) w2 g off (Wk.fitm.flat q) rfl) (fun _ _ => id) (fun _ _ => id))
  clear HH2 HRS hHeld
  generalize w2.setCells _ _ _ = w3 at HH3 HRS3 ⊢
  have hHeld : True := trivial
  refine wpAnyH_yield 7 (.slice (some ⟨g, off, none⟩) q.length c) rfl (by kernel_rfl) (by kernel_rfl) (by kernel_rfl) (fun d _ _ _ h => by cases d <;> exact h) (by rfl) (by assumption) (fun _ _ => by go_simp) ?_
  simp only [Act.put]
  refine wpAnyH_done (by kernel_rfl) ?_ _
  obtain ⟨w4, hcl, h4, hr4⟩ := fr_clear HH3.out (by have := HN.out; have := HR.out; omega)
  have HH4 := Lib.hid h4
  have HR4 := Lib.hid hr4
  clear h4 hr4 hHeld hs1 hs3
  go_wp2_with fail
  go_ret
  exact ⟨rfl, HH4.out, HRS3.out.trans HR4.out (fun _ _ => id) (fun _ _ => id)⟩
/-- .. of frames that stand among other things. -/
theorem frdel_own {G : Nat → Prop} {w0 w : World} {l : List Part} {i n c : Nat} {a : Option Addr} {x : Wk.Fr} {q : List Wk.Fr} (hn : n = q.length + 1) (hq : n ≤ 1000000) (h : Own G w0 w l) (e : l[i]? = some (.fr a c (x :: q))) : Calls Try.prog 14 #[.slice a n c, .int .i64 0, .int .i64 1] w fun e w' => e = .returned (.slice a q.length c) ∧ Own G w0 w' (l.set i (.fr a c q)) := by
  obtain ⟨L, h1, h2⟩ := h.fr i e
  rcases h1 with ⟨-, -, -, e⟩ | ⟨g, off, rfl, rfl, hr⟩
  · cases e
  · rw [List.length_cons, ← hn] at hr
    refine (frdel_first hn hq w hr).mono ?_
    rintro e w' ⟨rfl, h3, h4⟩
    exact ⟨rfl, h2 (L' := some g) (.inr ⟨g, off, rfl, rfl, h3⟩) (.inl rfl) (h4.mono fun k _ hk => by rw [hk])⟩
end Go.Proofs.Ytpognlidhppnaaa
