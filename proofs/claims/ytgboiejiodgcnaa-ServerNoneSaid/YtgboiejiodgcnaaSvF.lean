/- The contracts of a service's begin, step and Work. -/
import Derived.Test.YtgboiejiodgcnaaSvE
namespace Go.Proofs.Ytgboiejiodgcnaa
open Go.RowKit Go.Sort

/-- Step, of one that does something. -/
theorem wkstep_any {P : Nat} {x : Wk.Wo} {L : Option Nat} (hb : x.b = true) (out s : Int) (w : World) (h : Wd w P x L) : Calls Try.prog 33 #[.pointer (some ⟨P, 0, none⟩), .int .i64 out, .int .u32 s] w fun e w' => e = .returned (.tuple #[.agg #[.int .i64 ((x.step out s).1.1).k, .int .i64 ((x.step out s).1.1).c, .int .i64 ((x.step out s).1.1).s, .int .i64 ((x.step out s).1.1).t, .int .i64 ((x.step out s).1.1).g, .int .u32 ((x.step out s).1.1).a, .int .i64 ((x.step out s).1.1).r, .bool ((x.step out s).1.1).su, .bool ((x.step out s).1.1).st, .int .i64 ((x.step out s).1.1).q, .int .u32 ((x.step out s).1.1).v], .int .u32 (x.step out s).1.2.1, .bool (x.step out s).1.2.2]) ∧ Wd w' P (x.step out s).2 L ∧ Rest (fun k => k = P) w w' := by
  unfold Wk.Wo.step
  by_cases h1 : out = 1
  · subst h1
    simp only [if_true]
    exact wkstep_done hb s w h
  simp only [if_neg h1]
  by_cases h2 : out = 2
  · subst h2
    simp only [if_true]
    exact wkstep_fail hb s w h
  simp only [if_neg h2]
  by_cases h3 : out = 3
  · subst h3
    by_cases h4 : x.n < 65535 ∧ x.l ≠ 0
    · rw [if_pos ⟨rfl, h4⟩]
      exact wkstep_chunk hb h4.1 h4.2 rfl rfl s w h
    · rw [if_neg (fun e => h4 e.2)]
      refine (wkstep_nochunk hb (by omega) s w h).mono ?_
      rintro e w' ⟨rfl, hb⟩
      exact ⟨rfl, h.call hb, Rest.of_below hb⟩
  · rw [if_neg (fun e => h3 e.1)]
    refine (wkstep_else hb h1 h2 h3 w h).mono ?_
    rintro e w' ⟨rfl, hb⟩
    exact ⟨rfl, h.call hb, Rest.of_below hb⟩

section
variable {G : Nat → Prop} {w0 : World} {l : List Part} {S i k P : Nat} {ps : List Nat} {o : Sv.Ob} {x : Wk.Wo}
set_option maxRecDepth 10000 in
set_option maxHeartbeats 2000000 in
/-- begin. -/
theorem svbegin_any (hp : ps[k]? = some P) (hx : o.ws[k]? = some x) (hb : x.b = false) (hq : x.q.length ≤ 1000) (hr : o.runs.length ≤ 1000000) (w : World) (h : Own G w0 w l) (e : l[i]? = some (Sv.part S ps o)) : Calls Try.prog 21 #[.pointer (some ⟨S, 0, none⟩), .pointer (some ⟨P, 0, none⟩)] w fun e w' => e = .returned (.bool (o.begin_ k x).2) ∧ Own G w0 w' (l.set i (Sv.part S ps (o.begin_ k x).1)) := by
  obtain ⟨m, -, hS, -⟩ := Sv.seen h i e
  have p1 := (Sv.cells_at hS).2.1
  obtain ⟨L, hw, hback⟩ := Sv.wk h i e hp hx
  have HW := Lib.hid hw
  cases hxq : x.q with
  | nil =>
    have hse := set_same e
    have HE := Lib.hid (show Own G w0 w (l.set i (Sv.part S ps o)) from by rw [hse]; exact h)
    rw [show o.begin_ k x = (o, false) by unfold Sv.Ob.begin_; rw [hxq]]
    have HQ := Lib.hid hxq
    clear h e hS hw hback hp hx hb hq hr hxq hse
    go_enter Try.func21, Try.ntmps21
    go_wp2_with fail
    refine (wkbegin_no o.win (.inr HQ.out) w HW.out).mono ?_
    rintro e w1 ⟨rfl, rfl⟩
    go_wp2_with fail
    go_ret
    exact ⟨rfl, HE.out⟩
  | cons y q =>
    obtain ⟨l', hl'⟩ : ∃ l', l' = if y.st then IntKind.i64.wrap (x.l + Cr.cut 0 (Cr.cut 1 o.win)) else x.l := ⟨_, rfl⟩
    have hl : (y.st = true ∧ IntKind.i64.wrap (x.l + Cr.cut 0 (Cr.cut 1 o.win)) = l') ∨ (y.st = false ∧ l' = x.l) := by
      cases hy : y.st
      · exact .inr ⟨rfl, by rw [hl', hy]; rfl⟩
      · exact .inl ⟨rfl, by rw [hl', hy]; rfl⟩
    rw [show o.begin_ k x = ({ o.at_ k ⟨x.m, q, true, y, l', x.n⟩ with runs := o.runs ++ [y] }, true) by unfold Sv.Ob.begin_; rw [hxq, hl']]
    have hql : q.length ≤ 1000 := by rw [hxq] at hq; exact Nat.le_trans (Nat.le_succ _) hq
    have HI := Lib.hid (And.intro hb (And.intro hxq (And.intro hql hl)))
    have HB := Lib.hid (show ∀ w' x', Wd w' P x' L → Rest (fun k => k = P ∨ L = some k) w w' → Own G w0 w' (l.set i (Sv.part S ps (o.at_ k x'))) from fun w' x' a b => hback a (.inl rfl) b)
    have HR := Lib.hid hr
    have HX := Lib.hid (And.intro hp hx)
    have HE := Lib.hid e
    clear h hS hw hback hb hq hr hxq hp hx e hl hl' hql
    go_enter Try.func21, Try.ntmps21
    go_wp2_with fail
    refine (wkbegin_yes o.win HI.out.1 HI.out.2.1 HI.out.2.2.1 HI.out.2.2.2 w HW.out).mono ?_
    rintro e w1 ⟨rfl, hw1, hr1⟩
    have HW1 := Lib.hid hw1
    have H1 := Lib.hid (HB.out _ _ hw1 hr1)
    clear hw1 hr1 HB HW p1
    go_wp2_with fail
    refine (wkjob_any w1 HW1.out).mono ?_
    rintro e w2 ⟨rfl, hb2⟩
    dsimp only
    have H2 := Lib.hid (H1.out.past hb2)
    clear hb2 H1 HW1
    go_upto_region 4 with fail
    have hi := (List.getElem?_eq_some_iff.1 HE.out).1
    obtain ⟨F, hF, back⟩ := H2.out.lift i (List.getElem?_set_self hi)
    obtain ⟨m2, hlen, k1⟩ := Sv.opens hF
    have HBK := Lib.hid (show ∀ w' o', Own F w2 w' [Sv.part S ps o'] → Own G w0 w' (l.set i (Sv.part S ps o')) from fun w' o' h => by have := back h; rwa [List.set_set] at this)
    have H := Lib.hid (k1.lay (.cells #[.int .i64 y.k, .int .i64 y.c, .int .i64 y.s, .int .i64 y.t, .int .i64 y.g, .int .u32 y.a, .int .i64 y.r, .bool y.su, .bool y.st, .int .i64 y.q, .int .u32 y.v] 29))
    clear H2 hF back k1
    generalize w2.alloc _ = w3 at H ⊢
    generalize w2.heap.size = bF at H ⊢
    have hro : (o.at_ k ⟨x.m, q, true, y, l', x.n⟩).runs = o.runs := rfl
    obtain ⟨o2, ho2⟩ : ∃ o2, o2 = o.at_ k ⟨x.m, q, true, y, l', x.n⟩ := ⟨_, rfl⟩
    rw [← ho2] at H hlen hro
    have HO2 := Lib.hid ho2
    clear ho2
    have HRO := Lib.hid hro
    rw [← hro] at HR
    obtain ⟨n, hne⟩ : ∃ n, n = o2.runs.length := ⟨_, rfl⟩
    have HNE := Lib.hid hne
    clear hne hro
    refine wp_region_Z_drew 10 (S := fun w' => w'.heap[S]? = some (.cells (Sv.cells o2 m2).toArray 52 (0, 0)) ∧ w'.heap[bF]? = some (.cells y.cells.toArray 29 (0, 0))) (by kernel_rfl) ⟨H.out.box 1 rfl, H.out.box 0 rfl⟩ (fun hHeld => ?_)
    have H5 := Lib.hid H.out.drew
    clear H
    generalize w3.drew = w5 at H5 hHeld ⊢
    refine wpAnyZ_yield 0 (.pointer (some ⟨S, 0, none⟩)) rfl (by kernel_rfl) (by kernel_rfl) (by kernel_rfl) (fun d _ _ _ h => by cases d <;> exact h) (by rfl) (by assumption) (fun _ _ => by go_simp) ?_
    simp only [Act.put, List.setIfInBounds_toArray, List.set_cons_zero, List.set_cons_succ]
    refine wpAnyZ_yield 1 (.pointer (some ⟨S, 0, none⟩)) rfl (by kernel_rfl) (by kernel_rfl) (by kernel_rfl) (fun d _ _ _ h => by cases d <;> exact h) (by rfl) (by assumption) (fun _ _ => by go_simp) ?_
    simp only [Act.put, List.setIfInBounds_toArray, List.set_cons_zero, List.set_cons_succ]
    refine wpAnyZ_yield 2 (.pointer (some ⟨S, 0, none⟩)) rfl (by kernel_rfl) (by kernel_rfl) (by kernel_rfl) (fun d _ _ _ h => by cases d <;> exact h) (by rfl) (by assumption) (fun _ _ => by go_simp) ?_
    simp only [Act.put, List.setIfInBounds_toArray, List.set_cons_zero, List.set_cons_succ]
    refine wpAnyZ_yield 3 (.pointer (some ⟨S, 4, none⟩)) rfl (by kernel_rfl) (by kernel_rfl) (by kernel_rfl) (fun d _ _ _ h => by cases d <;> exact h) (by rfl) (by assumption) (fun _ _ => by go_simp) ?_
    simp only [Act.put, List.setIfInBounds_toArray, List.set_cons_zero, List.set_cons_succ]
    refine wpAnyZ_yield 4 (.slice m2.ba n m2.bc) rfl (by kernel_rfl) (by kernel_rfl) (by kernel_rfl) (fun d _ _ _ h => by cases d <;> exact h) (by rfl) (by assumption) (fun _ hSw => by have hcs := (Sv.cells_at hSw.1).2.2.2.2.1; rw [← HNE.out] at hcs; go_simp) ?_
    simp only [Act.put, List.setIfInBounds_toArray, List.set_cons_zero, List.set_cons_succ]
    refine wpAnyZ_yield 5 (.agg y.cells.toArray) rfl (by kernel_rfl) (by kernel_rfl) (by kernel_rfl) (fun d _ _ _ h => by cases d <;> exact h) (by rfl) (by assumption) (fun _ hSw => exec_load_mid Try.bigFrame (.tmp 5) rfl rfl rfl (range_of_box hSw.2)) ?_
    simp only [Act.put, List.setIfInBounds_toArray, List.set_cons_zero, List.set_cons_succ]
    refine wpAnyZ_ready (rs := [6]) (by kernel_rfl) (by simp) (AllReadyZ.cons rfl (fun K hK => ?_) AllReadyZ.nil)
    refine step_slice_one Try.bigFrame (by decide) (by decide) Try.underlying37 rfl (.tmp 24) rfl rfl rfl ?_
    have H6 := Lib.hid (H5.out.lay (.cells y.cells.toArray 29))
    clear H5 hHeld
    generalize w5.alloc _ = w6 at H6 ⊢
    generalize w5.heap.size = bN at H6 ⊢
    refine hK.out _ _ (fun _ => ⟨H6.out.box 2 rfl, H6.out.box 1 rfl⟩) (fun hZ => ?_)
    have hHeld := hZ (by decide)
    clear hK K hZ
    try simp only [Act.put, List.setIfInBounds_toArray, List.set_cons_zero, List.set_cons_succ]
    obtain ⟨L, hf1, hf2⟩ := Sv.begs (r := [.box bN (.cells y.cells.toArray 29 (0, 0)), .box bF (.cells #[.int .i64 y.k, .int .i64 y.c, .int .i64 y.s, .int .i64 y.t, .int .i64 y.g, .int .u32 y.a, .int .i64 y.r, .bool y.su, .bool y.st, .int .i64 y.q, .int .u32 y.v] 29)]) H6.out
    obtain ⟨a', c', w7, L', hrun, hfr, hfl, hrr⟩ := hf1.add HR.out y (H6.out.box 0 rfl) 37
    obtain ⟨t, H7, H8⟩ := hf2 hfr hfl hrr
    rw [List.length_append, List.length_singleton, ← HNE.out] at H8
    rw [← HNE.out] at hrun
    have hS7 : _ ∧ _ := ⟨H7.box 2 rfl, H7.box 1 rfl⟩
    have c7 := (Sv.cells_at hS7.1).2.2.2.2.1
    have z7 := frozen_of_row _ _ 4 _ _ hS7.1
    have HE8 := Lib.hid H8
    clear H6 H7 H8 hf1 hf2 hfr hfl hrr
    refine wpAnyZ_ready (rs := [7]) (by kernel_rfl) (by simp) (AllReadyZ.cons rfl (fun K hK => ?_) AllReadyZ.nil)
    refine step_append_run rfl _ _ 37 rfl rfl rfl hrun ?_
    refine hK.out _ _ (fun _ => hS7) (fun hZ => ?_)
    have hHeld := hZ (by decide)
    clear hK K hZ hrun
    try simp only [Act.put, List.setIfInBounds_toArray, List.set_cons_zero, List.set_cons_succ]
    refine wpAnyZ_ready (rs := [8]) (by kernel_rfl) (by simp) (AllReadyZ.cons rfl (fun K hK => ?_) AllReadyZ.nil)
    go_simp
    refine hK.out _ _ (fun _ => hHeld) (fun hZ => ?_)
    have hHeld := hZ (by decide)
    clear hK K hZ
    try simp only [Act.put, List.setIfInBounds_toArray, List.set_cons_zero, List.set_cons_succ]
    refine wpAnyZ_yield 9 (.pointer (some ⟨S, 4, none⟩)) rfl (by kernel_rfl) (by kernel_rfl) (by kernel_rfl) (fun d _ _ _ h => by cases d <;> exact h) (by rfl) (by assumption) (fun _ _ => by go_simp) ?_
    simp only [Act.put, List.setIfInBounds_toArray, List.set_cons_zero, List.set_cons_succ]
    refine wpAnyZ_ready (rs := [10]) (by kernel_rfl) (by simp) (AllReadyZ.cons rfl (fun K hK => ?_) AllReadyZ.nil)
    go_simp
    refine hK.out _ _ (fun h => absurd rfl h) (fun _ => ?_)
    clear hK K
    try simp only [Act.put, List.setIfInBounds_toArray, List.set_cons_zero, List.set_cons_succ]
    refine wpAnyZ_done (by kernel_rfl) ?_ _
    clear hHeld hS7 c7 z7
    go_wp2_with fail
    go_ret
    have := HBK.out _ _ (Sv.closes (o := { o2 with runs := o2.runs ++ [y] }) hlen HE8.out.tail.tail)
    rw [HRO.out, HO2.out] at this
    exact ⟨rfl, this⟩
set_option maxRecDepth 10000 in
set_option maxHeartbeats 4000000 in
/-- step. -/
theorem svstep_any (hp : ps[k]? = some P) (hx : o.ws[k]? = some x) (hb : x.b = true) (hQ : o.q.length ≤ 1000) (out : Int) (w : World) (h : Own G w0 w l) (e : l[i]? = some (Sv.part S ps o)) : Calls Try.prog 22 #[.pointer (some ⟨S, 0, none⟩), .pointer (some ⟨P, 0, none⟩), .int .i64 out] w fun e w' => e = .returned (.bool (o.step k x out).2) ∧ Own G w0 w' (l.set i (Sv.part S ps (o.step k x out).1)) := by
  obtain ⟨m, -, hS, -⟩ := Sv.seen h i e
  have p3 := (Sv.cells_at hS).2.2.2.1
  obtain ⟨L, hw, hback⟩ := Sv.wk h i e hp hx
  have HW := Lib.hid (wkstep_any hb out o.st w hw)
  have HB := Lib.hid (show ∀ w' x', Wd w' P x' L → Rest (fun k => k = P) w w' → Own G w0 w' (l.set i (Sv.part S ps (o.at_ k x'))) from fun w' x' a b => hback a (.inl rfl) (b.mono fun _ _ => .inl))
  have HI := Lib.hid (List.getElem?_eq_some_iff.1 e).1
  have HSE := Lib.hid (set_same e)
  have HO := Lib.hid (show ∀ w', Own G w0 w' (l.set i (Sv.part S ps (o.at_ k x))) → Own G w0 w' (l.set i (Sv.part S ps o)) from fun w' h => by
    rw [show o.at_ k x = o by unfold Sv.Ob.at_; rw [set_same hx]] at h; exact h)
  have HST := Lib.hid (show o.step k x out = if (x.step out o.st).1.2.2 then (({ o.at_ k (x.step out o.st).2 with st := (x.step out o.st).1.2.1 } : Sv.Ob).note (x.step out o.st).1.1, true) else (o, false) from rfl)
  have HNO := Lib.hid (show (x.step out o.st).1.2.2 = false → (x.step out o.st).2 = x from fun hh => by
    unfold Wk.Wo.step at hh ⊢
    split at hh
    · cases hh
    · split at hh
      · cases hh
      · split at hh
        · cases hh
        · rename_i h1 h2 h3
          rw [if_neg h1, if_neg h2, if_neg h3])
  have HQ0 := Lib.hid hQ
  clear h hS hw hback hp hx hb e hQ
  generalize x.step out o.st = r at HW HST HNO
  obtain ⟨⟨fr, st', ok⟩, x'⟩ := r
  dsimp only at HW HST HNO
  go_enter Try.func22, Try.ntmps22
  go_wp2_with fail
  refine HW.out.mono ?_
  rintro e w1 ⟨rfl, hw1, hr1⟩
  have H1 := Lib.hid (HB.out _ _ hw1 hr1)
  clear hw1 hr1 HB HW p3
  dsimp only
  cases ok with
  | false =>
    go_wp2_with fail
    have H2 := Lib.hid (H1.out.lay (.cells #[.int .i64 fr.k, .int .i64 fr.c, .int .i64 fr.s, .int .i64 fr.t, .int .i64 fr.g, .int .u32 fr.a, .int .i64 fr.r, .bool fr.su, .bool fr.st, .int .i64 fr.q, .int .u32 fr.v] 29)).tail
    go_ret
    rw [HST.out]
    refine ⟨rfl, ?_⟩
    have hxx := HNO.out trivial
    rw [hxx] at H2
    exact HO.out _ H2.out
  | true =>
    have HB : Hid (∀ w' (o' : Sv.Ob), Own G w0 w' (l.set i (Sv.part S ps (({ o.at_ k x' with st := st' } : Sv.Ob).note fr))) → Own G w0 w' (l.set i (Sv.part S ps (o.step k x out).1))) := Lib.hid fun w' _ h => by rw [HST.out]; exact h
    have HV : Hid ((o.step k x out).2 = true) := Lib.hid (by rw [HST.out]; rfl)
    have HQ : Hid ((o.at_ k x').q.length ≤ 1000) := Lib.hid HQ0.out
    clear HST HNO HO HSE HQ0
    obtain ⟨oa, hoa⟩ : ∃ oa, oa = o.at_ k x' := ⟨_, rfl⟩
    rw [← hoa] at H1 HB HQ
    clear hoa
    have HE1 := Lib.hid (show (l.set i (Sv.part S ps oa))[i]? = some (Sv.part S ps oa) from List.getElem?_set_self HI.out)
    have H2 := Lib.hid (H1.out.lay (.cells #[.int .i64 fr.k, .int .i64 fr.c, .int .i64 fr.s, .int .i64 fr.t, .int .i64 fr.g, .int .u32 fr.a, .int .i64 fr.r, .bool fr.su, .bool fr.st, .int .i64 fr.q, .int .u32 fr.v] 29))
    clear H1
    go_upto_region 4 with fail
    generalize w1.alloc _ = w2 at H2 ⊢
    generalize w1.heap.size = bF at H2 ⊢
    obtain ⟨hz3, hs3⟩ := Sv.state st' H2.out (i + 1) HE1.out
    obtain ⟨m, -, hS, -⟩ := Sv.seen H2.out (i + 1) HE1.out
    have p3 := (Sv.cells_at hS).2.2.2.1
    go_upto_region 5 with fail
    have H : Hid (Own G w0 (w2.setCell ⟨S, 3, none⟩ (.int .u32 st')) (.box bF (.cells #[.int .i64 fr.k, .int .i64 fr.c, .int .i64 fr.s, .int .i64 fr.t, .int .i64 fr.g, .int .u32 fr.a, .int .i64 fr.r, .bool fr.su, .bool fr.st, .int .i64 fr.q, .int .u32 fr.v] 29 (0, 0)) :: l.set i (Sv.part S ps { oa with st := st' }))) := Lib.hid (by have := hs3; rw [List.set_cons_succ, List.set_set] at this; exact this)
    have HE := Lib.hid (show (l.set i (Sv.part S ps { oa with st := st' }))[i]? = some (Sv.part S ps { oa with st := st' }) from List.getElem?_set_self HI.out)
    clear hz3 hs3 hS p3 H2 HE1
    generalize w2.setCell _ _ = w3 at H ⊢
    have HB' : Hid (∀ w' (o' : Sv.Ob), o' = { oa with st := st' } → Own G w0 w' (l.set i (Sv.part S ps (o'.note fr))) → Own G w0 w' (l.set i (Sv.part S ps (o.step k x out).1))) := Lib.hid fun w' o' he h => HB.out w' o' (he ▸ h)
    have HQ' : Hid (({ oa with st := st' } : Sv.Ob).q.length ≤ 1000) := HQ
    obtain ⟨oo, hoo⟩ : ∃ oo : Sv.Ob, oo = { oa with st := st' } := ⟨_, rfl⟩
    rw [← hoo] at H HE HQ'
    have HB2 : Hid (∀ w' (u : Unit), Own G w0 w' (l.set i (Sv.part S ps (oo.note fr))) → Own G w0 w' (l.set i (Sv.part S ps (o.step k x out).1))) := Lib.hid fun w' _ h => HB'.out w' oo hoo h
    clear HB HB' HQ hoo
    have HB := HB2
    have HQ := HQ'
    clear HB2 HQ'
    obtain ⟨g0, g1, g2, g3, g4, g5, g6, g7, g8, g9, g10⟩ := frame_cells (H.out.box 0 rfl)
    by_cases h2 : fr.k = 2
    · rw [h2] at g0
      have hK2 := Lib.hid h2
      clear h2
      go_upto_region 7 with fail
      obtain ⟨m, L, hS, hd, hback⟩ := Sv.dc H.out (i + 1) HE.out
      refine wp_region_Z_drew 7 (S := fun w' => w'.heap[S]? = some (.cells (Sv.cells oo m).toArray 52 (0, 0)) ∧ w'.heap[bF]? = some (.cells fr.cells.toArray 29 (0, 0))) (by kernel_rfl) ⟨hS, H.out.box 0 rfl⟩ (fun hHeld => ?_)
      clear hd hback hS g0 g1 g2 g3 g4 g5 g6 g7 g8 g9 g10
      have H5 := Lib.hid H.out.drew
      clear H
      generalize World.drew _ = w5 at H5 hHeld ⊢
      refine wpAnyZ_yieldc [3,2,1] 0 (.pointer (some ⟨S, 0, none⟩)) rfl (by kernel_rfl) (by kernel_rfl) (by kernel_rfl) (fun d _ _ _ h => by cases d <;> exact h) (by rfl) (by assumption) (fun _ _ => by go_simp) ?_
      simp only [Act.put, List.setIfInBounds_toArray, List.set_cons_zero, List.set_cons_succ]
      refine wpAnyZ_yieldc [3,2] 1 (.pointer (some ⟨S, 0, none⟩)) rfl (by kernel_rfl) (by kernel_rfl) (by kernel_rfl) (fun d _ _ _ h => by cases d <;> exact h) (by rfl) (by assumption) (fun _ _ => by go_simp) ?_
      simp only [Act.put, List.setIfInBounds_toArray, List.set_cons_zero, List.set_cons_succ]
      refine wpAnyZ_yieldc [3] 2 (.pointer (some ⟨S, 2, none⟩)) rfl (by kernel_rfl) (by kernel_rfl) (by kernel_rfl) (fun d _ _ _ h => by cases d <;> exact h) (by rfl) (by assumption) (fun _ _ => by go_simp) ?_
      simp only [Act.put, List.setIfInBounds_toArray, List.set_cons_zero, List.set_cons_succ]
      refine wpAnyZ_yield 3 (.pointer (some ⟨m.C, 0, none⟩)) rfl (by kernel_rfl) (by kernel_rfl) (by kernel_rfl) (fun d _ _ _ h => by cases d <;> exact h) (by rfl) (by assumption) (fun _ hSw => by have hcs := (Sv.cells_at hSw.1).2.2.1; go_simp) ?_
      simp only [Act.put, List.setIfInBounds_toArray, List.set_cons_zero, List.set_cons_succ]
      refine wpAnyZ_yield 4 (.agg #[.int .i64 fr.k, .int .i64 fr.c, .int .i64 fr.s, .int .i64 fr.t, .int .i64 fr.g, .int .u32 fr.a, .int .i64 fr.r, .bool fr.su, .bool fr.st, .int .i64 fr.q, .int .u32 fr.v]) rfl (by kernel_rfl) (by kernel_rfl) (by kernel_rfl) (fun d _ _ _ h => by cases d <;> exact h) (by rfl) (by assumption) (fun _ hSw => exec_load_mid (cs := fr.cells) Try.bigFrame (.tmp 7) rfl rfl rfl (range_of_box hSw.2)) ?_
      simp only [Act.put, List.setIfInBounds_toArray, List.set_cons_zero, List.set_cons_succ]
      refine wpAnyZ_yieldc [6] 5 (.pointer (some ⟨bF, 10, none⟩)) rfl (by kernel_rfl) (by kernel_rfl) (by kernel_rfl) (fun d _ _ _ h => by cases d <;> exact h) (by rfl) (by assumption) (fun _ _ => by go_simp) ?_
      simp only [Act.put, List.setIfInBounds_toArray, List.set_cons_zero, List.set_cons_succ]
      refine wpAnyZ_yield 6 (.int .u32 fr.v) rfl (by kernel_rfl) (by kernel_rfl) (by kernel_rfl) (fun d _ _ _ h => by cases d <;> exact h) (by rfl) (by assumption) (fun _ hSw => by have hcs := (frame_cells hSw.2).2.2.2.2.2.2.2.2.2.2; go_simp) ?_
      simp only [Act.put, List.setIfInBounds_toArray, List.set_cons_zero, List.set_cons_succ]
      obtain ⟨m2, L2, hS2, hd2, hback2⟩ := Sv.dc H5.out (i + 1) HE.out
      have hmm : m2.C = m.C := by
        have e1 := (Sv.cells_at hHeld.1).2.2.1
        have e2 := (Sv.cells_at hS2).2.2.1
        rw [e1] at e2
        simpa using e2.symm
      rw [hmm] at hd2 hback2
      refine wpAnyZ_ready (rs := [7]) (by kernel_rfl) (by simp) (AllReadyZ.cons rfl (fun K hK => ?_) AllReadyZ.nil)
      go_simp
      go_at_call 34
      refine (dfin_any fr true fr.v HQ.out w5 hd2).mono ?_
      rintro e w6 ⟨rfl, hd6, hr6⟩
      have h6 := hback2 hd6 (.inl rfl) (hr6.mono fun _ _ => .inr)
      rw [List.set_cons_succ, List.set_set] at h6
      have H6 := Lib.hid h6
      clear h6
      clear hd2 hback2 hS2 hd6 hr6 H5 hmm
      refine hK.out _ _ (fun h => absurd rfl h) (fun _ => ?_)
      clear hK K
      try simp only [Act.put, List.setIfInBounds_toArray, List.set_cons_zero, List.set_cons_succ]
      refine wpAnyZ_done (by kernel_rfl) ?_ _
      clear hHeld
      obtain ⟨g0, g1, g2, g3, g4, g5, g6, g7, g8, g9, g10⟩ := frame_cells (H6.out.box 0 rfl)
      have HE6 := Lib.hid (show (l.set i (Sv.part S ps { oo with q := Dd.fin fr.c fr.a true fr.v oo.q }))[i]? = some (Sv.part S ps { oo with q := Dd.fin fr.c fr.a true fr.v oo.q }) from List.getElem?_set_self HI.out)
      go_wp2_with fail
      refine (svput_any (f := fr) (i := i + 1) w6 H6.out HE6.out).mono ?_
      rintro e w7 ⟨rfl, h4⟩
      have H7 := Lib.hid h4.tail
      clear h4 H6 g0 g1 g2 g3 g4 g5 g6 g7 g8 g9 g10
      go_wp2_with fail
      go_ret
      have := H7.out
      rw [List.set_set] at this
      exact ⟨(by rw [HV.out]; first | done | rfl), HB.out _ () (by unfold Sv.Ob.note; rw [if_pos hK2.out]; exact this)⟩
    by_cases h7 : fr.k = 7
    · rw [h7] at g0
      have hK2 := Lib.hid h7
      clear h7 h2
      go_upto_region 10 with fail
      obtain ⟨m, L, hS, hd, hback⟩ := Sv.dc H.out (i + 1) HE.out
      refine wp_region_Z_drew 7 (S := fun w' => w'.heap[S]? = some (.cells (Sv.cells oo m).toArray 52 (0, 0)) ∧ w'.heap[bF]? = some (.cells fr.cells.toArray 29 (0, 0))) (by kernel_rfl) ⟨hS, H.out.box 0 rfl⟩ (fun hHeld => ?_)
      clear hd hback hS g0 g1 g2 g3 g4 g5 g6 g7 g8 g9 g10
      have H5 := Lib.hid H.out.drew
      clear H
      generalize World.drew _ = w5 at H5 hHeld ⊢
      refine wpAnyZ_yieldc [3,2,1] 0 (.pointer (some ⟨S, 0, none⟩)) rfl (by kernel_rfl) (by kernel_rfl) (by kernel_rfl) (fun d _ _ _ h => by cases d <;> exact h) (by rfl) (by assumption) (fun _ _ => by go_simp) ?_
      simp only [Act.put, List.setIfInBounds_toArray, List.set_cons_zero, List.set_cons_succ]
      refine wpAnyZ_yieldc [3,2] 1 (.pointer (some ⟨S, 0, none⟩)) rfl (by kernel_rfl) (by kernel_rfl) (by kernel_rfl) (fun d _ _ _ h => by cases d <;> exact h) (by rfl) (by assumption) (fun _ _ => by go_simp) ?_
      simp only [Act.put, List.setIfInBounds_toArray, List.set_cons_zero, List.set_cons_succ]
      refine wpAnyZ_yieldc [3] 2 (.pointer (some ⟨S, 2, none⟩)) rfl (by kernel_rfl) (by kernel_rfl) (by kernel_rfl) (fun d _ _ _ h => by cases d <;> exact h) (by rfl) (by assumption) (fun _ _ => by go_simp) ?_
      simp only [Act.put, List.setIfInBounds_toArray, List.set_cons_zero, List.set_cons_succ]
      refine wpAnyZ_yield 3 (.pointer (some ⟨m.C, 0, none⟩)) rfl (by kernel_rfl) (by kernel_rfl) (by kernel_rfl) (fun d _ _ _ h => by cases d <;> exact h) (by rfl) (by assumption) (fun _ hSw => by have hcs := (Sv.cells_at hSw.1).2.2.1; go_simp) ?_
      simp only [Act.put, List.setIfInBounds_toArray, List.set_cons_zero, List.set_cons_succ]
      refine wpAnyZ_yield 4 (.agg #[.int .i64 fr.k, .int .i64 fr.c, .int .i64 fr.s, .int .i64 fr.t, .int .i64 fr.g, .int .u32 fr.a, .int .i64 fr.r, .bool fr.su, .bool fr.st, .int .i64 fr.q, .int .u32 fr.v]) rfl (by kernel_rfl) (by kernel_rfl) (by kernel_rfl) (fun d _ _ _ h => by cases d <;> exact h) (by rfl) (by assumption) (fun _ hSw => exec_load_mid (cs := fr.cells) Try.bigFrame (.tmp 7) rfl rfl rfl (range_of_box hSw.2)) ?_
      simp only [Act.put, List.setIfInBounds_toArray, List.set_cons_zero, List.set_cons_succ]
      refine wpAnyZ_yieldc [6] 5 (.pointer (some ⟨bF, 10, none⟩)) rfl (by kernel_rfl) (by kernel_rfl) (by kernel_rfl) (fun d _ _ _ h => by cases d <;> exact h) (by rfl) (by assumption) (fun _ _ => by go_simp) ?_
      simp only [Act.put, List.setIfInBounds_toArray, List.set_cons_zero, List.set_cons_succ]
      refine wpAnyZ_yield 6 (.int .u32 fr.v) rfl (by kernel_rfl) (by kernel_rfl) (by kernel_rfl) (fun d _ _ _ h => by cases d <;> exact h) (by rfl) (by assumption) (fun _ hSw => by have hcs := (frame_cells hSw.2).2.2.2.2.2.2.2.2.2.2; go_simp) ?_
      simp only [Act.put, List.setIfInBounds_toArray, List.set_cons_zero, List.set_cons_succ]
      obtain ⟨m2, L2, hS2, hd2, hback2⟩ := Sv.dc H5.out (i + 1) HE.out
      have hmm : m2.C = m.C := by
        have e1 := (Sv.cells_at hHeld.1).2.2.1
        have e2 := (Sv.cells_at hS2).2.2.1
        rw [e1] at e2
        simpa using e2.symm
      rw [hmm] at hd2 hback2
      refine wpAnyZ_ready (rs := [7]) (by kernel_rfl) (by simp) (AllReadyZ.cons rfl (fun K hK => ?_) AllReadyZ.nil)
      go_simp
      go_at_call 34
      refine (dfin_any fr false fr.v HQ.out w5 hd2).mono ?_
      rintro e w6 ⟨rfl, hd6, hr6⟩
      have h6 := hback2 hd6 (.inl rfl) (hr6.mono fun _ _ => .inr)
      rw [List.set_cons_succ, List.set_set] at h6
      have H6 := Lib.hid h6
      clear h6
      clear hd2 hback2 hS2 hd6 hr6 H5 hmm
      refine hK.out _ _ (fun h => absurd rfl h) (fun _ => ?_)
      clear hK K
      try simp only [Act.put, List.setIfInBounds_toArray, List.set_cons_zero, List.set_cons_succ]
      refine wpAnyZ_done (by kernel_rfl) ?_ _
      clear hHeld
      obtain ⟨g0, g1, g2, g3, g4, g5, g6, g7, g8, g9, g10⟩ := frame_cells (H6.out.box 0 rfl)
      have HE6 := Lib.hid (show (l.set i (Sv.part S ps { oo with q := Dd.fin fr.c fr.a false fr.v oo.q }))[i]? = some (Sv.part S ps { oo with q := Dd.fin fr.c fr.a false fr.v oo.q }) from List.getElem?_set_self HI.out)
      go_wp2_with fail
      refine (svput_any (f := fr) (i := i + 1) w6 H6.out HE6.out).mono ?_
      rintro e w7 ⟨rfl, h4⟩
      have H7 := Lib.hid h4.tail
      clear h4 H6 g0 g1 g2 g3 g4 g5 g6 g7 g8 g9 g10
      go_wp2_with fail
      go_ret
      have := H7.out
      rw [List.set_set] at this
      exact ⟨(by rw [HV.out]; first | done | rfl), HB.out _ () (by unfold Sv.Ob.note; rw [if_neg (by rw [hK2.out]; decide), if_pos (.inl hK2.out)]; exact this)⟩
    by_cases h4 : fr.k = 4
    · rw [h4] at g0
      have hK2 := Lib.hid h4
      clear h7 h2 h4
      go_upto_region 10 with fail
      obtain ⟨m, L, hS, hd, hback⟩ := Sv.dc H.out (i + 1) HE.out
      refine wp_region_Z_drew 7 (S := fun w' => w'.heap[S]? = some (.cells (Sv.cells oo m).toArray 52 (0, 0)) ∧ w'.heap[bF]? = some (.cells fr.cells.toArray 29 (0, 0))) (by kernel_rfl) ⟨hS, H.out.box 0 rfl⟩ (fun hHeld => ?_)
      clear hd hback hS g0 g1 g2 g3 g4 g5 g6 g7 g8 g9 g10
      have H5 := Lib.hid H.out.drew
      clear H
      generalize World.drew _ = w5 at H5 hHeld ⊢
      refine wpAnyZ_yieldc [3,2,1] 0 (.pointer (some ⟨S, 0, none⟩)) rfl (by kernel_rfl) (by kernel_rfl) (by kernel_rfl) (fun d _ _ _ h => by cases d <;> exact h) (by rfl) (by assumption) (fun _ _ => by go_simp) ?_
      simp only [Act.put, List.setIfInBounds_toArray, List.set_cons_zero, List.set_cons_succ]
      refine wpAnyZ_yieldc [3,2] 1 (.pointer (some ⟨S, 0, none⟩)) rfl (by kernel_rfl) (by kernel_rfl) (by kernel_rfl) (fun d _ _ _ h => by cases d <;> exact h) (by rfl) (by assumption) (fun _ _ => by go_simp) ?_
      simp only [Act.put, List.setIfInBounds_toArray, List.set_cons_zero, List.set_cons_succ]
      refine wpAnyZ_yieldc [3] 2 (.pointer (some ⟨S, 2, none⟩)) rfl (by kernel_rfl) (by kernel_rfl) (by kernel_rfl) (fun d _ _ _ h => by cases d <;> exact h) (by rfl) (by assumption) (fun _ _ => by go_simp) ?_
      simp only [Act.put, List.setIfInBounds_toArray, List.set_cons_zero, List.set_cons_succ]
      refine wpAnyZ_yield 3 (.pointer (some ⟨m.C, 0, none⟩)) rfl (by kernel_rfl) (by kernel_rfl) (by kernel_rfl) (fun d _ _ _ h => by cases d <;> exact h) (by rfl) (by assumption) (fun _ hSw => by have hcs := (Sv.cells_at hSw.1).2.2.1; go_simp) ?_
      simp only [Act.put, List.setIfInBounds_toArray, List.set_cons_zero, List.set_cons_succ]
      refine wpAnyZ_yield 4 (.agg #[.int .i64 fr.k, .int .i64 fr.c, .int .i64 fr.s, .int .i64 fr.t, .int .i64 fr.g, .int .u32 fr.a, .int .i64 fr.r, .bool fr.su, .bool fr.st, .int .i64 fr.q, .int .u32 fr.v]) rfl (by kernel_rfl) (by kernel_rfl) (by kernel_rfl) (fun d _ _ _ h => by cases d <;> exact h) (by rfl) (by assumption) (fun _ hSw => exec_load_mid (cs := fr.cells) Try.bigFrame (.tmp 7) rfl rfl rfl (range_of_box hSw.2)) ?_
      simp only [Act.put, List.setIfInBounds_toArray, List.set_cons_zero, List.set_cons_succ]
      refine wpAnyZ_yieldc [6] 5 (.pointer (some ⟨bF, 10, none⟩)) rfl (by kernel_rfl) (by kernel_rfl) (by kernel_rfl) (fun d _ _ _ h => by cases d <;> exact h) (by rfl) (by assumption) (fun _ _ => by go_simp) ?_
      simp only [Act.put, List.setIfInBounds_toArray, List.set_cons_zero, List.set_cons_succ]
      refine wpAnyZ_yield 6 (.int .u32 fr.v) rfl (by kernel_rfl) (by kernel_rfl) (by kernel_rfl) (fun d _ _ _ h => by cases d <;> exact h) (by rfl) (by assumption) (fun _ hSw => by have hcs := (frame_cells hSw.2).2.2.2.2.2.2.2.2.2.2; go_simp) ?_
      simp only [Act.put, List.setIfInBounds_toArray, List.set_cons_zero, List.set_cons_succ]
      obtain ⟨m2, L2, hS2, hd2, hback2⟩ := Sv.dc H5.out (i + 1) HE.out
      have hmm : m2.C = m.C := by
        have e1 := (Sv.cells_at hHeld.1).2.2.1
        have e2 := (Sv.cells_at hS2).2.2.1
        rw [e1] at e2
        simpa using e2.symm
      rw [hmm] at hd2 hback2
      refine wpAnyZ_ready (rs := [7]) (by kernel_rfl) (by simp) (AllReadyZ.cons rfl (fun K hK => ?_) AllReadyZ.nil)
      go_simp
      go_at_call 34
      refine (dfin_any fr false fr.v HQ.out w5 hd2).mono ?_
      rintro e w6 ⟨rfl, hd6, hr6⟩
      have h6 := hback2 hd6 (.inl rfl) (hr6.mono fun _ _ => .inr)
      rw [List.set_cons_succ, List.set_set] at h6
      have H6 := Lib.hid h6
      clear h6
      clear hd2 hback2 hS2 hd6 hr6 H5 hmm
      refine hK.out _ _ (fun h => absurd rfl h) (fun _ => ?_)
      clear hK K
      try simp only [Act.put, List.setIfInBounds_toArray, List.set_cons_zero, List.set_cons_succ]
      refine wpAnyZ_done (by kernel_rfl) ?_ _
      clear hHeld
      obtain ⟨g0, g1, g2, g3, g4, g5, g6, g7, g8, g9, g10⟩ := frame_cells (H6.out.box 0 rfl)
      have HE6 := Lib.hid (show (l.set i (Sv.part S ps { oo with q := Dd.fin fr.c fr.a false fr.v oo.q }))[i]? = some (Sv.part S ps { oo with q := Dd.fin fr.c fr.a false fr.v oo.q }) from List.getElem?_set_self HI.out)
      go_wp2_with fail
      refine (svput_any (f := fr) (i := i + 1) w6 H6.out HE6.out).mono ?_
      rintro e w7 ⟨rfl, h4⟩
      have H7 := Lib.hid h4.tail
      clear h4 H6 g0 g1 g2 g3 g4 g5 g6 g7 g8 g9 g10
      go_wp2_with fail
      go_ret
      have := H7.out
      rw [List.set_set] at this
      exact ⟨(by rw [HV.out]; first | done | rfl), HB.out _ () (by unfold Sv.Ob.note; rw [if_neg (by rw [hK2.out]; decide), if_pos (.inr hK2.out)]; exact this)⟩
    · have hd2 : decide (fr.k = 2) = false := decide_eq_false h2
      have hd7 : decide (fr.k = 7) = false := decide_eq_false h7
      have hd4 : decide (fr.k = 4) = false := decide_eq_false h4
      have hK2 := Lib.hid (And.intro h2 (And.intro h7 h4))
      go_wp2_with fail
      refine (svput_any (f := fr) (i := i + 1) w3 H.out HE.out).mono ?_
      rintro e w7 ⟨rfl, h4⟩
      have H7 := Lib.hid h4.tail
      clear h4 H g0 g1 g2 g3 g4 g5 g6 g7 g8 g9 g10
      go_wp2_with fail
      go_ret
      have := H7.out
      rw [List.set_set] at this
      exact ⟨(by rw [HV.out]; first | done | rfl), HB.out _ () (by unfold Sv.Ob.note; rw [if_neg hK2.out.1, if_neg (fun e => e.elim hK2.out.2.1 hK2.out.2.2)]; exact this)⟩
end
end Go.Proofs.Ytgboiejiodgcnaa
