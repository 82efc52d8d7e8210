/- DuePlays: where the law's own list is made anew. -/
import Derived.Test.YtfjhknmpolhfeaaLaw12E
import Derived.Test.YtfjhknmpolhfeaaFind
import Derived.Deep.DrawnRows
namespace Go.Proofs.Ytfjhknmpolhfeaa
open Go.RowKit Go.Sort
attribute [local go_sem ↓] Go.wp_at_zero Go.wp_at_succ

theorem Try.elemAl : Try.prog.elem 28 = 31 := by kernel_rfl
/-- All behind one of them. -/
theorem alarms_tail (mb mo n mc k : Nat) (hk : k < n) : ∃ (ad : Addr) (ln cp : Nat), (∀ w, Sem.run Try.prog (Instr.sliceAt 28 (.slice (some ⟨mb, mo, none⟩) n mc) (some (.int .i64 ((k : Int) + 1))) none none) w = .ok (.slice (some ad) ln cp) w) ∧ ln = n - (k + 1) ∧
    ∀ (W : World) (B : Nat) (t : TypeId) (h : List En), h.length = n → RowK W B t 5 mb mo n mc (flatA h) → ∀ j u, (flatA (h.drop (k + 1)))[j]? = some u → W.cell? (ad.add j) = some u := by
  obtain ⟨i0, hinf, hz0, hz1, hz2⟩ := info_parts Try.infoAl
  have hrun : ∀ w, Sem.run Try.prog (Instr.sliceAt 28 (.slice (some ⟨mb, mo, none⟩) n mc) (some (.int .i64 ((k : Int) + 1))) none none) w = .ok (sliced (some ⟨mb, mo, none⟩) (k + 1) n mc 5) w := fun w => by
    rw [run_sliceAt_slice w 28 _ _ _ _ Try.underlying28, run_slice_l w 28 _ _ _ Try.underlying28 .i64 ((k : Int) + 1) (by omega) (by omega), Try.elemAl]
    simp only [sizeOf, typeInfo, Sem.run_bind]
    rw [show ((k : Int) + 1).toNat = k + 1 by omega]
    simp [hinf, hz1]
  by_cases hmc : mc = k + 1
  · refine ⟨⟨mb, mo, none⟩, n - (k + 1), mc - (k + 1), fun w => by rw [hrun w]; unfold sliced; rw [if_pos hmc], rfl, fun W B t h hl hr j u hu => ?_⟩
    have := hr.room
    rw [List.drop_of_length_le (by omega)] at hu
    simp [flatA] at hu
  · exact ⟨⟨mb, mo + (k + 1) * 5, none⟩, n - (k + 1), mc - (k + 1), fun w => by rw [hrun w]; unfold sliced; rw [if_neg hmc]; rfl, rfl, fun W B t h hl hr => last_alarms hr (k + 1)⟩

set_option maxHeartbeats 4000000 in
set_option maxRecDepth 1000000 in
/-- One is put behind the law's list. -/
theorem put_row {w wr : World} {P b mb mo mc : Nat} {n : Int} {g0 g : List En} {K : List Nat} (x : En) (HPp : Hid (Pl w wr P n g0 g mb mo mc K)) (HB3 : Hid (wr.heap[b]? = some (.cells #[.int .i64 x.t, .int .i64 x.c, .int .i64 x.s, .int .i64 x.g, .int .i64 x.x] 31 (0, 0)))) (hgl : g.length ≤ 100)
    (Q : Exit → Act → World → Prop) (v0 v1 v2 v3 v5 v7 v8 v9 v10 v11 v12 v13 v14 v15 v16 v17 v18 v19 v20 v21 v22 v23 v24 v25 v26 v27 v28 v29 v30 v31 v32 v33 v34 v35 v36 v37 v38 v39 v40 v41 v42 v43 v44 v45 v46 v47 v48 v49 v50 v51 v52 v53 v54 v55 v56 v57 v58 v59 v60 v61 v62 v63 v64 v65 v66 v67 v68 v69 v70 v71 v72 v73 v74 v75 v76 v77 v78 v79 v80 v81 v82 v83 v84 v85 v86 v87 v88 v89 v90 v91 v92 v93 v94 v95 v96 v97 v98 v99 v100 v101 v102 v103 v104 v105 v106 v107 v108 v109 v110 v111 v112 v113 v114 v115 v116 v117 v118 v119 v120 v121 v122 v123 v124 v125 v126 v127 v128 v129 v130 v131 v132 v133 v134 v135 v136 v137 v138 v139 v140 v141 v142 v143 v144 v145 v146 v147 v148 v149 v150 v151 v152 v153 v154 v155 v156 v157 v158 v159 v160 v161 v162 v163 v164 v165 v166 v167 v168 v169 v170 v171 v172 v173 v174 v175 v176 v177 v178 v179 v180 v181 v182 v183 v184 v185 v186 v187 v188 v189 v190 v191 v192 v193 v194 v195 v196 v197 v198 v199 v200 v201 v202 v203 v204 v205 v206 v207 v208 v209 v210 v211 v212 v213 : Value)
    (HQ : Hid (∀ (x65 x66 x67 x68 x69 x70 : Value) (g2 o2 c2 : Nat) (wn : World), Pl w wn P n g0 (g ++ [x]) g2 o2 c2 K → Q .normal ⟨#[v0, v1, v2, v3, .slice (some ⟨g2, o2, none⟩) (g.length + 1) c2, v5, .pointer (some ⟨b, 0, none⟩), v7, v8, v9, v10, v11, v12, v13, v14, v15, v16, v17, v18, v19, v20, v21, v22, v23, v24, v25, v26, v27, v28, v29, v30, v31, v32, v33, v34, v35, v36, v37, v38, v39, v40, v41, v42, v43, v44, v45, v46, v47, v48, v49, v50, v51, v52, v53, v54, v55, v56, v57, v58, v59, v60, v61, v62, v63, v64, x65, x66, x67, x68, x69, x70, v71, v72, v73, v74, v75, v76, v77, v78, v79, v80, v81, v82, v83, v84, v85, v86, v87, v88, v89, v90, v91, v92, v93, v94, v95, v96, v97, v98, v99, v100, v101, v102, v103, v104, v105, v106, v107, v108, v109, v110, v111, v112, v113, v114, v115, v116, v117, v118, v119, v120, v121, v122, v123, v124, v125, v126, v127, v128, v129, v130, v131, v132, v133, v134, v135, v136, v137, v138, v139, v140, v141, v142, v143, v144, v145, v146, v147, v148, v149, v150, v151, v152, v153, v154, v155, v156, v157, v158, v159, v160, v161, v162, v163, v164, v165, v166, v167, v168, v169, v170, v171, v172, v173, v174, v175, v176, v177, v178, v179, v180, v181, v182, v183, v184, v185, v186, v187, v188, v189, v190, v191, v192, v193, v194, v195, v196, v197, v198, v199, v200, v201, v202, v203, v204, v205, v206, v207, v208, v209, v210, v211, v212, v213], []⟩ wn)) (hP : ∀ (v : Value) (d : Option Tmp) c a w, Q (.panic c) (a.put d v) w → Q (.panic c) a w) :
    Code.wp Try.prog ((Try.f3.body.bind (findReg 14)).getD .skip) Q ⟨#[v0, v1, v2, v3, .slice (some ⟨mb, mo, none⟩) g.length mc, v5, .pointer (some ⟨b, 0, none⟩), v7, v8, v9, v10, v11, v12, v13, v14, v15, v16, v17, v18, v19, v20, v21, v22, v23, v24, v25, v26, v27, v28, v29, v30, v31, v32, v33, v34, v35, v36, v37, v38, v39, v40, v41, v42, v43, v44, v45, v46, v47, v48, v49, v50, v51, v52, v53, v54, v55, v56, v57, v58, v59, v60, v61, v62, v63, v64, v65, v66, v67, v68, v69, v70, v71, v72, v73, v74, v75, v76, v77, v78, v79, v80, v81, v82, v83, v84, v85, v86, v87, v88, v89, v90, v91, v92, v93, v94, v95, v96, v97, v98, v99, v100, v101, v102, v103, v104, v105, v106, v107, v108, v109, v110, v111, v112, v113, v114, v115, v116, v117, v118, v119, v120, v121, v122, v123, v124, v125, v126, v127, v128, v129, v130, v131, v132, v133, v134, v135, v136, v137, v138, v139, v140, v141, v142, v143, v144, v145, v146, v147, v148, v149, v150, v151, v152, v153, v154, v155, v156, v157, v158, v159, v160, v161, v162, v163, v164, v165, v166, v167, v168, v169, v170, v171, v172, v173, v174, v175, v176, v177, v178, v179, v180, v181, v182, v183, v184, v185, v186, v187, v188, v189, v190, v191, v192, v193, v194, v195, v196, v197, v198, v199, v200, v201, v202, v203, v204, v205, v206, v207, v208, v209, v210, v211, v212, v213], []⟩ wr := by
  conv => arg 2; whnf
  refine wp_region_held_drew (S := fun w' => w'.cell? ⟨b, 0, none⟩ = some (.int .i64 x.t) ∧ w'.cell? ⟨b, 1, none⟩ = some (.int .i64 x.c) ∧ w'.cell? ⟨b, 2, none⟩ = some (.int .i64 x.s) ∧ w'.cell? ⟨b, 3, none⟩ = some (.int .i64 x.g) ∧ w'.cell? ⟨b, 4, none⟩ = some (.int .i64 x.x)) (by as_aux_lemma => kernel_rfl) (box_at HB3.out (Rest.drew _ _)) (fun hHeld => ?_)
  have HPd := Lib.hid (HPp.out.past (Rest.drew _ _))
  have HBX := Lib.hid (((Rest.drew (fun _ => False) wr).block b (lt_of_block HB3.out) (fun x => x)).trans HB3.out)
  clear HPp HB3
  generalize wr.drew = wd at HPd HBX hHeld ⊢
  have HR := Lib.hid (Rest.refl (fun _ => False) wd)
  refine wpAnyH_yield 1 (.slice (some ⟨mb, mo, none⟩) g.length mc) rfl (by as_aux_lemma => kernel_rfl) (by as_aux_lemma => kernel_rfl) (by as_aux_lemma => kernel_rfl) (fun d c a w h => hP _ d c a w h) (by rfl) (by assumption) (fun _ _ => by go_simp) ?_
  simp only [Act.put, List.setIfInBounds_toArray, List.set_cons_zero, List.set_cons_succ]
  refine wpAnyH_yield 3 (.agg #[.int .i64 x.t, .int .i64 x.c, .int .i64 x.s, .int .i64 x.g, .int .i64 x.x]) rfl (by as_aux_lemma => kernel_rfl) (by as_aux_lemma => kernel_rfl) (by as_aux_lemma => kernel_rfl) (fun d c a w h => hP _ d c a w h) (by rfl) (by assumption) (fun _ hSw => by (try dsimp only at hSw); go_simp) ?_
  simp only [Act.put, List.setIfInBounds_toArray, List.set_cons_zero, List.set_cons_succ]
  refine wpAnyH_ready (rs := [0, 4]) (by as_aux_lemma => kernel_rfl) (by simp) (AllReadyH.cons rfl (fun K hK => ?_) (AllReadyH.cons rfl (fun K hK => ?_) AllReadyH.nil))
  · go_simp
    have hs := Rest.alloc (fun _ => False) wd (.cells #[] 31)
    have hz : (wd.alloc (.cells #[] 31)).heap.size = wd.heap.size + 1 := by simp
    have hrow := Row2.new (w := wd) (w1 := wd) HR.out
    generalize wd.alloc (.cells #[] 31) = wx11 at hs hrow hz ⊢
    replace HR := Lib.hid (HR.out.trans (o3 := fun _ => False) hs (fun _ _ => id) (fun _ _ => id))
    have HROW := Lib.hid hrow
    have HZ0 := Lib.hid hz
    clear hs hrow hz
    refine hK.out _ _ (box_at HBX.out HR.out) (fun hHeld => ?_)
    clear hK K
    try simp only [Act.put, List.setIfInBounds_toArray, List.set_cons_zero, List.set_cons_succ]
    refine wpAnyH_ready (rs := [2, 4]) (by as_aux_lemma => kernel_rfl) (by simp) (AllReadyH.cons rfl (fun K hK => ?_) (AllReadyH.cons rfl (fun K hK => ?_) AllReadyH.nil))
    · obtain ⟨g1, o1, c1, wx12, hrun, hrow, hkeep⟩ := HROW.out.add0 (c := mc) (h' := g) rfl (by omega) (some_alarms (HPd.out.past HR.out).own.row) HR.out.size 28
      refine step_append_run rfl _ _ 28 rfl rfl rfl hrun ?_
      replace HR := Lib.hid hrow.rest
      replace HROW := Lib.hid hrow
      clear hrun hrow hkeep
      refine hK.out _ _ (box_at HBX.out HR.out) (fun hHeld => ?_)
      clear hK K
      try simp only [Act.put, List.setIfInBounds_toArray]
      refine wpAnyH_ready (rs := [4]) (by as_aux_lemma => kernel_rfl) (by simp) (AllReadyH.cons rfl (fun K hK => ?_) AllReadyH.nil)
      go_simp
      have hs := Rest.alloc (fun _ => False) wx12 (.cells #[.int .i64 x.t, .int .i64 x.c, .int .i64 x.s, .int .i64 x.g, .int .i64 x.x] 31)
      have hz : (wx12.alloc (.cells #[.int .i64 x.t, .int .i64 x.c, .int .i64 x.s, .int .i64 x.g, .int .i64 x.x] 31)).heap.size = wx12.heap.size + 1 := by simp
      have h9 := heap_alloc_new wx12 (.cells #[.int .i64 x.t, .int .i64 x.c, .int .i64 x.s, .int .i64 x.g, .int .i64 x.x] 31)
      generalize wx12.alloc (.cells #[.int .i64 x.t, .int .i64 x.c, .int .i64 x.s, .int .i64 x.g, .int .i64 x.x] 31) = wx13 at hs h9 hz ⊢
      replace HROW := Lib.hid (HROW.out.more hs)
      replace HR := Lib.hid (HR.out.trans (o3 := fun _ => False) hs (fun _ _ => id) (fun _ _ => id))
      have HB9 := Lib.hid h9
      have HZ4 := Lib.hid hz
      clear hs h9 hz
      refine hK.out _ _ (box_at HBX.out HR.out) (fun hHeld => ?_)
      clear hK K
      try simp only [Act.put, List.setIfInBounds_toArray, List.set_cons_zero, List.set_cons_succ]
      refine wpAnyH_ready (rs := [5]) (by as_aux_lemma => kernel_rfl) (by simp) (AllReadyH.cons rfl (fun K hK => ?_) AllReadyH.nil)
      obtain ⟨g2, o2, c2, wx14, hrun, hrow, -⟩ := HROW.out.add (c := 1) (m := 1) (h' := [x]) (by omega) rfl (by omega) (one_alarm x HB9.out) HR.out.size 28
      refine step_append_run rfl _ _ 28 rfl rfl rfl hrun ?_
      replace HR := Lib.hid hrow.rest
      have HP9 := Lib.hid (Row2.done HPd.out (Rest.refl _ _) hrow (by simp))
      clear hrun hrow HROW HB9
      refine hK.out _ _ (box_at HBX.out HR.out) (fun hHeld => ?_)
      clear hK K
      try simp only [Act.put, List.setIfInBounds_toArray]
      refine wpAnyH_yield 6 (.slice (some ⟨g2, o2, none⟩) (g.length + 1) c2) rfl (by as_aux_lemma => kernel_rfl) (by as_aux_lemma => kernel_rfl) (by as_aux_lemma => kernel_rfl) (fun d c a w h => hP _ d c a w h) (by rfl) (by assumption) (fun _ _ => by go_simp) ?_
      simp only [Act.put]
      refine wpAnyH_done (by as_aux_lemma => kernel_rfl) ?_ _
      exact HQ.out _ _ _ _ _ _ g2 o2 c2 _ HP9.out
    · go_simp
      have hs := Rest.alloc (fun _ => False) wx11 (.cells #[.int .i64 x.t, .int .i64 x.c, .int .i64 x.s, .int .i64 x.g, .int .i64 x.x] 31)
      have hz : (wx11.alloc (.cells #[.int .i64 x.t, .int .i64 x.c, .int .i64 x.s, .int .i64 x.g, .int .i64 x.x] 31)).heap.size = wx11.heap.size + 1 := by simp
      have h9 := heap_alloc_new wx11 (.cells #[.int .i64 x.t, .int .i64 x.c, .int .i64 x.s, .int .i64 x.g, .int .i64 x.x] 31)
      generalize wx11.alloc (.cells #[.int .i64 x.t, .int .i64 x.c, .int .i64 x.s, .int .i64 x.g, .int .i64 x.x] 31) = wx12 at hs h9 hz ⊢
      replace HROW := Lib.hid (HROW.out.more hs)
      replace HR := Lib.hid (HR.out.trans (o3 := fun _ => False) hs (fun _ _ => id) (fun _ _ => id))
      have HB9 := Lib.hid h9
      have HZ4 := Lib.hid hz
      clear hs h9 hz
      refine hK.out _ _ (box_at HBX.out HR.out) (fun hHeld => ?_)
      clear hK K
      try simp only [Act.put, List.setIfInBounds_toArray, List.set_cons_zero, List.set_cons_succ]
      refine wpAnyH_ready (rs := [2]) (by as_aux_lemma => kernel_rfl) (by simp) (AllReadyH.cons rfl (fun K hK => ?_) AllReadyH.nil)
      obtain ⟨g1, o1, c1, wx13, hrun, hrow, hkeep⟩ := HROW.out.add0 (c := mc) (h' := g) rfl (by omega) (some_alarms (HPd.out.past HR.out).own.row) HR.out.size 28
      refine step_append_run rfl _ _ 28 rfl rfl rfl hrun ?_
      replace HB9 := Lib.hid ((hkeep _ (lt_of_block HB9.out) (by have := HZ0.out; have := HZ4.out; omega)).trans HB9.out)
      replace HR := Lib.hid hrow.rest
      replace HROW := Lib.hid hrow
      clear hrun hrow hkeep
      refine hK.out _ _ (box_at HBX.out HR.out) (fun hHeld => ?_)
      clear hK K
      try simp only [Act.put, List.setIfInBounds_toArray]
      refine wpAnyH_ready (rs := [5]) (by as_aux_lemma => kernel_rfl) (by simp) (AllReadyH.cons rfl (fun K hK => ?_) AllReadyH.nil)
      obtain ⟨g2, o2, c2, wx14, hrun, hrow, -⟩ := HROW.out.add (c := 1) (m := 1) (h' := [x]) (by omega) rfl (by omega) (one_alarm x HB9.out) HR.out.size 28
      refine step_append_run rfl _ _ 28 rfl rfl rfl hrun ?_
      replace HR := Lib.hid hrow.rest
      have HP9 := Lib.hid (Row2.done HPd.out (Rest.refl _ _) hrow (by simp))
      clear hrun hrow HROW HB9
      refine hK.out _ _ (box_at HBX.out HR.out) (fun hHeld => ?_)
      clear hK K
      try simp only [Act.put]
      refine wpAnyH_yield 6 (.slice (some ⟨g2, o2, none⟩) (g.length + 1) c2) rfl (by as_aux_lemma => kernel_rfl) (by as_aux_lemma => kernel_rfl) (by as_aux_lemma => kernel_rfl) (fun d c a w h => hP _ d c a w h) (by rfl) (by assumption) (fun _ _ => by go_simp) ?_
      simp only [Act.put]
      refine wpAnyH_done (by as_aux_lemma => kernel_rfl) ?_ _
      exact HQ.out _ _ _ _ _ _ g2 o2 c2 _ HP9.out
  · go_simp
    have hs := Rest.alloc (fun _ => False) wd (.cells #[.int .i64 x.t, .int .i64 x.c, .int .i64 x.s, .int .i64 x.g, .int .i64 x.x] 31)
    have hz : (wd.alloc (.cells #[.int .i64 x.t, .int .i64 x.c, .int .i64 x.s, .int .i64 x.g, .int .i64 x.x] 31)).heap.size = wd.heap.size + 1 := by simp
    have h9 := heap_alloc_new wd (.cells #[.int .i64 x.t, .int .i64 x.c, .int .i64 x.s, .int .i64 x.g, .int .i64 x.x] 31)
    generalize wd.alloc (.cells #[.int .i64 x.t, .int .i64 x.c, .int .i64 x.s, .int .i64 x.g, .int .i64 x.x] 31) = wx11 at hs h9 hz ⊢
    replace HR := Lib.hid (HR.out.trans (o3 := fun _ => False) hs (fun _ _ => id) (fun _ _ => id))
    have HB9 := Lib.hid h9
    have HZ4 := Lib.hid hz
    clear hs h9 hz
    refine hK.out _ _ (box_at HBX.out HR.out) (fun hHeld => ?_)
    clear hK K
    try simp only [Act.put, List.setIfInBounds_toArray, List.set_cons_zero, List.set_cons_succ]
    refine wpAnyH_ready (rs := [0]) (by as_aux_lemma => kernel_rfl) (by simp) (AllReadyH.cons rfl (fun K hK => ?_) AllReadyH.nil)
    go_simp
    have hs := Rest.alloc (fun _ => False) wx11 (.cells #[] 31)
    have hz : (wx11.alloc (.cells #[] 31)).heap.size = wx11.heap.size + 1 := by simp
    have hrow := Row2.new (w := wd) (w1 := wx11) HR.out
    generalize wx11.alloc (.cells #[] 31) = wx12 at hs hrow hz ⊢
    replace HB9 := Lib.hid ((hs.block _ (lt_of_block HB9.out) (fun x => x)).trans HB9.out)
    replace HR := Lib.hid (HR.out.trans (o3 := fun _ => False) hs (fun _ _ => id) (fun _ _ => id))
    have HROW := Lib.hid hrow
    have HZ0 := Lib.hid hz
    clear hs hrow hz
    refine hK.out _ _ (box_at HBX.out HR.out) (fun hHeld => ?_)
    clear hK K
    try simp only [Act.put, List.setIfInBounds_toArray, List.set_cons_zero, List.set_cons_succ]
    refine wpAnyH_ready (rs := [2]) (by as_aux_lemma => kernel_rfl) (by simp) (AllReadyH.cons rfl (fun K hK => ?_) AllReadyH.nil)
    obtain ⟨g1, o1, c1, wx13, hrun, hrow, hkeep⟩ := HROW.out.add0 (c := mc) (h' := g) rfl (by omega) (some_alarms (HPd.out.past HR.out).own.row) HR.out.size 28
    refine step_append_run rfl _ _ 28 rfl rfl rfl hrun ?_
    replace HB9 := Lib.hid ((hkeep _ (lt_of_block HB9.out) (by have := HZ0.out; have := HZ4.out; omega)).trans HB9.out)
    replace HR := Lib.hid hrow.rest
    replace HROW := Lib.hid hrow
    clear hrun hrow hkeep
    refine hK.out _ _ (box_at HBX.out HR.out) (fun hHeld => ?_)
    clear hK K
    try simp only [Act.put, List.setIfInBounds_toArray]
    refine wpAnyH_ready (rs := [5]) (by as_aux_lemma => kernel_rfl) (by simp) (AllReadyH.cons rfl (fun K hK => ?_) AllReadyH.nil)
    obtain ⟨g2, o2, c2, wx14, hrun, hrow, -⟩ := HROW.out.add (c := 1) (m := 1) (h' := [x]) (by omega) rfl (by omega) (one_alarm x HB9.out) HR.out.size 28
    refine step_append_run rfl _ _ 28 rfl rfl rfl hrun ?_
    replace HR := Lib.hid hrow.rest
    have HP9 := Lib.hid (Row2.done HPd.out (Rest.refl _ _) hrow (by simp))
    clear hrun hrow HROW HB9
    refine hK.out _ _ (box_at HBX.out HR.out) (fun hHeld => ?_)
    clear hK K
    try simp only [Act.put]
    refine wpAnyH_yield 6 (.slice (some ⟨g2, o2, none⟩) (g.length + 1) c2) rfl (by as_aux_lemma => kernel_rfl) (by as_aux_lemma => kernel_rfl) (by as_aux_lemma => kernel_rfl) (fun d c a w h => hP _ d c a w h) (by rfl) (by assumption) (fun _ _ => by go_simp) ?_
    simp only [Act.put]
    refine wpAnyH_done (by as_aux_lemma => kernel_rfl) ?_ _
    exact HQ.out _ _ _ _ _ _ g2 o2 c2 _ HP9.out

set_option maxHeartbeats 4000000 in
set_option maxRecDepth 1000000 in
/-- One is left out of the law's list. -/
theorem cut_row {w wr : World} {P mb mo mc k : Nat} {n : Int} {g0 g : List En} {K : List Nat} (HPp : Hid (Pl w wr P n g0 g mb mo mc K)) (hgl : g.length ≤ 100) (hk : k < g.length)
    (Q : Exit → Act → World → Prop) (v0 v1 v2 v3 v5 v6 v8 v9 v10 v11 v12 v13 v14 v15 v16 v17 v18 v19 v20 v21 v22 v23 v24 v25 v26 v27 v28 v29 v30 v31 v32 v33 v34 v35 v36 v37 v38 v39 v40 v41 v42 v43 v44 v45 v46 v47 v48 v49 v50 v51 v52 v53 v54 v55 v56 v57 v58 v59 v60 v61 v62 v63 v64 v65 v66 v67 v68 v69 v70 v71 v72 v73 v74 v75 v76 v77 v78 v79 v80 v81 v82 v83 v84 v85 v86 v87 v88 v89 v90 v91 v92 v93 v94 v95 v96 v97 v98 v99 v100 v101 v102 v103 v104 v105 v106 v107 v108 v109 v110 v111 v112 v113 v114 v115 v116 v117 v118 v119 v120 v121 v122 v123 v124 v125 v126 v127 v128 v129 v130 v131 v132 v133 v134 v135 v136 v137 v138 v139 v140 v141 v142 v143 v144 v145 v146 v147 v148 v149 v150 v151 v152 v153 v154 v155 v156 v157 v158 v159 v160 v161 v162 v163 v164 v165 v166 v167 v168 v169 v170 v171 v172 v173 v174 v175 v176 v177 v178 v179 v180 v181 v182 v183 v184 v185 v186 v187 v188 v189 v190 v191 v192 v193 v194 v195 v196 v197 v198 v199 v200 v201 v202 v203 v204 v205 v206 v207 v208 v209 v210 v211 v212 v213 : Value)
    (HQ : Hid (∀ (x145 x146 x147 x148 x149 x150 x151 x152 x153 x154 : Value) (g2 o2 c2 m2 : Nat) (wn : World), m2 = (g.take k ++ g.drop (k + 1)).length → Pl w wn P n g0 (g.take k ++ g.drop (k + 1)) g2 o2 c2 K → Q .normal ⟨#[v0, v1, v2, v3, .slice (some ⟨g2, o2, none⟩) m2 c2, v5, v6, .int .i64 (k : Int), v8, v9, v10, v11, v12, v13, v14, v15, v16, v17, v18, v19, v20, v21, v22, v23, v24, v25, v26, v27, v28, v29, v30, v31, v32, v33, v34, v35, v36, v37, v38, v39, v40, v41, v42, v43, v44, v45, v46, v47, v48, v49, v50, v51, v52, v53, v54, v55, v56, v57, v58, v59, v60, v61, v62, v63, v64, v65, v66, v67, v68, v69, v70, v71, v72, v73, v74, v75, v76, v77, v78, v79, v80, v81, v82, v83, v84, v85, v86, v87, v88, v89, v90, v91, v92, v93, v94, v95, v96, v97, v98, v99, v100, v101, v102, v103, v104, v105, v106, v107, v108, v109, v110, v111, v112, v113, v114, v115, v116, v117, v118, v119, v120, v121, v122, v123, v124, v125, v126, v127, v128, v129, v130, v131, v132, v133, v134, v135, v136, v137, v138, v139, v140, v141, v142, v143, v144, x145, x146, x147, x148, x149, x150, x151, x152, x153, x154, v155, v156, v157, v158, v159, v160, v161, v162, v163, v164, v165, v166, v167, v168, v169, v170, v171, v172, v173, v174, v175, v176, v177, v178, v179, v180, v181, v182, v183, v184, v185, v186, v187, v188, v189, v190, v191, v192, v193, v194, v195, v196, v197, v198, v199, v200, v201, v202, v203, v204, v205, v206, v207, v208, v209, v210, v211, v212, v213], []⟩ wn)) (hP : ∀ (v : Value) (d : Option Tmp) c a w, Q (.panic c) (a.put d v) w → Q (.panic c) a w) :
    Code.wp Try.prog ((Try.f3.body.bind (findReg 28)).getD .skip) Q ⟨#[v0, v1, v2, v3, .slice (some ⟨mb, mo, none⟩) g.length mc, v5, v6, .int .i64 (k : Int), v8, v9, v10, v11, v12, v13, v14, v15, v16, v17, v18, v19, v20, v21, v22, v23, v24, v25, v26, v27, v28, v29, v30, v31, v32, v33, v34, v35, v36, v37, v38, v39, v40, v41, v42, v43, v44, v45, v46, v47, v48, v49, v50, v51, v52, v53, v54, v55, v56, v57, v58, v59, v60, v61, v62, v63, v64, v65, v66, v67, v68, v69, v70, v71, v72, v73, v74, v75, v76, v77, v78, v79, v80, v81, v82, v83, v84, v85, v86, v87, v88, v89, v90, v91, v92, v93, v94, v95, v96, v97, v98, v99, v100, v101, v102, v103, v104, v105, v106, v107, v108, v109, v110, v111, v112, v113, v114, v115, v116, v117, v118, v119, v120, v121, v122, v123, v124, v125, v126, v127, v128, v129, v130, v131, v132, v133, v134, v135, v136, v137, v138, v139, v140, v141, v142, v143, v144, v145, v146, v147, v148, v149, v150, v151, v152, v153, v154, v155, v156, v157, v158, v159, v160, v161, v162, v163, v164, v165, v166, v167, v168, v169, v170, v171, v172, v173, v174, v175, v176, v177, v178, v179, v180, v181, v182, v183, v184, v185, v186, v187, v188, v189, v190, v191, v192, v193, v194, v195, v196, v197, v198, v199, v200, v201, v202, v203, v204, v205, v206, v207, v208, v209, v210, v211, v212, v213], []⟩ wr := by
  conv => arg 2; whnf
  have hroom := HPp.out.own.row.room
  have hmost := HPp.out.own.row.most
  have hmx : mc ≤ 9223372036854775807 := Nat.le_trans hmost (by unfold maxLen; omega)
  have hk1 : ((k : Nat) : Int) ≤ (mc : Int) := by omega
  have hkw : IntKind.i64.wrap ((k : Int) + 1) = (k : Int) + 1 := by rw [IntKind.wrap_i64]; omega
  obtain ⟨ad, ln, cp, hs8, hln, hcl⟩ := alarms_tail mb mo g.length mc k hk
  clear hmost
  refine wp_region_held_drew (S := fun _ => True) (by as_aux_lemma => kernel_rfl) trivial (fun hHeld => ?_)
  have HPd := Lib.hid (HPp.out.past (Rest.drew _ _))
  clear HPp
  generalize wr.drew = wd at HPd ⊢
  have HCL := Lib.hid (fun W (hr : Rest (fun _ => False) wd W) => hcl W _ _ g rfl (HPd.out.past hr).own.row)
  have HLN := Lib.hid hln
  clear hcl hln
  refine wpAnyH_yield 1 (.slice (some ⟨mb, mo, none⟩) g.length mc) rfl (by as_aux_lemma => kernel_rfl) (by as_aux_lemma => kernel_rfl) (by as_aux_lemma => kernel_rfl) (fun d c a w h => hP _ d c a w h) (by rfl) (by assumption) (fun _ _ => by go_simp) ?_
  simp only [Act.put, List.setIfInBounds_toArray, List.set_cons_zero, List.set_cons_succ]
  refine wpAnyH_yield 2 (.int .i64 (k : Int)) rfl (by as_aux_lemma => kernel_rfl) (by as_aux_lemma => kernel_rfl) (by as_aux_lemma => kernel_rfl) (fun d c a w h => hP _ d c a w h) (by rfl) (by assumption) (fun _ _ => by go_simp) ?_
  simp only [Act.put, List.setIfInBounds_toArray, List.set_cons_zero, List.set_cons_succ]
  refine wpAnyH_yield 3 (.slice (some ⟨mb, mo, none⟩) k mc) rfl (by as_aux_lemma => kernel_rfl) (by as_aux_lemma => kernel_rfl) (by as_aux_lemma => kernel_rfl) (fun d c a w h => hP _ d c a w h) (by rfl) (by assumption) (fun _ _ => by go_simp) ?_
  simp only [Act.put, List.setIfInBounds_toArray, List.set_cons_zero, List.set_cons_succ]
  refine wpAnyH_yield 5 (.slice (some ⟨mb, mo, none⟩) g.length mc) rfl (by as_aux_lemma => kernel_rfl) (by as_aux_lemma => kernel_rfl) (by as_aux_lemma => kernel_rfl) (fun d c a w h => hP _ d c a w h) (by rfl) (by assumption) (fun _ _ => by go_simp) ?_
  simp only [Act.put, List.setIfInBounds_toArray, List.set_cons_zero, List.set_cons_succ]
  refine wpAnyH_yield 6 (.int .i64 (k : Int)) rfl (by as_aux_lemma => kernel_rfl) (by as_aux_lemma => kernel_rfl) (by as_aux_lemma => kernel_rfl) (fun d c a w h => hP _ d c a w h) (by rfl) (by assumption) (fun _ _ => by go_simp) ?_
  simp only [Act.put, List.setIfInBounds_toArray, List.set_cons_zero, List.set_cons_succ]
  refine wpAnyH_yield 7 (.int .i64 ((k : Int) + 1)) rfl (by as_aux_lemma => kernel_rfl) (by as_aux_lemma => kernel_rfl) (by as_aux_lemma => kernel_rfl) (fun d c a w h => hP _ d c a w h) (by rfl) (by assumption) (fun _ _ => by go_simp) ?_
  simp only [Act.put, List.setIfInBounds_toArray, List.set_cons_zero, List.set_cons_succ]
  refine wpAnyH_yield 8 (.slice (some ad) (ln) (cp)) rfl (by as_aux_lemma => kernel_rfl) (by as_aux_lemma => kernel_rfl) (by as_aux_lemma => kernel_rfl) (fun d c a w h => hP _ d c a w h) (by rfl) (by assumption) (fun _ _ => by go_simp) ?_
  simp only [Act.put, List.setIfInBounds_toArray, List.set_cons_zero, List.set_cons_succ]
  refine wpAnyH_ready (rs := [0]) (by as_aux_lemma => kernel_rfl) (by simp) (AllReadyH.cons rfl (fun K hK => ?_) AllReadyH.nil)
  go_simp
  have hs := Rest.alloc (fun _ => False) wd (.cells #[] 31)
  have hrow := Row2.new (w := wd) (w1 := wd) (Rest.refl _ _)
  generalize wd.alloc (.cells #[] 31) = w1 at hs hrow ⊢
  have HROW := Lib.hid hrow
  have HR := Lib.hid hs
  clear hs hrow
  refine hK.out _ _ (trivial) (fun hHeld => ?_)
  clear hK K
  try simp only [Act.put, List.setIfInBounds_toArray, List.set_cons_zero, List.set_cons_succ]
  refine wpAnyH_ready (rs := [4]) (by as_aux_lemma => kernel_rfl) (by simp) (AllReadyH.cons rfl (fun K hK => ?_) AllReadyH.nil)
  obtain ⟨g1, o1, c1, w2, hrun, hrow, -⟩ := HROW.out.add0 (c := mc) (h' := g.take k) (m := k) (by simp; omega) (by omega) (first_alarms (HPd.out.past HR.out).own.row k) HR.out.size 28
  refine step_append_run rfl _ _ 28 rfl rfl rfl hrun ?_
  replace HR := Lib.hid hrow.rest
  replace HROW := Lib.hid hrow
  clear hrun hrow
  refine hK.out _ _ trivial (fun hHeld => ?_)
  clear hK K
  try simp only [Act.put, List.setIfInBounds_toArray]
  refine wpAnyH_ready (rs := [9]) (by as_aux_lemma => kernel_rfl) (by simp) (AllReadyH.cons rfl (fun K hK => ?_) AllReadyH.nil)
  obtain ⟨g2, o2, c2, w3, hrun, hrow, -⟩ := HROW.out.add (c := cp) (m := ln) (h' := g.drop (k + 1)) (ad := ad) (by omega) (by have := HLN.out; simp; omega) (by have := HLN.out; omega) (HCL.out _ HR.out) HR.out.size 28
  refine step_append_run rfl _ _ 28 rfl rfl rfl hrun ?_
  have HP9 := Lib.hid (Row2.done HPd.out (Rest.refl _ _) hrow (by have := HLN.out; simp; omega))
  clear hrun hrow HROW HR
  refine hK.out _ _ trivial (fun hHeld => ?_)
  clear hK K
  try simp only [Act.put]
  refine wpAnyH_yield 10 (.slice (some ⟨g2, o2, none⟩) (k + (ln)) c2) rfl (by as_aux_lemma => kernel_rfl) (by as_aux_lemma => kernel_rfl) (by as_aux_lemma => kernel_rfl) (fun d c a w h => hP _ d c a w h) (by rfl) (by assumption) (fun _ _ => by go_simp) ?_
  simp only [Act.put]
  refine wpAnyH_done (by as_aux_lemma => kernel_rfl) ?_ _
  exact HQ.out _ _ _ _ _ _ _ _ _ _ g2 o2 c2 _ _ (by have := HLN.out; simp; omega) HP9.out
end Go.Proofs.Ytfjhknmpolhfeaa
