/- WheelPlays: the document's own list with one more. -/
import Derived.Test.YtcjidobdbdfjlaaLaw13F
namespace Go.Proofs.Ytcjidobdbdfjlaa
open Go.RowKit Go.Sort

/-- The alarm that is laid, and what is left of those for the same. -/
def laidAs (x : En) (n : Int) : En := ⟨Tk.clamp x.t, x.c, x.s, x.g, x.x, n + 1⟩

set_option maxHeartbeats 4000000 in
set_option maxRecDepth 1000000 in
theorem put_reg_yes {w wr : World} {P X c b9 : Nat} {now n : Int} {M : List En} {a : Option Addr} {x : En} (HS : Hid (Ws w wr P X now M n a c [b9])) (HB : Hid (wr.heap[b9]? = some (.cells #[.int .i64 x.t, .int .i64 x.c, .int .i64 x.s, .int .i64 x.g, .int .i64 x.x] 30 (0, 0)))) (hx : Tk.clamp x.t ≠ 1099511627776) (hm : (Rf.without x M).length < 256) (hn1 : n ≤ 1000000000)
    (Q : Exit → Act → World → Prop) (v0 v1 v2 v3 v4 v5 v6 v8 v10 v11 v12 v13 v14 v15 v16 v17 v18 v19 v20 v21 v22 v23 v24 v25 v26 v27 v28 v29 v30 v31 v32 v33 v34 v35 v36 v37 v38 v39 v40 v41 v42 v43 v44 v45 v46 v47 v48 v49 v50 v51 v52 v53 v54 v55 v56 v57 v58 v59 v60 v61 v62 v63 v64 v65 v66 v67 v68 v69 v70 v71 v72 v73 v74 v75 v76 v77 v78 v79 v80 v81 v82 v83 v84 v85 v86 v87 v88 v89 v90 v91 v92 v93 v94 v95 v96 v97 v98 v99 v100 v101 v102 v103 v104 v105 v106 v107 v108 v109 v110 v111 v112 v113 v114 v115 v116 v117 v118 v119 v120 v121 v122 v123 v124 v125 v126 v127 v128 v129 v130 v131 v132 v133 v134 v135 v136 v137 v138 v139 v140 v141 v142 v143 v144 v145 v146 v147 v148 v149 v150 v151 v152 v153 v154 v155 v156 v157 v158 v159 v160 v161 v162 v163 v164 v165 v166 v167 v168 v169 v170 v171 v172 v173 v174 v175 v176 v177 v178 v179 v180 v181 v182 v183 v184 v185 v186 v187 v188 v189 : Value)
    (HQ : Hid (∀ (x90 x91 x92 x93 x94 x95 x96 x97 : Value) (b16 g2 o2 c2 : Nat) (wn : World), Ws w wn P X now M n a c [b16, g2, b9] → wn.heap[b9]? = some (.cells #[.int .i64 x.t, .int .i64 x.c, .int .i64 x.s, .int .i64 x.g, .int .i64 x.x] 30 (0, 0)) → wn.heap[b16]? = some (.cells #[.slice (some ⟨g2, o2, none⟩) ((Rf.without x M).length + 1) c2, .int .i64 (n + 1)] 28 (0, 0)) → RowK wn w.heap.size 63 6 g2 o2 ((Rf.without x M).length + 1) c2 (flat (Rf.put (laidAs x n) (Rf.without x M))) → b16 ≠ X → g2 ≠ X → Q .normal ⟨#[v0, v1, v2, v3, v4, v5, v6, .pointer (some ⟨X, 0, none⟩), v8, .pointer (some ⟨b9, 0, none⟩), v10, v11, v12, v13, v14, v15, .pointer (some ⟨b16, 0, none⟩), .bool true, v18, v19, v20, v21, v22, v23, v24, v25, v26, v27, v28, v29, v30, v31, v32, v33, v34, v35, v36, v37, v38, v39, v40, v41, v42, v43, v44, v45, v46, v47, v48, v49, v50, v51, v52, v53, v54, v55, v56, v57, v58, v59, v60, v61, v62, v63, v64, v65, v66, v67, v68, v69, v70, v71, v72, v73, v74, v75, v76, v77, v78, v79, v80, v81, v82, v83, v84, v85, v86, v87, v88, v89, x90, x91, x92, x93, x94, x95, x96, x97, v98, v99, v100, v101, v102, v103, v104, v105, v106, v107, v108, v109, v110, v111, v112, v113, v114, v115, v116, v117, v118, v119, v120, v121, v122, v123, v124, v125, v126, v127, v128, v129, v130, v131, v132, v133, v134, v135, v136, v137, v138, v139, v140, v141, v142, v143, v144, v145, v146, v147, v148, v149, v150, v151, v152, v153, v154, v155, v156, v157, v158, v159, v160, v161, v162, v163, v164, v165, v166, v167, v168, v169, v170, v171, v172, v173, v174, v175, v176, v177, v178, v179, v180, v181, v182, v183, v184, v185, v186, v187, v188, v189], []⟩ wn)) (hP : ∀ (v : Value) (d : Option Tmp) c a w, Q (.panic c) (a.put d v) w → Q (.panic c) a w) :
    Code.wp Try.prog ((Try.f3.body.bind (findReg 12)).getD .skip) Q ⟨#[v0, v1, v2, v3, v4, v5, v6, .pointer (some ⟨X, 0, none⟩), v8, .pointer (some ⟨b9, 0, none⟩), v10, v11, v12, v13, v14, v15, v16, v17, v18, v19, v20, v21, v22, v23, v24, v25, v26, v27, v28, v29, v30, v31, v32, v33, v34, v35, v36, v37, v38, v39, v40, v41, v42, v43, v44, v45, v46, v47, v48, v49, v50, v51, v52, v53, v54, v55, v56, v57, v58, v59, v60, v61, v62, v63, v64, v65, v66, v67, v68, v69, v70, v71, v72, v73, v74, v75, v76, v77, v78, v79, v80, v81, v82, v83, v84, v85, v86, v87, v88, v89, v90, v91, v92, v93, v94, v95, v96, v97, v98, v99, v100, v101, v102, v103, v104, v105, v106, v107, v108, v109, v110, v111, v112, v113, v114, v115, v116, v117, v118, v119, v120, v121, v122, v123, v124, v125, v126, v127, v128, v129, v130, v131, v132, v133, v134, v135, v136, v137, v138, v139, v140, v141, v142, v143, v144, v145, v146, v147, v148, v149, v150, v151, v152, v153, v154, v155, v156, v157, v158, v159, v160, v161, v162, v163, v164, v165, v166, v167, v168, v169, v170, v171, v172, v173, v174, v175, v176, v177, v178, v179, v180, v181, v182, v183, v184, v185, v186, v187, v188, v189], []⟩ wr := by
  conv => arg 2; whnf
  obtain ⟨c0, c1⟩ := HS.out.cells
  obtain ⟨x0, x1, x2, x3, x4⟩ := five_cells13 HB.out
  refine wp_region_held_drew (S := fun w' => w'.cell? ⟨X, 0, none⟩ = some (.slice a M.length c) ∧ w'.cell? ⟨X, 1, none⟩ = some (.int .i64 n) ∧ w'.cell? ⟨b9, 0, none⟩ = some (.int .i64 x.t) ∧ w'.cell? ⟨b9, 1, none⟩ = some (.int .i64 x.c) ∧ w'.cell? ⟨b9, 2, none⟩ = some (.int .i64 x.s) ∧ w'.cell? ⟨b9, 3, none⟩ = some (.int .i64 x.g) ∧ w'.cell? ⟨b9, 4, none⟩ = some (.int .i64 x.x)) (by as_aux_lemma => kernel_rfl) ⟨c0, c1, x0, x1, x2, x3, x4⟩ (fun hHeld => ?_)
  have HSd := Lib.hid (HS.out.past (Rest.drew (fun _ => False) _))
  have HBd : Hid (wr.drew.heap[b9]? = some (.cells #[.int .i64 x.t, .int .i64 x.c, .int .i64 x.s, .int .i64 x.g, .int .i64 x.x] 30 (0, 0))) := HB.out
  clear HS HB c0 c1 x0 x1 x2 x3 x4
  generalize wr.drew = wd at HSd HBd hHeld ⊢
  have HR := Lib.hid (Rest.refl (fun _ => False) wd)
  refine wpAnyH_yield 0 (.agg #[.slice a M.length c, .int .i64 n]) rfl (by as_aux_lemma => kernel_rfl) (by as_aux_lemma => kernel_rfl) (by as_aux_lemma => kernel_rfl) (fun d c a w h => hP _ d c a w h) (by rfl) (by assumption) (fun _ hSw => by (try dsimp only at hSw); go_simp) ?_
  simp only [Act.put, List.setIfInBounds_toArray, List.set_cons_zero, List.set_cons_succ]
  refine wpAnyH_yield 1 (.agg #[.int .i64 x.t, .int .i64 x.c, .int .i64 x.s, .int .i64 x.g, .int .i64 x.x]) rfl (by as_aux_lemma => kernel_rfl) (by as_aux_lemma => kernel_rfl) (by as_aux_lemma => kernel_rfl) (fun d c a w h => hP _ d c a w h) (by rfl) (by assumption) (fun _ hSw => by (try dsimp only at hSw); go_simp) ?_
  simp only [Act.put, List.setIfInBounds_toArray, List.set_cons_zero, List.set_cons_succ]
  refine wpAnyH_yield 3 (.agg #[.int .i64 x.t, .int .i64 x.c, .int .i64 x.s, .int .i64 x.g, .int .i64 x.x]) rfl (by as_aux_lemma => kernel_rfl) (by as_aux_lemma => kernel_rfl) (by as_aux_lemma => kernel_rfl) (fun d c a w h => hP _ d c a w h) (by rfl) (by assumption) (fun _ hSw => by (try dsimp only at hSw); go_simp) ?_
  simp only [Act.put, List.setIfInBounds_toArray, List.set_cons_zero, List.set_cons_succ]
  refine wpAnyH_ready (rs := [2, 8]) (by as_aux_lemma => kernel_rfl) (by simp) (AllReadyH.cons rfl (fun K hK => ?_) (AllReadyH.cons rfl (fun K hK => ?_) AllReadyH.nil))
  · go_simp
    go_at_call 10
    have hwo := without_any n x wd (HSd.out.past HR.out).lz HSd.out.less
    simp only [Hp.alarm] at hwo
    refine hwo.mono ?_
    rintro e wx1 ⟨g1, o1, c1, rfl, hrow1, hr⟩
    clear hwo
    have HR1 := Lib.hid (hrow1.lower (B' := w.heap.size) (by have := HR.out.size; have := HSd.out.wl.size; omega))
    replace HR := Lib.hid (HR.out.trans (o3 := fun _ => False) hr (fun _ _ => id) (fun _ _ => id))
    clear hrow1 hr
    refine hK.out _ _ (⟨(HSd.out.past HR.out).cells.1, (HSd.out.past HR.out).cells.2, five_cells13 ((HR.out.block _ (lt_of_block HBd.out) (fun x => x)).trans HBd.out)⟩) (fun hHeld => ?_)
    clear hK K
    try simp only [Act.put, List.setIfInBounds_toArray, List.set_cons_zero, List.set_cons_succ]
    refine wpAnyH_ready (rs := [4, 8]) (by as_aux_lemma => kernel_rfl) (by simp) (AllReadyH.cons rfl (fun K hK => ?_) (AllReadyH.cons rfl (fun K hK => ?_) AllReadyH.nil))
    · go_simp
      go_at_call 11
      have hpu := put_yes n x wx1 (.inr ⟨g1, o1, rfl, HR1.out⟩) hm hx ⟨HSd.out.num, hn1⟩
      simp only [Hp.alarm] at hpu
      refine hpu.mono ?_
      rintro e wx2 ⟨g2, o2, c2, rfl, hrow2, hr⟩
      clear hpu
      have hlo2 : wd.heap.size ≤ g2 := by have := HR.out.size; have := hrow2.from_; omega
      have HLO2 := Lib.hid hlo2
      have HR2 := Lib.hid (hrow2.lower (B' := w.heap.size) (by have := HR.out.size; have := HSd.out.wl.size; omega))
      replace HR1 := Lib.hid (HR1.out.kept (hr.block _ HR1.out.lt (fun x => x)))
      replace HR := Lib.hid (HR.out.trans (o3 := fun _ => False) hr (fun _ _ => id) (fun _ _ => id))
      clear hrow2 hr hlo2
      refine hK.out _ _ (⟨(HSd.out.past HR.out).cells.1, (HSd.out.past HR.out).cells.2, five_cells13 ((HR.out.block _ (lt_of_block HBd.out) (fun x => x)).trans HBd.out)⟩) (fun hHeld => ?_)
      clear hK K
      try simp only [Act.put, List.setIfInBounds_toArray, List.set_cons_zero, List.set_cons_succ]
      refine wpAnyH_yield 5 (.tuple #[.agg #[.slice (some ⟨g2, o2, none⟩) ((Rf.without x M).length + 1) c2, .int .i64 (n + 1)], .bool true]) rfl (by as_aux_lemma => kernel_rfl) (by as_aux_lemma => kernel_rfl) (by as_aux_lemma => kernel_rfl) (fun d c a w h => hP _ d c a w h) (by rfl) (by assumption) (fun _ _ => by go_simp) ?_
      simp only [Act.put, List.setIfInBounds_toArray, List.set_cons_zero, List.set_cons_succ]
      refine wpAnyH_yield 6 (.agg #[.slice (some ⟨g2, o2, none⟩) ((Rf.without x M).length + 1) c2, .int .i64 (n + 1)]) rfl (by as_aux_lemma => kernel_rfl) (by as_aux_lemma => kernel_rfl) (by as_aux_lemma => kernel_rfl) (fun d c a w h => hP _ d c a w h) (by rfl) (by assumption) (fun _ _ => by go_simp) ?_
      simp only [Act.put, List.setIfInBounds_toArray, List.set_cons_zero, List.set_cons_succ]
      refine wpAnyH_yield 7 (.bool true) rfl (by as_aux_lemma => kernel_rfl) (by as_aux_lemma => kernel_rfl) (by as_aux_lemma => kernel_rfl) (fun d c a w h => hP _ d c a w h) (by rfl) (by assumption) (fun _ _ => by go_simp) ?_
      simp only [Act.put, List.setIfInBounds_toArray, List.set_cons_zero, List.set_cons_succ]
      refine wpAnyH_ready (rs := [8]) (by as_aux_lemma => kernel_rfl) (by simp) (AllReadyH.cons rfl (fun K hK => ?_) AllReadyH.nil)
      go_simp
      have hs := Rest.alloc (fun _ => False) wx2 (.cells #[.slice none 0 0, .int .i64 0] 28)
      have h16 := heap_alloc_new wx2 (.cells #[.slice none 0 0, .int .i64 0] 28)
      generalize hb : wx2.heap.size = b16 at h16 ⊢
      have hlo : wd.heap.size ≤ b16 := by have := HR.out.size; omega
      have hne : b16 ≠ g2 := by have := HR2.out.lt; omega
      have HNE := Lib.hid hne
      generalize wx2.alloc (.cells #[.slice none 0 0, .int .i64 0] 28) = wx3 at hs h16 ⊢
      replace HR1 := Lib.hid (HR1.out.kept (hs.block _ HR1.out.lt (fun x => x)))
      replace HR2 := Lib.hid (HR2.out.kept (hs.block _ HR2.out.lt (fun x => x)))
      replace HR := Lib.hid (HR.out.trans (o3 := fun _ => False) hs (fun _ _ => id) (fun _ _ => id))
      have H16 := Lib.hid h16
      have HLO := Lib.hid hlo
      clear hb hlo h16 hs hne
      refine hK.out _ _ (⟨(HSd.out.past HR.out).cells.1, (HSd.out.past HR.out).cells.2, five_cells13 ((HR.out.block _ (lt_of_block HBd.out) (fun x => x)).trans HBd.out)⟩) (fun hHeld => ?_)
      clear hK K
      try simp only [Act.put, List.setIfInBounds_toArray, List.set_cons_zero, List.set_cons_succ]
      obtain ⟨u0, u1⟩ := two_cells13 H16.out
      have f16 : ∀ i, wx3.frozen? ⟨b16, i, none⟩ = false := fun _ => frozen_of_row _ _ _ _ _ H16.out
      have hset := two_set H16.out (.slice (some ⟨g2, o2, none⟩) ((Rf.without x M).length + 1) c2) (.int .i64 (n + 1))
      have HSet := Lib.hid hset
      have hXb : X ≠ b16 := by have := HSd.out.hi; have := HLO.out; omega
      have h9b : b9 ≠ b16 := by have := lt_of_block HBd.out; have := HLO.out; omega
      have hab : ∀ k, k ∈ aBlk a → b16 ≠ k := fun k hk => by have := HSd.out.lz.old k hk; have := HLO.out; omega
      clear hset
      refine wpAnyH_ready (rs := [9]) (by as_aux_lemma => kernel_rfl) (by simp) (AllReadyH.cons rfl (fun K hK => ?_) AllReadyH.nil)
      go_simp
      refine hK.out _ _ (⟨(two_cells13 ((HSet.out.2.block _ (Nat.lt_of_lt_of_le HSd.out.hi HR.out.size) hXb).trans (HSd.out.past HR.out).box)).1, (two_cells13 ((HSet.out.2.block _ (Nat.lt_of_lt_of_le HSd.out.hi HR.out.size) hXb).trans (HSd.out.past HR.out).box)).2, five_cells13 ((HSet.out.2.block _ (Nat.lt_of_lt_of_le (lt_of_block HBd.out) HR.out.size) h9b).trans ((HR.out.block _ (lt_of_block HBd.out) (fun x => x)).trans HBd.out))⟩) (fun hHeld => ?_)
      clear hK K
      try simp only [Act.put, List.setIfInBounds_toArray, List.set_cons_zero, List.set_cons_succ]
      refine wpAnyH_yield 10 (.bool true) rfl (by as_aux_lemma => kernel_rfl) (by as_aux_lemma => kernel_rfl) (by as_aux_lemma => kernel_rfl) (fun d c a w h => hP _ d c a w h) (by rfl) (by assumption) (fun _ _ => by go_simp) ?_
      simp only [Act.put, List.setIfInBounds_toArray, List.set_cons_zero, List.set_cons_succ]
      refine wpAnyH_done (by as_aux_lemma => kernel_rfl) ?_ _
      have hWs := (HSd.out.owns (bs := [b16, g2]) HR.out (fun b hb => by
        simp only [List.mem_cons, List.not_mem_nil, or_false] at hb
        rcases hb with rfl | rfl
        · exact ⟨HLO.out, lt_of_block H16.out⟩
        · exact ⟨HLO2.out, HR2.out.lt⟩)).wrote (b := b16) (by simp) hXb.symm hab (by have := HSd.out.wl.size; have := HLO.out; omega) HSet.out.2
      exact HQ.out _ _ _ _ _ _ _ _ b16 g2 o2 c2 _ hWs ((HSet.out.2.block _ (Nat.lt_of_lt_of_le (lt_of_block HBd.out) HR.out.size) h9b).trans ((HR.out.block _ (lt_of_block HBd.out) (fun x => x)).trans HBd.out)) HSet.out.1 (HR2.out.kept (HSet.out.2.block _ HR2.out.lt (fun e => HNE.out e.symm))) hXb.symm (by have := HSd.out.hi; have := HLO2.out; omega)
    · go_simp
      have hs := Rest.alloc (fun _ => False) wx1 (.cells #[.slice none 0 0, .int .i64 0] 28)
      have h16 := heap_alloc_new wx1 (.cells #[.slice none 0 0, .int .i64 0] 28)
      generalize hb : wx1.heap.size = b16 at h16 ⊢
      have hlo : wd.heap.size ≤ b16 := by have := HR.out.size; omega
      generalize wx1.alloc (.cells #[.slice none 0 0, .int .i64 0] 28) = wx2 at hs h16 ⊢
      replace HR1 := Lib.hid (HR1.out.kept (hs.block _ HR1.out.lt (fun x => x)))
      replace HR := Lib.hid (HR.out.trans (o3 := fun _ => False) hs (fun _ _ => id) (fun _ _ => id))
      have H16 := Lib.hid h16
      have HLO := Lib.hid hlo
      have HSZ := Lib.hid (lt_of_block h16)
      clear hb hlo h16 hs
      refine hK.out _ _ (⟨(HSd.out.past HR.out).cells.1, (HSd.out.past HR.out).cells.2, five_cells13 ((HR.out.block _ (lt_of_block HBd.out) (fun x => x)).trans HBd.out)⟩) (fun hHeld => ?_)
      clear hK K
      try simp only [Act.put, List.setIfInBounds_toArray, List.set_cons_zero, List.set_cons_succ]
      refine wpAnyH_ready (rs := [4]) (by as_aux_lemma => kernel_rfl) (by simp) (AllReadyH.cons rfl (fun K hK => ?_) AllReadyH.nil)
      go_simp
      go_at_call 11
      have hpu := put_yes n x wx2 (.inr ⟨g1, o1, rfl, HR1.out⟩) hm hx ⟨HSd.out.num, hn1⟩
      simp only [Hp.alarm] at hpu
      refine hpu.mono ?_
      rintro e wx3 ⟨g2, o2, c2, rfl, hrow2, hr⟩
      clear hpu
      have hlo2 : wd.heap.size ≤ g2 := by have := HR.out.size; have := hrow2.from_; omega
      have HLO2 := Lib.hid hlo2
      have hne : b16 ≠ g2 := by have := lt_of_block H16.out; have := hrow2.from_; omega
      have HNE := Lib.hid hne
      clear hne
      have HR2 := Lib.hid (hrow2.lower (B' := w.heap.size) (by have := HR.out.size; have := HSd.out.wl.size; omega))
      replace H16 := Lib.hid ((hr.block _ (lt_of_block H16.out) (fun x => x)).trans H16.out)
      replace HR1 := Lib.hid (HR1.out.kept (hr.block _ HR1.out.lt (fun x => x)))
      replace HR := Lib.hid (HR.out.trans (o3 := fun _ => False) hr (fun _ _ => id) (fun _ _ => id))
      clear hrow2 hr hlo2
      refine hK.out _ _ (⟨(HSd.out.past HR.out).cells.1, (HSd.out.past HR.out).cells.2, five_cells13 ((HR.out.block _ (lt_of_block HBd.out) (fun x => x)).trans HBd.out)⟩) (fun hHeld => ?_)
      clear hK K
      try simp only [Act.put, List.setIfInBounds_toArray, List.set_cons_zero, List.set_cons_succ]
      refine wpAnyH_yield 5 (.tuple #[.agg #[.slice (some ⟨g2, o2, none⟩) ((Rf.without x M).length + 1) c2, .int .i64 (n + 1)], .bool true]) rfl (by as_aux_lemma => kernel_rfl) (by as_aux_lemma => kernel_rfl) (by as_aux_lemma => kernel_rfl) (fun d c a w h => hP _ d c a w h) (by rfl) (by assumption) (fun _ _ => by go_simp) ?_
      simp only [Act.put, List.setIfInBounds_toArray, List.set_cons_zero, List.set_cons_succ]
      refine wpAnyH_yield 6 (.agg #[.slice (some ⟨g2, o2, none⟩) ((Rf.without x M).length + 1) c2, .int .i64 (n + 1)]) rfl (by as_aux_lemma => kernel_rfl) (by as_aux_lemma => kernel_rfl) (by as_aux_lemma => kernel_rfl) (fun d c a w h => hP _ d c a w h) (by rfl) (by assumption) (fun _ _ => by go_simp) ?_
      simp only [Act.put, List.setIfInBounds_toArray, List.set_cons_zero, List.set_cons_succ]
      refine wpAnyH_yield 7 (.bool true) rfl (by as_aux_lemma => kernel_rfl) (by as_aux_lemma => kernel_rfl) (by as_aux_lemma => kernel_rfl) (fun d c a w h => hP _ d c a w h) (by rfl) (by assumption) (fun _ _ => by go_simp) ?_
      simp only [Act.put, List.setIfInBounds_toArray, List.set_cons_zero, List.set_cons_succ]
      obtain ⟨u0, u1⟩ := two_cells13 H16.out
      have f16 : ∀ i, wx3.frozen? ⟨b16, i, none⟩ = false := fun _ => frozen_of_row _ _ _ _ _ H16.out
      have hset := two_set H16.out (.slice (some ⟨g2, o2, none⟩) ((Rf.without x M).length + 1) c2) (.int .i64 (n + 1))
      have HSet := Lib.hid hset
      have hXb : X ≠ b16 := by have := HSd.out.hi; have := HLO.out; omega
      have h9b : b9 ≠ b16 := by have := lt_of_block HBd.out; have := HLO.out; omega
      have hab : ∀ k, k ∈ aBlk a → b16 ≠ k := fun k hk => by have := HSd.out.lz.old k hk; have := HLO.out; omega
      clear hset
      refine wpAnyH_ready (rs := [9]) (by as_aux_lemma => kernel_rfl) (by simp) (AllReadyH.cons rfl (fun K hK => ?_) AllReadyH.nil)
      go_simp
      refine hK.out _ _ (⟨(two_cells13 ((HSet.out.2.block _ (Nat.lt_of_lt_of_le HSd.out.hi HR.out.size) hXb).trans (HSd.out.past HR.out).box)).1, (two_cells13 ((HSet.out.2.block _ (Nat.lt_of_lt_of_le HSd.out.hi HR.out.size) hXb).trans (HSd.out.past HR.out).box)).2, five_cells13 ((HSet.out.2.block _ (Nat.lt_of_lt_of_le (lt_of_block HBd.out) HR.out.size) h9b).trans ((HR.out.block _ (lt_of_block HBd.out) (fun x => x)).trans HBd.out))⟩) (fun hHeld => ?_)
      clear hK K
      try simp only [Act.put, List.setIfInBounds_toArray, List.set_cons_zero, List.set_cons_succ]
      refine wpAnyH_yield 10 (.bool true) rfl (by as_aux_lemma => kernel_rfl) (by as_aux_lemma => kernel_rfl) (by as_aux_lemma => kernel_rfl) (fun d c a w h => hP _ d c a w h) (by rfl) (by assumption) (fun _ _ => by go_simp) ?_
      simp only [Act.put, List.setIfInBounds_toArray, List.set_cons_zero, List.set_cons_succ]
      refine wpAnyH_done (by as_aux_lemma => kernel_rfl) ?_ _
      have hWs := (HSd.out.owns (bs := [b16, g2]) HR.out (fun b hb => by
        simp only [List.mem_cons, List.not_mem_nil, or_false] at hb
        rcases hb with rfl | rfl
        · exact ⟨HLO.out, lt_of_block H16.out⟩
        · exact ⟨HLO2.out, HR2.out.lt⟩)).wrote (b := b16) (by simp) hXb.symm hab (by have := HSd.out.wl.size; have := HLO.out; omega) HSet.out.2
      exact HQ.out _ _ _ _ _ _ _ _ b16 g2 o2 c2 _ hWs ((HSet.out.2.block _ (Nat.lt_of_lt_of_le (lt_of_block HBd.out) HR.out.size) h9b).trans ((HR.out.block _ (lt_of_block HBd.out) (fun x => x)).trans HBd.out)) HSet.out.1 (HR2.out.kept (HSet.out.2.block _ HR2.out.lt (fun e => HNE.out e.symm))) hXb.symm (by have := HSd.out.hi; have := HLO2.out; omega)
  · go_simp
    have hs := Rest.alloc (fun _ => False) wd (.cells #[.slice none 0 0, .int .i64 0] 28)
    have h16 := heap_alloc_new wd (.cells #[.slice none 0 0, .int .i64 0] 28)
    generalize hb : wd.heap.size = b16 at h16 ⊢
    have hlo : wd.heap.size ≤ b16 := by have := HR.out.size; omega
    generalize wd.alloc (.cells #[.slice none 0 0, .int .i64 0] 28) = wx1 at hs h16 ⊢
    replace HR := Lib.hid (HR.out.trans (o3 := fun _ => False) hs (fun _ _ => id) (fun _ _ => id))
    have H16 := Lib.hid h16
    have HLO := Lib.hid hlo
    have HSZ := Lib.hid (lt_of_block h16)
    clear hb hlo h16 hs
    refine hK.out _ _ (⟨(HSd.out.past HR.out).cells.1, (HSd.out.past HR.out).cells.2, five_cells13 ((HR.out.block _ (lt_of_block HBd.out) (fun x => x)).trans HBd.out)⟩) (fun hHeld => ?_)
    clear hK K
    try simp only [Act.put, List.setIfInBounds_toArray, List.set_cons_zero, List.set_cons_succ]
    refine wpAnyH_ready (rs := [2]) (by as_aux_lemma => kernel_rfl) (by simp) (AllReadyH.cons rfl (fun K hK => ?_) AllReadyH.nil)
    go_simp
    go_at_call 10
    have hwo := without_any n x wx1 (HSd.out.past HR.out).lz HSd.out.less
    simp only [Hp.alarm] at hwo
    refine hwo.mono ?_
    rintro e wx2 ⟨g1, o1, c1, rfl, hrow1, hr⟩
    clear hwo
    have HR1 := Lib.hid (hrow1.lower (B' := w.heap.size) (by have := HR.out.size; have := HSd.out.wl.size; omega))
    replace H16 := Lib.hid ((hr.block _ (lt_of_block H16.out) (fun x => x)).trans H16.out)
    replace HR := Lib.hid (HR.out.trans (o3 := fun _ => False) hr (fun _ _ => id) (fun _ _ => id))
    clear hrow1 hr
    refine hK.out _ _ (⟨(HSd.out.past HR.out).cells.1, (HSd.out.past HR.out).cells.2, five_cells13 ((HR.out.block _ (lt_of_block HBd.out) (fun x => x)).trans HBd.out)⟩) (fun hHeld => ?_)
    clear hK K
    try simp only [Act.put, List.setIfInBounds_toArray, List.set_cons_zero, List.set_cons_succ]
    refine wpAnyH_ready (rs := [4]) (by as_aux_lemma => kernel_rfl) (by simp) (AllReadyH.cons rfl (fun K hK => ?_) AllReadyH.nil)
    go_simp
    go_at_call 11
    have hpu := put_yes n x wx2 (.inr ⟨g1, o1, rfl, HR1.out⟩) hm hx ⟨HSd.out.num, hn1⟩
    simp only [Hp.alarm] at hpu
    refine hpu.mono ?_
    rintro e wx3 ⟨g2, o2, c2, rfl, hrow2, hr⟩
    clear hpu
    have hlo2 : wd.heap.size ≤ g2 := by have := HR.out.size; have := hrow2.from_; omega
    have HLO2 := Lib.hid hlo2
    have hne : b16 ≠ g2 := by have := lt_of_block H16.out; have := hrow2.from_; omega
    have HNE := Lib.hid hne
    clear hne
    have HR2 := Lib.hid (hrow2.lower (B' := w.heap.size) (by have := HR.out.size; have := HSd.out.wl.size; omega))
    replace H16 := Lib.hid ((hr.block _ (lt_of_block H16.out) (fun x => x)).trans H16.out)
    replace HR1 := Lib.hid (HR1.out.kept (hr.block _ HR1.out.lt (fun x => x)))
    replace HR := Lib.hid (HR.out.trans (o3 := fun _ => False) hr (fun _ _ => id) (fun _ _ => id))
    clear hrow2 hr hlo2
    refine hK.out _ _ (⟨(HSd.out.past HR.out).cells.1, (HSd.out.past HR.out).cells.2, five_cells13 ((HR.out.block _ (lt_of_block HBd.out) (fun x => x)).trans HBd.out)⟩) (fun hHeld => ?_)
    clear hK K
    try simp only [Act.put, List.setIfInBounds_toArray, List.set_cons_zero, List.set_cons_succ]
    refine wpAnyH_yield 5 (.tuple #[.agg #[.slice (some ⟨g2, o2, none⟩) ((Rf.without x M).length + 1) c2, .int .i64 (n + 1)], .bool true]) rfl (by as_aux_lemma => kernel_rfl) (by as_aux_lemma => kernel_rfl) (by as_aux_lemma => kernel_rfl) (fun d c a w h => hP _ d c a w h) (by rfl) (by assumption) (fun _ _ => by go_simp) ?_
    simp only [Act.put, List.setIfInBounds_toArray, List.set_cons_zero, List.set_cons_succ]
    refine wpAnyH_yield 6 (.agg #[.slice (some ⟨g2, o2, none⟩) ((Rf.without x M).length + 1) c2, .int .i64 (n + 1)]) rfl (by as_aux_lemma => kernel_rfl) (by as_aux_lemma => kernel_rfl) (by as_aux_lemma => kernel_rfl) (fun d c a w h => hP _ d c a w h) (by rfl) (by assumption) (fun _ _ => by go_simp) ?_
    simp only [Act.put, List.setIfInBounds_toArray, List.set_cons_zero, List.set_cons_succ]
    refine wpAnyH_yield 7 (.bool true) rfl (by as_aux_lemma => kernel_rfl) (by as_aux_lemma => kernel_rfl) (by as_aux_lemma => kernel_rfl) (fun d c a w h => hP _ d c a w h) (by rfl) (by assumption) (fun _ _ => by go_simp) ?_
    simp only [Act.put, List.setIfInBounds_toArray, List.set_cons_zero, List.set_cons_succ]
    obtain ⟨u0, u1⟩ := two_cells13 H16.out
    have f16 : ∀ i, wx3.frozen? ⟨b16, i, none⟩ = false := fun _ => frozen_of_row _ _ _ _ _ H16.out
    have hset := two_set H16.out (.slice (some ⟨g2, o2, none⟩) ((Rf.without x M).length + 1) c2) (.int .i64 (n + 1))
    have HSet := Lib.hid hset
    have hXb : X ≠ b16 := by have := HSd.out.hi; have := HLO.out; omega
    have h9b : b9 ≠ b16 := by have := lt_of_block HBd.out; have := HLO.out; omega
    have hab : ∀ k, k ∈ aBlk a → b16 ≠ k := fun k hk => by have := HSd.out.lz.old k hk; have := HLO.out; omega
    clear hset
    refine wpAnyH_ready (rs := [9]) (by as_aux_lemma => kernel_rfl) (by simp) (AllReadyH.cons rfl (fun K hK => ?_) AllReadyH.nil)
    go_simp
    refine hK.out _ _ (⟨(two_cells13 ((HSet.out.2.block _ (Nat.lt_of_lt_of_le HSd.out.hi HR.out.size) hXb).trans (HSd.out.past HR.out).box)).1, (two_cells13 ((HSet.out.2.block _ (Nat.lt_of_lt_of_le HSd.out.hi HR.out.size) hXb).trans (HSd.out.past HR.out).box)).2, five_cells13 ((HSet.out.2.block _ (Nat.lt_of_lt_of_le (lt_of_block HBd.out) HR.out.size) h9b).trans ((HR.out.block _ (lt_of_block HBd.out) (fun x => x)).trans HBd.out))⟩) (fun hHeld => ?_)
    clear hK K
    try simp only [Act.put, List.setIfInBounds_toArray, List.set_cons_zero, List.set_cons_succ]
    refine wpAnyH_yield 10 (.bool true) rfl (by as_aux_lemma => kernel_rfl) (by as_aux_lemma => kernel_rfl) (by as_aux_lemma => kernel_rfl) (fun d c a w h => hP _ d c a w h) (by rfl) (by assumption) (fun _ _ => by go_simp) ?_
    simp only [Act.put, List.setIfInBounds_toArray, List.set_cons_zero, List.set_cons_succ]
    refine wpAnyH_done (by as_aux_lemma => kernel_rfl) ?_ _
    have hWs := (HSd.out.owns (bs := [b16, g2]) HR.out (fun b hb => by
      simp only [List.mem_cons, List.not_mem_nil, or_false] at hb
      rcases hb with rfl | rfl
      · exact ⟨HLO.out, lt_of_block H16.out⟩
      · exact ⟨HLO2.out, HR2.out.lt⟩)).wrote (b := b16) (by simp) hXb.symm hab (by have := HSd.out.wl.size; have := HLO.out; omega) HSet.out.2
    exact HQ.out _ _ _ _ _ _ _ _ b16 g2 o2 c2 _ hWs ((HSet.out.2.block _ (Nat.lt_of_lt_of_le (lt_of_block HBd.out) HR.out.size) h9b).trans ((HR.out.block _ (lt_of_block HBd.out) (fun x => x)).trans HBd.out)) HSet.out.1 (HR2.out.kept (HSet.out.2.block _ HR2.out.lt (fun e => HNE.out e.symm))) hXb.symm (by have := HSd.out.hi; have := HLO2.out; omega)

set_option maxHeartbeats 4000000 in
set_option maxRecDepth 1000000 in
theorem put_reg_no {w wr : World} {P X c b9 : Nat} {now n : Int} {M : List En} {a : Option Addr} {x : En} (HS : Hid (Ws w wr P X now M n a c [b9])) (HB : Hid (wr.heap[b9]? = some (.cells #[.int .i64 x.t, .int .i64 x.c, .int .i64 x.s, .int .i64 x.g, .int .i64 x.x] 30 (0, 0)))) (hno : Tk.clamp x.t = 1099511627776 ∨ 256 ≤ (Rf.without x M).length)
    (Q : Exit → Act → World → Prop) (v0 v1 v2 v3 v4 v5 v6 v8 v10 v11 v12 v13 v14 v15 v16 v17 v18 v19 v20 v21 v22 v23 v24 v25 v26 v27 v28 v29 v30 v31 v32 v33 v34 v35 v36 v37 v38 v39 v40 v41 v42 v43 v44 v45 v46 v47 v48 v49 v50 v51 v52 v53 v54 v55 v56 v57 v58 v59 v60 v61 v62 v63 v64 v65 v66 v67 v68 v69 v70 v71 v72 v73 v74 v75 v76 v77 v78 v79 v80 v81 v82 v83 v84 v85 v86 v87 v88 v89 v90 v91 v92 v93 v94 v95 v96 v97 v98 v99 v100 v101 v102 v103 v104 v105 v106 v107 v108 v109 v110 v111 v112 v113 v114 v115 v116 v117 v118 v119 v120 v121 v122 v123 v124 v125 v126 v127 v128 v129 v130 v131 v132 v133 v134 v135 v136 v137 v138 v139 v140 v141 v142 v143 v144 v145 v146 v147 v148 v149 v150 v151 v152 v153 v154 v155 v156 v157 v158 v159 v160 v161 v162 v163 v164 v165 v166 v167 v168 v169 v170 v171 v172 v173 v174 v175 v176 v177 v178 v179 v180 v181 v182 v183 v184 v185 v186 v187 v188 v189 : Value)
    (HQ : Hid (∀ (x90 x91 x92 x93 x94 x95 x96 x97 : Value) (b16 : Nat) (wn : World), Ws w wn P X now M n a c [b9] → wn.heap[b9]? = some (.cells #[.int .i64 x.t, .int .i64 x.c, .int .i64 x.s, .int .i64 x.g, .int .i64 x.x] 30 (0, 0)) → Q .normal ⟨#[v0, v1, v2, v3, v4, v5, v6, .pointer (some ⟨X, 0, none⟩), v8, .pointer (some ⟨b9, 0, none⟩), v10, v11, v12, v13, v14, v15, .pointer (some ⟨b16, 0, none⟩), .bool false, v18, v19, v20, v21, v22, v23, v24, v25, v26, v27, v28, v29, v30, v31, v32, v33, v34, v35, v36, v37, v38, v39, v40, v41, v42, v43, v44, v45, v46, v47, v48, v49, v50, v51, v52, v53, v54, v55, v56, v57, v58, v59, v60, v61, v62, v63, v64, v65, v66, v67, v68, v69, v70, v71, v72, v73, v74, v75, v76, v77, v78, v79, v80, v81, v82, v83, v84, v85, v86, v87, v88, v89, x90, x91, x92, x93, x94, x95, x96, x97, v98, v99, v100, v101, v102, v103, v104, v105, v106, v107, v108, v109, v110, v111, v112, v113, v114, v115, v116, v117, v118, v119, v120, v121, v122, v123, v124, v125, v126, v127, v128, v129, v130, v131, v132, v133, v134, v135, v136, v137, v138, v139, v140, v141, v142, v143, v144, v145, v146, v147, v148, v149, v150, v151, v152, v153, v154, v155, v156, v157, v158, v159, v160, v161, v162, v163, v164, v165, v166, v167, v168, v169, v170, v171, v172, v173, v174, v175, v176, v177, v178, v179, v180, v181, v182, v183, v184, v185, v186, v187, v188, v189], []⟩ wn)) (hP : ∀ (v : Value) (d : Option Tmp) c a w, Q (.panic c) (a.put d v) w → Q (.panic c) a w) :
    Code.wp Try.prog ((Try.f3.body.bind (findReg 12)).getD .skip) Q ⟨#[v0, v1, v2, v3, v4, v5, v6, .pointer (some ⟨X, 0, none⟩), v8, .pointer (some ⟨b9, 0, none⟩), v10, v11, v12, v13, v14, v15, v16, v17, v18, v19, v20, v21, v22, v23, v24, v25, v26, v27, v28, v29, v30, v31, v32, v33, v34, v35, v36, v37, v38, v39, v40, v41, v42, v43, v44, v45, v46, v47, v48, v49, v50, v51, v52, v53, v54, v55, v56, v57, v58, v59, v60, v61, v62, v63, v64, v65, v66, v67, v68, v69, v70, v71, v72, v73, v74, v75, v76, v77, v78, v79, v80, v81, v82, v83, v84, v85, v86, v87, v88, v89, v90, v91, v92, v93, v94, v95, v96, v97, v98, v99, v100, v101, v102, v103, v104, v105, v106, v107, v108, v109, v110, v111, v112, v113, v114, v115, v116, v117, v118, v119, v120, v121, v122, v123, v124, v125, v126, v127, v128, v129, v130, v131, v132, v133, v134, v135, v136, v137, v138, v139, v140, v141, v142, v143, v144, v145, v146, v147, v148, v149, v150, v151, v152, v153, v154, v155, v156, v157, v158, v159, v160, v161, v162, v163, v164, v165, v166, v167, v168, v169, v170, v171, v172, v173, v174, v175, v176, v177, v178, v179, v180, v181, v182, v183, v184, v185, v186, v187, v188, v189], []⟩ wr := by
  conv => arg 2; whnf
  obtain ⟨c0, c1⟩ := HS.out.cells
  obtain ⟨x0, x1, x2, x3, x4⟩ := five_cells13 HB.out
  refine wp_region_held_drew (S := fun w' => w'.cell? ⟨X, 0, none⟩ = some (.slice a M.length c) ∧ w'.cell? ⟨X, 1, none⟩ = some (.int .i64 n) ∧ w'.cell? ⟨b9, 0, none⟩ = some (.int .i64 x.t) ∧ w'.cell? ⟨b9, 1, none⟩ = some (.int .i64 x.c) ∧ w'.cell? ⟨b9, 2, none⟩ = some (.int .i64 x.s) ∧ w'.cell? ⟨b9, 3, none⟩ = some (.int .i64 x.g) ∧ w'.cell? ⟨b9, 4, none⟩ = some (.int .i64 x.x)) (by as_aux_lemma => kernel_rfl) ⟨c0, c1, x0, x1, x2, x3, x4⟩ (fun hHeld => ?_)
  have HSd := Lib.hid (HS.out.past (Rest.drew (fun _ => False) _))
  have HBd : Hid (wr.drew.heap[b9]? = some (.cells #[.int .i64 x.t, .int .i64 x.c, .int .i64 x.s, .int .i64 x.g, .int .i64 x.x] 30 (0, 0))) := HB.out
  clear HS HB c0 c1 x0 x1 x2 x3 x4
  generalize wr.drew = wd at HSd HBd hHeld ⊢
  have HR := Lib.hid (Rest.refl (fun _ => False) wd)
  refine wpAnyH_yield 0 (.agg #[.slice a M.length c, .int .i64 n]) rfl (by as_aux_lemma => kernel_rfl) (by as_aux_lemma => kernel_rfl) (by as_aux_lemma => kernel_rfl) (fun d c a w h => hP _ d c a w h) (by rfl) (by assumption) (fun _ hSw => by (try dsimp only at hSw); go_simp) ?_
  simp only [Act.put, List.setIfInBounds_toArray, List.set_cons_zero, List.set_cons_succ]
  refine wpAnyH_yield 1 (.agg #[.int .i64 x.t, .int .i64 x.c, .int .i64 x.s, .int .i64 x.g, .int .i64 x.x]) rfl (by as_aux_lemma => kernel_rfl) (by as_aux_lemma => kernel_rfl) (by as_aux_lemma => kernel_rfl) (fun d c a w h => hP _ d c a w h) (by rfl) (by assumption) (fun _ hSw => by (try dsimp only at hSw); go_simp) ?_
  simp only [Act.put, List.setIfInBounds_toArray, List.set_cons_zero, List.set_cons_succ]
  refine wpAnyH_yield 3 (.agg #[.int .i64 x.t, .int .i64 x.c, .int .i64 x.s, .int .i64 x.g, .int .i64 x.x]) rfl (by as_aux_lemma => kernel_rfl) (by as_aux_lemma => kernel_rfl) (by as_aux_lemma => kernel_rfl) (fun d c a w h => hP _ d c a w h) (by rfl) (by assumption) (fun _ hSw => by (try dsimp only at hSw); go_simp) ?_
  simp only [Act.put, List.setIfInBounds_toArray, List.set_cons_zero, List.set_cons_succ]
  refine wpAnyH_ready (rs := [2, 8]) (by as_aux_lemma => kernel_rfl) (by simp) (AllReadyH.cons rfl (fun K hK => ?_) (AllReadyH.cons rfl (fun K hK => ?_) AllReadyH.nil))
  · go_simp
    go_at_call 10
    have hwo := without_any n x wd (HSd.out.past HR.out).lz HSd.out.less
    simp only [Hp.alarm] at hwo
    refine hwo.mono ?_
    rintro e wx1 ⟨g1, o1, c1, rfl, hrow1, hr⟩
    clear hwo
    have HR1 := Lib.hid (hrow1.lower (B' := w.heap.size) (by have := HR.out.size; have := HSd.out.wl.size; omega))
    replace HR := Lib.hid (HR.out.trans (o3 := fun _ => False) hr (fun _ _ => id) (fun _ _ => id))
    clear hrow1 hr
    refine hK.out _ _ (⟨(HSd.out.past HR.out).cells.1, (HSd.out.past HR.out).cells.2, five_cells13 ((HR.out.block _ (lt_of_block HBd.out) (fun x => x)).trans HBd.out)⟩) (fun hHeld => ?_)
    clear hK K
    try simp only [Act.put, List.setIfInBounds_toArray, List.set_cons_zero, List.set_cons_succ]
    refine wpAnyH_ready (rs := [4, 8]) (by as_aux_lemma => kernel_rfl) (by simp) (AllReadyH.cons rfl (fun K hK => ?_) (AllReadyH.cons rfl (fun K hK => ?_) AllReadyH.nil))
    · go_simp
      go_at_call 11
      have hpu := put_no n x wx1 (.inr ⟨g1, o1, rfl, HR1.out⟩) (Nat.le_trans (List.length_filter_le _ _) HSd.out.less) hno
      simp only [Hp.alarm] at hpu
      refine hpu.mono ?_
      rintro e wx2 ⟨rfl, hr⟩
      clear hpu
      replace HR1 := Lib.hid (HR1.out.kept (hr.block _ HR1.out.lt (fun x => x)))
      replace HR := Lib.hid (HR.out.trans (o3 := fun _ => False) hr (fun _ _ => id) (fun _ _ => id))
      clear hr
      refine hK.out _ _ (⟨(HSd.out.past HR.out).cells.1, (HSd.out.past HR.out).cells.2, five_cells13 ((HR.out.block _ (lt_of_block HBd.out) (fun x => x)).trans HBd.out)⟩) (fun hHeld => ?_)
      clear hK K
      try simp only [Act.put, List.setIfInBounds_toArray, List.set_cons_zero, List.set_cons_succ]
      refine wpAnyH_yield 5 (.tuple #[.agg #[.slice (some ⟨g1, o1, none⟩) (Rf.without x M).length c1, .int .i64 n], .bool false]) rfl (by as_aux_lemma => kernel_rfl) (by as_aux_lemma => kernel_rfl) (by as_aux_lemma => kernel_rfl) (fun d c a w h => hP _ d c a w h) (by rfl) (by assumption) (fun _ _ => by go_simp) ?_
      simp only [Act.put, List.setIfInBounds_toArray, List.set_cons_zero, List.set_cons_succ]
      refine wpAnyH_yield 6 (.agg #[.slice (some ⟨g1, o1, none⟩) (Rf.without x M).length c1, .int .i64 n]) rfl (by as_aux_lemma => kernel_rfl) (by as_aux_lemma => kernel_rfl) (by as_aux_lemma => kernel_rfl) (fun d c a w h => hP _ d c a w h) (by rfl) (by assumption) (fun _ _ => by go_simp) ?_
      simp only [Act.put, List.setIfInBounds_toArray, List.set_cons_zero, List.set_cons_succ]
      refine wpAnyH_yield 7 (.bool false) rfl (by as_aux_lemma => kernel_rfl) (by as_aux_lemma => kernel_rfl) (by as_aux_lemma => kernel_rfl) (fun d c a w h => hP _ d c a w h) (by rfl) (by assumption) (fun _ _ => by go_simp) ?_
      simp only [Act.put, List.setIfInBounds_toArray, List.set_cons_zero, List.set_cons_succ]
      refine wpAnyH_ready (rs := [8]) (by as_aux_lemma => kernel_rfl) (by simp) (AllReadyH.cons rfl (fun K hK => ?_) AllReadyH.nil)
      go_simp
      have hs := Rest.alloc (fun _ => False) wx2 (.cells #[.slice none 0 0, .int .i64 0] 28)
      have h16 := heap_alloc_new wx2 (.cells #[.slice none 0 0, .int .i64 0] 28)
      generalize hb : wx2.heap.size = b16 at h16 ⊢
      have hlo : wd.heap.size ≤ b16 := by have := HR.out.size; omega
      generalize wx2.alloc (.cells #[.slice none 0 0, .int .i64 0] 28) = wx3 at hs h16 ⊢
      replace HR1 := Lib.hid (HR1.out.kept (hs.block _ HR1.out.lt (fun x => x)))
      replace HR := Lib.hid (HR.out.trans (o3 := fun _ => False) hs (fun _ _ => id) (fun _ _ => id))
      have H16 := Lib.hid h16
      have HLO := Lib.hid hlo
      clear hb hlo h16 hs
      refine hK.out _ _ (⟨(HSd.out.past HR.out).cells.1, (HSd.out.past HR.out).cells.2, five_cells13 ((HR.out.block _ (lt_of_block HBd.out) (fun x => x)).trans HBd.out)⟩) (fun hHeld => ?_)
      clear hK K
      try simp only [Act.put, List.setIfInBounds_toArray, List.set_cons_zero, List.set_cons_succ]
      obtain ⟨u0, u1⟩ := two_cells13 H16.out
      have f16 : ∀ i, wx3.frozen? ⟨b16, i, none⟩ = false := fun _ => frozen_of_row _ _ _ _ _ H16.out
      have hset := two_set H16.out (.slice (some ⟨g1, o1, none⟩) (Rf.without x M).length c1) (.int .i64 n)
      have HSet := Lib.hid hset
      have hXb : X ≠ b16 := by have := HSd.out.hi; have := HLO.out; omega
      have h9b : b9 ≠ b16 := by have := lt_of_block HBd.out; have := HLO.out; omega
      have hab : ∀ k, k ∈ aBlk a → b16 ≠ k := fun k hk => by have := HSd.out.lz.old k hk; have := HLO.out; omega
      clear hset
      refine wpAnyH_ready (rs := [9]) (by as_aux_lemma => kernel_rfl) (by simp) (AllReadyH.cons rfl (fun K hK => ?_) AllReadyH.nil)
      go_simp
      refine hK.out _ _ (⟨(two_cells13 ((HSet.out.2.block _ (Nat.lt_of_lt_of_le HSd.out.hi HR.out.size) hXb).trans (HSd.out.past HR.out).box)).1, (two_cells13 ((HSet.out.2.block _ (Nat.lt_of_lt_of_le HSd.out.hi HR.out.size) hXb).trans (HSd.out.past HR.out).box)).2, five_cells13 ((HSet.out.2.block _ (Nat.lt_of_lt_of_le (lt_of_block HBd.out) HR.out.size) h9b).trans ((HR.out.block _ (lt_of_block HBd.out) (fun x => x)).trans HBd.out))⟩) (fun hHeld => ?_)
      clear hK K
      try simp only [Act.put, List.setIfInBounds_toArray, List.set_cons_zero, List.set_cons_succ]
      refine wpAnyH_yield 10 (.bool false) rfl (by as_aux_lemma => kernel_rfl) (by as_aux_lemma => kernel_rfl) (by as_aux_lemma => kernel_rfl) (fun d c a w h => hP _ d c a w h) (by rfl) (by assumption) (fun _ _ => by go_simp) ?_
      simp only [Act.put, List.setIfInBounds_toArray, List.set_cons_zero, List.set_cons_succ]
      refine wpAnyH_done (by as_aux_lemma => kernel_rfl) ?_ _
      have hWs := ((HSd.out.owns (bs := [b16]) HR.out (fun b hb => by
        simp only [List.mem_cons, List.not_mem_nil, or_false] at hb
        subst hb
        exact ⟨HLO.out, lt_of_block H16.out⟩)).wrote (b := b16) (by simp) hXb.symm hab (by have := HSd.out.wl.size; have := HLO.out; omega) HSet.out.2).drop (K' := [b9]) (fun k hk => List.mem_append_right _ hk)
      exact HQ.out _ _ _ _ _ _ _ _ b16 _ hWs ((HSet.out.2.block _ (Nat.lt_of_lt_of_le (lt_of_block HBd.out) HR.out.size) h9b).trans ((HR.out.block _ (lt_of_block HBd.out) (fun x => x)).trans HBd.out))
    · go_simp
      have hs := Rest.alloc (fun _ => False) wx1 (.cells #[.slice none 0 0, .int .i64 0] 28)
      have h16 := heap_alloc_new wx1 (.cells #[.slice none 0 0, .int .i64 0] 28)
      generalize hb : wx1.heap.size = b16 at h16 ⊢
      have hlo : wd.heap.size ≤ b16 := by have := HR.out.size; omega
      generalize wx1.alloc (.cells #[.slice none 0 0, .int .i64 0] 28) = wx2 at hs h16 ⊢
      replace HR1 := Lib.hid (HR1.out.kept (hs.block _ HR1.out.lt (fun x => x)))
      replace HR := Lib.hid (HR.out.trans (o3 := fun _ => False) hs (fun _ _ => id) (fun _ _ => id))
      have H16 := Lib.hid h16
      have HLO := Lib.hid hlo
      have HSZ := Lib.hid (lt_of_block h16)
      clear hb hlo h16 hs
      refine hK.out _ _ (⟨(HSd.out.past HR.out).cells.1, (HSd.out.past HR.out).cells.2, five_cells13 ((HR.out.block _ (lt_of_block HBd.out) (fun x => x)).trans HBd.out)⟩) (fun hHeld => ?_)
      clear hK K
      try simp only [Act.put, List.setIfInBounds_toArray, List.set_cons_zero, List.set_cons_succ]
      refine wpAnyH_ready (rs := [4]) (by as_aux_lemma => kernel_rfl) (by simp) (AllReadyH.cons rfl (fun K hK => ?_) AllReadyH.nil)
      go_simp
      go_at_call 11
      have hpu := put_no n x wx2 (.inr ⟨g1, o1, rfl, HR1.out⟩) (Nat.le_trans (List.length_filter_le _ _) HSd.out.less) hno
      simp only [Hp.alarm] at hpu
      refine hpu.mono ?_
      rintro e wx3 ⟨rfl, hr⟩
      clear hpu
      replace H16 := Lib.hid ((hr.block _ (lt_of_block H16.out) (fun x => x)).trans H16.out)
      replace HR1 := Lib.hid (HR1.out.kept (hr.block _ HR1.out.lt (fun x => x)))
      replace HR := Lib.hid (HR.out.trans (o3 := fun _ => False) hr (fun _ _ => id) (fun _ _ => id))
      clear hr
      refine hK.out _ _ (⟨(HSd.out.past HR.out).cells.1, (HSd.out.past HR.out).cells.2, five_cells13 ((HR.out.block _ (lt_of_block HBd.out) (fun x => x)).trans HBd.out)⟩) (fun hHeld => ?_)
      clear hK K
      try simp only [Act.put, List.setIfInBounds_toArray, List.set_cons_zero, List.set_cons_succ]
      refine wpAnyH_yield 5 (.tuple #[.agg #[.slice (some ⟨g1, o1, none⟩) (Rf.without x M).length c1, .int .i64 n], .bool false]) rfl (by as_aux_lemma => kernel_rfl) (by as_aux_lemma => kernel_rfl) (by as_aux_lemma => kernel_rfl) (fun d c a w h => hP _ d c a w h) (by rfl) (by assumption) (fun _ _ => by go_simp) ?_
      simp only [Act.put, List.setIfInBounds_toArray, List.set_cons_zero, List.set_cons_succ]
      refine wpAnyH_yield 6 (.agg #[.slice (some ⟨g1, o1, none⟩) (Rf.without x M).length c1, .int .i64 n]) rfl (by as_aux_lemma => kernel_rfl) (by as_aux_lemma => kernel_rfl) (by as_aux_lemma => kernel_rfl) (fun d c a w h => hP _ d c a w h) (by rfl) (by assumption) (fun _ _ => by go_simp) ?_
      simp only [Act.put, List.setIfInBounds_toArray, List.set_cons_zero, List.set_cons_succ]
      refine wpAnyH_yield 7 (.bool false) rfl (by as_aux_lemma => kernel_rfl) (by as_aux_lemma => kernel_rfl) (by as_aux_lemma => kernel_rfl) (fun d c a w h => hP _ d c a w h) (by rfl) (by assumption) (fun _ _ => by go_simp) ?_
      simp only [Act.put, List.setIfInBounds_toArray, List.set_cons_zero, List.set_cons_succ]
      obtain ⟨u0, u1⟩ := two_cells13 H16.out
      have f16 : ∀ i, wx3.frozen? ⟨b16, i, none⟩ = false := fun _ => frozen_of_row _ _ _ _ _ H16.out
      have hset := two_set H16.out (.slice (some ⟨g1, o1, none⟩) (Rf.without x M).length c1) (.int .i64 n)
      have HSet := Lib.hid hset
      have hXb : X ≠ b16 := by have := HSd.out.hi; have := HLO.out; omega
      have h9b : b9 ≠ b16 := by have := lt_of_block HBd.out; have := HLO.out; omega
      have hab : ∀ k, k ∈ aBlk a → b16 ≠ k := fun k hk => by have := HSd.out.lz.old k hk; have := HLO.out; omega
      clear hset
      refine wpAnyH_ready (rs := [9]) (by as_aux_lemma => kernel_rfl) (by simp) (AllReadyH.cons rfl (fun K hK => ?_) AllReadyH.nil)
      go_simp
      refine hK.out _ _ (⟨(two_cells13 ((HSet.out.2.block _ (Nat.lt_of_lt_of_le HSd.out.hi HR.out.size) hXb).trans (HSd.out.past HR.out).box)).1, (two_cells13 ((HSet.out.2.block _ (Nat.lt_of_lt_of_le HSd.out.hi HR.out.size) hXb).trans (HSd.out.past HR.out).box)).2, five_cells13 ((HSet.out.2.block _ (Nat.lt_of_lt_of_le (lt_of_block HBd.out) HR.out.size) h9b).trans ((HR.out.block _ (lt_of_block HBd.out) (fun x => x)).trans HBd.out))⟩) (fun hHeld => ?_)
      clear hK K
      try simp only [Act.put, List.setIfInBounds_toArray, List.set_cons_zero, List.set_cons_succ]
      refine wpAnyH_yield 10 (.bool false) rfl (by as_aux_lemma => kernel_rfl) (by as_aux_lemma => kernel_rfl) (by as_aux_lemma => kernel_rfl) (fun d c a w h => hP _ d c a w h) (by rfl) (by assumption) (fun _ _ => by go_simp) ?_
      simp only [Act.put, List.setIfInBounds_toArray, List.set_cons_zero, List.set_cons_succ]
      refine wpAnyH_done (by as_aux_lemma => kernel_rfl) ?_ _
      have hWs := ((HSd.out.owns (bs := [b16]) HR.out (fun b hb => by
        simp only [List.mem_cons, List.not_mem_nil, or_false] at hb
        subst hb
        exact ⟨HLO.out, lt_of_block H16.out⟩)).wrote (b := b16) (by simp) hXb.symm hab (by have := HSd.out.wl.size; have := HLO.out; omega) HSet.out.2).drop (K' := [b9]) (fun k hk => List.mem_append_right _ hk)
      exact HQ.out _ _ _ _ _ _ _ _ b16 _ hWs ((HSet.out.2.block _ (Nat.lt_of_lt_of_le (lt_of_block HBd.out) HR.out.size) h9b).trans ((HR.out.block _ (lt_of_block HBd.out) (fun x => x)).trans HBd.out))
  · go_simp
    have hs := Rest.alloc (fun _ => False) wd (.cells #[.slice none 0 0, .int .i64 0] 28)
    have h16 := heap_alloc_new wd (.cells #[.slice none 0 0, .int .i64 0] 28)
    generalize hb : wd.heap.size = b16 at h16 ⊢
    have hlo : wd.heap.size ≤ b16 := by have := HR.out.size; omega
    generalize wd.alloc (.cells #[.slice none 0 0, .int .i64 0] 28) = wx1 at hs h16 ⊢
    replace HR := Lib.hid (HR.out.trans (o3 := fun _ => False) hs (fun _ _ => id) (fun _ _ => id))
    have H16 := Lib.hid h16
    have HLO := Lib.hid hlo
    have HSZ := Lib.hid (lt_of_block h16)
    clear hb hlo h16 hs
    refine hK.out _ _ (⟨(HSd.out.past HR.out).cells.1, (HSd.out.past HR.out).cells.2, five_cells13 ((HR.out.block _ (lt_of_block HBd.out) (fun x => x)).trans HBd.out)⟩) (fun hHeld => ?_)
    clear hK K
    try simp only [Act.put, List.setIfInBounds_toArray, List.set_cons_zero, List.set_cons_succ]
    refine wpAnyH_ready (rs := [2]) (by as_aux_lemma => kernel_rfl) (by simp) (AllReadyH.cons rfl (fun K hK => ?_) AllReadyH.nil)
    go_simp
    go_at_call 10
    have hwo := without_any n x wx1 (HSd.out.past HR.out).lz HSd.out.less
    simp only [Hp.alarm] at hwo
    refine hwo.mono ?_
    rintro e wx2 ⟨g1, o1, c1, rfl, hrow1, hr⟩
    clear hwo
    have HR1 := Lib.hid (hrow1.lower (B' := w.heap.size) (by have := HR.out.size; have := HSd.out.wl.size; omega))
    replace H16 := Lib.hid ((hr.block _ (lt_of_block H16.out) (fun x => x)).trans H16.out)
    replace HR := Lib.hid (HR.out.trans (o3 := fun _ => False) hr (fun _ _ => id) (fun _ _ => id))
    clear hrow1 hr
    refine hK.out _ _ (⟨(HSd.out.past HR.out).cells.1, (HSd.out.past HR.out).cells.2, five_cells13 ((HR.out.block _ (lt_of_block HBd.out) (fun x => x)).trans HBd.out)⟩) (fun hHeld => ?_)
    clear hK K
    try simp only [Act.put, List.setIfInBounds_toArray, List.set_cons_zero, List.set_cons_succ]
    refine wpAnyH_ready (rs := [4]) (by as_aux_lemma => kernel_rfl) (by simp) (AllReadyH.cons rfl (fun K hK => ?_) AllReadyH.nil)
    go_simp
    go_at_call 11
    have hpu := put_no n x wx2 (.inr ⟨g1, o1, rfl, HR1.out⟩) (Nat.le_trans (List.length_filter_le _ _) HSd.out.less) hno
    simp only [Hp.alarm] at hpu
    refine hpu.mono ?_
    rintro e wx3 ⟨rfl, hr⟩
    clear hpu
    replace H16 := Lib.hid ((hr.block _ (lt_of_block H16.out) (fun x => x)).trans H16.out)
    replace HR1 := Lib.hid (HR1.out.kept (hr.block _ HR1.out.lt (fun x => x)))
    replace HR := Lib.hid (HR.out.trans (o3 := fun _ => False) hr (fun _ _ => id) (fun _ _ => id))
    clear hr
    refine hK.out _ _ (⟨(HSd.out.past HR.out).cells.1, (HSd.out.past HR.out).cells.2, five_cells13 ((HR.out.block _ (lt_of_block HBd.out) (fun x => x)).trans HBd.out)⟩) (fun hHeld => ?_)
    clear hK K
    try simp only [Act.put, List.setIfInBounds_toArray, List.set_cons_zero, List.set_cons_succ]
    refine wpAnyH_yield 5 (.tuple #[.agg #[.slice (some ⟨g1, o1, none⟩) (Rf.without x M).length c1, .int .i64 n], .bool false]) rfl (by as_aux_lemma => kernel_rfl) (by as_aux_lemma => kernel_rfl) (by as_aux_lemma => kernel_rfl) (fun d c a w h => hP _ d c a w h) (by rfl) (by assumption) (fun _ _ => by go_simp) ?_
    simp only [Act.put, List.setIfInBounds_toArray, List.set_cons_zero, List.set_cons_succ]
    refine wpAnyH_yield 6 (.agg #[.slice (some ⟨g1, o1, none⟩) (Rf.without x M).length c1, .int .i64 n]) rfl (by as_aux_lemma => kernel_rfl) (by as_aux_lemma => kernel_rfl) (by as_aux_lemma => kernel_rfl) (fun d c a w h => hP _ d c a w h) (by rfl) (by assumption) (fun _ _ => by go_simp) ?_
    simp only [Act.put, List.setIfInBounds_toArray, List.set_cons_zero, List.set_cons_succ]
    refine wpAnyH_yield 7 (.bool false) rfl (by as_aux_lemma => kernel_rfl) (by as_aux_lemma => kernel_rfl) (by as_aux_lemma => kernel_rfl) (fun d c a w h => hP _ d c a w h) (by rfl) (by assumption) (fun _ _ => by go_simp) ?_
    simp only [Act.put, List.setIfInBounds_toArray, List.set_cons_zero, List.set_cons_succ]
    obtain ⟨u0, u1⟩ := two_cells13 H16.out
    have f16 : ∀ i, wx3.frozen? ⟨b16, i, none⟩ = false := fun _ => frozen_of_row _ _ _ _ _ H16.out
    have hset := two_set H16.out (.slice (some ⟨g1, o1, none⟩) (Rf.without x M).length c1) (.int .i64 n)
    have HSet := Lib.hid hset
    have hXb : X ≠ b16 := by have := HSd.out.hi; have := HLO.out; omega
    have h9b : b9 ≠ b16 := by have := lt_of_block HBd.out; have := HLO.out; omega
    have hab : ∀ k, k ∈ aBlk a → b16 ≠ k := fun k hk => by have := HSd.out.lz.old k hk; have := HLO.out; omega
    clear hset
    refine wpAnyH_ready (rs := [9]) (by as_aux_lemma => kernel_rfl) (by simp) (AllReadyH.cons rfl (fun K hK => ?_) AllReadyH.nil)
    go_simp
    refine hK.out _ _ (⟨(two_cells13 ((HSet.out.2.block _ (Nat.lt_of_lt_of_le HSd.out.hi HR.out.size) hXb).trans (HSd.out.past HR.out).box)).1, (two_cells13 ((HSet.out.2.block _ (Nat.lt_of_lt_of_le HSd.out.hi HR.out.size) hXb).trans (HSd.out.past HR.out).box)).2, five_cells13 ((HSet.out.2.block _ (Nat.lt_of_lt_of_le (lt_of_block HBd.out) HR.out.size) h9b).trans ((HR.out.block _ (lt_of_block HBd.out) (fun x => x)).trans HBd.out))⟩) (fun hHeld => ?_)
    clear hK K
    try simp only [Act.put, List.setIfInBounds_toArray, List.set_cons_zero, List.set_cons_succ]
    refine wpAnyH_yield 10 (.bool false) rfl (by as_aux_lemma => kernel_rfl) (by as_aux_lemma => kernel_rfl) (by as_aux_lemma => kernel_rfl) (fun d c a w h => hP _ d c a w h) (by rfl) (by assumption) (fun _ _ => by go_simp) ?_
    simp only [Act.put, List.setIfInBounds_toArray, List.set_cons_zero, List.set_cons_succ]
    refine wpAnyH_done (by as_aux_lemma => kernel_rfl) ?_ _
    have hWs := ((HSd.out.owns (bs := [b16]) HR.out (fun b hb => by
      simp only [List.mem_cons, List.not_mem_nil, or_false] at hb
      subst hb
      exact ⟨HLO.out, lt_of_block H16.out⟩)).wrote (b := b16) (by simp) hXb.symm hab (by have := HSd.out.wl.size; have := HLO.out; omega) HSet.out.2).drop (K' := [b9]) (fun k hk => List.mem_append_right _ hk)
    exact HQ.out _ _ _ _ _ _ _ _ b16 _ hWs ((HSet.out.2.block _ (Nat.lt_of_lt_of_le (lt_of_block HBd.out) HR.out.size) h9b).trans ((HR.out.block _ (lt_of_block HBd.out) (fun x => x)).trans HBd.out))
end Go.Proofs.Ytcjidobdbdfjlaa
