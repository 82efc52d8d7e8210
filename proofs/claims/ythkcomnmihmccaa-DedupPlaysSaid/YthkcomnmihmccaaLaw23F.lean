/- DedupPlays: it is done, its client knows, a question: in the cache and in the law's own list. -/
import Derived.Test.YthkcomnmihmccaaLaw23E
import Derived.Lib.SliceRun
namespace Go.Proofs.Ythkcomnmihmccaa
open Go.RowKit Go.Sort

theorem Try.elemEntry : Try.prog.elem 25 = 33 := by kernel_rfl
/-- All behind one of them. -/
theorem entries_tail (mb mo n mc k : Nat) (hk : k < n) : ∃ (ad : Addr) (ln cp : Nat), (∀ w, Sem.run Try.prog (Instr.sliceAt 25 (.slice (some ⟨mb, mo, none⟩) n mc) (some (.int .i64 ((k : Int) + 1))) none none) w = .ok (.slice (some ad) ln cp) w) ∧ ln = n - (k + 1) ∧
    ∀ (W : World) (B : Nat) (t : TypeId) (h : List Dd.En), h.length = n → RowK W B t 31 mb mo n mc (Dd.itmE.flat h) → ∀ j u, (Dd.itmE.flat (h.drop (k + 1)))[j]? = some u → W.cell? (ad.add j) = some u := by
  obtain ⟨i0, z, hinf, hz0, hz1, hz2, -⟩ := Try.bigEntry.info
  have hrun : ∀ w, Sem.run Try.prog (Instr.sliceAt 25 (.slice (some ⟨mb, mo, none⟩) n mc) (some (.int .i64 ((k : Int) + 1))) none none) w = .ok (sliced (some ⟨mb, mo, none⟩) (k + 1) n mc 31) w := fun w => by
    rw [run_sliceAt_slice w 25 _ _ _ _ Try.underlying25, run_slice_l w 25 _ _ _ Try.underlying25 .i64 ((k : Int) + 1) (by omega) (by omega), Try.elemEntry]
    simp only [sizeOf, typeInfo, Sem.run_bind]
    rw [show ((k : Int) + 1).toNat = k + 1 by omega]
    simp [hinf, hz2]
  by_cases hmc : mc = k + 1
  · refine ⟨⟨mb, mo, none⟩, n - (k + 1), mc - (k + 1), fun w => by rw [hrun w]; unfold sliced; rw [if_pos hmc], rfl, fun W B t h hl hr j u hu => ?_⟩
    have := hr.room
    rw [List.drop_of_length_le (by omega)] at hu
    simp [Itm.flat] at hu
  · exact ⟨⟨mb, mo + (k + 1) * 31, none⟩, n - (k + 1), mc - (k + 1), fun w => by rw [hrun w]; unfold sliced; rw [if_neg hmc]; rfl, rfl, fun W B t h hl hr => Dd.itmE.last hr (k + 1)⟩

set_option maxHeartbeats 8000000 in
set_option maxRecDepth 1000000 in
/-- It is done. -/
theorem done_part {w wr : World} {P N mb mo mc b9 nb no nc R : Nat} {q : List Dd.Cl} {m : List Dd.En} {z K c S T G a Q V : Int} {su st : Bool} {bk o len cap i : Nat} {ok : Bool} (hN : N ≤ 7) (HR : Hid (Dd.Rel Dd.sureOf N q m)) (HZ : Hid (Dd.Idx m c a z)) (hil : i < len) (HOK : Hid (∀ wx, Rest (fun _ => False) w wx → wx.cell? ⟨bk, o + i * 13 + 12, none⟩ = some (.bool ok))) (HD : Hid (Dw w wr P (N : Int) q [(nb, RowE no nc m), (b9, Is (.cells #[.int .i64 K, .int .i64 c, .int .i64 S, .int .i64 T, .int .i64 G, .int .u32 a, .int .i64 (R : Int), .bool su, .bool st, .int .i64 Q, .int .u32 V] 28 (0, 0))), (mb, RowE mo mc m)]))
    (Q' : Exit → Act → World → Prop) (v0 v2 v3 v4 v5 v11 v13 v14 v15 v16 v17 v18 v19 v20 v21 v22 v23 v24 v25 v26 v27 v28 v29 v30 v31 v32 v33 v34 v35 v36 v37 v38 v39 v40 v41 v42 v43 v44 v45 v46 v47 v48 v49 v50 v51 v52 v53 v54 v55 v56 v57 v58 v59 v60 v61 v62 v63 v64 v65 v66 v67 v68 v69 v70 v71 v72 v73 v74 v75 v76 v77 v78 v79 v80 v81 v82 v83 v84 v85 v86 v87 v88 v89 v90 v91 v92 v93 v94 v95 v96 v97 v98 v99 v100 v101 v102 v103 v104 v105 v106 v107 v108 v109 v110 v111 v112 v113 v114 v115 v116 v117 v118 v119 v120 v121 v122 v123 v124 v125 v126 v127 v128 v129 v130 v131 v132 v133 v134 v135 v136 v137 v138 v139 v140 v141 v142 v143 v144 v145 v146 v147 v148 v149 v150 v151 v152 v153 v154 v155 v156 v157 v158 v159 v160 v161 v162 v163 v164 v165 v166 v167 v168 v169 v170 v171 v172 v173 v174 v175 v176 v177 v178 v179 v180 v181 v182 v183 v184 v185 v186 v187 v188 v189 v190 v191 v192 v193 v194 v195 v196 v197 v198 v199 v200 v201 v202 v203 v204 v205 v206 v207 v208 v209 v210 v211 v212 v214 v215 v216 v217 v218 v219 v220 v221 v222 v223 v224 v225 v226 v227 v228 v229 v230 v231 v232 v233 v234 v235 v236 v237 v238 v239 v240 v241 v242 v243 v244 v245 v246 v247 v248 v249 v250 v251 v252 v253 v254 v255 v256 v257 v258 v259 v260 v261 v262 v263 v264 v265 v266 v267 v268 v269 v270 v271 v272 v273 v274 v275 v276 v277 v278 v279 v280 v281 v282 v283 v284 v285 v286 v287 v288 v289 v290 v291 v292 v293 v294 v295 v296 v297 v298 v299 v300 v301 v302 v303 v304 v305 v306 v307 v308 v309 v310 v311 v312 v313 v314 v315 v316 v317 v318 v319 v320 v321 v322 v323 : Value)
    (HQ : Hid (∀ (x216 x217 x218 x219 x220 x221 x222 x223 x224 x225 x226 x227 x228 x229 x230 x231 x232 x233 x234 x235 x236 x237 x238 x239 x240 x241 x242 x243 x244 x245 x246 x247 x248 x249 x250 x251 x252 x253 x254 : Value) (nb' no' nc' nl : Nat) (q' : List Dd.Cl) (m' : List Dd.En) (wn : World), nl = m'.length → Dd.Rel Dd.sureOf N q' m' → Dw w wn P (N : Int) q' [(nb', RowE no' nc' m')] → Q' .normal ⟨#[v0, .slice (some ⟨bk, o, none⟩) len cap, v2, v3, v4, v5, .pointer (some ⟨P, 0, none⟩), .slice (some ⟨mb, mo, none⟩) m.length mc, .int .i64 (i : Int), .pointer (some ⟨b9, 0, none⟩), .int .i64 z, v11, .slice (some ⟨nb', no', none⟩) nl nc', v13, v14, v15, v16, v17, v18, v19, v20, v21, v22, v23, v24, v25, v26, v27, v28, v29, v30, v31, v32, v33, v34, v35, v36, v37, v38, v39, v40, v41, v42, v43, v44, v45, v46, v47, v48, v49, v50, v51, v52, v53, v54, v55, v56, v57, v58, v59, v60, v61, v62, v63, v64, v65, v66, v67, v68, v69, v70, v71, v72, v73, v74, v75, v76, v77, v78, v79, v80, v81, v82, v83, v84, v85, v86, v87, v88, v89, v90, v91, v92, v93, v94, v95, v96, v97, v98, v99, v100, v101, v102, v103, v104, v105, v106, v107, v108, v109, v110, v111, v112, v113, v114, v115, v116, v117, v118, v119, v120, v121, v122, v123, v124, v125, v126, v127, v128, v129, v130, v131, v132, v133, v134, v135, v136, v137, v138, v139, v140, v141, v142, v143, v144, v145, v146, v147, v148, v149, v150, v151, v152, v153, v154, v155, v156, v157, v158, v159, v160, v161, v162, v163, v164, v165, v166, v167, v168, v169, v170, v171, v172, v173, v174, v175, v176, v177, v178, v179, v180, v181, v182, v183, v184, v185, v186, v187, v188, v189, v190, v191, v192, v193, v194, v195, v196, v197, v198, v199, v200, v201, v202, v203, v204, v205, v206, v207, v208, v209, v210, v211, v212, .bool true, v214, v215, x216, x217, x218, x219, x220, x221, x222, x223, x224, x225, x226, x227, x228, x229, x230, x231, x232, x233, x234, x235, x236, x237, x238, x239, x240, x241, x242, x243, x244, x245, x246, x247, x248, x249, x250, x251, x252, x253, x254, v255, v256, v257, v258, v259, v260, v261, v262, v263, v264, v265, v266, v267, v268, v269, v270, v271, v272, v273, v274, v275, v276, v277, v278, v279, v280, v281, v282, v283, v284, v285, v286, v287, v288, v289, v290, v291, v292, v293, v294, v295, v296, v297, v298, v299, v300, v301, v302, v303, v304, v305, v306, v307, v308, v309, v310, v311, v312, v313, v314, v315, v316, v317, v318, v319, v320, v321, v322, v323], []⟩ wn)) (hP : ∀ (v : Value) (d : Option Tmp) c a w, Q' (.panic c) (a.put d v) w → Q' (.panic c) a w) :
    Code.wp Try.prog ((Try.f3.body.bind (findIfs 213)).getD .skip) Q' ⟨#[v0, .slice (some ⟨bk, o, none⟩) len cap, v2, v3, v4, v5, .pointer (some ⟨P, 0, none⟩), .slice (some ⟨mb, mo, none⟩) m.length mc, .int .i64 (i : Int), .pointer (some ⟨b9, 0, none⟩), .int .i64 z, v11, .slice (some ⟨nb, no, none⟩) m.length nc, v13, v14, v15, v16, v17, v18, v19, v20, v21, v22, v23, v24, v25, v26, v27, v28, v29, v30, v31, v32, v33, v34, v35, v36, v37, v38, v39, v40, v41, v42, v43, v44, v45, v46, v47, v48, v49, v50, v51, v52, v53, v54, v55, v56, v57, v58, v59, v60, v61, v62, v63, v64, v65, v66, v67, v68, v69, v70, v71, v72, v73, v74, v75, v76, v77, v78, v79, v80, v81, v82, v83, v84, v85, v86, v87, v88, v89, v90, v91, v92, v93, v94, v95, v96, v97, v98, v99, v100, v101, v102, v103, v104, v105, v106, v107, v108, v109, v110, v111, v112, v113, v114, v115, v116, v117, v118, v119, v120, v121, v122, v123, v124, v125, v126, v127, v128, v129, v130, v131, v132, v133, v134, v135, v136, v137, v138, v139, v140, v141, v142, v143, v144, v145, v146, v147, v148, v149, v150, v151, v152, v153, v154, v155, v156, v157, v158, v159, v160, v161, v162, v163, v164, v165, v166, v167, v168, v169, v170, v171, v172, v173, v174, v175, v176, v177, v178, v179, v180, v181, v182, v183, v184, v185, v186, v187, v188, v189, v190, v191, v192, v193, v194, v195, v196, v197, v198, v199, v200, v201, v202, v203, v204, v205, v206, v207, v208, v209, v210, v211, v212, .bool true, v214, v215, v216, v217, v218, v219, v220, v221, v222, v223, v224, v225, v226, v227, v228, v229, v230, v231, v232, v233, v234, v235, v236, v237, v238, v239, v240, v241, v242, v243, v244, v245, v246, v247, v248, v249, v250, v251, v252, v253, v254, v255, v256, v257, v258, v259, v260, v261, v262, v263, v264, v265, v266, v267, v268, v269, v270, v271, v272, v273, v274, v275, v276, v277, v278, v279, v280, v281, v282, v283, v284, v285, v286, v287, v288, v289, v290, v291, v292, v293, v294, v295, v296, v297, v298, v299, v300, v301, v302, v303, v304, v305, v306, v307, v308, v309, v310, v311, v312, v313, v314, v315, v316, v317, v318, v319, v320, v321, v322, v323], []⟩ wr := by
  conv => arg 2; whnf
  have hml : m.length ≤ 7 := Nat.le_trans HR.out.room hN
  have HQ7 := Lib.hid (show q.length ≤ 1000 by rw [HR.out.len]; omega)
  have hil' : (i : Int) < (len : Int) := by omega
  rcases HZ.out with ⟨rfl, hno⟩ | ⟨j, e, hj, he, rfl⟩
  · have HNO := Lib.hid (HR.out.non hno)
    clear hno HZ
    go_wp2_with fail
    refine wp_region_held_drew (S := fun w' => w'.heap[b9]? = some (.cells #[.int .i64 K, .int .i64 c, .int .i64 S, .int .i64 T, .int .i64 G, .int .u32 a, .int .i64 (R : Int), .bool su, .bool st, .int .i64 Q, .int .u32 V] 28 (0, 0)) ∧ w'.cell? ⟨bk, o + i * 13 + 12, none⟩ = some (.bool ok)) (by kernel_rfl) ⟨HD.out.get 1 rfl, HOK.out wr HD.out.rest⟩ (fun hHeld => ?_)
    have h3 := HD.out.drew
    clear HD
    generalize wr.drew = w3 at h3 hHeld ⊢
    have H3 := Lib.hid h3
    clear h3
    refine wpAnyH_yield 0 (.pointer (some ⟨P, 0, none⟩)) rfl (by kernel_rfl) (by kernel_rfl) (by kernel_rfl) (fun d c a w h => hP _ d c a w h) (by rfl) (by assumption) (fun _ _ => by go_simp) ?_
    simp only [Act.put, List.setIfInBounds_toArray, List.set_cons_zero, List.set_cons_succ]
    refine wpAnyH_yield 1 (.agg #[.int .i64 K, .int .i64 c, .int .i64 S, .int .i64 T, .int .i64 G, .int .u32 a, .int .i64 (R : Int), .bool su, .bool st, .int .i64 Q, .int .u32 V]) rfl (by kernel_rfl) (by kernel_rfl) (by kernel_rfl) (fun d c a w h => hP _ d c a w h) (by rfl) (by assumption) (fun _ hSw => by have hcs := frame_cells hSw.1; go_simp) ?_
    simp only [Act.put, List.setIfInBounds_toArray, List.set_cons_zero, List.set_cons_succ]
    refine wpAnyH_yield 2 (.slice (some ⟨bk, o, none⟩) len cap) rfl (by kernel_rfl) (by kernel_rfl) (by kernel_rfl) (fun d c a w h => hP _ d c a w h) (by rfl) (by assumption) (fun _ _ => by go_simp) ?_
    simp only [Act.put, List.setIfInBounds_toArray, List.set_cons_zero, List.set_cons_succ]
    refine wpAnyH_yield 3 (.int .i64 (i : Int)) rfl (by kernel_rfl) (by kernel_rfl) (by kernel_rfl) (fun d c a w h => hP _ d c a w h) (by rfl) (by assumption) (fun _ _ => by go_simp) ?_
    simp only [Act.put, List.setIfInBounds_toArray, List.set_cons_zero, List.set_cons_succ]
    refine wpAnyH_yield 4 (.pointer (some ⟨bk, o + i * 13, none⟩)) rfl (by kernel_rfl) (by kernel_rfl) (by kernel_rfl) (fun d c a w h => hP _ d c a w h) (by rfl) (by assumption) (fun _ _ => by go_simp) ?_
    simp only [Act.put, List.setIfInBounds_toArray, List.set_cons_zero, List.set_cons_succ]
    refine wpAnyH_yield 5 (.pointer (some ⟨bk, o + i * 13 + 12, none⟩)) rfl (by kernel_rfl) (by kernel_rfl) (by kernel_rfl) (fun d c a w h => hP _ d c a w h) (by rfl) (by assumption) (fun _ _ => by go_simp) ?_
    simp only [Act.put, List.setIfInBounds_toArray, List.set_cons_zero, List.set_cons_succ]
    refine wpAnyH_yield 6 (.bool ok) rfl (by kernel_rfl) (by kernel_rfl) (by kernel_rfl) (fun d c a w h => hP _ d c a w h) (by rfl) (by assumption) (fun _ hSw => by have hcs := hSw.2; go_simp) ?_
    simp only [Act.put, List.setIfInBounds_toArray, List.set_cons_zero, List.set_cons_succ]
    refine wpAnyH_yield 7 (.pointer (some ⟨b9, 10, none⟩)) rfl (by kernel_rfl) (by kernel_rfl) (by kernel_rfl) (fun d c a w h => hP _ d c a w h) (by rfl) (by assumption) (fun _ _ => by go_simp) ?_
    simp only [Act.put, List.setIfInBounds_toArray, List.set_cons_zero, List.set_cons_succ]
    refine wpAnyH_yield 8 (.int .u32 V) rfl (by kernel_rfl) (by kernel_rfl) (by kernel_rfl) (fun d c a w h => hP _ d c a w h) (by rfl) (by assumption) (fun _ hSw => by have hcs := frame_cells hSw.1; go_simp) ?_
    simp only [Act.put, List.setIfInBounds_toArray, List.set_cons_zero, List.set_cons_succ]
    refine wpAnyH_ready (rs := [9]) (by kernel_rfl) (by simp) (AllReadyH.cons rfl (fun K hK => ?_) AllReadyH.nil)
    go_simp
    go_at_call 7
    refine (dw_done_no HQ7.out HNO.out _ H3.out).mono ?_
    rintro e0 w4 ⟨rfl, h4⟩
    have H4 := Lib.hid h4
    clear h4 H3
    refine hK.out _ _ (⟨H4.out.get 1 rfl, HOK.out _ H4.out.rest⟩) (fun hHeld => ?_)
    clear hK K
    try simp only [Act.put, List.setIfInBounds_toArray, List.set_cons_zero, List.set_cons_succ]
    refine wpAnyH_done (by kernel_rfl) ?_ _
    clear hHeld
    go_wp2_with fail
    exact HQ.out _ _ _ _ _ _ _ _ _ _ _ _ _ _ _ _ _ _ _ _ _ _ _ _ _ _ _ _ _ _ _ _ _ _ _ _ _ _ _  nb no nc _ q m _ rfl HR.out H4.out.but.but
  · obtain ⟨i2, hat⟩ := HR.out.find hj he
    have hj0 : ¬(j : Int) < 0 := by omega
    have hj1 : (0 : Int) ≤ (j : Int) := by omega
    have HAT := Lib.hid hat
    have HJ := Lib.hid hj
    have hjm := (List.getElem?_eq_some_iff.1 hj).1
    have HJL := Lib.hid hjm
    have hjl : (j : Int) < (m.length : Int) := by omega
    clear hat hj he HZ
    rcases Bool.eq_false_or_eq_true e.x.d with hd | hd
    · go_wp2_with fail
      refine wp_region_held_drew (S := fun w' => w'.heap[b9]? = some (.cells #[.int .i64 K, .int .i64 c, .int .i64 S, .int .i64 T, .int .i64 G, .int .u32 a, .int .i64 (R : Int), .bool su, .bool st, .int .i64 Q, .int .u32 V] 28 (0, 0)) ∧ w'.cell? ⟨bk, o + i * 13 + 12, none⟩ = some (.bool ok)) (by kernel_rfl) ⟨HD.out.get 1 rfl, HOK.out wr HD.out.rest⟩ (fun hHeld => ?_)
      have h3 := HD.out.drew
      clear HD
      generalize wr.drew = w3 at h3 hHeld ⊢
      have H3 := Lib.hid h3
      clear h3
      refine wpAnyH_yield 0 (.pointer (some ⟨P, 0, none⟩)) rfl (by kernel_rfl) (by kernel_rfl) (by kernel_rfl) (fun d c a w h => hP _ d c a w h) (by rfl) (by assumption) (fun _ _ => by go_simp) ?_
      simp only [Act.put, List.setIfInBounds_toArray, List.set_cons_zero, List.set_cons_succ]
      refine wpAnyH_yield 1 (.agg #[.int .i64 K, .int .i64 c, .int .i64 S, .int .i64 T, .int .i64 G, .int .u32 a, .int .i64 (R : Int), .bool su, .bool st, .int .i64 Q, .int .u32 V]) rfl (by kernel_rfl) (by kernel_rfl) (by kernel_rfl) (fun d c a w h => hP _ d c a w h) (by rfl) (by assumption) (fun _ hSw => by have hcs := frame_cells hSw.1; go_simp) ?_
      simp only [Act.put, List.setIfInBounds_toArray, List.set_cons_zero, List.set_cons_succ]
      refine wpAnyH_yield 2 (.slice (some ⟨bk, o, none⟩) len cap) rfl (by kernel_rfl) (by kernel_rfl) (by kernel_rfl) (fun d c a w h => hP _ d c a w h) (by rfl) (by assumption) (fun _ _ => by go_simp) ?_
      simp only [Act.put, List.setIfInBounds_toArray, List.set_cons_zero, List.set_cons_succ]
      refine wpAnyH_yield 3 (.int .i64 (i : Int)) rfl (by kernel_rfl) (by kernel_rfl) (by kernel_rfl) (fun d c a w h => hP _ d c a w h) (by rfl) (by assumption) (fun _ _ => by go_simp) ?_
      simp only [Act.put, List.setIfInBounds_toArray, List.set_cons_zero, List.set_cons_succ]
      refine wpAnyH_yield 4 (.pointer (some ⟨bk, o + i * 13, none⟩)) rfl (by kernel_rfl) (by kernel_rfl) (by kernel_rfl) (fun d c a w h => hP _ d c a w h) (by rfl) (by assumption) (fun _ _ => by go_simp) ?_
      simp only [Act.put, List.setIfInBounds_toArray, List.set_cons_zero, List.set_cons_succ]
      refine wpAnyH_yield 5 (.pointer (some ⟨bk, o + i * 13 + 12, none⟩)) rfl (by kernel_rfl) (by kernel_rfl) (by kernel_rfl) (fun d c a w h => hP _ d c a w h) (by rfl) (by assumption) (fun _ _ => by go_simp) ?_
      simp only [Act.put, List.setIfInBounds_toArray, List.set_cons_zero, List.set_cons_succ]
      refine wpAnyH_yield 6 (.bool ok) rfl (by kernel_rfl) (by kernel_rfl) (by kernel_rfl) (fun d c a w h => hP _ d c a w h) (by rfl) (by assumption) (fun _ hSw => by have hcs := hSw.2; go_simp) ?_
      simp only [Act.put, List.setIfInBounds_toArray, List.set_cons_zero, List.set_cons_succ]
      refine wpAnyH_yield 7 (.pointer (some ⟨b9, 10, none⟩)) rfl (by kernel_rfl) (by kernel_rfl) (by kernel_rfl) (fun d c a w h => hP _ d c a w h) (by rfl) (by assumption) (fun _ _ => by go_simp) ?_
      simp only [Act.put, List.setIfInBounds_toArray, List.set_cons_zero, List.set_cons_succ]
      refine wpAnyH_yield 8 (.int .u32 V) rfl (by kernel_rfl) (by kernel_rfl) (by kernel_rfl) (fun d c a w h => hP _ d c a w h) (by rfl) (by assumption) (fun _ hSw => by have hcs := frame_cells hSw.1; go_simp) ?_
      simp only [Act.put, List.setIfInBounds_toArray, List.set_cons_zero, List.set_cons_succ]
      refine wpAnyH_ready (rs := [9]) (by kernel_rfl) (by simp) (AllReadyH.cons rfl (fun K hK => ?_) AllReadyH.nil)
      go_simp
      go_at_call 7
      refine (dw_done_old HQ7.out HAT.out hd _ H3.out).mono ?_
      rintro e0 w4 ⟨rfl, h4⟩
      have H4 := Lib.hid h4
      clear h4 H3
      refine hK.out _ _ (⟨H4.out.get 1 rfl, HOK.out _ H4.out.rest⟩) (fun hHeld => ?_)
      clear hK K
      try simp only [Act.put, List.setIfInBounds_toArray, List.set_cons_zero, List.set_cons_succ]
      refine wpAnyH_done (by kernel_rfl) ?_ _
      clear hHeld
      have HDX := H4.out.item 2 rfl HJ.out
      obtain ⟨-, -, -, -, d28, -⟩ := HDX
      rw [hd] at d28
      go_wp2_with fail
      exact HQ.out _ _ _ _ _ _ _ _ _ _ _ _ _ _ _ _ _ _ _ _ _ _ _ _ _ _ _ _ _ _ _ _ _ _ _ _ _ _ _  nb no nc _ q m _ rfl HR.out H4.out.but.but
    · go_wp2_with fail
      refine wp_region_held_drew (S := fun w' => w'.heap[b9]? = some (.cells #[.int .i64 K, .int .i64 c, .int .i64 S, .int .i64 T, .int .i64 G, .int .u32 a, .int .i64 (R : Int), .bool su, .bool st, .int .i64 Q, .int .u32 V] 28 (0, 0)) ∧ w'.cell? ⟨bk, o + i * 13 + 12, none⟩ = some (.bool ok)) (by kernel_rfl) ⟨HD.out.get 1 rfl, HOK.out wr HD.out.rest⟩ (fun hHeld => ?_)
      have h3 := HD.out.drew
      clear HD
      generalize wr.drew = w3 at h3 hHeld ⊢
      have H3 := Lib.hid h3
      clear h3
      refine wpAnyH_yield 0 (.pointer (some ⟨P, 0, none⟩)) rfl (by kernel_rfl) (by kernel_rfl) (by kernel_rfl) (fun d c a w h => hP _ d c a w h) (by rfl) (by assumption) (fun _ _ => by go_simp) ?_
      simp only [Act.put, List.setIfInBounds_toArray, List.set_cons_zero, List.set_cons_succ]
      refine wpAnyH_yield 1 (.agg #[.int .i64 K, .int .i64 c, .int .i64 S, .int .i64 T, .int .i64 G, .int .u32 a, .int .i64 (R : Int), .bool su, .bool st, .int .i64 Q, .int .u32 V]) rfl (by kernel_rfl) (by kernel_rfl) (by kernel_rfl) (fun d c a w h => hP _ d c a w h) (by rfl) (by assumption) (fun _ hSw => by have hcs := frame_cells hSw.1; go_simp) ?_
      simp only [Act.put, List.setIfInBounds_toArray, List.set_cons_zero, List.set_cons_succ]
      refine wpAnyH_yield 2 (.slice (some ⟨bk, o, none⟩) len cap) rfl (by kernel_rfl) (by kernel_rfl) (by kernel_rfl) (fun d c a w h => hP _ d c a w h) (by rfl) (by assumption) (fun _ _ => by go_simp) ?_
      simp only [Act.put, List.setIfInBounds_toArray, List.set_cons_zero, List.set_cons_succ]
      refine wpAnyH_yield 3 (.int .i64 (i : Int)) rfl (by kernel_rfl) (by kernel_rfl) (by kernel_rfl) (fun d c a w h => hP _ d c a w h) (by rfl) (by assumption) (fun _ _ => by go_simp) ?_
      simp only [Act.put, List.setIfInBounds_toArray, List.set_cons_zero, List.set_cons_succ]
      refine wpAnyH_yield 4 (.pointer (some ⟨bk, o + i * 13, none⟩)) rfl (by kernel_rfl) (by kernel_rfl) (by kernel_rfl) (fun d c a w h => hP _ d c a w h) (by rfl) (by assumption) (fun _ _ => by go_simp) ?_
      simp only [Act.put, List.setIfInBounds_toArray, List.set_cons_zero, List.set_cons_succ]
      refine wpAnyH_yield 5 (.pointer (some ⟨bk, o + i * 13 + 12, none⟩)) rfl (by kernel_rfl) (by kernel_rfl) (by kernel_rfl) (fun d c a w h => hP _ d c a w h) (by rfl) (by assumption) (fun _ _ => by go_simp) ?_
      simp only [Act.put, List.setIfInBounds_toArray, List.set_cons_zero, List.set_cons_succ]
      refine wpAnyH_yield 6 (.bool ok) rfl (by kernel_rfl) (by kernel_rfl) (by kernel_rfl) (fun d c a w h => hP _ d c a w h) (by rfl) (by assumption) (fun _ hSw => by have hcs := hSw.2; go_simp) ?_
      simp only [Act.put, List.setIfInBounds_toArray, List.set_cons_zero, List.set_cons_succ]
      refine wpAnyH_yield 7 (.pointer (some ⟨b9, 10, none⟩)) rfl (by kernel_rfl) (by kernel_rfl) (by kernel_rfl) (fun d c a w h => hP _ d c a w h) (by rfl) (by assumption) (fun _ _ => by go_simp) ?_
      simp only [Act.put, List.setIfInBounds_toArray, List.set_cons_zero, List.set_cons_succ]
      refine wpAnyH_yield 8 (.int .u32 V) rfl (by kernel_rfl) (by kernel_rfl) (by kernel_rfl) (fun d c a w h => hP _ d c a w h) (by rfl) (by assumption) (fun _ hSw => by have hcs := frame_cells hSw.1; go_simp) ?_
      simp only [Act.put, List.setIfInBounds_toArray, List.set_cons_zero, List.set_cons_succ]
      refine wpAnyH_ready (rs := [9]) (by kernel_rfl) (by simp) (AllReadyH.cons rfl (fun K hK => ?_) AllReadyH.nil)
      go_simp
      go_at_call 7
      refine (dw_done HQ7.out HAT.out hd _ H3.out).mono ?_
      rintro e0 w4 ⟨rfl, h4⟩
      have H4 := Lib.hid h4
      clear h4 H3
      refine hK.out _ _ (⟨H4.out.get 1 rfl, HOK.out _ H4.out.rest⟩) (fun hHeld => ?_)
      clear hK K
      try simp only [Act.put, List.setIfInBounds_toArray, List.set_cons_zero, List.set_cons_succ]
      refine wpAnyH_done (by kernel_rfl) ?_ _
      clear hHeld
      have HDX := H4.out.item 2 rfl HJ.out
      obtain ⟨-, -, -, -, d28, -⟩ := HDX
      have hdd := hd
      rw [hd] at d28
      go_upto_region 43 with fail
      obtain ⟨-, -, -, -, x28, x29, x30, -, fz⟩ := H4.out.item 0 rfl HJ.out
      have e28 := fz (no + j * 31 + 28)
      have e29 := fz (no + j * 31 + 29)
      have e30 := fz (no + j * 31 + 30)
      clear fz hdd d28
      refine wp_region_held_drew (S := fun w' => w'.cell? ⟨b9, 10, none⟩ = some (.int .u32 V) ∧ w'.cell? ⟨bk, o + i * 13 + 12, none⟩ = some (.bool ok)) (by kernel_rfl) ⟨(cell_of_row _ _ 10 _ _ _ (H4.out.get 1 rfl)).trans rfl, HOK.out _ H4.out.drew.rest⟩ (fun hHeld => ?_)
      have y28 : w4.drew.cell? ⟨nb, no + j * 31 + 28, none⟩ = some (.bool e.x.d) := x28
      have y29 : w4.drew.cell? ⟨nb, no + j * 31 + 29, none⟩ = some (.bool e.x.o) := x29
      have y30 : w4.drew.cell? ⟨nb, no + j * 31 + 30, none⟩ = some (.int .u32 e.x.v) := x30
      have z28 : w4.drew.frozen? ⟨nb, no + j * 31 + 28, none⟩ = false := e28
      have z29 : w4.drew.frozen? ⟨nb, no + j * 31 + 29, none⟩ = false := e29
      have z30 : w4.drew.frozen? ⟨nb, no + j * 31 + 30, none⟩ = false := e30
      have h5 := H4.out.drew
      clear x28 x29 x30 e28 e29 e30 H4
      generalize w4.drew = w5 at h5 hHeld y28 y29 y30 z28 z29 z30 ⊢
      have HJ2 := Lib.hid (show (m.set j { e with x := { e.x with d := true } })[j]? = some { e with x := { e.x with d := true } } from List.getElem?_set_self HJL.out)
      have h6 := h5.one HJ.out { e with x := { e.x with d := true } } 28 (by decide) (a := no + j * 31 + 28) rfl (v := .bool true) rfl
      have h7 := h6.one HJ2.out { e with x := { e.x with d := true, o := ok } } 29 (by decide) (a := no + j * 31 + 29) rfl (v := .bool ok) rfl
      rw [List.set_set] at h7
      have h8 := h7.one (List.getElem?_set_self HJL.out) { e with x := e.x.done ok V } 30 (by decide) (a := no + j * 31 + 30) rfl (v := .int .u32 V) rfl
      rw [List.set_set] at h8
      have hs6 : _ ∧ _ := ⟨(frame_cells (h6.get 1 rfl)).2.2.2.2.2.2.2.2.2.2, HOK.out _ h6.rest⟩
      have hs7 : _ ∧ _ := ⟨(frame_cells (h7.get 1 rfl)).2.2.2.2.2.2.2.2.2.2, HOK.out _ h7.rest⟩
      have hs8 : _ ∧ _ := ⟨(frame_cells (h8.get 1 rfl)).2.2.2.2.2.2.2.2.2.2, HOK.out _ h8.rest⟩
      have HS6 := Lib.hid hs6
      have HS7 := Lib.hid hs7
      have HS8 := Lib.hid hs8
      have H8 := Lib.hid h8
      clear h5 h6 h7 h8 hs6 hs7 hs8
      refine wpAnyH_yield 0 (.slice (some ⟨nb, no, none⟩) m.length nc) rfl (by kernel_rfl) (by kernel_rfl) (by kernel_rfl) (fun d c a w h => hP _ d c a w h) (by rfl) (by assumption) (fun _ _ => by go_simp) ?_
      simp only [Act.put, List.setIfInBounds_toArray, List.set_cons_zero, List.set_cons_succ]
      refine wpAnyH_yield 1 (.int .i64 (j : Int)) rfl (by kernel_rfl) (by kernel_rfl) (by kernel_rfl) (fun d c a w h => hP _ d c a w h) (by rfl) (by assumption) (fun _ _ => by go_simp) ?_
      simp only [Act.put, List.setIfInBounds_toArray, List.set_cons_zero, List.set_cons_succ]
      refine wpAnyH_yield 2 (.slice (some ⟨nb, no, none⟩) m.length nc) rfl (by kernel_rfl) (by kernel_rfl) (by kernel_rfl) (fun d c a w h => hP _ d c a w h) (by rfl) (by assumption) (fun _ _ => by go_simp) ?_
      simp only [Act.put, List.setIfInBounds_toArray, List.set_cons_zero, List.set_cons_succ]
      refine wpAnyH_yield 3 (.int .i64 (j : Int)) rfl (by kernel_rfl) (by kernel_rfl) (by kernel_rfl) (fun d c a w h => hP _ d c a w h) (by rfl) (by assumption) (fun _ _ => by go_simp) ?_
      simp only [Act.put, List.setIfInBounds_toArray, List.set_cons_zero, List.set_cons_succ]
      refine wpAnyH_yield 4 (.slice (some ⟨nb, no, none⟩) m.length nc) rfl (by kernel_rfl) (by kernel_rfl) (by kernel_rfl) (fun d c a w h => hP _ d c a w h) (by rfl) (by assumption) (fun _ _ => by go_simp) ?_
      simp only [Act.put, List.setIfInBounds_toArray, List.set_cons_zero, List.set_cons_succ]
      refine wpAnyH_yield 5 (.int .i64 (j : Int)) rfl (by kernel_rfl) (by kernel_rfl) (by kernel_rfl) (fun d c a w h => hP _ d c a w h) (by rfl) (by assumption) (fun _ _ => by go_simp) ?_
      simp only [Act.put, List.setIfInBounds_toArray, List.set_cons_zero, List.set_cons_succ]
      refine wpAnyH_yield 6 (.slice (some ⟨bk, o, none⟩) len cap) rfl (by kernel_rfl) (by kernel_rfl) (by kernel_rfl) (fun d c a w h => hP _ d c a w h) (by rfl) (by assumption) (fun _ _ => by go_simp) ?_
      simp only [Act.put, List.setIfInBounds_toArray, List.set_cons_zero, List.set_cons_succ]
      refine wpAnyH_yield 7 (.int .i64 (i : Int)) rfl (by kernel_rfl) (by kernel_rfl) (by kernel_rfl) (fun d c a w h => hP _ d c a w h) (by rfl) (by assumption) (fun _ _ => by go_simp) ?_
      simp only [Act.put, List.setIfInBounds_toArray, List.set_cons_zero, List.set_cons_succ]
      refine wpAnyH_yield 8 (.pointer (some ⟨bk, o + i * 13, none⟩)) rfl (by kernel_rfl) (by kernel_rfl) (by kernel_rfl) (fun d c a w h => hP _ d c a w h) (by rfl) (by assumption) (fun _ _ => by go_simp) ?_
      simp only [Act.put, List.setIfInBounds_toArray, List.set_cons_zero, List.set_cons_succ]
      refine wpAnyH_yield 9 (.pointer (some ⟨bk, o + i * 13 + 12, none⟩)) rfl (by kernel_rfl) (by kernel_rfl) (by kernel_rfl) (fun d c a w h => hP _ d c a w h) (by rfl) (by assumption) (fun _ _ => by go_simp) ?_
      simp only [Act.put, List.setIfInBounds_toArray, List.set_cons_zero, List.set_cons_succ]
      refine wpAnyH_yield 10 (.bool ok) rfl (by kernel_rfl) (by kernel_rfl) (by kernel_rfl) (fun d c a w h => hP _ d c a w h) (by rfl) (by assumption) (fun _ hSw => by have hcs := hSw.2; go_simp) ?_
      simp only [Act.put, List.setIfInBounds_toArray, List.set_cons_zero, List.set_cons_succ]
      refine wpAnyH_yield 11 (.pointer (some ⟨b9, 10, none⟩)) rfl (by kernel_rfl) (by kernel_rfl) (by kernel_rfl) (fun d c a w h => hP _ d c a w h) (by rfl) (by assumption) (fun _ _ => by go_simp) ?_
      simp only [Act.put, List.setIfInBounds_toArray, List.set_cons_zero, List.set_cons_succ]
      refine wpAnyH_yield 12 (.int .u32 V) rfl (by kernel_rfl) (by kernel_rfl) (by kernel_rfl) (fun d c a w h => hP _ d c a w h) (by rfl) (by assumption) (fun _ hSw => by have hcs := hSw.1; go_simp) ?_
      simp only [Act.put, List.setIfInBounds_toArray, List.set_cons_zero, List.set_cons_succ]
      refine wpAnyH_yield 13 (.pointer (some ⟨nb, no + j * 31, none⟩)) rfl (by kernel_rfl) (by kernel_rfl) (by kernel_rfl) (fun d c a w h => hP _ d c a w h) (by rfl) (by assumption) (fun _ _ => by go_simp) ?_
      simp only [Act.put, List.setIfInBounds_toArray, List.set_cons_zero, List.set_cons_succ]
      refine wpAnyH_yield 14 (.pointer (some ⟨nb, no + j * 31 + 28, none⟩)) rfl (by kernel_rfl) (by kernel_rfl) (by kernel_rfl) (fun d c a w h => hP _ d c a w h) (by rfl) (by assumption) (fun _ _ => by go_simp) ?_
      simp only [Act.put, List.setIfInBounds_toArray, List.set_cons_zero, List.set_cons_succ]
      refine wpAnyH_ready (rs := [15]) (by kernel_rfl) (by simp) (AllReadyH.cons rfl (fun K hK => ?_) AllReadyH.nil)
      go_simp
      refine hK.out _ _ (HS6.out) (fun hHeld => ?_)
      clear hK K
      try simp only [Act.put, List.setIfInBounds_toArray, List.set_cons_zero, List.set_cons_succ]
      refine wpAnyH_yield 16 (.pointer (some ⟨nb, no + j * 31, none⟩)) rfl (by kernel_rfl) (by kernel_rfl) (by kernel_rfl) (fun d c a w h => hP _ d c a w h) (by rfl) (by assumption) (fun _ _ => by go_simp) ?_
      simp only [Act.put, List.setIfInBounds_toArray, List.set_cons_zero, List.set_cons_succ]
      refine wpAnyH_yield 17 (.pointer (some ⟨nb, no + j * 31 + 29, none⟩)) rfl (by kernel_rfl) (by kernel_rfl) (by kernel_rfl) (fun d c a w h => hP _ d c a w h) (by rfl) (by assumption) (fun _ _ => by go_simp) ?_
      simp only [Act.put, List.setIfInBounds_toArray, List.set_cons_zero, List.set_cons_succ]
      refine wpAnyH_ready (rs := [18]) (by kernel_rfl) (by simp) (AllReadyH.cons rfl (fun K hK => ?_) AllReadyH.nil)
      go_simp
      refine hK.out _ _ (HS7.out) (fun hHeld => ?_)
      clear hK K
      try simp only [Act.put, List.setIfInBounds_toArray, List.set_cons_zero, List.set_cons_succ]
      refine wpAnyH_yield 19 (.pointer (some ⟨nb, no + j * 31, none⟩)) rfl (by kernel_rfl) (by kernel_rfl) (by kernel_rfl) (fun d c a w h => hP _ d c a w h) (by rfl) (by assumption) (fun _ _ => by go_simp) ?_
      simp only [Act.put, List.setIfInBounds_toArray, List.set_cons_zero, List.set_cons_succ]
      refine wpAnyH_yield 20 (.pointer (some ⟨nb, no + j * 31 + 30, none⟩)) rfl (by kernel_rfl) (by kernel_rfl) (by kernel_rfl) (fun d c a w h => hP _ d c a w h) (by rfl) (by assumption) (fun _ _ => by go_simp) ?_
      simp only [Act.put, List.setIfInBounds_toArray, List.set_cons_zero, List.set_cons_succ]
      refine wpAnyH_ready (rs := [21]) (by kernel_rfl) (by simp) (AllReadyH.cons rfl (fun K hK => ?_) AllReadyH.nil)
      go_simp
      refine hK.out _ _ (HS8.out) (fun hHeld => ?_)
      clear hK K
      try simp only [Act.put, List.setIfInBounds_toArray, List.set_cons_zero, List.set_cons_succ]
      refine wpAnyH_done (by kernel_rfl) ?_ _
      clear hHeld y28 y29 y30 z28 z29 z30
      go_wp2_with fail
      exact HQ.out _ _ _ _ _ _ _ _ _ _ _ _ _ _ _ _ _ _ _ _ _ _ _ _ _ _ _ _ _ _ _ _ _ _ _ _ _ _ _  nb no nc _ _ _ _ (by simp) (HR.out.done ok V HAT.out.at_ HJ.out) H8.out.but.but

set_option maxHeartbeats 8000000 in
set_option maxRecDepth 1000000 in
/-- Its client knows how it ended. -/
theorem ack_part {w wr : World} {P N mb mo mc b9 nb no nc R : Nat} {q : List Dd.Cl} {m : List Dd.En} {z K c S T G a Q V : Int} {su st : Bool} (hN : N ≤ 7) (HR : Hid (Dd.Rel Dd.sureOf N q m)) (HZ : Hid (Dd.Idx m c a z)) (HD : Hid (Dw w wr P (N : Int) q [(nb, RowE no nc m), (b9, Is (.cells #[.int .i64 K, .int .i64 c, .int .i64 S, .int .i64 T, .int .i64 G, .int .u32 a, .int .i64 (R : Int), .bool su, .bool st, .int .i64 Q, .int .u32 V] 28 (0, 0))), (mb, RowE mo mc m)]))
    (Q' : Exit → Act → World → Prop) (v0 v1 v2 v3 v4 v5 v8 v11 v13 v14 v15 v16 v17 v18 v19 v20 v21 v22 v23 v24 v25 v26 v27 v28 v29 v30 v31 v32 v33 v34 v35 v36 v37 v38 v39 v40 v41 v42 v43 v44 v45 v46 v47 v48 v49 v50 v51 v52 v53 v54 v55 v56 v57 v58 v59 v60 v61 v62 v63 v64 v65 v66 v67 v68 v69 v70 v71 v72 v73 v74 v75 v76 v77 v78 v79 v80 v81 v82 v83 v84 v85 v86 v87 v88 v89 v90 v91 v92 v93 v94 v95 v96 v97 v98 v99 v100 v101 v102 v103 v104 v105 v106 v107 v108 v109 v110 v111 v112 v113 v114 v115 v116 v117 v118 v119 v120 v121 v122 v123 v124 v125 v126 v127 v128 v129 v130 v131 v132 v133 v134 v135 v136 v137 v138 v139 v140 v141 v142 v143 v144 v145 v146 v147 v148 v149 v150 v151 v152 v153 v154 v155 v156 v157 v158 v159 v160 v161 v162 v163 v164 v165 v166 v167 v168 v169 v170 v171 v172 v173 v174 v175 v176 v177 v178 v179 v180 v181 v182 v183 v184 v185 v186 v187 v188 v189 v190 v191 v192 v193 v194 v195 v196 v197 v198 v199 v200 v201 v202 v203 v204 v205 v206 v207 v208 v209 v210 v211 v212 v213 v214 v215 v216 v217 v218 v219 v220 v221 v222 v223 v224 v225 v226 v227 v228 v229 v230 v231 v232 v233 v234 v235 v236 v237 v238 v239 v240 v241 v242 v243 v244 v245 v246 v247 v248 v249 v250 v251 v252 v253 v254 v256 v257 v258 v259 v260 v261 v262 v263 v264 v265 v266 v267 v268 v269 v270 v271 v272 v273 v274 v275 v276 v277 v278 v279 v280 v281 v282 v283 v284 v285 v286 v287 v288 v289 v290 v291 v292 v293 v294 v295 v296 v297 v298 v299 v300 v301 v302 v303 v304 v305 v306 v307 v308 v309 v310 v311 v312 v313 v314 v315 v316 v317 v318 v319 v320 v321 v322 v323 : Value)
    (HQ : Hid (∀ (x258 x259 x260 x261 x262 x263 x264 x265 x266 x267 x268 x269 x270 x271 x272 x273 x274 x275 : Value) (nb' no' nc' nl : Nat) (q' : List Dd.Cl) (m' : List Dd.En) (wn : World), nl = m'.length → Dd.Rel Dd.sureOf N q' m' → Dw w wn P (N : Int) q' [(nb', RowE no' nc' m')] → Q' .normal ⟨#[v0, v1, v2, v3, v4, v5, .pointer (some ⟨P, 0, none⟩), .slice (some ⟨mb, mo, none⟩) m.length mc, v8, .pointer (some ⟨b9, 0, none⟩), .int .i64 z, v11, .slice (some ⟨nb', no', none⟩) nl nc', v13, v14, v15, v16, v17, v18, v19, v20, v21, v22, v23, v24, v25, v26, v27, v28, v29, v30, v31, v32, v33, v34, v35, v36, v37, v38, v39, v40, v41, v42, v43, v44, v45, v46, v47, v48, v49, v50, v51, v52, v53, v54, v55, v56, v57, v58, v59, v60, v61, v62, v63, v64, v65, v66, v67, v68, v69, v70, v71, v72, v73, v74, v75, v76, v77, v78, v79, v80, v81, v82, v83, v84, v85, v86, v87, v88, v89, v90, v91, v92, v93, v94, v95, v96, v97, v98, v99, v100, v101, v102, v103, v104, v105, v106, v107, v108, v109, v110, v111, v112, v113, v114, v115, v116, v117, v118, v119, v120, v121, v122, v123, v124, v125, v126, v127, v128, v129, v130, v131, v132, v133, v134, v135, v136, v137, v138, v139, v140, v141, v142, v143, v144, v145, v146, v147, v148, v149, v150, v151, v152, v153, v154, v155, v156, v157, v158, v159, v160, v161, v162, v163, v164, v165, v166, v167, v168, v169, v170, v171, v172, v173, v174, v175, v176, v177, v178, v179, v180, v181, v182, v183, v184, v185, v186, v187, v188, v189, v190, v191, v192, v193, v194, v195, v196, v197, v198, v199, v200, v201, v202, v203, v204, v205, v206, v207, v208, v209, v210, v211, v212, v213, v214, v215, v216, v217, v218, v219, v220, v221, v222, v223, v224, v225, v226, v227, v228, v229, v230, v231, v232, v233, v234, v235, v236, v237, v238, v239, v240, v241, v242, v243, v244, v245, v246, v247, v248, v249, v250, v251, v252, v253, v254, .bool true, v256, v257, x258, x259, x260, x261, x262, x263, x264, x265, x266, x267, x268, x269, x270, x271, x272, x273, x274, x275, v276, v277, v278, v279, v280, v281, v282, v283, v284, v285, v286, v287, v288, v289, v290, v291, v292, v293, v294, v295, v296, v297, v298, v299, v300, v301, v302, v303, v304, v305, v306, v307, v308, v309, v310, v311, v312, v313, v314, v315, v316, v317, v318, v319, v320, v321, v322, v323], []⟩ wn)) (hP : ∀ (v : Value) (d : Option Tmp) c a w, Q' (.panic c) (a.put d v) w → Q' (.panic c) a w) :
    Code.wp Try.prog ((Try.f3.body.bind (findIfs 255)).getD .skip) Q' ⟨#[v0, v1, v2, v3, v4, v5, .pointer (some ⟨P, 0, none⟩), .slice (some ⟨mb, mo, none⟩) m.length mc, v8, .pointer (some ⟨b9, 0, none⟩), .int .i64 z, v11, .slice (some ⟨nb, no, none⟩) m.length nc, v13, v14, v15, v16, v17, v18, v19, v20, v21, v22, v23, v24, v25, v26, v27, v28, v29, v30, v31, v32, v33, v34, v35, v36, v37, v38, v39, v40, v41, v42, v43, v44, v45, v46, v47, v48, v49, v50, v51, v52, v53, v54, v55, v56, v57, v58, v59, v60, v61, v62, v63, v64, v65, v66, v67, v68, v69, v70, v71, v72, v73, v74, v75, v76, v77, v78, v79, v80, v81, v82, v83, v84, v85, v86, v87, v88, v89, v90, v91, v92, v93, v94, v95, v96, v97, v98, v99, v100, v101, v102, v103, v104, v105, v106, v107, v108, v109, v110, v111, v112, v113, v114, v115, v116, v117, v118, v119, v120, v121, v122, v123, v124, v125, v126, v127, v128, v129, v130, v131, v132, v133, v134, v135, v136, v137, v138, v139, v140, v141, v142, v143, v144, v145, v146, v147, v148, v149, v150, v151, v152, v153, v154, v155, v156, v157, v158, v159, v160, v161, v162, v163, v164, v165, v166, v167, v168, v169, v170, v171, v172, v173, v174, v175, v176, v177, v178, v179, v180, v181, v182, v183, v184, v185, v186, v187, v188, v189, v190, v191, v192, v193, v194, v195, v196, v197, v198, v199, v200, v201, v202, v203, v204, v205, v206, v207, v208, v209, v210, v211, v212, v213, v214, v215, v216, v217, v218, v219, v220, v221, v222, v223, v224, v225, v226, v227, v228, v229, v230, v231, v232, v233, v234, v235, v236, v237, v238, v239, v240, v241, v242, v243, v244, v245, v246, v247, v248, v249, v250, v251, v252, v253, v254, .bool true, v256, v257, v258, v259, v260, v261, v262, v263, v264, v265, v266, v267, v268, v269, v270, v271, v272, v273, v274, v275, v276, v277, v278, v279, v280, v281, v282, v283, v284, v285, v286, v287, v288, v289, v290, v291, v292, v293, v294, v295, v296, v297, v298, v299, v300, v301, v302, v303, v304, v305, v306, v307, v308, v309, v310, v311, v312, v313, v314, v315, v316, v317, v318, v319, v320, v321, v322, v323], []⟩ wr := by
  conv => arg 2; whnf
  have hml : m.length ≤ 7 := Nat.le_trans HR.out.room hN
  have HQ7 := Lib.hid (show q.length ≤ 1000 by rw [HR.out.len]; omega)
  obtain ⟨f0, f1, f2, f3, f4, f5, f6, f7, f8, f9, f10⟩ := frame_cells (HD.out.get 1 rfl)
  rcases HZ.out with ⟨rfl, hno⟩ | ⟨j, e, hj, he, rfl⟩
  · have HNO := Lib.hid (HR.out.non hno)
    clear hno HZ
    go_wp2_with fail
    refine (dw_ack_no HQ7.out HNO.out _ HD.out).mono ?_
    rintro e0 w4 ⟨rfl, h4⟩
    have H4 := Lib.hid h4
    clear h4 HD f0 f1 f2 f3 f4 f5 f6 f7 f8 f9 f10
    go_wp2_with fail
    exact HQ.out _ _ _ _ _ _ _ _ _ _ _ _ _ _ _ _ _ _  nb no nc _ q m _ rfl HR.out H4.out.but.but
  · obtain ⟨i2, hat⟩ := HR.out.find hj he
    have hj0 : ¬(j : Int) < 0 := by omega
    have hj1 : (0 : Int) ≤ (j : Int) := by omega
    have hjm := (List.getElem?_eq_some_iff.1 hj).1
    have hjl : (j : Int) < (m.length : Int) := by omega
    have HAT := Lib.hid hat
    have HJ := Lib.hid hj
    have HJL := Lib.hid hjm
    have hlq := HR.out.len
    obtain ⟨y0, hy0⟩ : ∃ y, q[q.length - 1]? = some y := ⟨q[q.length - 1]'(by omega), List.getElem?_eq_getElem _⟩
    have HY := Lib.hid hy0
    clear hat hj he HZ hy0 hlq
    go_wp2_with fail
    refine (dw_ack HQ7.out HAT.out HY.out _ HD.out).mono ?_
    rintro e0 w4 ⟨rfl, h4⟩
    have H4 := Lib.hid h4
    clear h4 HD f0 f1 f2 f3 f4 f5 f6 f7 f8 f9 f10
    go_upto_region 48 with fail
    have hroom := (H4.out.ent 2 rfl).room
    have hmost := (H4.out.ent 2 rfl).most
    have hmx : mc ≤ 9223372036854775807 := Nat.le_trans hmost (by unfold maxLen; omega)
    have hk1 : ((j : Nat) : Int) ≤ (mc : Int) := by omega
    have hkw : IntKind.i64.wrap ((j : Int) + 1) = (j : Int) + 1 := by rw [IntKind.wrap_i64]; omega
    obtain ⟨ad, ln, cp, hs8, hln, hcl⟩ := entries_tail mb mo m.length mc j HJL.out
    clear hmost
    refine wp_region_held_drew (S := fun _ => True) (by kernel_rfl) trivial (fun hHeld => ?_)
    have h5 := H4.out.drew
    clear H4
    generalize w4.drew = w5 at h5 ⊢
    have H5 := Lib.hid h5
    have HLN := Lib.hid hln
    have HCL := Lib.hid hcl
    clear h5 hln hcl
    refine wpAnyH_yield 1 (.slice (some ⟨mb, mo, none⟩) m.length mc) rfl (by kernel_rfl) (by kernel_rfl) (by kernel_rfl) (fun d c a w h => hP _ d c a w h) (by rfl) (by assumption) (fun _ _ => by go_simp) ?_
    simp only [Act.put, List.setIfInBounds_toArray, List.set_cons_zero, List.set_cons_succ]
    refine wpAnyH_yield 2 (.int .i64 (j : Int)) rfl (by kernel_rfl) (by kernel_rfl) (by kernel_rfl) (fun d c a w h => hP _ d c a w h) (by rfl) (by assumption) (fun _ _ => by go_simp) ?_
    simp only [Act.put, List.setIfInBounds_toArray, List.set_cons_zero, List.set_cons_succ]
    refine wpAnyH_yield 3 (.slice (some ⟨mb, mo, none⟩) j mc) rfl (by kernel_rfl) (by kernel_rfl) (by kernel_rfl) (fun d c a w h => hP _ d c a w h) (by rfl) (by assumption) (fun _ _ => by go_simp) ?_
    simp only [Act.put, List.setIfInBounds_toArray, List.set_cons_zero, List.set_cons_succ]
    refine wpAnyH_yield 5 (.slice (some ⟨mb, mo, none⟩) m.length mc) rfl (by kernel_rfl) (by kernel_rfl) (by kernel_rfl) (fun d c a w h => hP _ d c a w h) (by rfl) (by assumption) (fun _ _ => by go_simp) ?_
    simp only [Act.put, List.setIfInBounds_toArray, List.set_cons_zero, List.set_cons_succ]
    refine wpAnyH_yield 6 (.int .i64 (j : Int)) rfl (by kernel_rfl) (by kernel_rfl) (by kernel_rfl) (fun d c a w h => hP _ d c a w h) (by rfl) (by assumption) (fun _ _ => by go_simp) ?_
    simp only [Act.put, List.setIfInBounds_toArray, List.set_cons_zero, List.set_cons_succ]
    refine wpAnyH_yield 7 (.int .i64 ((j : Int) + 1)) rfl (by kernel_rfl) (by kernel_rfl) (by kernel_rfl) (fun d c a w h => hP _ d c a w h) (by rfl) (by assumption) (fun _ _ => by go_simp) ?_
    simp only [Act.put, List.setIfInBounds_toArray, List.set_cons_zero, List.set_cons_succ]
    refine wpAnyH_yield 8 (.slice (some ad) ln cp) rfl (by kernel_rfl) (by kernel_rfl) (by kernel_rfl) (fun d c a w h => hP _ d c a w h) (by rfl) (by assumption) (fun _ _ => by go_simp) ?_
    simp only [Act.put, List.setIfInBounds_toArray, List.set_cons_zero, List.set_cons_succ]
    refine wpAnyH_ready (rs := [0]) (by kernel_rfl) (by simp) (AllReadyH.cons rfl (fun K hK => ?_) AllReadyH.nil)
    go_simp
    have h6 := H5.out.tail.none_
    clear H5
    generalize w5.alloc _ = w6 at h6 ⊢
    generalize w5.heap.size = b0 at h6 ⊢
    have H6 := Lib.hid h6
    clear h6
    refine hK.out _ _ (trivial) (fun hHeld => ?_)
    clear hK K
    try simp only [Act.put, List.setIfInBounds_toArray, List.set_cons_zero, List.set_cons_succ]
    refine wpAnyH_ready (rs := [4]) (by kernel_rfl) (by simp) (AllReadyH.cons rfl (fun K hK => ?_) AllReadyH.nil)
    obtain ⟨g1, o1, c1, w7, hrun, h7⟩ := H6.out.add2 (nl := 0) rfl (by simp) (ys := m.take j) (k := j) (c := mc) (by rw [List.length_take]; omega) (by omega) (Dd.itmE.first (H6.out.ent 2 rfl) j) 25
    refine step_append_run rfl _ _ 25 rfl rfl rfl hrun ?_
    have H7 := Lib.hid h7
    clear hrun h7 H6
    refine hK.out _ _ trivial (fun hHeld => ?_)
    clear hK K
    try simp only [Act.put, List.setIfInBounds_toArray]
    refine wpAnyH_ready (rs := [9]) (by kernel_rfl) (by simp) (AllReadyH.cons rfl (fun K hK => ?_) AllReadyH.nil)
    obtain ⟨g2, o2, c2, w8, hrun, h8⟩ := H7.out.add2 (nl := 0 + j) (by simp; omega) (by simp; omega) (ys := m.drop (j + 1)) (k := ln) (c := cp) (ad := ad) (by rw [List.length_drop, HLN.out]) (by have := HLN.out; omega) (HCL.out _ _ _ m rfl (H7.out.ent 2 rfl)) 25
    refine step_append_run rfl _ _ 25 rfl rfl rfl hrun ?_
    have H8 := Lib.hid h8
    clear hrun h8 H7
    refine hK.out _ _ trivial (fun hHeld => ?_)
    clear hK K
    try simp only [Act.put]
    refine wpAnyH_ready (rs := [10]) (by kernel_rfl) (by simp) (AllReadyH.cons rfl (fun K hK => ?_) AllReadyH.nil)
    go_simp
    refine hK.out _ _ (trivial) (fun hHeld => ?_)
    clear hK K
    try simp only [Act.put, List.setIfInBounds_toArray, List.set_cons_zero, List.set_cons_succ]
    refine wpAnyH_done (by kernel_rfl) ?_ _
    clear hHeld
    go_wp2_with fail
    exact HQ.out _ _ _ _ _ _ _ _ _ _ _ _ _ _ _ _ _ _  g2 o2 c2 _ _ _ _ (by have := HLN.out; simp; omega) (HR.out.cut HAT.out.at_ HJ.out HY.out) H8.out.but.but

set_option maxHeartbeats 8000000 in
set_option maxRecDepth 1000000 in
/-- A question. -/
theorem value_part {w wr : World} {P N mb mo mc b9 nb no nc R : Nat} {q : List Dd.Cl} {m : List Dd.En} {z K c S T G a Q V : Int} {su st : Bool} (hN : N ≤ 7) (HR : Hid (Dd.Rel Dd.sureOf N q m)) (HZ : Hid (Dd.Idx m c a z)) (HD : Hid (Dw w wr P (N : Int) q [(nb, RowE no nc m), (b9, Is (.cells #[.int .i64 K, .int .i64 c, .int .i64 S, .int .i64 T, .int .i64 G, .int .u32 a, .int .i64 (R : Int), .bool su, .bool st, .int .i64 Q, .int .u32 V] 28 (0, 0))), (mb, RowE mo mc m)]))
    (Q' : Exit → Act → World → Prop) (v0 v1 v2 v3 v4 v5 v8 v11 v13 v14 v15 v16 v17 v18 v19 v20 v21 v22 v23 v24 v25 v26 v27 v28 v29 v30 v31 v32 v33 v34 v35 v36 v37 v38 v39 v40 v41 v42 v43 v44 v45 v46 v47 v48 v49 v50 v51 v52 v53 v54 v55 v56 v57 v58 v59 v60 v61 v62 v63 v64 v65 v66 v67 v68 v69 v70 v71 v72 v73 v74 v75 v76 v77 v78 v79 v80 v81 v82 v83 v84 v85 v86 v87 v88 v89 v90 v91 v92 v93 v94 v95 v96 v97 v98 v99 v100 v101 v102 v103 v104 v105 v106 v107 v108 v109 v110 v111 v112 v113 v114 v115 v116 v117 v118 v119 v120 v121 v122 v123 v124 v125 v126 v127 v128 v129 v130 v131 v132 v133 v134 v135 v136 v137 v138 v139 v140 v141 v142 v143 v144 v145 v146 v147 v148 v149 v150 v151 v152 v153 v154 v155 v156 v157 v158 v159 v160 v161 v162 v163 v164 v165 v166 v167 v168 v169 v170 v171 v172 v173 v174 v175 v176 v177 v178 v179 v180 v181 v182 v183 v184 v185 v186 v187 v188 v189 v190 v191 v192 v193 v194 v195 v196 v197 v198 v199 v200 v201 v202 v203 v204 v205 v206 v207 v208 v209 v210 v211 v212 v213 v214 v215 v216 v217 v218 v219 v220 v221 v222 v223 v224 v225 v226 v227 v228 v229 v230 v231 v232 v233 v234 v235 v236 v237 v238 v239 v240 v241 v242 v243 v244 v245 v246 v247 v248 v249 v250 v251 v252 v253 v254 v256 v257 v258 v259 v260 v261 v262 v263 v264 v265 v266 v267 v268 v269 v270 v271 v272 v273 v274 v275 v276 v277 v278 v279 v280 v281 v282 v283 v284 v285 v286 v287 v288 v289 v290 v291 v292 v293 v294 v295 v296 v297 v298 v299 v300 v301 v302 v303 v304 v305 v306 v307 v308 v309 v310 v311 v312 v313 v314 v315 v316 v317 v318 v319 v320 v321 v322 v323 : Value)
    (HQ : Hid (∀ (x17 x18 x19 x107 x108 x109 x110 x111 x112 x113 x114 x115 x116 x117 x118 x119 x120 x121 x122 x123 x124 x125 x126 x127 x128 x129 x130 x131 x132 x133 x134 x135 x136 x137 x138 x139 x140 x141 x142 x143 x144 x145 x146 x147 x148 x149 x150 x151 x152 x153 x154 x155 x156 : Value) (wn : World), Dw w wn P (N : Int) q [(nb, RowE no nc m)] → Q' .normal ⟨#[v0, v1, v2, v3, v4, v5, .pointer (some ⟨P, 0, none⟩), .slice (some ⟨mb, mo, none⟩) m.length mc, v8, .pointer (some ⟨b9, 0, none⟩), .int .i64 z, v11, .slice (some ⟨nb, no, none⟩) m.length nc, v13, v14, v15, v16, x17, x18, x19, v20, v21, v22, v23, v24, v25, v26, v27, v28, v29, v30, v31, v32, v33, v34, v35, v36, v37, v38, v39, v40, v41, v42, v43, v44, v45, v46, v47, v48, v49, v50, v51, v52, v53, v54, v55, v56, v57, v58, v59, v60, v61, v62, v63, v64, v65, v66, v67, v68, v69, v70, v71, v72, v73, v74, v75, v76, v77, v78, v79, v80, v81, v82, v83, v84, v85, v86, v87, v88, v89, v90, v91, v92, v93, v94, v95, v96, v97, v98, v99, v100, v101, v102, v103, v104, v105, v106, x107, x108, x109, x110, x111, x112, x113, x114, x115, x116, x117, x118, x119, x120, x121, x122, x123, x124, x125, x126, x127, x128, x129, x130, x131, x132, x133, x134, x135, x136, x137, x138, x139, x140, x141, x142, x143, x144, x145, x146, x147, x148, x149, x150, x151, x152, x153, x154, x155, x156, v157, v158, v159, v160, v161, v162, v163, v164, v165, v166, v167, v168, v169, v170, v171, v172, v173, v174, v175, v176, v177, v178, v179, v180, v181, v182, v183, v184, v185, v186, v187, v188, v189, v190, v191, v192, v193, v194, v195, v196, v197, v198, v199, v200, v201, v202, v203, v204, v205, v206, v207, v208, v209, v210, v211, v212, v213, v214, v215, v216, v217, v218, v219, v220, v221, v222, v223, v224, v225, v226, v227, v228, v229, v230, v231, v232, v233, v234, v235, v236, v237, v238, v239, v240, v241, v242, v243, v244, v245, v246, v247, v248, v249, v250, v251, v252, v253, v254, .bool false, v256, v257, v258, v259, v260, v261, v262, v263, v264, v265, v266, v267, v268, v269, v270, v271, v272, v273, v274, v275, v276, v277, v278, v279, v280, v281, v282, v283, v284, v285, v286, v287, v288, v289, v290, v291, v292, v293, v294, v295, v296, v297, v298, v299, v300, v301, v302, v303, v304, v305, v306, v307, v308, v309, v310, v311, v312, v313, v314, v315, v316, v317, v318, v319, v320, v321, v322, v323], []⟩ wn)) (_hP : ∀ (v : Value) (d : Option Tmp) c a w, Q' (.panic c) (a.put d v) w → Q' (.panic c) a w) :
    Code.wp Try.prog ((Try.f3.body.bind (findIfs 255)).getD .skip) Q' ⟨#[v0, v1, v2, v3, v4, v5, .pointer (some ⟨P, 0, none⟩), .slice (some ⟨mb, mo, none⟩) m.length mc, v8, .pointer (some ⟨b9, 0, none⟩), .int .i64 z, v11, .slice (some ⟨nb, no, none⟩) m.length nc, v13, v14, v15, v16, v17, v18, v19, v20, v21, v22, v23, v24, v25, v26, v27, v28, v29, v30, v31, v32, v33, v34, v35, v36, v37, v38, v39, v40, v41, v42, v43, v44, v45, v46, v47, v48, v49, v50, v51, v52, v53, v54, v55, v56, v57, v58, v59, v60, v61, v62, v63, v64, v65, v66, v67, v68, v69, v70, v71, v72, v73, v74, v75, v76, v77, v78, v79, v80, v81, v82, v83, v84, v85, v86, v87, v88, v89, v90, v91, v92, v93, v94, v95, v96, v97, v98, v99, v100, v101, v102, v103, v104, v105, v106, v107, v108, v109, v110, v111, v112, v113, v114, v115, v116, v117, v118, v119, v120, v121, v122, v123, v124, v125, v126, v127, v128, v129, v130, v131, v132, v133, v134, v135, v136, v137, v138, v139, v140, v141, v142, v143, v144, v145, v146, v147, v148, v149, v150, v151, v152, v153, v154, v155, v156, v157, v158, v159, v160, v161, v162, v163, v164, v165, v166, v167, v168, v169, v170, v171, v172, v173, v174, v175, v176, v177, v178, v179, v180, v181, v182, v183, v184, v185, v186, v187, v188, v189, v190, v191, v192, v193, v194, v195, v196, v197, v198, v199, v200, v201, v202, v203, v204, v205, v206, v207, v208, v209, v210, v211, v212, v213, v214, v215, v216, v217, v218, v219, v220, v221, v222, v223, v224, v225, v226, v227, v228, v229, v230, v231, v232, v233, v234, v235, v236, v237, v238, v239, v240, v241, v242, v243, v244, v245, v246, v247, v248, v249, v250, v251, v252, v253, v254, .bool false, v256, v257, v258, v259, v260, v261, v262, v263, v264, v265, v266, v267, v268, v269, v270, v271, v272, v273, v274, v275, v276, v277, v278, v279, v280, v281, v282, v283, v284, v285, v286, v287, v288, v289, v290, v291, v292, v293, v294, v295, v296, v297, v298, v299, v300, v301, v302, v303, v304, v305, v306, v307, v308, v309, v310, v311, v312, v313, v314, v315, v316, v317, v318, v319, v320, v321, v322, v323], []⟩ wr := by
  conv => arg 2; whnf
  have hml : m.length ≤ 7 := Nat.le_trans HR.out.room hN
  have HQ7 := Lib.hid (show q.length ≤ 1000 by rw [HR.out.len]; omega)
  obtain ⟨f0, f1, f2, f3, f4, f5, f6, f7, f8, f9, f10⟩ := frame_cells (HD.out.get 1 rfl)
  rcases HZ.out with ⟨rfl, hno⟩ | ⟨j, e, hj, he, rfl⟩
  · have HNO := Lib.hid (HR.out.non hno)
    clear hno HZ
    go_wp2_with fail
    refine (dw_value_no HQ7.out HNO.out _ HD.out).mono ?_
    rintro e0 w4 ⟨rfl, hb⟩
    have H4 := Lib.hid (HD.out.below hb)
    clear hb HD f0 f1 f2 f3 f4 f5 f6 f7 f8 f9 f10
    go_wp2_with fail
    exact HQ.out _ _ _ _ _ _ _ _ _ _ _ _ _ _ _ _ _ _ _ _ _ _ _ _ _ _ _ _ _ _ _ _ _ _ _ _ _ _ _ _ _ _ _ _ _ _ _ _ _ _ _ _ _  _ H4.out.but.but
  · obtain ⟨i2, hat⟩ := HR.out.find hj he
    have hj0 : ¬(j : Int) < 0 := by omega
    have hj1 : (0 : Int) ≤ (j : Int) := by omega
    have hjm := (List.getElem?_eq_some_iff.1 hj).1
    have hjl : (j : Int) < (m.length : Int) := by omega
    have HAT := Lib.hid hat
    have HJ := Lib.hid hj
    have hund := HR.out.und e (List.mem_of_getElem? hj)
    clear hat hj he HZ
    go_wp2_with fail
    refine (dw_value HQ7.out HAT.out _ HD.out).mono ?_
    rintro e0 w4 ⟨rfl, hb⟩
    have H4 := Lib.hid (HD.out.below hb)
    clear hb HD f0 f1 f2 f3 f4 f5 f6 f7 f8 f9 f10
    obtain ⟨-, -, -, -, d28, d29, d30, -⟩ := H4.out.item 2 rfl HJ.out
    rcases Bool.eq_false_or_eq_true e.x.d with hd | hd
    · clear hund
      rw [hd] at d28 ⊢
      clear hd
      generalize e.x.v = ev at d30 ⊢
      generalize e.x.o = eo at d29 ⊢
      go_wp2_with fail
      exact HQ.out _ _ _ _ _ _ _ _ _ _ _ _ _ _ _ _ _ _ _ _ _ _ _ _ _ _ _ _ _ _ _ _ _ _ _ _ _ _ _ _ _ _ _ _ _ _ _ _ _ _ _ _ _  _ H4.out.but.but
    · obtain ⟨hv, ho⟩ := hund hd
      rw [hd] at d28 ⊢
      rw [hv] at d30 ⊢
      rw [ho] at d29 ⊢
      clear hd hv ho hund
      go_wp2_with fail
      exact HQ.out _ _ _ _ _ _ _ _ _ _ _ _ _ _ _ _ _ _ _ _ _ _ _ _ _ _ _ _ _ _ _ _ _ _ _ _ _ _ _ _ _ _ _ _ _ _ _ _ _ _ _ _ _  _ H4.out.but.but
end Go.Proofs.Ythkcomnmihmccaa
