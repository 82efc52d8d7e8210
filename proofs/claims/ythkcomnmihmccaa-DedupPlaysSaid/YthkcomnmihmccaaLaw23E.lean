/- DedupPlays: what becomes of a request, in the cache and in the law's own list. -/
import Derived.Test.YthkcomnmihmccaaLaw23D
namespace Go.Proofs.Ythkcomnmihmccaa
open Go.RowKit Go.Sort

/-- The 'if' on a slot that does something where it says yes, taken out of a body. -/
def findIfs (n : Nat) : Code → Option Code
  | .cond (.tmp k) (.seq a c) b => if k = n then some (.cond (.tmp k) (.seq a c) b) else (match findIfs n (.seq a c) with
    | some c => some c
    | none => findIfs n b)
  | .cond _ a b => match findIfs n a with
    | some c => some c
    | none => findIfs n b
  | .seq a b => match findIfs n a with
    | some c => some c
    | none => findIfs n b
  | .loop c => findIfs n c
  | .block _ c => findIfs n c
  | .scope c => findIfs n c
  | _ => none

/-- An entry that was not there. -/
def Dd.fresh (K _c S T G _a R : Int) (su st : Bool) (Q V : Int) (x : Dd.Cl) : Dd.En := ⟨K, S, T, G, R, su, st, Q, V, x⟩
theorem Try.builtEntry (K c S T G a R Q V : Int) (su st : Bool) : Try.prog.built 33 [(0, .agg #[.int .i64 K, .int .i64 c, .int .i64 S, .int .i64 T, .int .i64 G, .int .u32 a, .int .i64 R, .bool su, .bool st, .int .i64 Q, .int .u32 V]), (2, .int .i64 1)] = some (Dd.fresh K c S T G a R su st Q V ⟨c, a, fun _ => false, 1, false, false, 0⟩).cells.toArray := by kernel_rfl
def Dd.sureOf (k : Int) : Bool := decide (bits .and .u32 k 1 = 1)

set_option maxHeartbeats 8000000 in
set_option maxRecDepth 1000000 in
/-- A request. -/
theorem meet_part {w wr : World} {P N mb mo mc b9 nb no nc b13 R : Nat} {q : List Dd.Cl} {m : List Dd.En} {OLD : List Value} {z K c S T G a Q V : Int} {su st : Bool} (hN : N ≤ 7) (hR : R < 4) (HR : Hid (Dd.Rel Dd.sureOf N q m)) (HSU : Hid (su = Dd.sureOf a)) (HZ : Hid (Dd.Idx m c a z)) (HOLD : Hid (∀ (j : Nat) (e : Dd.En), z = (j : Int) → m[j]? = some e → OLD = e.cells)) (HD : Hid (Dw w wr P (N : Int) q [(nb, RowE no nc m), (b13, Is (.cells OLD.toArray 33 (0, 0))), (b9, Is (.cells #[.int .i64 K, .int .i64 c, .int .i64 S, .int .i64 T, .int .i64 G, .int .u32 a, .int .i64 (R : Int), .bool su, .bool st, .int .i64 Q, .int .u32 V] 28 (0, 0))), (mb, RowE mo mc m)]))
    (Q' : Exit → Act → World → Prop) (v0 v1 v2 v3 v4 v8 v11 v14 v15 v16 v17 v18 v19 v20 v21 v22 v23 v24 v25 v26 v27 v28 v29 v30 v31 v32 v33 v34 v35 v36 v37 v38 v39 v40 v41 v42 v43 v44 v45 v46 v47 v48 v49 v50 v51 v52 v53 v54 v55 v56 v57 v58 v59 v60 v61 v62 v63 v64 v65 v66 v67 v68 v69 v70 v71 v72 v73 v74 v75 v76 v77 v78 v79 v80 v81 v82 v83 v84 v85 v86 v87 v88 v89 v90 v91 v92 v93 v94 v95 v96 v97 v98 v99 v100 v101 v102 v103 v104 v105 v106 v107 v108 v109 v110 v111 v112 v113 v114 v115 v116 v117 v118 v119 v120 v121 v122 v123 v124 v125 v126 v127 v128 v129 v130 v131 v132 v133 v134 v135 v136 v137 v138 v139 v140 v141 v142 v143 v144 v145 v146 v147 v148 v149 v150 v151 v152 v153 v154 v155 v156 v158 v159 v160 v161 v162 v163 v164 v165 v166 v167 v168 v169 v170 v171 v172 v173 v174 v175 v176 v177 v178 v179 v180 v181 v182 v183 v184 v185 v186 v187 v188 v189 v190 v191 v192 v193 v194 v195 v196 v197 v198 v199 v200 v201 v202 v203 v204 v205 v206 v207 v208 v209 v210 v211 v212 v213 v214 v215 v216 v217 v218 v219 v220 v221 v222 v223 v224 v225 v226 v227 v228 v229 v230 v231 v232 v233 v234 v235 v236 v237 v238 v239 v240 v241 v242 v243 v244 v245 v246 v247 v248 v249 v250 v251 v252 v253 v254 v255 v256 v257 v258 v259 v260 v261 v262 v263 v264 v265 v266 v267 v268 v269 v270 v271 v272 v273 v274 v275 v276 v277 v278 v279 v280 v281 v282 v283 v284 v285 v286 v287 v288 v289 v290 v291 v292 v293 v294 v295 v296 v297 v298 v299 v300 v301 v302 v303 v304 v305 v306 v307 v308 v309 v310 v311 v312 v313 v314 v315 v316 v317 v318 v319 v320 v321 v322 v323 : Value)
    (HQ : Hid (∀ (x15 x16 x160 x161 x162 x163 x164 x165 x166 x167 x168 x169 x170 x171 x172 x173 x174 x175 x176 x177 x178 x179 x180 x181 x182 x183 x184 x185 x186 x187 x188 x189 x190 x191 x192 x193 x194 x195 x196 x197 x198 x199 x200 x201 x202 x203 x204 x205 x206 x207 x208 x209 x210 x211 x212 : Value) (nb' no' nc' nl : Nat) (q' : List Dd.Cl) (m' : List Dd.En) (wn : World), nl = m'.length → Dd.Rel Dd.sureOf N q' m' → Dw w wn P (N : Int) q' [(nb', RowE no' nc' m')] → Q' .normal ⟨#[v0, v1, v2, v3, v4, .int .i64 (N : Int), .pointer (some ⟨P, 0, none⟩), .slice (some ⟨mb, mo, none⟩) m.length mc, v8, .pointer (some ⟨b9, 0, none⟩), .int .i64 z, v11, .slice (some ⟨nb', no', none⟩) nl nc', .pointer (some ⟨b13, 0, none⟩), v14, x15, x16, v17, v18, v19, v20, v21, v22, v23, v24, v25, v26, v27, v28, v29, v30, v31, v32, v33, v34, v35, v36, v37, v38, v39, v40, v41, v42, v43, v44, v45, v46, v47, v48, v49, v50, v51, v52, v53, v54, v55, v56, v57, v58, v59, v60, v61, v62, v63, v64, v65, v66, v67, v68, v69, v70, v71, v72, v73, v74, v75, v76, v77, v78, v79, v80, v81, v82, v83, v84, v85, v86, v87, v88, v89, v90, v91, v92, v93, v94, v95, v96, v97, v98, v99, v100, v101, v102, v103, v104, v105, v106, v107, v108, v109, v110, v111, v112, v113, v114, v115, v116, v117, v118, v119, v120, v121, v122, v123, v124, v125, v126, v127, v128, v129, v130, v131, v132, v133, v134, v135, v136, v137, v138, v139, v140, v141, v142, v143, v144, v145, v146, v147, v148, v149, v150, v151, v152, v153, v154, v155, v156, .bool true, v158, v159, x160, x161, x162, x163, x164, x165, x166, x167, x168, x169, x170, x171, x172, x173, x174, x175, x176, x177, x178, x179, x180, x181, x182, x183, x184, x185, x186, x187, x188, x189, x190, x191, x192, x193, x194, x195, x196, x197, x198, x199, x200, x201, x202, x203, x204, x205, x206, x207, x208, x209, x210, x211, x212, v213, v214, v215, v216, v217, v218, v219, v220, v221, v222, v223, v224, v225, v226, v227, v228, v229, v230, v231, v232, v233, v234, v235, v236, v237, v238, v239, v240, v241, v242, v243, v244, v245, v246, v247, v248, v249, v250, v251, v252, v253, v254, v255, v256, v257, v258, v259, v260, v261, v262, v263, v264, v265, v266, v267, v268, v269, v270, v271, v272, v273, v274, v275, v276, v277, v278, v279, v280, v281, v282, v283, v284, v285, v286, v287, v288, v289, v290, v291, v292, v293, v294, v295, v296, v297, v298, v299, v300, v301, v302, v303, v304, v305, v306, v307, v308, v309, v310, v311, v312, v313, v314, v315, v316, v317, v318, v319, v320, v321, v322, v323], []⟩ wn)) (hP : ∀ (v : Value) (d : Option Tmp) c a w, Q' (.panic c) (a.put d v) w → Q' (.panic c) a w) :
    Code.wp Try.prog ((Try.f3.body.bind (findIfs 157)).getD .skip) Q' ⟨#[v0, v1, v2, v3, v4, .int .i64 (N : Int), .pointer (some ⟨P, 0, none⟩), .slice (some ⟨mb, mo, none⟩) m.length mc, v8, .pointer (some ⟨b9, 0, none⟩), .int .i64 z, v11, .slice (some ⟨nb, no, none⟩) m.length nc, .pointer (some ⟨b13, 0, none⟩), v14, v15, v16, v17, v18, v19, v20, v21, v22, v23, v24, v25, v26, v27, v28, v29, v30, v31, v32, v33, v34, v35, v36, v37, v38, v39, v40, v41, v42, v43, v44, v45, v46, v47, v48, v49, v50, v51, v52, v53, v54, v55, v56, v57, v58, v59, v60, v61, v62, v63, v64, v65, v66, v67, v68, v69, v70, v71, v72, v73, v74, v75, v76, v77, v78, v79, v80, v81, v82, v83, v84, v85, v86, v87, v88, v89, v90, v91, v92, v93, v94, v95, v96, v97, v98, v99, v100, v101, v102, v103, v104, v105, v106, v107, v108, v109, v110, v111, v112, v113, v114, v115, v116, v117, v118, v119, v120, v121, v122, v123, v124, v125, v126, v127, v128, v129, v130, v131, v132, v133, v134, v135, v136, v137, v138, v139, v140, v141, v142, v143, v144, v145, v146, v147, v148, v149, v150, v151, v152, v153, v154, v155, v156, .bool true, v158, v159, v160, v161, v162, v163, v164, v165, v166, v167, v168, v169, v170, v171, v172, v173, v174, v175, v176, v177, v178, v179, v180, v181, v182, v183, v184, v185, v186, v187, v188, v189, v190, v191, v192, v193, v194, v195, v196, v197, v198, v199, v200, v201, v202, v203, v204, v205, v206, v207, v208, v209, v210, v211, v212, v213, v214, v215, v216, v217, v218, v219, v220, v221, v222, v223, v224, v225, v226, v227, v228, v229, v230, v231, v232, v233, v234, v235, v236, v237, v238, v239, v240, v241, v242, v243, v244, v245, v246, v247, v248, v249, v250, v251, v252, v253, v254, v255, v256, v257, v258, v259, v260, v261, v262, v263, v264, v265, v266, v267, v268, v269, v270, v271, v272, v273, v274, v275, v276, v277, v278, v279, v280, v281, v282, v283, v284, v285, v286, v287, v288, v289, v290, v291, v292, v293, v294, v295, v296, v297, v298, v299, v300, v301, v302, v303, v304, v305, v306, v307, v308, v309, v310, v311, v312, v313, v314, v315, v316, v317, v318, v319, v320, v321, v322, v323], []⟩ wr := by
  conv => arg 2; whnf
  have hml : m.length ≤ 7 := Nat.le_trans HR.out.room hN
  have HQ7 := Lib.hid (show q.length ≤ 1000 by rw [HR.out.len]; omega)
  obtain ⟨f0, f1, f2, f3, f4, f5, f6, f7, f8, f9, f10⟩ := frame_cells (HD.out.get 2 rfl)
  rcases HZ.out with ⟨rfl, hno⟩ | ⟨j, e, hj, he, rfl⟩
  · have HNO := Lib.hid hno
    clear hno HOLD HZ
    by_cases hNm : N ≤ m.length
    · have hNm' : (N : Int) ≤ (m.length : Int) := by omega
      go_wp2_with fail
      refine (dw_full (T := R) (by omega) HQ7.out (HR.out.non HNO.out) (by rw [HR.out.len]; omega) _ HD.out).mono ?_
      rintro e w3 ⟨rfl, h3⟩
      have H3 := Lib.hid h3
      clear h3 HD f0 f1 f2 f3 f4 f5 f6 f7 f8 f9 f10
      go_wp2_with fail
      exact HQ.out _ _ _ _ _ _ _ _ _ _ _ _ _ _ _ _ _ _ _ _ _ _ _ _ _ _ _ _ _ _ _ _ _ _ _ _ _ _ _ _ _ _ _ _ _ _ _ _ _ _ _ _ _ _ _  nb no nc _ q m _ rfl HR.out H3.out.but.but.but
    · have hNm' : ¬(N : Int) ≤ (m.length : Int) := by omega
      have hNm2 : (m.length : Int) < (N : Int) := by omega
      go_upto_region 33 with fail
      refine wp_region_lit ?_
      refine Great.wpList_readTo rfl _ rfl (.agg #[.int .i64 K, .int .i64 c, .int .i64 S, .int .i64 T, .int .i64 G, .int .u32 a, .int .i64 (R : Int), .bool su, .bool st, .int .i64 Q, .int .u32 V]) (by go_simp) ?_
      simp only [Act.put, List.setIfInBounds_toArray, List.set_cons_zero, List.set_cons_succ]
      refine Great.wpList_runTo rfl _ rfl (.agg (Dd.fresh K c S T G a R su st Q V ⟨c, a, fun _ => false, 1, false, false, 0⟩).cells.toArray) _ (exec_build_is [(0, .tmp 192), (2, .const (.int .i64 1))] rfl (by exact Try.builtEntry K c S T G a R Q V su st)) ?_
      simp only [Act.put, List.setIfInBounds_toArray, List.set_cons_zero, List.set_cons_succ]
      obtain ⟨zc, hz, hal⟩ := exec_alloc_big Try.bigEntry
      refine Great.wpList_runTo rfl _ rfl _ _ (by exact hal _ _ rfl _) ?_
      simp only [Act.put, List.setIfInBounds_toArray, List.set_cons_zero, List.set_cons_succ]
      refine wpList_store_new Try.bigEntry rfl (.tmp 16) (.tmp 193) rfl rfl rfl hz rfl (Dd.itmE.one _) ?_
      refine wpList_nil ?_
      simp only [Act.put]
      clear hal hz f0 f1 f2 f3 f4 f5 f6 f7 f8 f9 f10
      have H3 := Lib.hid (HD.out.lay (.cells (Dd.fresh K c S T G a R su st Q V ⟨c, a, fun _ => false, 1, false, false, 0⟩).cells.toArray 33))
      clear HD
      generalize wr.alloc _ = w3 at H3 ⊢
      generalize wr.heap.size = b16 at H3 ⊢
      obtain ⟨f0, f1, f2, f3, f4, f5, f6, f7, f8, f9, f10⟩ := frame_cells (H3.out.get 3 rfl)
      have m0 := (cell_of_row _ _ _ _ _ _ (H3.out.get 0 rfl)).trans ((List.getElem?_toArray).trans (Dd.En.met _ R (by omega)))
      have fz := frozen_of_row _ _ (11 + R) _ _ (H3.out.get 0 rfl)
      have hR16 : (R : Int) < 16 := by omega
      go_upto_region 35 with fail
      have hK : (w3.setCell ⟨b16, 11 + R, none⟩ (.bool true)).heap[b16]? = some (.cells (Dd.fresh K c S T G a R su st Q V (Dd.first c a R)).cells.toArray 33 (0, 0)) := by
        refine (heap_setCell_same _ _ (11 + R) _ _ _ (H3.out.get 0 rfl)).trans ?_
        rw [List.setIfInBounds_toArray, ← Dd.En.tick _ (by omega)]
        rfl
      have H4 := Lib.hid (H3.out.set hK)
      clear H3 m0 fz hK f0 f1 f2 f3 f4 f5 f6 f7 f8 f9 f10
      generalize w3.setCell _ _ = w4 at H4 ⊢
      refine wp_region_lit ?_
      refine Great.wpList_readTo rfl _ rfl (.slice (some ⟨nb, no, none⟩) m.length nc) (by go_simp) ?_
      simp only [Act.put, List.setIfInBounds_toArray, List.set_cons_zero, List.set_cons_succ]
      refine Great.wpList_runTo rfl _ rfl (.agg (Dd.fresh K c S T G a R su st Q V (Dd.first c a R)).cells.toArray) _ (exec_load_mid Try.bigEntry (.tmp 16) rfl rfl rfl (range_of_box (H4.out.get 0 rfl))) ?_
      simp only [Act.put, List.setIfInBounds_toArray, List.set_cons_zero, List.set_cons_succ]
      refine Great.wpList_runTo rfl _ rfl _ _ (exec_slice_one Try.bigEntry (by decide) (by decide) Try.underlying25 (.tmp 199) rfl rfl rfl) ?_
      simp only [Act.put, List.setIfInBounds_toArray, List.set_cons_zero, List.set_cons_succ]
      have h5 := H4.out.lay (.cells (Dd.fresh K c S T G a R su st Q V (Dd.first c a R)).cells.toArray 33)
      have hbx := Dd.itmE.box _ (h5.get 0 rfl)
      have H5 := Lib.hid (h5.tail.tail)
      clear h5 H4
      generalize w4.alloc _ = w5 at H5 hbx ⊢
      generalize w4.heap.size = b17 at hbx ⊢
      obtain ⟨nb2, no2, nc2, w6, hrun, h6⟩ := H5.out.add (by omega) (ys := [Dd.fresh K c S T G a R su st Q V (Dd.first c a R)]) (k := 1) (c := 1) rfl (by omega) hbx 25
      refine wpList_append_run rfl _ _ 25 rfl rfl rfl hrun ?_
      simp only [Act.put, List.setIfInBounds_toArray, List.set_cons_zero, List.set_cons_succ]
      have H6 := Lib.hid h6
      clear hrun h6 H5 hbx
      obtain ⟨f0, f1, f2, f3, f4, f5, f6, f7, f8, f9, f10⟩ := frame_cells (H6.out.get 2 rfl)
      go_wp2_with fail
      refine (dw_fresh (T := R) (by omega) HQ7.out (HR.out.non HNO.out) (by rw [HR.out.len]; omega) _ H6.out).mono ?_
      rintro e w7 ⟨rfl, h7⟩
      have H7 := Lib.hid h7
      clear h7 H6 f0 f1 f2 f3 f4 f5 f6 f7 f8 f9 f10
      go_wp2_with fail
      exact HQ.out _ _ _ _ _ _ _ _ _ _ _ _ _ _ _ _ _ _ _ _ _ _ _ _ _ _ _ _ _ _ _ _ _ _ _ _ _ _ _ _ _ _ _ _ _ _ _ _ _ _ _ _ _ _ _  nb2 no2 nc2 _ _ _ _ (by simp) (HR.out.add HNO.out (by omega) rfl HSU.out) H7.out.but.but.but
  · obtain rfl := HOLD.out j e rfl hj
    obtain ⟨i, hat⟩ := HR.out.find hj he
    have hj0 : ¬(j : Int) < 0 := by omega
    have HAT := Lib.hid hat
    have HJ := Lib.hid hj
    have HK := Lib.hid he.2
    have hjm := (List.getElem?_eq_some_iff.1 hj).1
    have HJL := Lib.hid hjm
    have m0 := (cell_of_row _ _ _ _ _ _ (HD.out.get 1 rfl)).trans ((List.getElem?_toArray).trans (Dd.En.met e R (by omega)))
    have hR16 : (R : Int) < 16 := by omega
    clear hat hj he HZ HOLD
    rcases Bool.eq_false_or_eq_true (e.x.m R) with hm | hm
    · rw [hm] at m0
      go_wp2_with fail
      refine (dw_seen (T := R) (by omega) HQ7.out HAT.out hm _ HD.out).mono ?_
      rintro e w3 ⟨rfl, h3⟩
      have H3 := Lib.hid h3
      clear h3 HD f0 f1 f2 f3 f4 f5 f6 f7 f8 f9 f10 m0
      go_wp2_with fail
      exact HQ.out _ _ _ _ _ _ _ _ _ _ _ _ _ _ _ _ _ _ _ _ _ _ _ _ _ _ _ _ _ _ _ _ _ _ _ _ _ _ _ _ _ _ _ _ _ _ _ _ _ _ _ _ _ _ _  nb no nc _ q m _ rfl HR.out H3.out.but.but.but
    · rw [hm] at m0
      have HM := Lib.hid hm
      clear hm
      go_upto_region 24 with fail
      obtain ⟨-, -, -, -, -, -, -, xm, fz⟩ := HD.out.item 0 rfl HJ.out
      have x1 := xm R (by omega)
      have e1 := fz (no + j * 31 + 11 + R)
      clear xm fz
      have hjl : (j : Int) < (m.length : Int) := by omega
      have hR16 : (R : Int) < 16 := by omega
      refine wp_region_Z_drew 7 (S := fun w' => w'.cell? ⟨b9, 6, none⟩ = some (.int .i64 (R : Int))) (by kernel_rfl) f6 (fun hHeld => ?_)
      have h3 := HD.out.drew
      have x1' : wr.drew.cell? ⟨nb, no + j * 31 + 11 + R, none⟩ = some (.bool (e.x.m R)) := x1
      have e1' : wr.drew.frozen? ⟨nb, no + j * 31 + 11 + R, none⟩ = false := e1
      clear x1 e1 HD f0 f1 f2 f3 f4 f5 f6 f7 f8 f9 f10 m0
      generalize wr.drew = w3 at h3 hHeld x1' e1' ⊢
      have H3 := Lib.hid h3
      clear h3
      refine wpAnyZ_yield 0 (.slice (some ⟨nb, no, none⟩) m.length nc) rfl (by kernel_rfl) (by kernel_rfl) (by kernel_rfl) (fun d c a w h => hP _ d c a w h) (by rfl) (by assumption) (fun _ _ => by go_simp) ?_
      simp only [Act.put, List.setIfInBounds_toArray, List.set_cons_zero, List.set_cons_succ]
      refine wpAnyZ_yield 1 (.int .i64 (j : Int)) rfl (by kernel_rfl) (by kernel_rfl) (by kernel_rfl) (fun d c a w h => hP _ d c a w h) (by rfl) (by assumption) (fun _ _ => by go_simp) ?_
      simp only [Act.put, List.setIfInBounds_toArray, List.set_cons_zero, List.set_cons_succ]
      refine wpAnyZ_yield 2 (.pointer (some ⟨b9, 6, none⟩)) rfl (by kernel_rfl) (by kernel_rfl) (by kernel_rfl) (fun d c a w h => hP _ d c a w h) (by rfl) (by assumption) (fun _ _ => by go_simp) ?_
      simp only [Act.put, List.setIfInBounds_toArray, List.set_cons_zero, List.set_cons_succ]
      refine wpAnyZ_yield 3 (.int .i64 (R : Int)) rfl (by kernel_rfl) (by kernel_rfl) (by kernel_rfl) (fun d c a w h => hP _ d c a w h) (by rfl) (by assumption) (fun _ hSw => by (try dsimp only at hSw); go_simp) ?_
      simp only [Act.put, List.setIfInBounds_toArray, List.set_cons_zero, List.set_cons_succ]
      refine wpAnyZ_ready (rs := [4]) (by kernel_rfl) (by simp) (AllReadyZ.cons rfl (fun K hK => ?_) AllReadyZ.nil)
      go_simp
      refine hK.out _ _ (fun _ => hHeld) (fun hZ => ?_)
      have hHeld := hZ (by decide)
      clear hK K hZ
      try simp only [Act.put, List.setIfInBounds_toArray, List.set_cons_zero, List.set_cons_succ]
      refine wpAnyZ_ready (rs := [5]) (by kernel_rfl) (by simp) (AllReadyZ.cons rfl (fun K hK => ?_) AllReadyZ.nil)
      go_simp
      refine hK.out _ _ (fun _ => hHeld) (fun hZ => ?_)
      have hHeld := hZ (by decide)
      clear hK K hZ
      try simp only [Act.put, List.setIfInBounds_toArray, List.set_cons_zero, List.set_cons_succ]
      refine wpAnyZ_yield 6 (.pointer (some ⟨nb, no + j * 31 + 11 + R, none⟩)) rfl (by kernel_rfl) (by kernel_rfl) (by kernel_rfl) (fun d c a w h => hP _ d c a w h) (by rfl) (by assumption) (fun _ _ => by go_simp) ?_
      simp only [Act.put, List.setIfInBounds_toArray, List.set_cons_zero, List.set_cons_succ]
      refine wpAnyZ_ready (rs := [7]) (by kernel_rfl) (by simp) (AllReadyZ.cons rfl (fun K hK => ?_) AllReadyZ.nil)
      go_simp
      refine hK.out _ _ (fun h => absurd rfl h) (fun _ => ?_)
      clear hK K
      try simp only [Act.put, List.setIfInBounds_toArray, List.set_cons_zero, List.set_cons_succ]
      refine wpAnyZ_done (by kernel_rfl) ?_ _
      have H4 := Lib.hid (H3.out.one HJ.out { e with x := e.x.tick R } (11 + R) (by omega) (a := no + j * 31 + 11 + R) (by omega) (Dd.En.tick e (by omega)))
      clear hHeld x1' e1' H3
      generalize w3.setCell _ _ = w4 at H4 ⊢
      obtain ⟨f0, f1, f2, f3, f4, f5, f6, f7, f8, f9, f10⟩ := frame_cells (H4.out.get 2 rfl)
      have HJ4 := Lib.hid (show (m.set j { e with x := e.x.tick R })[j]? = some { e with x := e.x.tick R } from List.getElem?_set_self HJL.out)
      cases su with
      | false =>
        obtain ⟨-, -, -, y27, -, -, -, -, fz⟩ := H4.out.item 0 rfl HJ4.out
        have x27 : w4.cell? ⟨nb, no + j * 31 + 27, none⟩ = some (.int .i64 e.x.r) := y27
        have e27 := fz (no + j * 31 + 27)
        clear y27 fz
        have h5 := H4.out.one HJ4.out { e with x := Dd.again e.x R false } 27 (by decide) (a := no + j * 31 + 27) rfl (v := .int .i64 (wrap64 (e.x.r + 1))) rfl
        rw [List.set_set] at h5
        have H5 := Lib.hid h5
        clear h5 H4
        go_upto_region 38 with fail
        generalize w4.setCell _ _ = w5 at H5 ⊢
        clear x27 e27 f0 f1 f2 f3 f4 f5 f6 f7 f8 f9 f10
        obtain ⟨f0, f1, f2, f3, f4, f5, f6, f7, f8, f9, f10⟩ := frame_cells (H5.out.get 2 rfl)
        go_wp2_with fail
        refine (dw_again (T := R) (by omega) HQ7.out HAT.out HM.out _ H5.out).mono ?_
        rintro e2 w6 ⟨rfl, h6⟩
        have hcode : Dd.code false e.x.d = 0 := rfl
        rw [hcode]
        have H6 := Lib.hid h6
        clear h6 H5 hcode f0 f1 f2 f3 f4 f5 f6 f7 f8 f9 f10
        go_wp2_with fail
        exact HQ.out _ _ _ _ _ _ _ _ _ _ _ _ _ _ _ _ _ _ _ _ _ _ _ _ _ _ _ _ _ _ _ _ _ _ _ _ _ _ _ _ _ _ _ _ _ _ _ _ _ _ _ _ _ _ _  nb no nc _ _ _ _ (by simp) (by have := HR.out.again (t := R) HAT.out.at_ HJ.out (k := a) HK.out; rw [← HSU.out] at this; exact this) H6.out.but.but.but
      | true =>
        have hd28 : w4.cell? ⟨b13, 28, none⟩ = some (.bool e.x.d) := (cell_of_row _ _ 28 _ _ _ (H4.out.get 1 rfl)).trans rfl
        have H5 : Hid (Dw w w4 P (N : Int) q _) := H4
        cases hxd : e.x.d
        all_goals
          rw [hxd] at hd28
          go_upto_region 38 with fail
          clear hd28
          go_wp2_with fail
          refine (dw_again (T := R) (by omega) HQ7.out HAT.out HM.out _ H5.out).mono ?_
          rintro e2 w6 ⟨rfl, h6⟩
          rw [hxd]
          have H6 := Lib.hid h6
          clear h6 H5 H4 f0 f1 f2 f3 f4 f5 f6 f7 f8 f9 f10
          try rw [show Dd.code true false = 2 from rfl]
          try rw [show Dd.code true true = 3 from rfl]
          go_wp2_with fail
          exact HQ.out _ _ _ _ _ _ _ _ _ _ _ _ _ _ _ _ _ _ _ _ _ _ _ _ _ _ _ _ _ _ _ _ _ _ _ _ _ _ _ _ _ _ _ _ _ _ _ _ _ _ _ _ _ _ _  nb no nc _ _ _ _ (by simp) (by have := HR.out.again (t := R) HAT.out.at_ HJ.out (k := a) HK.out; rw [← HSU.out] at this; exact this) H6.out.but.but.but
end Go.Proofs.Ythkcomnmihmccaa
