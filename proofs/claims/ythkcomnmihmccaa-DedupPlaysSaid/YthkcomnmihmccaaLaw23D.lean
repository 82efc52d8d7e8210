/- DedupPlays: where in the law's own list a call stands. -/
import Derived.Test.YthkcomnmihmccaaDdN
import Derived.Test.YthkcomnmihmccaaFind
import Derived.Lib.QuietBelow
import Derived.Deep.CutBlock
import Derived.Deep.LoopGhost
namespace Go.Proofs.Ythkcomnmihmccaa
open Go.RowKit Go.Sort

/-- The block of this number, taken out of a body. -/
def findBlk (n : Nat) : Code → Option Code
  | .block k c => if k = n then some (.block k c) else findBlk n c
  | .seq a b => match findBlk n a with
    | some c => some c
    | none => findBlk n b
  | .cond _ a b => match findBlk n a with
    | some c => some c
    | none => findBlk n b
  | .loop c => findBlk n c
  | .scope c => findBlk n c
  | _ => none

namespace Dd
/-- So far: none of this name among the first ones, or the place of one. -/
def IdxTo (m : List En) (c k : Int) (i : Nat) (z : Int) : Prop := (z = -1 ∧ ∀ (j : Nat) (e : En), j < i → m[j]? = some e → ¬e.x.is c k) ∨ ∃ (j : Nat) (e : En), m[j]? = some e ∧ e.x.is c k ∧ z = (j : Int)
/-- Where it is: its place, or -1. -/
def Idx (m : List En) (c k : Int) (z : Int) : Prop := (z = -1 ∧ ∀ (j : Nat) (e : En), m[j]? = some e → ¬e.x.is c k) ∨ ∃ (j : Nat) (e : En), m[j]? = some e ∧ e.x.is c k ∧ z = (j : Int)
theorem IdxTo.zero (m : List En) (c k : Int) : IdxTo m c k 0 (-1) := .inl ⟨rfl, fun _ _ h => absurd h (Nat.not_lt_zero _)⟩
theorem IdxTo.hit {m : List En} {c k : Int} {i : Nat} {e : En} (he : m[i]? = some e) (h : e.x.is c k) : IdxTo m c k (i + 1) (i : Int) := .inr ⟨i, e, he, h, rfl⟩
theorem IdxTo.more {m : List En} {c k z : Int} {i : Nat} {e : En} (h : IdxTo m c k i z) (he : m[i]? = some e) (hn : ¬e.x.is c k) : IdxTo m c k (i + 1) z := by
  rcases h with ⟨h1, h2⟩ | h
  · refine .inl ⟨h1, fun j x hj hx => ?_⟩
    by_cases e2 : j = i
    · subst e2
      rw [he] at hx
      cases hx
      exact hn
    · exact h2 j x (by omega) hx
  · exact .inr h
theorem IdxTo.end_ {m : List En} {c k z : Int} (h : IdxTo m c k m.length z) : Idx m c k z := by
  rcases h with ⟨h1, h2⟩ | h
  · exact .inl ⟨h1, fun j e he => h2 j e (List.getElem?_eq_some_iff.1 he).1 he⟩
  · exact .inr h
end Dd

set_option maxHeartbeats 8000000 in
set_option maxRecDepth 1000000 in
/-- Where the call stands. -/
theorem at_part {w wr : World} {P mb mo mc b9 : Nat} {n : Int} {q : List Dd.Cl} {m : List Dd.En} {K c S T G a R Q V : Int} {su st : Bool} (hml : m.length ≤ 7) (HD : Hid (Dw w wr P n q [(b9, Is (.cells #[.int .i64 K, .int .i64 c, .int .i64 S, .int .i64 T, .int .i64 G, .int .u32 a, .int .i64 R, .bool su, .bool st, .int .i64 Q, .int .u32 V] 28 (0, 0))), (mb, RowE mo mc m)]))
    (Q' : Exit → Act → World → Prop) (v0 v1 v2 v3 v4 v5 v6 v8 v12 v13 v14 v15 v16 v17 v18 v19 v20 v21 v22 v23 v24 v25 v26 v27 v28 v29 v30 v31 v32 v33 v34 v35 v36 v37 v38 v39 v40 v41 v42 v43 v44 v45 v46 v47 v48 v49 v50 v51 v52 v53 v54 v55 v56 v57 v58 v59 v60 v61 v62 v63 v64 v65 v66 v67 v68 v69 v70 v71 v72 v73 v74 v75 v76 v77 v78 v79 v80 v81 v82 v83 v84 v85 v86 v87 v88 v89 v90 v91 v92 v93 v94 v95 v96 v97 v98 v99 v100 v101 v102 v103 v104 v105 v106 v107 v108 v109 v110 v111 v112 v113 v114 v115 v116 v117 v118 v119 v120 v121 v122 v123 v124 v125 v126 v127 v128 v129 v130 v131 v132 v133 v134 v135 v136 v137 v138 v139 v140 v141 v142 v143 v144 v145 v146 v147 v148 v149 v150 v151 v152 v153 v154 v155 v156 v157 v158 v159 v160 v161 v162 v163 v164 v165 v166 v167 v168 v169 v170 v171 v172 v173 v174 v175 v176 v177 v178 v179 v180 v181 v182 v183 v184 v185 v186 v187 v188 v189 v190 v191 v192 v193 v194 v195 v196 v197 v198 v199 v200 v201 v202 v203 v204 v205 v206 v207 v208 v209 v210 v211 v212 v213 v214 v215 v216 v217 v218 v219 v220 v221 v222 v223 v224 v225 v226 v227 v228 v229 v230 v231 v232 v233 v234 v235 v236 v237 v238 v239 v240 v241 v242 v243 v244 v245 v246 v247 v248 v249 v250 v251 v252 v253 v254 v255 v256 v257 v258 v259 v260 v261 v262 v263 v264 v265 v266 v267 v268 v269 v270 v271 v272 v273 v274 v275 v276 v277 v278 v279 v280 v281 v282 v283 v284 v285 v286 v287 v288 v289 v290 v291 v292 v293 v294 v295 v296 v297 v298 v299 v300 v301 v302 v303 v304 v305 v306 v307 v308 v309 v310 v311 v312 v313 v314 v315 v316 v317 v318 v319 v320 v321 v322 v323 : Value)
    (HQ : Hid (∀ (x11 x58 x59 x60 x61 x62 x63 x64 x65 x66 x67 x68 x69 x70 x71 x72 x73 x74 x75 x76 x77 x78 x79 x80 x81 x82 x83 x84 : Value) (z : Int) (wn : World), Dd.Idx m c a z → Dw w wn P n q [(b9, Is (.cells #[.int .i64 K, .int .i64 c, .int .i64 S, .int .i64 T, .int .i64 G, .int .u32 a, .int .i64 R, .bool su, .bool st, .int .i64 Q, .int .u32 V] 28 (0, 0))), (mb, RowE mo mc m)] → Q' .normal ⟨#[v0, v1, v2, v3, v4, v5, v6, .slice (some ⟨mb, mo, none⟩) m.length mc, v8, .pointer (some ⟨b9, 0, none⟩), .int .i64 z, x11, v12, v13, v14, v15, v16, v17, v18, v19, v20, v21, v22, v23, v24, v25, v26, v27, v28, v29, v30, v31, v32, v33, v34, v35, v36, v37, v38, v39, v40, v41, v42, v43, v44, v45, v46, v47, v48, v49, v50, v51, v52, v53, v54, v55, v56, v57, x58, x59, x60, x61, x62, x63, x64, x65, x66, x67, x68, x69, x70, x71, x72, x73, x74, x75, x76, x77, x78, x79, x80, x81, x82, x83, x84, v85, v86, v87, v88, v89, v90, v91, v92, v93, v94, v95, v96, v97, v98, v99, v100, v101, v102, v103, v104, v105, v106, v107, v108, v109, v110, v111, v112, v113, v114, v115, v116, v117, v118, v119, v120, v121, v122, v123, v124, v125, v126, v127, v128, v129, v130, v131, v132, v133, v134, v135, v136, v137, v138, v139, v140, v141, v142, v143, v144, v145, v146, v147, v148, v149, v150, v151, v152, v153, v154, v155, v156, v157, v158, v159, v160, v161, v162, v163, v164, v165, v166, v167, v168, v169, v170, v171, v172, v173, v174, v175, v176, v177, v178, v179, v180, v181, v182, v183, v184, v185, v186, v187, v188, v189, v190, v191, v192, v193, v194, v195, v196, v197, v198, v199, v200, v201, v202, v203, v204, v205, v206, v207, v208, v209, v210, v211, v212, v213, v214, v215, v216, v217, v218, v219, v220, v221, v222, v223, v224, v225, v226, v227, v228, v229, v230, v231, v232, v233, v234, v235, v236, v237, v238, v239, v240, v241, v242, v243, v244, v245, v246, v247, v248, v249, v250, v251, v252, v253, v254, v255, v256, v257, v258, v259, v260, v261, v262, v263, v264, v265, v266, v267, v268, v269, v270, v271, v272, v273, v274, v275, v276, v277, v278, v279, v280, v281, v282, v283, v284, v285, v286, v287, v288, v289, v290, v291, v292, v293, v294, v295, v296, v297, v298, v299, v300, v301, v302, v303, v304, v305, v306, v307, v308, v309, v310, v311, v312, v313, v314, v315, v316, v317, v318, v319, v320, v321, v322, v323], []⟩ wn)) (_hP : ∀ (v : Value) (d : Option Tmp) c a w, Q' (.panic c) (a.put d v) w → Q' (.panic c) a w) :
    Code.wp Try.prog ((Try.f3.body.bind (findBlk 2)).getD .skip) Q' ⟨#[v0, v1, v2, v3, v4, v5, v6, .slice (some ⟨mb, mo, none⟩) m.length mc, v8, .pointer (some ⟨b9, 0, none⟩), .int .i64 (-1), .int .i64 0, v12, v13, v14, v15, v16, v17, v18, v19, v20, v21, v22, v23, v24, v25, v26, v27, v28, v29, v30, v31, v32, v33, v34, v35, v36, v37, v38, v39, v40, v41, v42, v43, v44, v45, v46, v47, v48, v49, v50, v51, v52, v53, v54, v55, v56, v57, v58, v59, v60, v61, v62, v63, v64, v65, v66, v67, v68, v69, v70, v71, v72, v73, v74, v75, v76, v77, v78, v79, v80, v81, v82, v83, v84, v85, v86, v87, v88, v89, v90, v91, v92, v93, v94, v95, v96, v97, v98, v99, v100, v101, v102, v103, v104, v105, v106, v107, v108, v109, v110, v111, v112, v113, v114, v115, v116, v117, v118, v119, v120, v121, v122, v123, v124, v125, v126, v127, v128, v129, v130, v131, v132, v133, v134, v135, v136, v137, v138, v139, v140, v141, v142, v143, v144, v145, v146, v147, v148, v149, v150, v151, v152, v153, v154, v155, v156, v157, v158, v159, v160, v161, v162, v163, v164, v165, v166, v167, v168, v169, v170, v171, v172, v173, v174, v175, v176, v177, v178, v179, v180, v181, v182, v183, v184, v185, v186, v187, v188, v189, v190, v191, v192, v193, v194, v195, v196, v197, v198, v199, v200, v201, v202, v203, v204, v205, v206, v207, v208, v209, v210, v211, v212, v213, v214, v215, v216, v217, v218, v219, v220, v221, v222, v223, v224, v225, v226, v227, v228, v229, v230, v231, v232, v233, v234, v235, v236, v237, v238, v239, v240, v241, v242, v243, v244, v245, v246, v247, v248, v249, v250, v251, v252, v253, v254, v255, v256, v257, v258, v259, v260, v261, v262, v263, v264, v265, v266, v267, v268, v269, v270, v271, v272, v273, v274, v275, v276, v277, v278, v279, v280, v281, v282, v283, v284, v285, v286, v287, v288, v289, v290, v291, v292, v293, v294, v295, v296, v297, v298, v299, v300, v301, v302, v303, v304, v305, v306, v307, v308, v309, v310, v311, v312, v313, v314, v315, v316, v317, v318, v319, v320, v321, v322, v323], []⟩ wr := by
  conv => arg 2; whnf
  have hml' : (m.length : Int) ≤ 7 := by omega
  go_wp2_with fail
  go_loopg [10, 11] (10 : Nat) (fun gh s10 s11 wx => ∃ (i : Nat) (z : Int), s10 = .int .i64 z ∧ s11 = .int .i64 (i : Int) ∧ i ≤ m.length ∧ 10 - i ≤ gh ∧ Hid (Dd.IdxTo m c a i z) ∧ Hid (Dw w wx P n q [(b9, Is (.cells #[.int .i64 K, .int .i64 c, .int .i64 S, .int .i64 T, .int .i64 G, .int .u32 a, .int .i64 R, .bool su, .bool st, .int .i64 Q, .int .u32 V] 28 (0, 0))), (mb, RowE mo mc m)]))
  case atStart => exact ⟨0, -1, rfl, rfl, by omega, by omega, Lib.hid (Dd.IdxTo.zero _ _ _), HD⟩
  case round =>
    obtain ⟨i, z, rfl, rfl, hi, hg, HI, HD1⟩ := hrel
    clear HD
    have hw : IntKind.i64.wrap ((i : Int) + 1) = (i : Int) + 1 := by rw [IntKind.wrap_i64]; omega
    by_cases hil : i < m.length
    · have hil' : (i : Int) < (m.length : Int) := by omega
      obtain ⟨e, he⟩ : ∃ e, m[i]? = some e := ⟨m[i], List.getElem?_eq_getElem hil⟩
      obtain ⟨x1, x5, -⟩ := HD1.out.item 1 rfl he
      obtain ⟨-, f1, -, -, -, f5, -⟩ := frame_cells (HD1.out.get 0 rfl)
      have HE := Lib.hid he
      clear he
      by_cases hc : e.x.c = c
      · have hd1 : decide (e.x.c = c) = true := decide_eq_true hc
        have hb1 : (e.x.c == c) = true := by simpa using hc
        by_cases hk : e.x.k = a
        · have hd2 : decide (e.x.k = a) = true := decide_eq_true hk
          have hb2 : (e.x.k == a) = true := by simpa using hk
          have HI2 := Lib.hid (Dd.IdxTo.hit HE.out ⟨hc, hk⟩)
          clear hc hk
          go_wp2_with fail
          go_quiet (fail)
          have HD2 := Lib.hid (HD1.out.drewN nq)
          clear HD1
          go_wp2_with fail
          go_roundg (10 - (i + 1))
          case measure => omega
          case rel => exact ⟨i + 1, i, rfl, by push_cast; rfl, by omega, by omega, HI2, HD2⟩
        · have hd2 : decide (e.x.k = a) = false := decide_eq_false hk
          have hb2 : (e.x.k == a) = false := by simpa using hk
          have HI2 := Lib.hid (HI.out.more HE.out (fun h => hk h.2))
          clear hc hk
          go_wp2_with fail
          go_quiet (fail)
          have HD2 := Lib.hid (HD1.out.drewN nq)
          clear HD1
          go_wp2_with fail
          go_roundg (10 - (i + 1))
          case measure => omega
          case rel => exact ⟨i + 1, z, rfl, by push_cast; rfl, by omega, by omega, HI2, HD2⟩
      · have hd1 : decide (e.x.c = c) = false := decide_eq_false hc
        have hb1 : (e.x.c == c) = false := by simpa using hc
        have HI2 := Lib.hid (HI.out.more HE.out (fun h => hc h.1))
        clear hc
        go_wp2_with fail
        go_quiet (fail)
        have HD2 := Lib.hid (HD1.out.drewN nq)
        clear HD1
        go_wp2_with fail
        go_roundg (10 - (i + 1))
        case measure => omega
        case rel => exact ⟨i + 1, z, rfl, by push_cast; rfl, by omega, by omega, HI2, HD2⟩
    · obtain rfl : i = m.length := by omega
      have hil' : ¬(m.length : Int) < (m.length : Int) := by omega
      go_wp2_with fail
      exact HQ.out _ _ _ _ _ _ _ _ _ _ _ _ _ _ _ _ _ _ _ _ _ _ _ _ _ _ _ _  _ _ HI.out.end_ HD1.out
end Go.Proofs.Ythkcomnmihmccaa
