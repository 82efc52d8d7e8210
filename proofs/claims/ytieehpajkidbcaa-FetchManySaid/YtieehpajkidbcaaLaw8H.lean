/- The law on many who send and one who fetches: what comes of a sender's step. -/
import Derived.Test.YtieehpajkidbcaaLaw8G
namespace Go.Proofs.Ytieehpajkidbcaa
open Go.RowKit
attribute [local go_sem ↓] Go.wp_at_zero Go.wp_at_succ

set_option maxHeartbeats 8000000 in
set_option maxRecDepth 100000 in
/-- A sender's step, and what comes of it. -/
theorem many_send {w w5 : World} {s : Spot} {K : Nat} {ab : Ar} {gt gs ge gu i H : Nat} {S : Nat → Snd} {sent seen : Nat → Nat} {u : Ftc} {m : Nat} (hK : K = 2 ∨ K = 3) (h4 : i < 400) (htd : ab.td = []) (HM5 : Hid (Mny w w5 s K ab gt gs ge gu S sent seen u)) (HG5 : Hid (Rg.Game K i ab.cs H S sent seen u)) (hmk : m < K)
    (Q : Exit → Act → World → Prop) (v0 v1 v2 v3 v4 v12 v13 v14 v16 v17 v18 v19 v20 v21 v22 v23 v24 v25 v26 v27 v28 v29 v30 v31 v32 v33 v34 v35 v36 v37 v38 v39 v40 v41 v42 v43 v44 v45 v46 v47 v48 v49 v50 v51 v52 v53 v54 v55 v56 v57 v58 v59 v60 v61 v62 v63 v64 v65 v66 v67 v68 v69 v70 v71 v72 v73 v74 v75 v76 v77 v78 v80 v81 v82 v83 v84 v85 v86 v87 v88 v89 v90 v91 v92 v93 v94 v95 v96 v97 v98 v99 v100 v101 v102 v103 v104 v105 v106 v107 v108 v109 v110 v111 v112 v113 v114 v115 v116 v117 v118 v119 v120 v121 v122 v123 v124 v125 v126 v127 v128 v129 v130 v131 v132 v133 v134 v135 v136 v137 v138 v139 v140 v141 v142 v143 v144 v145 v146 v147 v148 v149 v150 v151 v152 v153 v154 v155 v156 v157 v158 v159 v160 v161 v162 v163 v164 v165 v166 v167 v168 v169 v170 v171 v172 v173 v174 v175 v176 v177 v178 v179 v180 v181 v182 v183 v184 v185 v186 v187 v188 v189 v190 v191 v192 v193 v194 v195 v196 v197 v198 v199 v200 v201 v202 v203 v204 v205 v206 v207 : Value)
    (HQ : Hid (∀ (x16 x17 x80 x81 x82 x83 x84 x85 x86 x87 x88 x89 x90 x91 x92 x93 x94 x95 x96 x97 x98 x99 x100 x101 x102 x103 x104 x105 x106 x107 x108 x109 x110 x111 x112 x113 x114 x115 x116 x117 x118 x119 x120 x121 x122 x123 x124 x125 x126 : Value) (wn : World), (∃ (a2 : Ar) (S2 : Nat → Snd) (sent2 : Nat → Nat), a2.td.length = 1 ∧ Mny w wn s K a2 gt gs ge gu S2 sent2 seen u ∧ Rg.Game K (i + 1) a2.cs H S2 sent2 seen u) → Q .normal ⟨#[v0, v1, v2, v3, v4, .pointer (some ⟨w.heap.size, 0, none⟩), .pointer (some ⟨s.P, 0, none⟩), .int .i64 K, .slice (some ⟨gt, 0, none⟩) K K, .slice (some ⟨gs, 0, none⟩) K K, .slice (some ⟨ge, 0, none⟩) K K, .pointer (some ⟨gu, 0, none⟩), v12, v13, v14, .int .i64 m, x16, x17, v18, v19, v20, v21, v22, v23, v24, v25, v26, v27, v28, v29, v30, v31, v32, v33, v34, v35, v36, v37, v38, v39, v40, v41, v42, v43, v44, v45, v46, v47, v48, v49, v50, v51, v52, v53, v54, v55, v56, v57, v58, v59, v60, v61, v62, v63, v64, v65, v66, v67, v68, v69, v70, v71, v72, v73, v74, v75, v76, v77, v78, .bool true, x80, x81, x82, x83, x84, x85, x86, x87, x88, x89, x90, x91, x92, x93, x94, x95, x96, x97, x98, x99, x100, x101, x102, x103, x104, x105, x106, x107, x108, x109, x110, x111, x112, x113, x114, x115, x116, x117, x118, x119, x120, x121, x122, x123, x124, x125, x126, v127, v128, v129, v130, v131, v132, v133, v134, v135, v136, v137, v138, v139, v140, v141, v142, v143, v144, v145, v146, v147, v148, v149, v150, v151, v152, v153, v154, v155, v156, v157, v158, v159, v160, v161, v162, v163, v164, v165, v166, v167, v168, v169, v170, v171, v172, v173, v174, v175, v176, v177, v178, v179, v180, v181, v182, v183, v184, v185, v186, v187, v188, v189, v190, v191, v192, v193, v194, v195, v196, v197, v198, v199, v200, v201, v202, v203, v204, v205, v206, v207], []⟩ wn)) (hP : ∀ (v : Value) (d : Option Tmp) c a w, Q (.panic c) (a.put d v) w → Q (.panic c) a w) :
    Code.wp Try.prog ((Try.f4.body.bind (findIf 79)).getD .skip) Q ⟨#[v0, v1, v2, v3, v4, .pointer (some ⟨w.heap.size, 0, none⟩), .pointer (some ⟨s.P, 0, none⟩), .int .i64 K, .slice (some ⟨gt, 0, none⟩) K K, .slice (some ⟨gs, 0, none⟩) K K, .slice (some ⟨ge, 0, none⟩) K K, .pointer (some ⟨gu, 0, none⟩), v12, v13, v14, .int .i64 m, v16, v17, v18, v19, v20, v21, v22, v23, v24, v25, v26, v27, v28, v29, v30, v31, v32, v33, v34, v35, v36, v37, v38, v39, v40, v41, v42, v43, v44, v45, v46, v47, v48, v49, v50, v51, v52, v53, v54, v55, v56, v57, v58, v59, v60, v61, v62, v63, v64, v65, v66, v67, v68, v69, v70, v71, v72, v73, v74, v75, v76, v77, v78, .bool true, v80, v81, v82, v83, v84, v85, v86, v87, v88, v89, v90, v91, v92, v93, v94, v95, v96, v97, v98, v99, v100, v101, v102, v103, v104, v105, v106, v107, v108, v109, v110, v111, v112, v113, v114, v115, v116, v117, v118, v119, v120, v121, v122, v123, v124, v125, v126, v127, v128, v129, v130, v131, v132, v133, v134, v135, v136, v137, v138, v139, v140, v141, v142, v143, v144, v145, v146, v147, v148, v149, v150, v151, v152, v153, v154, v155, v156, v157, v158, v159, v160, v161, v162, v163, v164, v165, v166, v167, v168, v169, v170, v171, v172, v173, v174, v175, v176, v177, v178, v179, v180, v181, v182, v183, v184, v185, v186, v187, v188, v189, v190, v191, v192, v193, v194, v195, v196, v197, v198, v199, v200, v201, v202, v203, v204, v205, v206, v207], []⟩ w5 := by
  conv => arg 2; whnf
  have hmi : (m : Int) < (K : Int) := by omega
  have hwm : IntKind.u64.wrap (m : Int) = (m : Int) := by rw [IntKind.wrap_u64]; omega
  obtain ⟨hk5, hgood⟩ := HG5.out.live hmk
  obtain ⟨hfew, -⟩ := HG5.out.few hmk
  rcases hd : S m with ⟨b1, p1, x1, y1, z1, l1, t1, k1, j1⟩
  rw [hd] at hk5 hgood
  obtain ⟨c0, c1, c2, c3, c4, c5, c6, c7, c8⟩ := tasks_cells HM5.out.tasks hmk hd
  dsimp only at c0 c1 c2 c3 c4 c5 c6 c7 c8
  go_wp2_with fail
  obtain ⟨T3, hA6, hN6⟩ := HM5.out.call
  have hst := sstep_any ⟨b1, p1, x1, y1, z1, l1, t1, k1, j1⟩ (hgood _ rfl) _ hA6
  have ht1 := Snd.step_touch (d := ⟨b1, p1, x1, y1, z1, l1, t1, k1, j1⟩) (a := ab) htd hk5
  have hnx := Snd.step_next ⟨b1, p1, x1, y1, z1, l1, t1, k1, j1⟩ ab
  have hgm := HG5.out.send hK h4 hmk (by obtain ⟨tv, hh⟩ := hA6; exact hh.wb)
  rw [hd, ← hnx.1, ← hnx.2] at hgm
  clear hnx hgood c0 c1 c2 c3 c4 c5 c6 c7 c8
  rcases hs : Snd.step ⟨b1, p1, x1, y1, z1, l1, t1, k1, j1⟩ ab with ⟨⟨b2, p2, x2, y2, z2, l2, t2, k2, j2⟩, a2⟩
  rw [hs] at hst ht1 hgm
  refine hst.mono ?_
  rintro e w6 ⟨rfl, hN⟩
  have HM6 := Lib.hid (hN6 _ _ hN)
  have HT := Lib.hid ht1
  have HGm := Lib.hid hgm
  simp only [Snd.val]
  clear hst ht1 hgm hs hN hN6 hA6 HM5 HG5
  obtain ⟨c0, c1, c2, c3, c4, c5, c6, c7, c8⟩ := tasks_cells HM6.out.tasks hmk hd
  obtain ⟨f0, f1, f2, f3, f4, f5, f6, f7, f8⟩ := tasks_free (i := m) HM6.out.tasks
  dsimp only at c0 c1 c2 c3 c4 c5 c6 c7 c8
  go_wp2_with fail
  have HM7 := Lib.hid (HM6.out.putT hmk ⟨b2, p2, x2, y2, z2, l2, t2, k2, j2⟩)
  dsimp only at HM7
  clear c0 c1 c2 c3 c4 c5 c6 c7 c8 f0 f1 f2 f3 f4 f5 f6 f7 f8 HM6
  by_cases e5 : k2 = 5
  · subst e5
    refine (sdone_five b2 p2 x2 y2 z2 t2 j2 l2 _).mono ?_
    rintro e w7 ⟨rfl, hb7⟩
    have HM8 := Lib.hid (HM7.out.behind hb7)
    clear hb7 HM7
    have q0 := ints_cell HM8.out.sents hmk
    have q1 := HM8.out.sents.free m
    have hws : IntKind.i64.wrap ((sent m : Int) + 1) = (sent m : Int) + 1 := by rw [IntKind.wrap_i64]; omega
    obtain ⟨c, hc⟩ : ∃ c, c = sent m + 1 := ⟨_, rfl⟩
    have hci : (sent m : Int) + 1 = (c : Int) := by omega
    rw [hci] at hws
    have hw1 : IntKind.u64.wrap (c : Int) = (c : Int) := by rw [IntKind.wrap_u64]; omega
    have hw2 : IntKind.i64.wrap (10 * (c : Int)) = 10 * (c : Int) := by rw [IntKind.wrap_i64]; omega
    have hw3 : IntKind.i64.wrap ((m : Int) + 10 * (c : Int)) = (m : Int) + 10 * (c : Int) := by rw [IntKind.wrap_i64]; omega
    have hw4 : IntKind.u64.wrap ((m : Int) + 10 * (c : Int)) = (m : Int) + 10 * (c : Int) := by rw [IntKind.wrap_u64]; omega
    have HMN := Lib.hid ((HM8.out.putS hmk c).behind (Below.refl _ _).drew)
    have HC0 := Lib.hid hc
    clear HM8 hc
    go_wp2_with fail
    refine wp_region_held_drew (S := fun w' => w'.cell? ⟨w.heap.size, 0, none⟩ = some (.int .i64 0) ∧ w'.cell? ⟨w.heap.size, 1, none⟩ = some (.int .i64 2) ∧ w'.cell? ⟨gs, m, none⟩ = some (.int .i64 (c : Nat))) (by as_aux_lemma => kernel_rfl) (HMN.out.new3 hmk (if_pos rfl)) (fun hHeld => ?_)
    refine wpAnyH_yield 0 (.slice (some ⟨gt, 0, none⟩) K K) rfl (by as_aux_lemma => kernel_rfl) (by as_aux_lemma => kernel_rfl) (by as_aux_lemma => kernel_rfl) (fun d c a w h => hP _ d c a w h) (by rfl) (by assumption) (fun _ _ => by go_simp) ?_
    simp only [Act.put, List.setIfInBounds_toArray, List.set_cons_zero, List.set_cons_succ]
    refine wpAnyH_yield 1 (.int .i64 m) rfl (by as_aux_lemma => kernel_rfl) (by as_aux_lemma => kernel_rfl) (by as_aux_lemma => kernel_rfl) (fun d c a w h => hP _ d c a w h) (by rfl) (by assumption) (fun _ _ => by go_simp) ?_
    simp only [Act.put, List.setIfInBounds_toArray, List.set_cons_zero, List.set_cons_succ]
    refine wpAnyH_yield 2 (.agg #[.int .i64 0, .int .i64 2]) rfl (by as_aux_lemma => kernel_rfl) (by as_aux_lemma => kernel_rfl) (by as_aux_lemma => kernel_rfl) (fun d c a w h => hP _ d c a w h) (by rfl) (by assumption) (fun _ hSw => by (try dsimp only at hSw); go_simp) ?_
    simp only [Act.put, List.setIfInBounds_toArray, List.set_cons_zero, List.set_cons_succ]
    refine wpAnyH_yield 3 (.int .i64 m) rfl (by as_aux_lemma => kernel_rfl) (by as_aux_lemma => kernel_rfl) (by as_aux_lemma => kernel_rfl) (fun d c a w h => hP _ d c a w h) (by rfl) (by assumption) (fun _ _ => by go_simp) ?_
    simp only [Act.put, List.setIfInBounds_toArray, List.set_cons_zero, List.set_cons_succ]
    refine wpAnyH_yield 4 (.int .u64 m) rfl (by as_aux_lemma => kernel_rfl) (by as_aux_lemma => kernel_rfl) (by as_aux_lemma => kernel_rfl) (fun d c a w h => hP _ d c a w h) (by rfl) (by assumption) (fun _ _ => by go_simp) ?_
    simp only [Act.put, List.setIfInBounds_toArray, List.set_cons_zero, List.set_cons_succ]
    refine wpAnyH_yield 5 (.slice (some ⟨gs, 0, none⟩) K K) rfl (by as_aux_lemma => kernel_rfl) (by as_aux_lemma => kernel_rfl) (by as_aux_lemma => kernel_rfl) (fun d c a w h => hP _ d c a w h) (by rfl) (by assumption) (fun _ _ => by go_simp) ?_
    simp only [Act.put, List.setIfInBounds_toArray, List.set_cons_zero, List.set_cons_succ]
    refine wpAnyH_yield 6 (.int .i64 m) rfl (by as_aux_lemma => kernel_rfl) (by as_aux_lemma => kernel_rfl) (by as_aux_lemma => kernel_rfl) (fun d c a w h => hP _ d c a w h) (by rfl) (by assumption) (fun _ _ => by go_simp) ?_
    simp only [Act.put, List.setIfInBounds_toArray, List.set_cons_zero, List.set_cons_succ]
    refine wpAnyH_yield 7 (.pointer (some ⟨gs, m, none⟩)) rfl (by as_aux_lemma => kernel_rfl) (by as_aux_lemma => kernel_rfl) (by as_aux_lemma => kernel_rfl) (fun d c a w h => hP _ d c a w h) (by rfl) (by assumption) (fun _ _ => by go_simp) ?_
    simp only [Act.put, List.setIfInBounds_toArray, List.set_cons_zero, List.set_cons_succ]
    refine wpAnyH_yield 8 (.int .i64 c) rfl (by as_aux_lemma => kernel_rfl) (by as_aux_lemma => kernel_rfl) (by as_aux_lemma => kernel_rfl) (fun d c a w h => hP _ d c a w h) (by rfl) (by assumption) (fun _ hSw => by (try dsimp only at hSw); go_simp) ?_
    simp only [Act.put, List.setIfInBounds_toArray, List.set_cons_zero, List.set_cons_succ]
    refine wpAnyH_yield 9 (.int .u64 c) rfl (by as_aux_lemma => kernel_rfl) (by as_aux_lemma => kernel_rfl) (by as_aux_lemma => kernel_rfl) (fun d c a w h => hP _ d c a w h) (by rfl) (by assumption) (fun _ _ => by go_simp) ?_
    simp only [Act.put, List.setIfInBounds_toArray, List.set_cons_zero, List.set_cons_succ]
    refine wpAnyH_yield 10 (.int .i64 m) rfl (by as_aux_lemma => kernel_rfl) (by as_aux_lemma => kernel_rfl) (by as_aux_lemma => kernel_rfl) (fun d c a w h => hP _ d c a w h) (by rfl) (by assumption) (fun _ _ => by go_simp) ?_
    simp only [Act.put, List.setIfInBounds_toArray, List.set_cons_zero, List.set_cons_succ]
    refine wpAnyH_yield 11 (.slice (some ⟨gs, 0, none⟩) K K) rfl (by as_aux_lemma => kernel_rfl) (by as_aux_lemma => kernel_rfl) (by as_aux_lemma => kernel_rfl) (fun d c a w h => hP _ d c a w h) (by rfl) (by assumption) (fun _ _ => by go_simp) ?_
    simp only [Act.put, List.setIfInBounds_toArray, List.set_cons_zero, List.set_cons_succ]
    refine wpAnyH_yield 12 (.int .i64 m) rfl (by as_aux_lemma => kernel_rfl) (by as_aux_lemma => kernel_rfl) (by as_aux_lemma => kernel_rfl) (fun d c a w h => hP _ d c a w h) (by rfl) (by assumption) (fun _ _ => by go_simp) ?_
    simp only [Act.put, List.setIfInBounds_toArray, List.set_cons_zero, List.set_cons_succ]
    refine wpAnyH_yield 13 (.pointer (some ⟨gs, m, none⟩)) rfl (by as_aux_lemma => kernel_rfl) (by as_aux_lemma => kernel_rfl) (by as_aux_lemma => kernel_rfl) (fun d c a w h => hP _ d c a w h) (by rfl) (by assumption) (fun _ _ => by go_simp) ?_
    simp only [Act.put, List.setIfInBounds_toArray, List.set_cons_zero, List.set_cons_succ]
    refine wpAnyH_yield 14 (.int .i64 c) rfl (by as_aux_lemma => kernel_rfl) (by as_aux_lemma => kernel_rfl) (by as_aux_lemma => kernel_rfl) (fun d c a w h => hP _ d c a w h) (by rfl) (by assumption) (fun _ hSw => by (try dsimp only at hSw); go_simp) ?_
    simp only [Act.put, List.setIfInBounds_toArray, List.set_cons_zero, List.set_cons_succ]
    refine wpAnyH_yield 15 (.int .i64 (10 * c)) rfl (by as_aux_lemma => kernel_rfl) (by as_aux_lemma => kernel_rfl) (by as_aux_lemma => kernel_rfl) (fun d c a w h => hP _ d c a w h) (by rfl) (by assumption) (fun _ _ => by go_simp) ?_
    simp only [Act.put, List.setIfInBounds_toArray, List.set_cons_zero, List.set_cons_succ]
    refine wpAnyH_yield 16 (.int .i64 (m + 10 * c)) rfl (by as_aux_lemma => kernel_rfl) (by as_aux_lemma => kernel_rfl) (by as_aux_lemma => kernel_rfl) (fun d c a w h => hP _ d c a w h) (by rfl) (by assumption) (fun _ _ => by go_simp) ?_
    simp only [Act.put, List.setIfInBounds_toArray, List.set_cons_zero, List.set_cons_succ]
    refine wpAnyH_yield 17 (.int .u64 (m + 10 * c)) rfl (by as_aux_lemma => kernel_rfl) (by as_aux_lemma => kernel_rfl) (by as_aux_lemma => kernel_rfl) (fun d c a w h => hP _ d c a w h) (by rfl) (by assumption) (fun _ _ => by go_simp) ?_
    simp only [Act.put, List.setIfInBounds_toArray, List.set_cons_zero, List.set_cons_succ]
    refine wpAnyH_yield 18 (.agg #[.int .u64 m, .int .u64 c, .int .u64 (m + 10 * c)]) rfl (by as_aux_lemma => kernel_rfl) (by as_aux_lemma => kernel_rfl) (by as_aux_lemma => kernel_rfl) (fun d c a w h => hP _ d c a w h) (by rfl) (by assumption) (fun _ _ => by go_simp) ?_
    simp only [Act.put, List.setIfInBounds_toArray, List.set_cons_zero, List.set_cons_succ]
    refine wpAnyH_ready (rs := [19]) (by as_aux_lemma => kernel_rfl) (by simp) (AllReadyH.cons rfl (fun K hK => ?_) AllReadyH.nil)
    go_simp
    go_at_call 10
    refine (snew_any 0 2 m c (m + 10 * c) _).mono ?_
    rintro e w8 ⟨rfl, hb8⟩
    have HMO := Lib.hid (HMN.out.behind hb8)
    obtain ⟨c0, c1, c2, c3, c4, c5, c6, c7, c8⟩ := tasks_cells HMO.out.tasks hmk rfl
    obtain ⟨f0, f1, f2, f3, f4, f5, f6, f7, f8⟩ := tasks_free (i := m) HMO.out.tasks
    clear hb8 HMN
    refine hK.out _ _ (HMO.out.new3 hmk (if_pos rfl)) (fun hHeld => ?_)
    clear hK K
    try simp only [Act.put, List.setIfInBounds_toArray, List.set_cons_zero, List.set_cons_succ]
    refine wpAnyH_yield 20 (.pointer (some ⟨gt, m * 9, none⟩)) rfl (by as_aux_lemma => kernel_rfl) (by as_aux_lemma => kernel_rfl) (by as_aux_lemma => kernel_rfl) (fun d c a w h => hP _ d c a w h) (by rfl) (by assumption) (fun _ _ => by go_simp) ?_
    simp only [Act.put, List.setIfInBounds_toArray, List.set_cons_zero, List.set_cons_succ]
    refine wpAnyH_ready (rs := [21]) (by as_aux_lemma => kernel_rfl) (by simp) (AllReadyH.cons rfl (fun K hK => ?_) AllReadyH.nil)
    go_simp
    have HMP := Lib.hid (HMO.out.putT hmk (Rg.anew 0 2 m c))
    refine hK.out _ _ (HMP.out.new3 hmk (if_pos rfl)) (fun hHeld => ?_)
    clear hK K
    try simp only [Act.put, List.setIfInBounds_toArray, List.set_cons_zero, List.set_cons_succ]
    refine wpAnyH_done (by as_aux_lemma => kernel_rfl) ?_ _
    clear c0 c1 c2 c3 c4 c5 c6 c7 c8 f0 f1 f2 f3 f4 f5 f6 f7 f8 HMO
    have HMQ := Lib.hid (HMP.out.same (S' := fun q => if q = m then Rg.after 0 2 m sent ⟨b2, p2, x2, y2, z2, l2, t2, 5, j2⟩ else S q) (sent' := Rg.count m sent ⟨b2, p2, x2, y2, z2, l2, t2, 5, j2⟩) (fun q _ => by by_cases e : q = m; (subst e; simp only [if_true]; unfold Rg.after; rw [if_pos rfl, ← HC0.out]); (simp only [e, if_false])) (fun q _ => by unfold Rg.count; rw [if_pos rfl]; by_cases e : q = m; (subst e; rw [if_pos rfl, if_pos rfl, HC0.out]); (rw [if_neg e, if_neg e])) (fun _ _ => rfl))
    clear HMP
    go_wp2_with fail
    exact HQ.out _ _ _ _ _ _ _ _ _ _ _ _ _ _ _ _ _ _ _ _ _ _ _ _ _ _ _ _ _ _ _ _ _ _ _ _ _ _ _ _ _ _ _ _ _ _ _ _ _ _ ⟨a2, _, _, HT.out, HMQ.out, HGm.out⟩
  · by_cases e6 : k2 = 6
    · subst e6
      refine (sdone_six b2 p2 x2 y2 z2 t2 j2 l2 _).mono ?_
      rintro e w7 ⟨rfl, hb7⟩
      have HM8 := Lib.hid (HM7.out.behind hb7)
      clear hb7 HM7
      obtain ⟨c, hc⟩ : ∃ c, c = sent m := ⟨_, rfl⟩
      have hw1 : IntKind.u64.wrap (c : Int) = (c : Int) := by rw [IntKind.wrap_u64]; omega
      have hw2 : IntKind.i64.wrap (10 * (c : Int)) = 10 * (c : Int) := by rw [IntKind.wrap_i64]; omega
      have hw3 : IntKind.i64.wrap ((m : Int) + 10 * (c : Int)) = (m : Int) + 10 * (c : Int) := by rw [IntKind.wrap_i64]; omega
      have hw4 : IntKind.u64.wrap ((m : Int) + 10 * (c : Int)) = (m : Int) + 10 * (c : Int) := by rw [IntKind.wrap_u64]; omega
      have HMN := Lib.hid (HM8.out.behind (Below.refl _ _).drew)
      have HCN := Lib.hid hc.symm
      have HC0 := Lib.hid hc
      clear HM8 hc
      go_wp2_with fail
      refine wp_region_held_drew (S := fun w' => w'.cell? ⟨w.heap.size, 0, none⟩ = some (.int .i64 0) ∧ w'.cell? ⟨w.heap.size, 1, none⟩ = some (.int .i64 2) ∧ w'.cell? ⟨gs, m, none⟩ = some (.int .i64 (c : Nat))) (by as_aux_lemma => kernel_rfl) (HMN.out.new3 hmk HCN.out) (fun hHeld => ?_)
      refine wpAnyH_yield 0 (.slice (some ⟨gt, 0, none⟩) K K) rfl (by as_aux_lemma => kernel_rfl) (by as_aux_lemma => kernel_rfl) (by as_aux_lemma => kernel_rfl) (fun d c a w h => hP _ d c a w h) (by rfl) (by assumption) (fun _ _ => by go_simp) ?_
      simp only [Act.put, List.setIfInBounds_toArray, List.set_cons_zero, List.set_cons_succ]
      refine wpAnyH_yield 1 (.int .i64 m) rfl (by as_aux_lemma => kernel_rfl) (by as_aux_lemma => kernel_rfl) (by as_aux_lemma => kernel_rfl) (fun d c a w h => hP _ d c a w h) (by rfl) (by assumption) (fun _ _ => by go_simp) ?_
      simp only [Act.put, List.setIfInBounds_toArray, List.set_cons_zero, List.set_cons_succ]
      refine wpAnyH_yield 2 (.agg #[.int .i64 0, .int .i64 2]) rfl (by as_aux_lemma => kernel_rfl) (by as_aux_lemma => kernel_rfl) (by as_aux_lemma => kernel_rfl) (fun d c a w h => hP _ d c a w h) (by rfl) (by assumption) (fun _ hSw => by (try dsimp only at hSw); go_simp) ?_
      simp only [Act.put, List.setIfInBounds_toArray, List.set_cons_zero, List.set_cons_succ]
      refine wpAnyH_yield 3 (.int .i64 m) rfl (by as_aux_lemma => kernel_rfl) (by as_aux_lemma => kernel_rfl) (by as_aux_lemma => kernel_rfl) (fun d c a w h => hP _ d c a w h) (by rfl) (by assumption) (fun _ _ => by go_simp) ?_
      simp only [Act.put, List.setIfInBounds_toArray, List.set_cons_zero, List.set_cons_succ]
      refine wpAnyH_yield 4 (.int .u64 m) rfl (by as_aux_lemma => kernel_rfl) (by as_aux_lemma => kernel_rfl) (by as_aux_lemma => kernel_rfl) (fun d c a w h => hP _ d c a w h) (by rfl) (by assumption) (fun _ _ => by go_simp) ?_
      simp only [Act.put, List.setIfInBounds_toArray, List.set_cons_zero, List.set_cons_succ]
      refine wpAnyH_yield 5 (.slice (some ⟨gs, 0, none⟩) K K) rfl (by as_aux_lemma => kernel_rfl) (by as_aux_lemma => kernel_rfl) (by as_aux_lemma => kernel_rfl) (fun d c a w h => hP _ d c a w h) (by rfl) (by assumption) (fun _ _ => by go_simp) ?_
      simp only [Act.put, List.setIfInBounds_toArray, List.set_cons_zero, List.set_cons_succ]
      refine wpAnyH_yield 6 (.int .i64 m) rfl (by as_aux_lemma => kernel_rfl) (by as_aux_lemma => kernel_rfl) (by as_aux_lemma => kernel_rfl) (fun d c a w h => hP _ d c a w h) (by rfl) (by assumption) (fun _ _ => by go_simp) ?_
      simp only [Act.put, List.setIfInBounds_toArray, List.set_cons_zero, List.set_cons_succ]
      refine wpAnyH_yield 7 (.pointer (some ⟨gs, m, none⟩)) rfl (by as_aux_lemma => kernel_rfl) (by as_aux_lemma => kernel_rfl) (by as_aux_lemma => kernel_rfl) (fun d c a w h => hP _ d c a w h) (by rfl) (by assumption) (fun _ _ => by go_simp) ?_
      simp only [Act.put, List.setIfInBounds_toArray, List.set_cons_zero, List.set_cons_succ]
      refine wpAnyH_yield 8 (.int .i64 c) rfl (by as_aux_lemma => kernel_rfl) (by as_aux_lemma => kernel_rfl) (by as_aux_lemma => kernel_rfl) (fun d c a w h => hP _ d c a w h) (by rfl) (by assumption) (fun _ hSw => by (try dsimp only at hSw); go_simp) ?_
      simp only [Act.put, List.setIfInBounds_toArray, List.set_cons_zero, List.set_cons_succ]
      refine wpAnyH_yield 9 (.int .u64 c) rfl (by as_aux_lemma => kernel_rfl) (by as_aux_lemma => kernel_rfl) (by as_aux_lemma => kernel_rfl) (fun d c a w h => hP _ d c a w h) (by rfl) (by assumption) (fun _ _ => by go_simp) ?_
      simp only [Act.put, List.setIfInBounds_toArray, List.set_cons_zero, List.set_cons_succ]
      refine wpAnyH_yield 10 (.int .i64 m) rfl (by as_aux_lemma => kernel_rfl) (by as_aux_lemma => kernel_rfl) (by as_aux_lemma => kernel_rfl) (fun d c a w h => hP _ d c a w h) (by rfl) (by assumption) (fun _ _ => by go_simp) ?_
      simp only [Act.put, List.setIfInBounds_toArray, List.set_cons_zero, List.set_cons_succ]
      refine wpAnyH_yield 11 (.slice (some ⟨gs, 0, none⟩) K K) rfl (by as_aux_lemma => kernel_rfl) (by as_aux_lemma => kernel_rfl) (by as_aux_lemma => kernel_rfl) (fun d c a w h => hP _ d c a w h) (by rfl) (by assumption) (fun _ _ => by go_simp) ?_
      simp only [Act.put, List.setIfInBounds_toArray, List.set_cons_zero, List.set_cons_succ]
      refine wpAnyH_yield 12 (.int .i64 m) rfl (by as_aux_lemma => kernel_rfl) (by as_aux_lemma => kernel_rfl) (by as_aux_lemma => kernel_rfl) (fun d c a w h => hP _ d c a w h) (by rfl) (by assumption) (fun _ _ => by go_simp) ?_
      simp only [Act.put, List.setIfInBounds_toArray, List.set_cons_zero, List.set_cons_succ]
      refine wpAnyH_yield 13 (.pointer (some ⟨gs, m, none⟩)) rfl (by as_aux_lemma => kernel_rfl) (by as_aux_lemma => kernel_rfl) (by as_aux_lemma => kernel_rfl) (fun d c a w h => hP _ d c a w h) (by rfl) (by assumption) (fun _ _ => by go_simp) ?_
      simp only [Act.put, List.setIfInBounds_toArray, List.set_cons_zero, List.set_cons_succ]
      refine wpAnyH_yield 14 (.int .i64 c) rfl (by as_aux_lemma => kernel_rfl) (by as_aux_lemma => kernel_rfl) (by as_aux_lemma => kernel_rfl) (fun d c a w h => hP _ d c a w h) (by rfl) (by assumption) (fun _ hSw => by (try dsimp only at hSw); go_simp) ?_
      simp only [Act.put, List.setIfInBounds_toArray, List.set_cons_zero, List.set_cons_succ]
      refine wpAnyH_yield 15 (.int .i64 (10 * c)) rfl (by as_aux_lemma => kernel_rfl) (by as_aux_lemma => kernel_rfl) (by as_aux_lemma => kernel_rfl) (fun d c a w h => hP _ d c a w h) (by rfl) (by assumption) (fun _ _ => by go_simp) ?_
      simp only [Act.put, List.setIfInBounds_toArray, List.set_cons_zero, List.set_cons_succ]
      refine wpAnyH_yield 16 (.int .i64 (m + 10 * c)) rfl (by as_aux_lemma => kernel_rfl) (by as_aux_lemma => kernel_rfl) (by as_aux_lemma => kernel_rfl) (fun d c a w h => hP _ d c a w h) (by rfl) (by assumption) (fun _ _ => by go_simp) ?_
      simp only [Act.put, List.setIfInBounds_toArray, List.set_cons_zero, List.set_cons_succ]
      refine wpAnyH_yield 17 (.int .u64 (m + 10 * c)) rfl (by as_aux_lemma => kernel_rfl) (by as_aux_lemma => kernel_rfl) (by as_aux_lemma => kernel_rfl) (fun d c a w h => hP _ d c a w h) (by rfl) (by assumption) (fun _ _ => by go_simp) ?_
      simp only [Act.put, List.setIfInBounds_toArray, List.set_cons_zero, List.set_cons_succ]
      refine wpAnyH_yield 18 (.agg #[.int .u64 m, .int .u64 c, .int .u64 (m + 10 * c)]) rfl (by as_aux_lemma => kernel_rfl) (by as_aux_lemma => kernel_rfl) (by as_aux_lemma => kernel_rfl) (fun d c a w h => hP _ d c a w h) (by rfl) (by assumption) (fun _ _ => by go_simp) ?_
      simp only [Act.put, List.setIfInBounds_toArray, List.set_cons_zero, List.set_cons_succ]
      refine wpAnyH_ready (rs := [19]) (by as_aux_lemma => kernel_rfl) (by simp) (AllReadyH.cons rfl (fun K hK => ?_) AllReadyH.nil)
      go_simp
      go_at_call 10
      refine (snew_any 0 2 m c (m + 10 * c) _).mono ?_
      rintro e w8 ⟨rfl, hb8⟩
      have HMO := Lib.hid (HMN.out.behind hb8)
      obtain ⟨c0, c1, c2, c3, c4, c5, c6, c7, c8⟩ := tasks_cells HMO.out.tasks hmk rfl
      obtain ⟨f0, f1, f2, f3, f4, f5, f6, f7, f8⟩ := tasks_free (i := m) HMO.out.tasks
      clear hb8 HMN
      refine hK.out _ _ (HMO.out.new3 hmk HCN.out) (fun hHeld => ?_)
      clear hK K
      try simp only [Act.put, List.setIfInBounds_toArray, List.set_cons_zero, List.set_cons_succ]
      refine wpAnyH_yield 20 (.pointer (some ⟨gt, m * 9, none⟩)) rfl (by as_aux_lemma => kernel_rfl) (by as_aux_lemma => kernel_rfl) (by as_aux_lemma => kernel_rfl) (fun d c a w h => hP _ d c a w h) (by rfl) (by assumption) (fun _ _ => by go_simp) ?_
      simp only [Act.put, List.setIfInBounds_toArray, List.set_cons_zero, List.set_cons_succ]
      refine wpAnyH_ready (rs := [21]) (by as_aux_lemma => kernel_rfl) (by simp) (AllReadyH.cons rfl (fun K hK => ?_) AllReadyH.nil)
      go_simp
      have HMP := Lib.hid (HMO.out.putT hmk (Rg.anew 0 2 m c))
      refine hK.out _ _ (HMP.out.new3 hmk HCN.out) (fun hHeld => ?_)
      clear hK K
      try simp only [Act.put, List.setIfInBounds_toArray, List.set_cons_zero, List.set_cons_succ]
      refine wpAnyH_done (by as_aux_lemma => kernel_rfl) ?_ _
      clear c0 c1 c2 c3 c4 c5 c6 c7 c8 f0 f1 f2 f3 f4 f5 f6 f7 f8 HMO
      have HMQ := Lib.hid (HMP.out.same (S' := fun q => if q = m then Rg.after 0 2 m sent ⟨b2, p2, x2, y2, z2, l2, t2, 6, j2⟩ else S q) (sent' := Rg.count m sent ⟨b2, p2, x2, y2, z2, l2, t2, 6, j2⟩) (fun q _ => by by_cases e : q = m; (subst e; simp only [if_true]; unfold Rg.after; rw [← HC0.out]; rfl); (simp only [e, if_false])) (fun q _ => by unfold Rg.count; by_cases e : q = m; (subst e; rw [if_pos rfl]; rfl); (rw [if_neg e])) (fun _ _ => rfl))
      clear HMP
      go_wp2_with fail
      exact HQ.out _ _ _ _ _ _ _ _ _ _ _ _ _ _ _ _ _ _ _ _ _ _ _ _ _ _ _ _ _ _ _ _ _ _ _ _ _ _ _ _ _ _ _ _ _ _ _ _ _ _ ⟨a2, _, _, HT.out, HMQ.out, HGm.out⟩
    · refine (sdone_no b2 p2 x2 y2 z2 t2 k2 j2 l2 ⟨e5, e6⟩ _).mono ?_
      rintro e w7 ⟨rfl, hb7⟩
      have HM8 := Lib.hid (HM7.out.behind hb7)
      have HMQ := Lib.hid (HM8.out.same (S' := fun q => if q = m then Rg.after 0 2 m sent ⟨b2, p2, x2, y2, z2, l2, t2, k2, j2⟩ else S q) (sent' := Rg.count m sent ⟨b2, p2, x2, y2, z2, l2, t2, k2, j2⟩) (fun q _ => by by_cases e : q = m; (subst e; simp only [if_true]; unfold Rg.after; rw [if_neg e5, if_neg e6]); (simp only [e, if_false])) (fun q _ => by unfold Rg.count; rw [if_neg e5]; by_cases e : q = m; (subst e; rw [if_pos rfl]); (rw [if_neg e])) (fun _ _ => rfl))
      clear hb7 HM7 HM8
      go_wp2_with fail
      exact HQ.out _ _ _ _ _ _ _ _ _ _ _ _ _ _ _ _ _ _ _ _ _ _ _ _ _ _ _ _ _ _ _ _ _ _ _ _ _ _ _ _ _ _ _ _ _ _ _ _ _ _ ⟨a2, _, _, HT.out, HMQ.out, HGm.out⟩


end Go.Proofs.Ytieehpajkidbcaa
