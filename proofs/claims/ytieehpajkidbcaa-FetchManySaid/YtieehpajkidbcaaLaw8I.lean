/- The law on many who send and one who fetches: what comes of a step of his who fetches. -/
import Derived.Test.YtieehpajkidbcaaLaw8G
namespace Go.Proofs.Ytieehpajkidbcaa
open Go.RowKit
attribute [local go_sem ↓] Go.wp_at_zero Go.wp_at_succ

set_option maxHeartbeats 8000000 in
set_option maxRecDepth 100000 in
/-- A step of his who fetches, and what comes of it. -/
theorem many_fetch {w w5 : World} {s : Spot} {K : Nat} {ab : Ar} {gt gs ge gu i H : Nat} {S : Nat → Snd} {sent seen : Nat → Nat} {u : Ftc} (hK : K = 2 ∨ K = 3) (h4 : i < 400) (htd : ab.td = []) (HM5 : Hid (Mny w w5 s K ab gt gs ge gu S sent seen u)) (HG5 : Hid (Rg.Game K i ab.cs H S sent seen u))
    (Q : Exit → Act → World → Prop) (v0 v1 v2 v3 v4 v13 v14 v15 v16 v17 v18 v19 v20 v21 v22 v23 v24 v25 v26 v27 v28 v29 v30 v31 v32 v33 v34 v35 v36 v37 v38 v39 v40 v41 v42 v43 v44 v45 v46 v47 v48 v49 v50 v51 v52 v53 v54 v55 v56 v57 v58 v59 v60 v61 v62 v63 v64 v65 v66 v67 v68 v69 v70 v71 v72 v73 v74 v75 v76 v77 v78 v80 v81 v82 v83 v84 v85 v86 v87 v88 v89 v90 v91 v92 v93 v94 v95 v96 v97 v98 v99 v100 v101 v102 v103 v104 v105 v106 v107 v108 v109 v110 v111 v112 v113 v114 v115 v116 v117 v118 v119 v120 v121 v122 v123 v124 v125 v126 v127 v128 v129 v130 v131 v132 v133 v134 v135 v136 v137 v138 v139 v140 v141 v142 v143 v144 v145 v146 v147 v148 v149 v150 v151 v152 v153 v154 v155 v156 v157 v158 v159 v160 v161 v162 v163 v164 v165 v166 v167 v168 v169 v170 v171 v172 v173 v174 v175 v176 v177 v178 v179 v180 v181 v182 v183 v184 v185 v186 v187 v188 v189 v190 v191 v192 v193 v194 v195 v196 v197 v198 v199 v200 v201 v202 v203 v204 v205 v206 v207 : Value)
    (HQ : Hid (∀ (x18 x19 x20 x21 x127 x128 x129 x130 x131 x132 x133 x134 x135 x136 x137 x138 x139 x140 x141 x142 x143 x144 x145 x146 x147 x148 x149 x150 x151 x152 x153 x154 x155 x156 x157 x158 x159 x160 x161 x162 x163 x164 x165 x166 x167 x168 x169 x170 x171 x172 x173 x174 x175 x176 x177 x178 x179 x180 x181 x182 x183 x184 x185 x186 x187 : Value) (wn : World) (H2 : Nat), (H2 ≤ i + 1 ∧ ∃ (a2 : Ar) (seen2 : Nat → Nat) (u2 : Ftc), a2.td.length = 1 ∧ Mny w wn s K a2 gt gs ge gu S sent seen2 u2 ∧ Rg.Game K (i + 1) a2.cs H2 S sent seen2 u2) → Q .normal ⟨#[v0, v1, v2, v3, v4, .pointer (some ⟨w.heap.size, 0, none⟩), .pointer (some ⟨s.P, 0, none⟩), .int .i64 K, .slice (some ⟨gt, 0, none⟩) K K, .slice (some ⟨gs, 0, none⟩) K K, .slice (some ⟨ge, 0, none⟩) K K, .pointer (some ⟨gu, 0, none⟩), .int .u64 H2, v13, v14, v15, v16, v17, x18, x19, x20, x21, v22, v23, v24, v25, v26, v27, v28, v29, v30, v31, v32, v33, v34, v35, v36, v37, v38, v39, v40, v41, v42, v43, v44, v45, v46, v47, v48, v49, v50, v51, v52, v53, v54, v55, v56, v57, v58, v59, v60, v61, v62, v63, v64, v65, v66, v67, v68, v69, v70, v71, v72, v73, v74, v75, v76, v77, v78, .bool false, v80, v81, v82, v83, v84, v85, v86, v87, v88, v89, v90, v91, v92, v93, v94, v95, v96, v97, v98, v99, v100, v101, v102, v103, v104, v105, v106, v107, v108, v109, v110, v111, v112, v113, v114, v115, v116, v117, v118, v119, v120, v121, v122, v123, v124, v125, v126, x127, x128, x129, x130, x131, x132, x133, x134, x135, x136, x137, x138, x139, x140, x141, x142, x143, x144, x145, x146, x147, x148, x149, x150, x151, x152, x153, x154, x155, x156, x157, x158, x159, x160, x161, x162, x163, x164, x165, x166, x167, x168, x169, x170, x171, x172, x173, x174, x175, x176, x177, x178, x179, x180, x181, x182, x183, x184, x185, x186, x187, v188, v189, v190, v191, v192, v193, v194, v195, v196, v197, v198, v199, v200, v201, v202, v203, v204, v205, v206, v207], []⟩ wn)) (hP : ∀ (v : Value) (d : Option Tmp) c a w, Q (.panic c) (a.put d v) w → Q (.panic c) a w) :
    Code.wp Try.prog ((Try.f4.body.bind (findIf 79)).getD .skip) Q ⟨#[v0, v1, v2, v3, v4, .pointer (some ⟨w.heap.size, 0, none⟩), .pointer (some ⟨s.P, 0, none⟩), .int .i64 K, .slice (some ⟨gt, 0, none⟩) K K, .slice (some ⟨gs, 0, none⟩) K K, .slice (some ⟨ge, 0, none⟩) K K, .pointer (some ⟨gu, 0, none⟩), .int .u64 H, v13, v14, v15, v16, v17, v18, v19, v20, v21, v22, v23, v24, v25, v26, v27, v28, v29, v30, v31, v32, v33, v34, v35, v36, v37, v38, v39, v40, v41, v42, v43, v44, v45, v46, v47, v48, v49, v50, v51, v52, v53, v54, v55, v56, v57, v58, v59, v60, v61, v62, v63, v64, v65, v66, v67, v68, v69, v70, v71, v72, v73, v74, v75, v76, v77, v78, .bool false, v80, v81, v82, v83, v84, v85, v86, v87, v88, v89, v90, v91, v92, v93, v94, v95, v96, v97, v98, v99, v100, v101, v102, v103, v104, v105, v106, v107, v108, v109, v110, v111, v112, v113, v114, v115, v116, v117, v118, v119, v120, v121, v122, v123, v124, v125, v126, v127, v128, v129, v130, v131, v132, v133, v134, v135, v136, v137, v138, v139, v140, v141, v142, v143, v144, v145, v146, v147, v148, v149, v150, v151, v152, v153, v154, v155, v156, v157, v158, v159, v160, v161, v162, v163, v164, v165, v166, v167, v168, v169, v170, v171, v172, v173, v174, v175, v176, v177, v178, v179, v180, v181, v182, v183, v184, v185, v186, v187, v188, v189, v190, v191, v192, v193, v194, v195, v196, v197, v198, v199, v200, v201, v202, v203, v204, v205, v206, v207], []⟩ w5 := by
  conv => arg 2; whnf
  have hHi := HG5.out.head
  obtain ⟨hk3, hgood, hway⟩ := HG5.out.fetch h4
  obtain ⟨b1, p1, t1, k1, j1, x1, y1, z1⟩ := u
  obtain ⟨c0, c1, c2, c3, c4, c5, c6, c7⟩ := eight_cells HM5.out.task
  dsimp only at c0 c1 c2 c3 c4 c5 c6 c7
  go_wp2_with fail
  obtain ⟨T3, hA6, hN6⟩ := HM5.out.call
  have hst := fstep_any ⟨b1, p1, t1, k1, j1, x1, y1, z1⟩ (hgood _ rfl) _ hA6
  have ht1 := Ftc.step_touch (d := ⟨b1, p1, t1, k1, j1, x1, y1, z1⟩) (a := ab) htd hk3
  have hnx := Ftc.step_next ⟨b1, p1, t1, k1, j1, x1, y1, z1⟩ ab
  rw [← hnx.1, ← hnx.2] at hway
  clear hnx hgood c0 c1 c2 c3 c4 c5 c6 c7
  rcases hs : Ftc.step ⟨b1, p1, t1, k1, j1, x1, y1, z1⟩ ab with ⟨⟨b2, p2, t2, k2, j2, x2, y2, z2⟩, a2⟩
  rw [hs] at hst ht1 hway
  refine hst.mono ?_
  rintro e w6 ⟨rfl, hN⟩
  have HM6 := Lib.hid (hN6 _ _ hN)
  have HT := Lib.hid ht1
  have HWy := Lib.hid hway
  have HFew : Hid (∀ q, q < K → sent q ≤ i ∧ seen q ≤ sent q + 1) := fun q hq => HG5.out.few hq
  simp only [Ftc.val]
  clear hst ht1 hway hs hN hN6 hA6 HM5 HG5
  obtain ⟨c0, c1, c2, c3, c4, c5, c6, c7⟩ := eight_cells HM6.out.task
  obtain ⟨f0, f1, f2, f3, f4, f5, f6, f7⟩ := eight_free HM6.out.task
  dsimp only at c0 c1 c2 c3 c4 c5 c6 c7
  go_wp2_with fail
  have HM7 := Lib.hid (HM6.out.putU ⟨b2, p2, t2, k2, j2, x2, y2, z2⟩)
  dsimp only at HM7
  clear c0 c1 c2 c3 c4 c5 c6 c7 f0 f1 f2 f3 f4 f5 f6 f7 HM6
  rcases HWy.out with ⟨e3, hgm⟩ | ⟨e3, hgm⟩ | ⟨e3, f, hfK, ex, ey, ez, hgm⟩
  · have HGm := Lib.hid hgm
    clear hgm HWy
    refine (ftdone_no b2 p2 t2 k2 j2 x2 y2 z2 (by omega) _).mono ?_
    rintro e w7 ⟨rfl, hb7⟩
    have HMQ := Lib.hid (HM7.out.behind hb7)
    clear hb7 HM7
    go_wp2_with fail
    exact HQ.out _ _ _ _ _ _ _ _ _ _ _ _ _ _ _ _ _ _ _ _ _ _ _ _ _ _ _ _ _ _ _ _ _ _ _ _ _ _ _ _ _ _ _ _ _ _ _ _ _ _ _ _ _ _ _ _ _ _ _ _ _ _ _ _ _ _ _ ⟨by omega, a2, _, _, HT.out, HMQ.out, HGm.out⟩
  · have HGm := Lib.hid hgm
    subst e3
    clear hgm HWy
    refine (ftdone_none b2 p2 t2 j2 x2 y2 z2 _).mono ?_
    rintro e w7 ⟨rfl, hb7⟩
    have HM8 := Lib.hid (HM7.out.behind hb7)
    clear hb7 HM7
    obtain ⟨d0, d1⟩ := HM8.out.cells
    go_wp2_with fail
    refine (ftnew_any 0 2 H _).mono ?_
    rintro e w8 ⟨rfl, hb8⟩
    have HM9 := Lib.hid (HM8.out.behind hb8)
    clear hb8 HM8 d0 d1
    obtain ⟨c0, c1, c2, c3, c4, c5, c6, c7⟩ := eight_cells HM9.out.task
    obtain ⟨f0, f1, f2, f3, f4, f5, f6, f7⟩ := eight_free HM9.out.task
    dsimp only at c0 c1 c2 c3 c4 c5 c6 c7
    go_wp2_with fail
    have HMQ := Lib.hid (HM9.out.putU ⟨0, 2, H, 0, 0, 0, 0, 0⟩)
    clear c0 c1 c2 c3 c4 c5 c6 c7 f0 f1 f2 f3 f4 f5 f6 f7 HM9
    exact HQ.out _ _ _ _ _ _ _ _ _ _ _ _ _ _ _ _ _ _ _ _ _ _ _ _ _ _ _ _ _ _ _ _ _ _ _ _ _ _ _ _ _ _ _ _ _ _ _ _ _ _ _ _ _ _ _ _ _ _ _ _ _ _ _ _ _ _ _ ⟨by omega, a2, _, _, HT.out, HMQ.out, HGm.out⟩
  · obtain ⟨H1, hH1⟩ : ∃ H1, H1 = H + 1 := ⟨_, rfl⟩
    rw [← hH1] at hgm
    have HGm := Lib.hid hgm
    subst e3
    have ex2 := ex.symm
    subst ex2
    have HEY := Lib.hid ey
    obtain ⟨hf1, hf2⟩ := HFew.out f hfK
    rw [← ey] at hf2 ez
    have hff : f < 4 := by omega
    have hand : bits .and .u64 (f : Int) 3 = (f : Int) := by
      have h0 : bits .and .u64 (f : Int) 3 = ((f % 4 : Nat) : Int) := u64_low f 2 (by omega) (by omega)
      rw [h0, Nat.mod_eq_of_lt hff]
    have hw0 : IntKind.i64.wrap (f : Int) = (f : Int) := by rw [IntKind.wrap_i64]; omega
    have hw1 : IntKind.u64.wrap (f : Int) = (f : Int) := by rw [IntKind.wrap_u64]; omega
    have hw2 : IntKind.u64.wrap (y2 : Int) = (y2 : Int) := by rw [IntKind.wrap_u64]; omega
    have hw3 : IntKind.i64.wrap (10 * (y2 : Int)) = 10 * (y2 : Int) := by rw [IntKind.wrap_i64]; omega
    have hw4 : IntKind.i64.wrap ((f : Int) + 10 * (y2 : Int)) = (f : Int) + 10 * (y2 : Int) := by rw [IntKind.wrap_i64]; omega
    have hw5 : IntKind.u64.wrap ((f : Int) + 10 * (y2 : Int)) = (f : Int) + 10 * (y2 : Int) := by rw [IntKind.wrap_u64]; omega
    obtain ⟨c, hc⟩ : ∃ c, c = y2 + 1 := ⟨_, rfl⟩
    have hw6 : IntKind.i64.wrap ((y2 : Int) + 1) = (c : Int) := by rw [IntKind.wrap_i64]; omega
    have hw7 : IntKind.u64.wrap ((H : Int) + 1) = (H1 : Int) := by rw [IntKind.wrap_u64]; omega
    have hH1i : H1 ≤ i + 1 := by omega
    have HC0 := Lib.hid hc
    have hge : decide ((K : Int) ≤ (f : Int)) = false := by simp; omega
    have hge2 : ¬ (K : Int) ≤ (f : Int) := by omega
    have hne2 : ((z2 : Int) != (f : Int) + 10 * (y2 : Int)) = false := by rw [show (z2 : Int) = (f : Int) + 10 * (y2 : Int) by omega]; simp
    have hfKi : (f : Int) < (K : Int) := by omega
    clear hgm HWy ex ey ez HFew hc hH1
    refine (ftdone_got b2 p2 t2 j2 f y2 z2 _).mono ?_
    rintro e w7 ⟨rfl, hb7⟩
    have HM8 := Lib.hid (HM7.out.behind hb7)
    clear hb7 HM7
    obtain ⟨c0, c1, c2, c3, c4, c5, c6, c7⟩ := eight_cells HM8.out.task
    dsimp only at c0 c1 c2 c3 c4 c5 c6 c7
    go_wp2_with fail
    refine (ftwords_yes b2 p2 t2 j2 f y2 z2 _).mono ?_
    rintro e w8 ⟨rfl, hb8⟩
    have HM9 := Lib.hid (HM8.out.behind hb8)
    clear hb8 HM8 c0 c1 c2 c3 c4 c5 c6 c7
    have HM10 := Lib.hid ((HM9.out.behind (below_box w8 (.cells #[.int .u64 (f : Nat), .int .u64 (y2 : Nat), .int .u64 (z2 : Nat)] 34))).behind (Below.refl _ _).drew)
    have HB10 := Lib.hid (heap_alloc_new w8 (.cells #[.int .u64 (f : Nat), .int .u64 (y2 : Nat), .int .u64 (z2 : Nat)] 34))
    clear HM9
    go_wp2_with fail
    refine wp_region_held_drew (S := fun w' => w'.cell? ⟨w8.heap.size, 0, none⟩ = some (.int .u64 (f : Nat)) ∧ w'.cell? ⟨w8.heap.size, 1, none⟩ = some (.int .u64 (y2 : Nat)) ∧ w'.cell? ⟨w8.heap.size, 2, none⟩ = some (.int .u64 (z2 : Nat)) ∧ w'.cell? ⟨ge, f, none⟩ = some (.int .i64 (y2 : Nat))) (by as_aux_lemma => kernel_rfl) (seen4 HB10.out (ints_cell HM10.out.seens hfK) HEY.out) (fun hHeld => ?_)
    refine wpAnyH_yield 0 (.int .i64 f) rfl (by as_aux_lemma => kernel_rfl) (by as_aux_lemma => kernel_rfl) (by as_aux_lemma => kernel_rfl) (fun d c a w h => hP _ d c a w h) (by rfl) (by assumption) (fun _ _ => by go_simp) ?_
    simp only [Act.put, List.setIfInBounds_toArray, List.set_cons_zero, List.set_cons_succ]
    refine wpAnyH_yield 1 (.int .i64 K) rfl (by as_aux_lemma => kernel_rfl) (by as_aux_lemma => kernel_rfl) (by as_aux_lemma => kernel_rfl) (fun d c a w h => hP _ d c a w h) (by rfl) (by assumption) (fun _ _ => by go_simp) ?_
    simp only [Act.put, List.setIfInBounds_toArray, List.set_cons_zero, List.set_cons_succ]
    refine wpAnyH_yield 2 (.bool false) rfl (by as_aux_lemma => kernel_rfl) (by as_aux_lemma => kernel_rfl) (by as_aux_lemma => kernel_rfl) (fun d c a w h => hP _ d c a w h) (by rfl) (by assumption) (fun _ _ => by go_simp) ?_
    simp only [Act.put, List.setIfInBounds_toArray, List.set_cons_zero, List.set_cons_succ]
    refine wpAnyH_yield 3 (.bool false) rfl (by as_aux_lemma => kernel_rfl) (by as_aux_lemma => kernel_rfl) (by as_aux_lemma => kernel_rfl) (fun d c a w h => hP _ d c a w h) (by rfl) (by assumption) (fun _ _ => by go_simp) ?_
    simp only [Act.put, List.setIfInBounds_toArray, List.set_cons_zero, List.set_cons_succ]
    refine wpAnyH_yield 4 (.pointer (some ⟨w8.heap.size, 0, none⟩)) rfl (by as_aux_lemma => kernel_rfl) (by as_aux_lemma => kernel_rfl) (by as_aux_lemma => kernel_rfl) (fun d c a w h => hP _ d c a w h) (by rfl) (by assumption) (fun _ _ => by go_simp) ?_
    simp only [Act.put, List.setIfInBounds_toArray, List.set_cons_zero, List.set_cons_succ]
    refine wpAnyH_yield 5 (.int .u64 f) rfl (by as_aux_lemma => kernel_rfl) (by as_aux_lemma => kernel_rfl) (by as_aux_lemma => kernel_rfl) (fun d c a w h => hP _ d c a w h) (by rfl) (by assumption) (fun _ hSw => by (try dsimp only at hSw); go_simp) ?_
    simp only [Act.put, List.setIfInBounds_toArray, List.set_cons_zero, List.set_cons_succ]
    refine wpAnyH_yield 6 (.int .i64 f) rfl (by as_aux_lemma => kernel_rfl) (by as_aux_lemma => kernel_rfl) (by as_aux_lemma => kernel_rfl) (fun d c a w h => hP _ d c a w h) (by rfl) (by assumption) (fun _ _ => by go_simp) ?_
    simp only [Act.put, List.setIfInBounds_toArray, List.set_cons_zero, List.set_cons_succ]
    refine wpAnyH_yield 7 (.int .u64 f) rfl (by as_aux_lemma => kernel_rfl) (by as_aux_lemma => kernel_rfl) (by as_aux_lemma => kernel_rfl) (fun d c a w h => hP _ d c a w h) (by rfl) (by assumption) (fun _ _ => by go_simp) ?_
    simp only [Act.put, List.setIfInBounds_toArray, List.set_cons_zero, List.set_cons_succ]
    refine wpAnyH_yield 8 (.bool false) rfl (by as_aux_lemma => kernel_rfl) (by as_aux_lemma => kernel_rfl) (by as_aux_lemma => kernel_rfl) (fun d c a w h => hP _ d c a w h) (by rfl) (by assumption) (fun _ _ => by go_simp) ?_
    simp only [Act.put, List.setIfInBounds_toArray, List.set_cons_zero, List.set_cons_succ]
    refine wpAnyH_yield 9 (.bool false) rfl (by as_aux_lemma => kernel_rfl) (by as_aux_lemma => kernel_rfl) (by as_aux_lemma => kernel_rfl) (fun d c a w h => hP _ d c a w h) (by rfl) (by assumption) (fun _ _ => by go_simp) ?_
    simp only [Act.put, List.setIfInBounds_toArray, List.set_cons_zero, List.set_cons_succ]
    refine wpAnyH_yield 10 (.bool false) rfl (by as_aux_lemma => kernel_rfl) (by as_aux_lemma => kernel_rfl) (by as_aux_lemma => kernel_rfl) (fun d c a w h => hP _ d c a w h) (by rfl) (by assumption) (fun _ _ => by go_simp) ?_
    simp only [Act.put, List.setIfInBounds_toArray, List.set_cons_zero, List.set_cons_succ]
    refine wpAnyH_yield 11 (.pointer (some ⟨w8.heap.size, 1, none⟩)) rfl (by as_aux_lemma => kernel_rfl) (by as_aux_lemma => kernel_rfl) (by as_aux_lemma => kernel_rfl) (fun d c a w h => hP _ d c a w h) (by rfl) (by assumption) (fun _ _ => by go_simp) ?_
    simp only [Act.put, List.setIfInBounds_toArray, List.set_cons_zero, List.set_cons_succ]
    refine wpAnyH_yield 12 (.int .u64 y2) rfl (by as_aux_lemma => kernel_rfl) (by as_aux_lemma => kernel_rfl) (by as_aux_lemma => kernel_rfl) (fun d c a w h => hP _ d c a w h) (by rfl) (by assumption) (fun _ hSw => by (try dsimp only at hSw); go_simp) ?_
    simp only [Act.put, List.setIfInBounds_toArray, List.set_cons_zero, List.set_cons_succ]
    refine wpAnyH_yield 13 (.slice (some ⟨ge, 0, none⟩) K K) rfl (by as_aux_lemma => kernel_rfl) (by as_aux_lemma => kernel_rfl) (by as_aux_lemma => kernel_rfl) (fun d c a w h => hP _ d c a w h) (by rfl) (by assumption) (fun _ _ => by go_simp) ?_
    simp only [Act.put, List.setIfInBounds_toArray, List.set_cons_zero, List.set_cons_succ]
    refine wpAnyH_yield 14 (.int .i64 f) rfl (by as_aux_lemma => kernel_rfl) (by as_aux_lemma => kernel_rfl) (by as_aux_lemma => kernel_rfl) (fun d c a w h => hP _ d c a w h) (by rfl) (by assumption) (fun _ _ => by go_simp) ?_
    simp only [Act.put, List.setIfInBounds_toArray, List.set_cons_zero, List.set_cons_succ]
    refine wpAnyH_yield 15 (.pointer (some ⟨ge, f, none⟩)) rfl (by as_aux_lemma => kernel_rfl) (by as_aux_lemma => kernel_rfl) (by as_aux_lemma => kernel_rfl) (fun d c a w h => hP _ d c a w h) (by rfl) (by assumption) (fun _ _ => by go_simp) ?_
    simp only [Act.put, List.setIfInBounds_toArray, List.set_cons_zero, List.set_cons_succ]
    refine wpAnyH_yield 16 (.int .i64 y2) rfl (by as_aux_lemma => kernel_rfl) (by as_aux_lemma => kernel_rfl) (by as_aux_lemma => kernel_rfl) (fun d c a w h => hP _ d c a w h) (by rfl) (by assumption) (fun _ hSw => by (try dsimp only at hSw); go_simp) ?_
    simp only [Act.put, List.setIfInBounds_toArray, List.set_cons_zero, List.set_cons_succ]
    refine wpAnyH_yield 17 (.int .u64 y2) rfl (by as_aux_lemma => kernel_rfl) (by as_aux_lemma => kernel_rfl) (by as_aux_lemma => kernel_rfl) (fun d c a w h => hP _ d c a w h) (by rfl) (by assumption) (fun _ _ => by go_simp) ?_
    simp only [Act.put, List.setIfInBounds_toArray, List.set_cons_zero, List.set_cons_succ]
    refine wpAnyH_yield 18 (.bool false) rfl (by as_aux_lemma => kernel_rfl) (by as_aux_lemma => kernel_rfl) (by as_aux_lemma => kernel_rfl) (fun d c a w h => hP _ d c a w h) (by rfl) (by assumption) (fun _ _ => by go_simp) ?_
    simp only [Act.put, List.setIfInBounds_toArray, List.set_cons_zero, List.set_cons_succ]
    refine wpAnyH_yield 19 (.bool false) rfl (by as_aux_lemma => kernel_rfl) (by as_aux_lemma => kernel_rfl) (by as_aux_lemma => kernel_rfl) (fun d c a w h => hP _ d c a w h) (by rfl) (by assumption) (fun _ _ => by go_simp) ?_
    simp only [Act.put, List.setIfInBounds_toArray, List.set_cons_zero, List.set_cons_succ]
    refine wpAnyH_yield 20 (.bool false) rfl (by as_aux_lemma => kernel_rfl) (by as_aux_lemma => kernel_rfl) (by as_aux_lemma => kernel_rfl) (fun d c a w h => hP _ d c a w h) (by rfl) (by assumption) (fun _ _ => by go_simp) ?_
    simp only [Act.put, List.setIfInBounds_toArray, List.set_cons_zero, List.set_cons_succ]
    refine wpAnyH_yield 21 (.pointer (some ⟨w8.heap.size, 2, none⟩)) rfl (by as_aux_lemma => kernel_rfl) (by as_aux_lemma => kernel_rfl) (by as_aux_lemma => kernel_rfl) (fun d c a w h => hP _ d c a w h) (by rfl) (by assumption) (fun _ _ => by go_simp) ?_
    simp only [Act.put, List.setIfInBounds_toArray, List.set_cons_zero, List.set_cons_succ]
    refine wpAnyH_yield 22 (.int .u64 z2) rfl (by as_aux_lemma => kernel_rfl) (by as_aux_lemma => kernel_rfl) (by as_aux_lemma => kernel_rfl) (fun d c a w h => hP _ d c a w h) (by rfl) (by assumption) (fun _ hSw => by (try dsimp only at hSw); go_simp) ?_
    simp only [Act.put, List.setIfInBounds_toArray, List.set_cons_zero, List.set_cons_succ]
    refine wpAnyH_yield 23 (.int .i64 f) rfl (by as_aux_lemma => kernel_rfl) (by as_aux_lemma => kernel_rfl) (by as_aux_lemma => kernel_rfl) (fun d c a w h => hP _ d c a w h) (by rfl) (by assumption) (fun _ _ => by go_simp) ?_
    simp only [Act.put, List.setIfInBounds_toArray, List.set_cons_zero, List.set_cons_succ]
    refine wpAnyH_yield 24 (.slice (some ⟨ge, 0, none⟩) K K) rfl (by as_aux_lemma => kernel_rfl) (by as_aux_lemma => kernel_rfl) (by as_aux_lemma => kernel_rfl) (fun d c a w h => hP _ d c a w h) (by rfl) (by assumption) (fun _ _ => by go_simp) ?_
    simp only [Act.put, List.setIfInBounds_toArray, List.set_cons_zero, List.set_cons_succ]
    refine wpAnyH_yield 25 (.int .i64 f) rfl (by as_aux_lemma => kernel_rfl) (by as_aux_lemma => kernel_rfl) (by as_aux_lemma => kernel_rfl) (fun d c a w h => hP _ d c a w h) (by rfl) (by assumption) (fun _ _ => by go_simp) ?_
    simp only [Act.put, List.setIfInBounds_toArray, List.set_cons_zero, List.set_cons_succ]
    refine wpAnyH_yield 26 (.pointer (some ⟨ge, f, none⟩)) rfl (by as_aux_lemma => kernel_rfl) (by as_aux_lemma => kernel_rfl) (by as_aux_lemma => kernel_rfl) (fun d c a w h => hP _ d c a w h) (by rfl) (by assumption) (fun _ _ => by go_simp) ?_
    simp only [Act.put, List.setIfInBounds_toArray, List.set_cons_zero, List.set_cons_succ]
    refine wpAnyH_yield 27 (.int .i64 y2) rfl (by as_aux_lemma => kernel_rfl) (by as_aux_lemma => kernel_rfl) (by as_aux_lemma => kernel_rfl) (fun d c a w h => hP _ d c a w h) (by rfl) (by assumption) (fun _ hSw => by (try dsimp only at hSw); go_simp) ?_
    simp only [Act.put, List.setIfInBounds_toArray, List.set_cons_zero, List.set_cons_succ]
    refine wpAnyH_yield 28 (.int .i64 (10 * y2)) rfl (by as_aux_lemma => kernel_rfl) (by as_aux_lemma => kernel_rfl) (by as_aux_lemma => kernel_rfl) (fun d c a w h => hP _ d c a w h) (by rfl) (by assumption) (fun _ _ => by go_simp) ?_
    simp only [Act.put, List.setIfInBounds_toArray, List.set_cons_zero, List.set_cons_succ]
    refine wpAnyH_yield 29 (.int .i64 (f + 10 * y2)) rfl (by as_aux_lemma => kernel_rfl) (by as_aux_lemma => kernel_rfl) (by as_aux_lemma => kernel_rfl) (fun d c a w h => hP _ d c a w h) (by rfl) (by assumption) (fun _ _ => by go_simp) ?_
    simp only [Act.put, List.setIfInBounds_toArray, List.set_cons_zero, List.set_cons_succ]
    refine wpAnyH_yield 30 (.int .u64 (f + 10 * y2)) rfl (by as_aux_lemma => kernel_rfl) (by as_aux_lemma => kernel_rfl) (by as_aux_lemma => kernel_rfl) (fun d c a w h => hP _ d c a w h) (by rfl) (by assumption) (fun _ _ => by go_simp) ?_
    simp only [Act.put, List.setIfInBounds_toArray, List.set_cons_zero, List.set_cons_succ]
    refine wpAnyH_yield 31 (.bool false) rfl (by as_aux_lemma => kernel_rfl) (by as_aux_lemma => kernel_rfl) (by as_aux_lemma => kernel_rfl) (fun d c a w h => hP _ d c a w h) (by rfl) (by assumption) (fun _ _ => by go_simp) ?_
    simp only [Act.put, List.setIfInBounds_toArray, List.set_cons_zero, List.set_cons_succ]
    refine wpAnyH_yield 32 (.bool false) rfl (by as_aux_lemma => kernel_rfl) (by as_aux_lemma => kernel_rfl) (by as_aux_lemma => kernel_rfl) (fun d c a w h => hP _ d c a w h) (by rfl) (by assumption) (fun _ _ => by go_simp) ?_
    simp only [Act.put, List.setIfInBounds_toArray, List.set_cons_zero, List.set_cons_succ]
    refine wpAnyH_done (by as_aux_lemma => kernel_rfl) ?_ _
    have q0 := ints_cell HM10.out.seens hfK
    rw [← HEY.out] at q0
    have q1 := HM10.out.seens.free f
    generalize (w8.alloc _).drew = wd at HM10 q0 q1 hHeld ⊢
    go_upto_region 34 with fail
    have HM11 := Lib.hid (HM10.out.putE hfK c)
    obtain ⟨d0, d1⟩ := HM11.out.cells
    clear HM10 q0 q1
    go_wp2_with fail
    refine (ftnew_any 0 2 H1 _).mono ?_
    rintro e w9 ⟨rfl, hb9⟩
    have HM12 := Lib.hid (HM11.out.behind hb9)
    clear hb9 HM11 d0 d1
    obtain ⟨c0, c1, c2, c3, c4, c5, c6, c7⟩ := eight_cells HM12.out.task
    obtain ⟨f0, f1, f2, f3, f4, f5, f6, f7⟩ := eight_free HM12.out.task
    dsimp only at c0 c1 c2 c3 c4 c5 c6 c7
    go_wp2_with fail
    have HM13 := Lib.hid (HM12.out.putU ⟨0, 2, H1, 0, 0, 0, 0, 0⟩)
    have HMQ := Lib.hid (HM13.out.same (seen' := fun q => if q = f then seen q + 1 else seen q) (fun _ _ => rfl) (fun _ _ => rfl) (fun q _ => by by_cases e : q = f; (subst e; rw [if_pos rfl, if_pos rfl, HC0.out, HEY.out]); (rw [if_neg e, if_neg e])))
    clear c0 c1 c2 c3 c4 c5 c6 c7 f0 f1 f2 f3 f4 f5 f6 f7 HM12 HM13
    exact HQ.out _ _ _ _ _ _ _ _ _ _ _ _ _ _ _ _ _ _ _ _ _ _ _ _ _ _ _ _ _ _ _ _ _ _ _ _ _ _ _ _ _ _ _ _ _ _ _ _ _ _ _ _ _ _ _ _ _ _ _ _ _ _ _ _ _ _ _ ⟨by omega, a2, _, _, HT.out, HMQ.out, HGm.out⟩


end Go.Proofs.Ytieehpajkidbcaa
