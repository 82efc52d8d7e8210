/- WheelPlays: where one is laid. -/
import Derived.Test.YtcjidobdbdfjlaaLaw13G
namespace Go.Proofs.Ytcjidobdbdfjlaa
open Go.RowKit Go.Sort

set_option maxHeartbeats 4000000 in
set_option maxRecDepth 1000000 in
theorem put_part {w wr : World} {P X c b9 bk o len cap i : Nat} {now n y0 y1 y2 y3 y4 : Int} {M : List En} {a : Option Addr} {Zs : Nat → Nat → Int} (HX : Hid (Acts w bk o len Zs)) (hl1 : i < len) (HS : Hid (Ws w wr P X now M n a c [b9])) (HB : Hid (wr.heap[b9]? = some (.cells #[.int .i64 y0, .int .i64 y1, .int .i64 y2, .int .i64 y3, .int .i64 y4] 30 (0, 0)))) (h9X : b9 ≠ X) (h9a : ∀ k, k ∈ aBlk a → b9 ≠ k) (h9w : w.heap.size ≤ b9) (hnow : now ≤ 1073741824) (hn : n ≤ 1000)
    (Q : Exit → Act → World → Prop) (v0 v2 v3 v4 v10 v11 v12 v13 v14 v15 v16 v17 v18 v19 v20 v21 v22 v23 v24 v25 v26 v27 v28 v29 v30 v31 v32 v33 v34 v35 v36 v37 v38 v39 v40 v41 v42 v43 v44 v45 v46 v47 v48 v49 v50 v51 v52 v53 v54 v55 v56 v57 v58 v59 v60 v61 v62 v63 v64 v65 v66 v67 v68 v69 v70 v71 v72 v73 v74 v75 v76 v77 v78 v79 v80 v81 v82 v83 v84 v85 v86 v87 v88 v89 v90 v91 v92 v93 v94 v95 v96 v97 v98 v99 v100 v101 v102 v103 v104 v105 v106 v107 v108 v109 v110 v111 v112 v113 v114 v115 v116 v117 v118 v119 v120 v121 v122 v123 v124 v125 v126 v127 v128 v129 v130 v131 v132 v133 v134 v135 v136 v137 v138 v139 v140 v141 v142 v143 v144 v146 v147 v148 v149 v150 v151 v152 v153 v154 v155 v156 v157 v158 v159 v160 v161 v162 v163 v164 v165 v166 v167 v168 v169 v170 v171 v172 v173 v174 v175 v176 v177 v178 v179 v180 v181 v182 v183 v184 v185 v186 v187 v188 v189 : Value)
    (HQ : Hid (∀ (x16 x17 x56 x57 x58 x59 x60 x61 x62 x63 x64 x65 x66 x67 x68 x69 x70 x71 x72 x73 x74 x75 x76 x77 x78 x79 x80 x81 x82 x83 x84 x85 x86 x87 x88 x89 x90 x91 x92 x93 x94 x95 x96 x97 x98 x99 x100 x101 x102 x103 x104 : Value) (n' : Int) (M' : List En) (a' : Option Addr) (c' : Nat) (wn : World), n ≤ n' → n' ≤ n + 1 → Ws w wn P X now M' n' a' c' [] → Q .normal ⟨#[v0, .slice (some ⟨bk, o, none⟩) len cap, v2, v3, v4, .int .i64 now, .pointer (some ⟨P, 0, none⟩), .pointer (some ⟨X, 0, none⟩), .int .i64 (i : Int), .pointer (some ⟨b9, 0, none⟩), v10, v11, v12, v13, v14, v15, x16, x17, v18, v19, v20, v21, v22, v23, v24, v25, v26, v27, v28, v29, v30, v31, v32, v33, v34, v35, v36, v37, v38, v39, v40, v41, v42, v43, v44, v45, v46, v47, v48, v49, v50, v51, v52, v53, v54, v55, x56, x57, x58, x59, x60, x61, x62, x63, x64, x65, x66, x67, x68, x69, x70, x71, x72, x73, x74, x75, x76, x77, x78, x79, x80, x81, x82, x83, x84, x85, x86, x87, x88, x89, x90, x91, x92, x93, x94, x95, x96, x97, x98, x99, x100, x101, x102, x103, x104, v105, v106, v107, v108, v109, v110, v111, v112, v113, v114, v115, v116, v117, v118, v119, v120, v121, v122, v123, v124, v125, v126, v127, v128, v129, v130, v131, v132, v133, v134, v135, v136, v137, v138, v139, v140, v141, v142, v143, v144, .bool false, v146, v147, v148, v149, v150, v151, v152, v153, v154, v155, v156, v157, v158, v159, v160, v161, v162, v163, v164, v165, v166, v167, v168, v169, v170, v171, v172, v173, v174, v175, v176, v177, v178, v179, v180, v181, v182, v183, v184, v185, v186, v187, v188, v189], []⟩ wn)) (hP : ∀ (v : Value) (d : Option Tmp) c a w, Q (.panic c) (a.put d v) w → Q (.panic c) a w) :
    Code.wp Try.prog ((Try.f3.body.bind (findIfs 145)).getD .skip) Q ⟨#[v0, .slice (some ⟨bk, o, none⟩) len cap, v2, v3, v4, .int .i64 now, .pointer (some ⟨P, 0, none⟩), .pointer (some ⟨X, 0, none⟩), .int .i64 (i : Int), .pointer (some ⟨b9, 0, none⟩), v10, v11, v12, v13, v14, v15, v16, v17, v18, v19, v20, v21, v22, v23, v24, v25, v26, v27, v28, v29, v30, v31, v32, v33, v34, v35, v36, v37, v38, v39, v40, v41, v42, v43, v44, v45, v46, v47, v48, v49, v50, v51, v52, v53, v54, v55, v56, v57, v58, v59, v60, v61, v62, v63, v64, v65, v66, v67, v68, v69, v70, v71, v72, v73, v74, v75, v76, v77, v78, v79, v80, v81, v82, v83, v84, v85, v86, v87, v88, v89, v90, v91, v92, v93, v94, v95, v96, v97, v98, v99, v100, v101, v102, v103, v104, v105, v106, v107, v108, v109, v110, v111, v112, v113, v114, v115, v116, v117, v118, v119, v120, v121, v122, v123, v124, v125, v126, v127, v128, v129, v130, v131, v132, v133, v134, v135, v136, v137, v138, v139, v140, v141, v142, v143, v144, .bool false, v146, v147, v148, v149, v150, v151, v152, v153, v154, v155, v156, v157, v158, v159, v160, v161, v162, v163, v164, v165, v166, v167, v168, v169, v170, v171, v172, v173, v174, v175, v176, v177, v178, v179, v180, v181, v182, v183, v184, v185, v186, v187, v188, v189], []⟩ wr := by
  conv => arg 2; whnf
  have hl1' : (i : Int) < (len : Int) := by omega
  have hn1 : n ≤ 1000000000 := by omega
  have q0 := HX.out.at_ HS.out.wl.rest hl1 (j := 0) (by decide)
  have q1 := HX.out.at_ HS.out.wl.rest hl1 (j := 1) (by decide)
  have q4 := HX.out.at_ HS.out.wl.rest hl1 (j := 4) (by decide)
  simp only [Nat.add_zero] at q0
  have m1 := low16383 (Zs i 1)
  have m4 := low15 (Zs i 4)
  have m0 := low15 (Zs i 0 / 8)
  have p0 : 0 ≤ Zs i 1 % 16384 := by omega
  have p1 : Zs i 1 % 16384 < 16384 := by omega
  have r0 : 0 ≤ Zs i 4 % 16 := by omega
  have r1 : Zs i 4 % 16 < 16 := by omega
  generalize Zs i 1 % 16384 = p at m1 p0 p1
  generalize Zs i 4 % 16 = sh at m4 r0 r1
  generalize Zs i 0 / 8 % 16 = tg at m0
  generalize Zs i 0 = z0 at q0 m0
  generalize Zs i 1 = z1 at q1 m1
  generalize Zs i 4 = z4 at q4 m4
  have hbk : bk < w.heap.size := HX.out.old hl1
  have hwsh : IntKind.u64.wrap sh = sh := by rw [IntKind.wrap_u64]; omega
  have hsb : 0 ≤ p / 2 ^ sh.toNat ∧ p / 2 ^ sh.toNat ≤ p := ⟨Int.ediv_nonneg p0 (Int.le_of_lt (Int.pow_pos (by decide))), Int.ediv_le_self _ p0⟩
  have hnw := HS.out.wl.time.1
  go_wp2_with fail
  refine wp_region_held_drew (S := fun w' => w'.cell? ⟨bk, o + i * 7 + 1, none⟩ = some (.int .i64 z1) ∧ w'.cell? ⟨bk, o + i * 7 + 4, none⟩ = some (.int .i64 z4)) (by as_aux_lemma => kernel_rfl) ⟨q1, q4⟩ (fun hHeld => ?_)
  have HSd := Lib.hid (HS.out.past (Rest.drew (fun _ => False) _))
  have HBd : Hid (wr.drew.heap[b9]? = some (.cells #[.int .i64 y0, .int .i64 y1, .int .i64 y2, .int .i64 y3, .int .i64 y4] 30 (0, 0))) := HB.out
  have q0d : wr.drew.cell? ⟨bk, o + i * 7, none⟩ = some (.int .i64 z0) := q0
  have q1d : wr.drew.cell? ⟨bk, o + i * 7 + 1, none⟩ = some (.int .i64 z1) := q1
  clear HS HB q0 q1 q4
  generalize wr.drew = wd at HSd HBd hHeld q0d q1d ⊢
  refine wpAnyH_yield 0 (.int .i64 now) rfl (by as_aux_lemma => kernel_rfl) (by as_aux_lemma => kernel_rfl) (by as_aux_lemma => kernel_rfl) (fun d c a w h => hP _ d c a w h) (by rfl) (by assumption) (fun _ _ => by go_simp) ?_
  simp only [Act.put, List.setIfInBounds_toArray, List.set_cons_zero, List.set_cons_succ]
  refine wpAnyH_yield 1 (.slice (some ⟨bk, o, none⟩) len cap) rfl (by as_aux_lemma => kernel_rfl) (by as_aux_lemma => kernel_rfl) (by as_aux_lemma => kernel_rfl) (fun d c a w h => hP _ d c a w h) (by rfl) (by assumption) (fun _ _ => by go_simp) ?_
  simp only [Act.put, List.setIfInBounds_toArray, List.set_cons_zero, List.set_cons_succ]
  refine wpAnyH_yield 2 (.int .i64 (i : Int)) rfl (by as_aux_lemma => kernel_rfl) (by as_aux_lemma => kernel_rfl) (by as_aux_lemma => kernel_rfl) (fun d c a w h => hP _ d c a w h) (by rfl) (by assumption) (fun _ _ => by go_simp) ?_
  simp only [Act.put, List.setIfInBounds_toArray, List.set_cons_zero, List.set_cons_succ]
  refine wpAnyH_yield 3 (.pointer (some ⟨bk, o + i * 7, none⟩)) rfl (by as_aux_lemma => kernel_rfl) (by as_aux_lemma => kernel_rfl) (by as_aux_lemma => kernel_rfl) (fun d c a w h => hP _ d c a w h) (by rfl) (by assumption) (fun _ _ => by go_simp) ?_
  simp only [Act.put, List.setIfInBounds_toArray, List.set_cons_zero, List.set_cons_succ]
  refine wpAnyH_yield 4 (.pointer (some ⟨bk, o + i * 7 + 1, none⟩)) rfl (by as_aux_lemma => kernel_rfl) (by as_aux_lemma => kernel_rfl) (by as_aux_lemma => kernel_rfl) (fun d c a w h => hP _ d c a w h) (by rfl) (by assumption) (fun _ _ => by go_simp) ?_
  simp only [Act.put, List.setIfInBounds_toArray, List.set_cons_zero, List.set_cons_succ]
  refine wpAnyH_yield 5 (.pointer (some ⟨bk, o + i * 7 + 1, none⟩)) rfl (by as_aux_lemma => kernel_rfl) (by as_aux_lemma => kernel_rfl) (by as_aux_lemma => kernel_rfl) (fun d c a w h => hP _ d c a w h) (by rfl) (by assumption) (fun _ _ => by go_simp) ?_
  simp only [Act.put, List.setIfInBounds_toArray, List.set_cons_zero, List.set_cons_succ]
  refine wpAnyH_yield 6 (.int .i64 z1) rfl (by as_aux_lemma => kernel_rfl) (by as_aux_lemma => kernel_rfl) (by as_aux_lemma => kernel_rfl) (fun d c a w h => hP _ d c a w h) (by rfl) (by assumption) (fun _ hSw => by (try dsimp only at hSw); go_simp) ?_
  simp only [Act.put, List.setIfInBounds_toArray, List.set_cons_zero, List.set_cons_succ]
  refine wpAnyH_yield 7 (.int .i64 p) rfl (by as_aux_lemma => kernel_rfl) (by as_aux_lemma => kernel_rfl) (by as_aux_lemma => kernel_rfl) (fun d c a w h => hP _ d c a w h) (by rfl) (by assumption) (fun _ _ => by go_simp) ?_
  simp only [Act.put, List.setIfInBounds_toArray, List.set_cons_zero, List.set_cons_succ]
  refine wpAnyH_yield 8 (.slice (some ⟨bk, o, none⟩) len cap) rfl (by as_aux_lemma => kernel_rfl) (by as_aux_lemma => kernel_rfl) (by as_aux_lemma => kernel_rfl) (fun d c a w h => hP _ d c a w h) (by rfl) (by assumption) (fun _ _ => by go_simp) ?_
  simp only [Act.put, List.setIfInBounds_toArray, List.set_cons_zero, List.set_cons_succ]
  refine wpAnyH_yield 9 (.int .i64 (i : Int)) rfl (by as_aux_lemma => kernel_rfl) (by as_aux_lemma => kernel_rfl) (by as_aux_lemma => kernel_rfl) (fun d c a w h => hP _ d c a w h) (by rfl) (by assumption) (fun _ _ => by go_simp) ?_
  simp only [Act.put, List.setIfInBounds_toArray, List.set_cons_zero, List.set_cons_succ]
  refine wpAnyH_yield 10 (.pointer (some ⟨bk, o + i * 7, none⟩)) rfl (by as_aux_lemma => kernel_rfl) (by as_aux_lemma => kernel_rfl) (by as_aux_lemma => kernel_rfl) (fun d c a w h => hP _ d c a w h) (by rfl) (by assumption) (fun _ _ => by go_simp) ?_
  simp only [Act.put, List.setIfInBounds_toArray, List.set_cons_zero, List.set_cons_succ]
  refine wpAnyH_yield 11 (.pointer (some ⟨bk, o + i * 7 + 1, none⟩)) rfl (by as_aux_lemma => kernel_rfl) (by as_aux_lemma => kernel_rfl) (by as_aux_lemma => kernel_rfl) (fun d c a w h => hP _ d c a w h) (by rfl) (by assumption) (fun _ _ => by go_simp) ?_
  simp only [Act.put, List.setIfInBounds_toArray, List.set_cons_zero, List.set_cons_succ]
  refine wpAnyH_yield 12 (.pointer (some ⟨bk, o + i * 7 + 4, none⟩)) rfl (by as_aux_lemma => kernel_rfl) (by as_aux_lemma => kernel_rfl) (by as_aux_lemma => kernel_rfl) (fun d c a w h => hP _ d c a w h) (by rfl) (by assumption) (fun _ _ => by go_simp) ?_
  simp only [Act.put, List.setIfInBounds_toArray, List.set_cons_zero, List.set_cons_succ]
  refine wpAnyH_yield 13 (.int .i64 z4) rfl (by as_aux_lemma => kernel_rfl) (by as_aux_lemma => kernel_rfl) (by as_aux_lemma => kernel_rfl) (fun d c a w h => hP _ d c a w h) (by rfl) (by assumption) (fun _ hSw => by (try dsimp only at hSw); go_simp) ?_
  simp only [Act.put, List.setIfInBounds_toArray, List.set_cons_zero, List.set_cons_succ]
  refine wpAnyH_yield 14 (.int .i64 sh) rfl (by as_aux_lemma => kernel_rfl) (by as_aux_lemma => kernel_rfl) (by as_aux_lemma => kernel_rfl) (fun d c a w h => hP _ d c a w h) (by rfl) (by assumption) (fun _ _ => by go_simp) ?_
  simp only [Act.put, List.setIfInBounds_toArray, List.set_cons_zero, List.set_cons_succ]
  refine wpAnyH_yield 15 (.int .u64 sh) rfl (by as_aux_lemma => kernel_rfl) (by as_aux_lemma => kernel_rfl) (by as_aux_lemma => kernel_rfl) (fun d c a w h => hP _ d c a w h) (by rfl) (by assumption) (fun _ _ => by go_simp) ?_
  simp only [Act.put, List.setIfInBounds_toArray, List.set_cons_zero, List.set_cons_succ]
  refine wpAnyH_yield 16 (.int .i64 (p / 2 ^ sh.toNat)) rfl (by as_aux_lemma => kernel_rfl) (by as_aux_lemma => kernel_rfl) (by as_aux_lemma => kernel_rfl) (fun d c a w h => hP _ d c a w h) (by rfl) (by assumption) (fun _ _ => by go_simp) ?_
  simp only [Act.put, List.setIfInBounds_toArray, List.set_cons_zero, List.set_cons_succ]
  generalize p / 2 ^ sh.toNat = s at hsb ⊢
  have hws : IntKind.i64.wrap (now + s) = now + s := by rw [IntKind.wrap_i64]; omega
  refine wpAnyH_yield 17 (.int .i64 (now + s)) rfl (by as_aux_lemma => kernel_rfl) (by as_aux_lemma => kernel_rfl) (by as_aux_lemma => kernel_rfl) (fun d c a w h => hP _ d c a w h) (by rfl) (by assumption) (fun _ _ => by go_simp) ?_
  simp only [Act.put, List.setIfInBounds_toArray, List.set_cons_zero, List.set_cons_succ]
  refine wpAnyH_yield 18 (.pointer (some ⟨b9, 0, none⟩)) rfl (by as_aux_lemma => kernel_rfl) (by as_aux_lemma => kernel_rfl) (by as_aux_lemma => kernel_rfl) (fun d c a w h => hP _ d c a w h) (by rfl) (by assumption) (fun _ _ => by go_simp) ?_
  simp only [Act.put, List.setIfInBounds_toArray, List.set_cons_zero, List.set_cons_succ]
  have hb9l := lt_of_block HBd.out
  obtain ⟨x0, x1, x2, x3, x4⟩ := five_cells13 HBd.out
  have f9 : ∀ i, wd.frozen? ⟨b9, i, none⟩ = false := fun _ => frozen_of_row _ _ _ _ _ HBd.out
  have hb1 := heap_setCell_same wd b9 0 _ _ (.int .i64 (now + s)) HBd.out
  have hr1 := Rest.setCell (own := fun k => k = b9) wd ⟨b9, 0, none⟩ (.int .i64 (now + s)) rfl
  have HB1 : Hid ((wd.setCell ⟨b9, 0, none⟩ (.int .i64 (now + s))).heap[b9]? = some (.cells #[.int .i64 (now + s), .int .i64 y1, .int .i64 y2, .int .i64 y3, .int .i64 y4] 30 (0, 0))) := Lib.hid hb1
  have HS1 := Lib.hid (HSd.out.wrote (b := b9) (by simp) h9X h9a h9w hr1)
  have hkeep : (wd.setCell ⟨b9, 0, none⟩ (.int .i64 (now + s))).heap[bk]? = wd.heap[bk]? := hr1.block bk (Nat.lt_of_lt_of_le hbk HSd.out.wl.size) (by omega)
  have q0e : (wd.setCell ⟨b9, 0, none⟩ (.int .i64 (now + s))).cell? ⟨bk, o + i * 7, none⟩ = some (.int .i64 z0) := by rw [World.cell?_of_block hkeep]; exact q0d
  have q1e : (wd.setCell ⟨b9, 0, none⟩ (.int .i64 (now + s))).cell? ⟨bk, o + i * 7 + 1, none⟩ = some (.int .i64 z1) := by rw [World.cell?_of_block hkeep]; exact q1d
  have q4e : (wd.setCell ⟨b9, 0, none⟩ (.int .i64 (now + s))).cell? ⟨bk, o + i * 7 + 4, none⟩ = some (.int .i64 z4) := by rw [World.cell?_of_block hkeep]; exact hHeld.2
  clear q0d q1d hb1 hr1 hkeep
  refine wpAnyH_ready (rs := [19]) (by as_aux_lemma => kernel_rfl) (by simp) (AllReadyH.cons rfl (fun K hK => ?_) AllReadyH.nil)
  go_simp
  refine hK.out _ _ (⟨q1e, q4e⟩) (fun hHeld => ?_)
  clear hK K
  try simp only [Act.put, List.setIfInBounds_toArray, List.set_cons_zero, List.set_cons_succ]
  clear x0 x1 x2 x3 x4 f9
  refine wpAnyH_done (by as_aux_lemma => kernel_rfl) ?_ _
  clear q4e hHeld
  generalize wd.setCell ⟨b9, 0, none⟩ (.int .i64 (now + s)) = w2 at HB1 HS1 q0e q1e ⊢
  by_cases e0 : tg = 0
  · have e0b : (tg == 0) = true := by simpa using e0
    obtain ⟨x0, x1, x2, x3, x4⟩ := five_cells13 HB1.out
    have f9 : ∀ i, w2.frozen? ⟨b9, i, none⟩ = false := fun _ => frozen_of_row _ _ _ _ _ HB1.out
    have hb2 := heap_setCell_same w2 b9 0 _ _ (.int .i64 z1) HB1.out
    have hr2 := Rest.setCell (own := fun k => k = b9) w2 ⟨b9, 0, none⟩ (.int .i64 z1) rfl
    have HB2 : Hid ((w2.setCell ⟨b9, 0, none⟩ (.int .i64 z1)).heap[b9]? = some (.cells #[.int .i64 z1, .int .i64 y1, .int .i64 y2, .int .i64 y3, .int .i64 y4] 30 (0, 0))) := Lib.hid hb2
    have HS2 := Lib.hid (HS1.out.wrote (b := b9) (by simp) h9X h9a h9w hr2)
    clear hb2 hr2
    go_wp2_with fail
    clear x0 x1 x2 x3 x4 f9 q0e q1e
    have hxc : Tk.clamp z1 = 1099511627776 ∨ Tk.clamp z1 ≠ 1099511627776 := Classical.em _
    by_cases hyes : Tk.clamp z1 ≠ 1099511627776 ∧ (Rf.without (⟨z1, y1, y2, y3, y4, 0⟩ : En) M).length < 256
    · refine put_reg_yes (x := ⟨z1, y1, y2, y3, y4, 0⟩) HS2 HB2 hyes.1 hyes.2 hn1 _ _ _ _ _ _ _ _ _ _ _ _ _ _ _ _ _ _ _ _ _ _ _ _ _ _ _ _ _ _ _ _ _ _ _ _ _ _ _ _ _ _ _ _ _ _ _ _ _ _ _ _ _ _ _ _ _ _ _ _ _ _ _ _ _ _ _ _ _ _ _ _ _ _ _ _ _ _ _ _ _ _ _ _ _ _ _ _ _ _ _ _ _ _ _ _ _ _ _ _ _ _ _ _ _ _ _ _ _ _ _ _ _ _ _ _ _ _ _ _ _ _ _ _ _ _ _ _ _ _ _ _ _ _ _ _ _ _ _ _ _ _ _ _ _ _ _ _ _ _ _ _ _ _ _ _ _ _ _ _ _ _ _ _ _ _ _ _ _ _ _ _ _ _ _ _ _ _ _ _ _ _ _ _ _ _ _ _ _ (Lib.hid (fun z90 z91 z92 z93 z94 z95 z96 z97 b16 g2 o2 c2 wn hW hb9 hb16 hrow hXb hXg => ?_)) (fun v d c a w h => hP v d c a w h)
      have hput := wl_put (⟨z1, y1, y2, y3, y4, 0⟩ : En) (n + 1) hW.wl hyes.1 hyes.2
      have HPut := Lib.hid hput
      have HWn := Lib.hid hW
      have HB9 := Lib.hid hb9
      have HB16 := Lib.hid hb16
      have HRow := Lib.hid hrow
      have HXb := Lib.hid hXb
      have HXg := Lib.hid hXg
      obtain ⟨x0, x1, x2, x3, x4⟩ := five_cells13 hb9
      clear hput hW hb9 hb16 hrow hXb hXg hxc
      go_wp2_with fail
      refine HPut.out.mono ?_
      rintro e w5 ⟨rfl, h5, hs5⟩
      have hX5 := (hs5.2 X List.mem_cons_self).trans HWn.out.box
      have h16 := (hs5.2 b16 (by simp)).trans HB16.out
      have hlz : Lz w5 w.heap.size (some ⟨g2, o2, none⟩) c2 (Rf.put (laidAs (⟨z1, y1, y2, y3, y4, 0⟩ : En) n) (Rf.without (⟨z1, y1, y2, y3, y4, 0⟩ : En) M)) := .inr ⟨g2, o2, rfl, by rw [Rf.put_length]; exact HRow.out.kept (hs5.2 g2 (by simp))⟩
      have hwl : Wl w w5 P now (Rf.put (laidAs (⟨z1, y1, y2, y3, y4, 0⟩ : En) n) (Rf.without (⟨z1, y1, y2, y3, y4, 0⟩ : En) M)) (X :: (aBlk (some ⟨g2, o2, none⟩) ++ [])) := h5.drop (fun k hk => by
        simp only [aBlk, List.append_nil, List.mem_cons, List.not_mem_nil, or_false] at hk
        rcases hk with rfl | rfl
        · exact List.mem_cons_self
        · simp)
      have HN : Hid (∀ w7, w7 = (w5.setCell ⟨X, 0, none⟩ (.slice (some ⟨g2, o2, none⟩) ((Rf.without (⟨z1, y1, y2, y3, y4, 0⟩ : En) M).length + 1) c2)).setCell ⟨X, 1, none⟩ (.int .i64 (n + 1)) → Ws w w7 P X now (Rf.put (laidAs (⟨z1, y1, y2, y3, y4, 0⟩ : En) n) (Rf.without (⟨z1, y1, y2, y3, y4, 0⟩ : En) M)) (n + 1) (some ⟨g2, o2, none⟩) c2 []) := Lib.hid (fun w7 e => by
        rw [← Rf.put_length (laidAs (⟨z1, y1, y2, y3, y4, 0⟩ : En) n)] at e
        exact Ws.next hwl hX5 hlz (by have := HWn.out.num; omega) HWn.out.from_ (by simp only [aBlk, List.mem_cons, List.not_mem_nil, or_false]; exact fun e => HXg.out e.symm) e)
      obtain ⟨u0, u1⟩ := two_cells13 h16
      obtain ⟨m0, m1⟩ := two_cells13 hX5
      have fX : ∀ i, w5.frozen? ⟨X, i, none⟩ = false := fun _ => frozen_of_row _ _ _ _ _ hX5
      clear x0 x1 x2 x3 x4 h5 hs5 hX5 h16 hlz hwl HPut HB16 HRow
      go_wp2_with fail
      exact HQ.out _ _ _ _ _ _ _ _ _ _ _ _ _ _ _ _ _ _ _ _ _ _ _ _ _ _ _ _ _ _ _ _ _ _ _ _ _ _ _ _ _ _ _ _ _ _ _ _ _ _ _ (n + 1) _ (some ⟨g2, o2, none⟩) c2 _ (by omega) (by omega) (HN.out _ rfl)
    · have hno : Tk.clamp z1 = 1099511627776 ∨ 256 ≤ (Rf.without (⟨z1, y1, y2, y3, y4, 0⟩ : En) M).length := by
        rcases hxc with h | h
        · exact .inl h
        · right
          have : ¬ (Rf.without (⟨z1, y1, y2, y3, y4, 0⟩ : En) M).length < 256 := fun e => hyes ⟨h, e⟩
          omega
      refine put_reg_no (x := ⟨z1, y1, y2, y3, y4, 0⟩) HS2 HB2 hno _ _ _ _ _ _ _ _ _ _ _ _ _ _ _ _ _ _ _ _ _ _ _ _ _ _ _ _ _ _ _ _ _ _ _ _ _ _ _ _ _ _ _ _ _ _ _ _ _ _ _ _ _ _ _ _ _ _ _ _ _ _ _ _ _ _ _ _ _ _ _ _ _ _ _ _ _ _ _ _ _ _ _ _ _ _ _ _ _ _ _ _ _ _ _ _ _ _ _ _ _ _ _ _ _ _ _ _ _ _ _ _ _ _ _ _ _ _ _ _ _ _ _ _ _ _ _ _ _ _ _ _ _ _ _ _ _ _ _ _ _ _ _ _ _ _ _ _ _ _ _ _ _ _ _ _ _ _ _ _ _ _ _ _ _ _ _ _ _ _ _ _ _ _ _ _ _ _ _ _ _ _ _ _ _ _ _ _ _ (Lib.hid (fun z90 z91 z92 z93 z94 z95 z96 z97 b16 wn hW hb9 => ?_)) (fun v d c a w h => hP v d c a w h)
      have hput : Calls Try.prog 12 #[.pointer (some ⟨P, 0, none⟩), .agg #[.int .i64 z1, .int .i64 y1, .int .i64 y2, .int .i64 y3, .int .i64 y4]] wn fun e w' => e = .returned (.bool false) ∧ Rest (fun _ => False) wn w' := by
        by_cases hc : Tk.clamp z1 = 1099511627776
        · exact wl_never (⟨z1, y1, y2, y3, y4, 0⟩ : En) hW.wl hc
        · exact wl_full (⟨z1, y1, y2, y3, y4, 0⟩ : En) hW.wl hc (hno.resolve_left hc)
      have HPut := Lib.hid hput
      have HWn := Lib.hid hW
      obtain ⟨x0, x1, x2, x3, x4⟩ := five_cells13 hb9
      clear hput hW hb9 hxc hno hyes
      go_wp2_with fail
      refine HPut.out.mono ?_
      rintro e w5 ⟨rfl, hr5⟩
      have HW5 := Lib.hid ((HWn.out.past hr5).drop (K' := []) (fun k hk => by simp at hk))
      clear x0 x1 x2 x3 x4 hr5 HPut HWn
      go_wp2_with fail
      exact HQ.out _ _ _ _ _ _ _ _ _ _ _ _ _ _ _ _ _ _ _ _ _ _ _ _ _ _ _ _ _ _ _ _ _ _ _ _ _ _ _ _ _ _ _ _ _ _ _ _ _ _ _ n M a c _ (by omega) (by omega) HW5.out
  · have e0b : (tg == 0) = false := by simpa using e0
    go_wp2_with fail
    clear q0e q1e
    have hxc : Tk.clamp (now + s) = 1099511627776 ∨ Tk.clamp (now + s) ≠ 1099511627776 := Classical.em _
    by_cases hyes : Tk.clamp (now + s) ≠ 1099511627776 ∧ (Rf.without (⟨(now + s), y1, y2, y3, y4, 0⟩ : En) M).length < 256
    · refine put_reg_yes (x := ⟨(now + s), y1, y2, y3, y4, 0⟩) HS1 HB1 hyes.1 hyes.2 hn1 _ _ _ _ _ _ _ _ _ _ _ _ _ _ _ _ _ _ _ _ _ _ _ _ _ _ _ _ _ _ _ _ _ _ _ _ _ _ _ _ _ _ _ _ _ _ _ _ _ _ _ _ _ _ _ _ _ _ _ _ _ _ _ _ _ _ _ _ _ _ _ _ _ _ _ _ _ _ _ _ _ _ _ _ _ _ _ _ _ _ _ _ _ _ _ _ _ _ _ _ _ _ _ _ _ _ _ _ _ _ _ _ _ _ _ _ _ _ _ _ _ _ _ _ _ _ _ _ _ _ _ _ _ _ _ _ _ _ _ _ _ _ _ _ _ _ _ _ _ _ _ _ _ _ _ _ _ _ _ _ _ _ _ _ _ _ _ _ _ _ _ _ _ _ _ _ _ _ _ _ _ _ _ _ _ _ _ _ _ (Lib.hid (fun z90 z91 z92 z93 z94 z95 z96 z97 b16 g2 o2 c2 wn hW hb9 hb16 hrow hXb hXg => ?_)) (fun v d c a w h => hP v d c a w h)
      have hput := wl_put (⟨(now + s), y1, y2, y3, y4, 0⟩ : En) (n + 1) hW.wl hyes.1 hyes.2
      have HPut := Lib.hid hput
      have HWn := Lib.hid hW
      have HB9 := Lib.hid hb9
      have HB16 := Lib.hid hb16
      have HRow := Lib.hid hrow
      have HXb := Lib.hid hXb
      have HXg := Lib.hid hXg
      obtain ⟨x0, x1, x2, x3, x4⟩ := five_cells13 hb9
      clear hput hW hb9 hb16 hrow hXb hXg hxc
      go_wp2_with fail
      refine HPut.out.mono ?_
      rintro e w5 ⟨rfl, h5, hs5⟩
      have hX5 := (hs5.2 X List.mem_cons_self).trans HWn.out.box
      have h16 := (hs5.2 b16 (by simp)).trans HB16.out
      have hlz : Lz w5 w.heap.size (some ⟨g2, o2, none⟩) c2 (Rf.put (laidAs (⟨(now + s), y1, y2, y3, y4, 0⟩ : En) n) (Rf.without (⟨(now + s), y1, y2, y3, y4, 0⟩ : En) M)) := .inr ⟨g2, o2, rfl, by rw [Rf.put_length]; exact HRow.out.kept (hs5.2 g2 (by simp))⟩
      have hwl : Wl w w5 P now (Rf.put (laidAs (⟨(now + s), y1, y2, y3, y4, 0⟩ : En) n) (Rf.without (⟨(now + s), y1, y2, y3, y4, 0⟩ : En) M)) (X :: (aBlk (some ⟨g2, o2, none⟩) ++ [])) := h5.drop (fun k hk => by
        simp only [aBlk, List.append_nil, List.mem_cons, List.not_mem_nil, or_false] at hk
        rcases hk with rfl | rfl
        · exact List.mem_cons_self
        · simp)
      have HN : Hid (∀ w7, w7 = (w5.setCell ⟨X, 0, none⟩ (.slice (some ⟨g2, o2, none⟩) ((Rf.without (⟨(now + s), y1, y2, y3, y4, 0⟩ : En) M).length + 1) c2)).setCell ⟨X, 1, none⟩ (.int .i64 (n + 1)) → Ws w w7 P X now (Rf.put (laidAs (⟨(now + s), y1, y2, y3, y4, 0⟩ : En) n) (Rf.without (⟨(now + s), y1, y2, y3, y4, 0⟩ : En) M)) (n + 1) (some ⟨g2, o2, none⟩) c2 []) := Lib.hid (fun w7 e => by
        rw [← Rf.put_length (laidAs (⟨(now + s), y1, y2, y3, y4, 0⟩ : En) n)] at e
        exact Ws.next hwl hX5 hlz (by have := HWn.out.num; omega) HWn.out.from_ (by simp only [aBlk, List.mem_cons, List.not_mem_nil, or_false]; exact fun e => HXg.out e.symm) e)
      obtain ⟨u0, u1⟩ := two_cells13 h16
      obtain ⟨m0, m1⟩ := two_cells13 hX5
      have fX : ∀ i, w5.frozen? ⟨X, i, none⟩ = false := fun _ => frozen_of_row _ _ _ _ _ hX5
      clear x0 x1 x2 x3 x4 h5 hs5 hX5 h16 hlz hwl HPut HB16 HRow
      go_wp2_with fail
      exact HQ.out _ _ _ _ _ _ _ _ _ _ _ _ _ _ _ _ _ _ _ _ _ _ _ _ _ _ _ _ _ _ _ _ _ _ _ _ _ _ _ _ _ _ _ _ _ _ _ _ _ _ _ (n + 1) _ (some ⟨g2, o2, none⟩) c2 _ (by omega) (by omega) (HN.out _ rfl)
    · have hno : Tk.clamp (now + s) = 1099511627776 ∨ 256 ≤ (Rf.without (⟨(now + s), y1, y2, y3, y4, 0⟩ : En) M).length := by
        rcases hxc with h | h
        · exact .inl h
        · right
          have : ¬ (Rf.without (⟨(now + s), y1, y2, y3, y4, 0⟩ : En) M).length < 256 := fun e => hyes ⟨h, e⟩
          omega
      refine put_reg_no (x := ⟨(now + s), y1, y2, y3, y4, 0⟩) HS1 HB1 hno _ _ _ _ _ _ _ _ _ _ _ _ _ _ _ _ _ _ _ _ _ _ _ _ _ _ _ _ _ _ _ _ _ _ _ _ _ _ _ _ _ _ _ _ _ _ _ _ _ _ _ _ _ _ _ _ _ _ _ _ _ _ _ _ _ _ _ _ _ _ _ _ _ _ _ _ _ _ _ _ _ _ _ _ _ _ _ _ _ _ _ _ _ _ _ _ _ _ _ _ _ _ _ _ _ _ _ _ _ _ _ _ _ _ _ _ _ _ _ _ _ _ _ _ _ _ _ _ _ _ _ _ _ _ _ _ _ _ _ _ _ _ _ _ _ _ _ _ _ _ _ _ _ _ _ _ _ _ _ _ _ _ _ _ _ _ _ _ _ _ _ _ _ _ _ _ _ _ _ _ _ _ _ _ _ _ _ _ _ (Lib.hid (fun z90 z91 z92 z93 z94 z95 z96 z97 b16 wn hW hb9 => ?_)) (fun v d c a w h => hP v d c a w h)
      have hput : Calls Try.prog 12 #[.pointer (some ⟨P, 0, none⟩), .agg #[.int .i64 (now + s), .int .i64 y1, .int .i64 y2, .int .i64 y3, .int .i64 y4]] wn fun e w' => e = .returned (.bool false) ∧ Rest (fun _ => False) wn w' := by
        by_cases hc : Tk.clamp (now + s) = 1099511627776
        · exact wl_never (⟨(now + s), y1, y2, y3, y4, 0⟩ : En) hW.wl hc
        · exact wl_full (⟨(now + s), y1, y2, y3, y4, 0⟩ : En) hW.wl hc (hno.resolve_left hc)
      have HPut := Lib.hid hput
      have HWn := Lib.hid hW
      obtain ⟨x0, x1, x2, x3, x4⟩ := five_cells13 hb9
      clear hput hW hb9 hxc hno hyes
      go_wp2_with fail
      refine HPut.out.mono ?_
      rintro e w5 ⟨rfl, hr5⟩
      have HW5 := Lib.hid ((HWn.out.past hr5).drop (K' := []) (fun k hk => by simp at hk))
      clear x0 x1 x2 x3 x4 hr5 HPut HWn
      go_wp2_with fail
      exact HQ.out _ _ _ _ _ _ _ _ _ _ _ _ _ _ _ _ _ _ _ _ _ _ _ _ _ _ _ _ _ _ _ _ _ _ _ _ _ _ _ _ _ _ _ _ _ _ _ _ _ _ _ n M a c _ (by omega) (by omega) HW5.out
end Go.Proofs.Ytcjidobdbdfjlaa
