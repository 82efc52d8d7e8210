/- WheelPlays: where one is taken. -/
import Derived.Test.YtcjidobdbdfjlaaLaw13D
namespace Go.Proofs.Ytcjidobdbdfjlaa
open Go.RowKit Go.Sort

/-- The document's list is another one behind its box. -/
theorem Ws.next {w wr w' : World} {P X c c' : Nat} {now n n' : Int} {M M' : List En} {a a' : Option Addr} {K : List Nat} (hw : Wl w wr P now M' (X :: (aBlk a' ++ K))) (hb : wr.heap[X]? = some (.cells #[.slice a M.length c, .int .i64 n] 28 (0, 0))) (hlz : Lz wr w.heap.size a' c' M') (hn : 0 ≤ n') (hX : w.heap.size ≤ X) (ha : X ∉ aBlk a') (he : w' = (wr.setCell ⟨X, 0, none⟩ (.slice a' M'.length c')).setCell ⟨X, 1, none⟩ (.int .i64 n')) : Ws w w' P X now M' n' a' c' K := by
  obtain ⟨h1, h2⟩ := two_set hb (.slice a' M'.length c') (.int .i64 n')
  rw [← he] at h1 h2
  exact ⟨hw.wrote h2 (fun k e => by subst e; exact List.mem_cons_self) (fun k e => by subst e; exact hX), h1, hlz.on (fun k hk => h2.block k (hlz.old k hk) (fun e => ha (e ▸ hk))), hn, hX⟩
theorem come_none13 {now : Int} : ∀ {l : List En}, (∀ a ∈ l, now < a.t) → Rf.come now l = 0
  | [], _ => rfl
  | b :: r, h => by
    have hb := h b List.mem_cons_self
    simp only [Rf.come]
    rw [if_neg (by omega), come_none13 (fun a ha => h a (List.mem_cons_of_mem _ ha))]
theorem past_no {w wr : World} {P : Nat} {now : Int} {M : List En} {K : List Nat} (h : Wl w wr P now M K) (hx : now < (Hp.e M 0).t) : M.length = 0 ∨ Tk.past now (Hp.e M 0).t = false := by
  by_cases h0 : M.length = 0
  · exact .inl h0
  · right
    have ht := h.times _ (Wh.e_mem (l := M) (i := 0) (by omega))
    rw [past_in h.time.1 h.time.2 ht.1 ht.2]
    simpa using hx
theorem come_zero {now : Int} : ∀ {M : List En}, Wh.Asc M → (M.length = 0 ∨ now < (Hp.e M 0).t) → Rf.come now M = 0
  | [], _, _ => rfl
  | x :: r, ha, h => by
    have hx : now < x.t := h.resolve_left (by simp)
    have h' := List.pairwise_cons.1 ha
    exact come_none13 (fun b hb => by
      rcases List.mem_cons.1 hb with rfl | hb
      · exact hx
      · have := h'.1 b hb; omega)

set_option maxHeartbeats 4000000 in
set_option maxRecDepth 1000000 in
theorem take_part {w wr : World} {P X c : Nat} {now n : Int} {M : List En} {a : Option Addr} (HS : Hid (Ws w wr P X now M n a c []))
    (Q : Exit → Act → World → Prop) (v0 v1 v2 v3 v4 v8 v9 v10 v11 v12 v13 v14 v15 v16 v17 v18 v19 v20 v21 v22 v23 v24 v25 v26 v27 v28 v29 v30 v31 v32 v33 v34 v35 v36 v37 v38 v39 v40 v41 v42 v43 v44 v45 v46 v47 v48 v49 v50 v51 v52 v53 v54 v55 v56 v57 v58 v59 v60 v61 v62 v63 v64 v65 v66 v67 v68 v69 v70 v71 v72 v73 v74 v75 v76 v77 v78 v79 v80 v81 v82 v83 v84 v85 v86 v87 v88 v89 v90 v91 v92 v93 v94 v95 v96 v97 v98 v99 v100 v101 v102 v103 v104 v105 v106 v107 v108 v109 v110 v111 v112 v113 v114 v115 v116 v117 v118 v119 v120 v121 v122 v123 v124 v125 v126 v127 v128 v129 v130 v131 v132 v133 v134 v135 v136 v137 v138 v139 v140 v141 v142 v143 v144 v146 v147 v148 v149 v150 v151 v152 v153 v154 v155 v156 v157 v158 v159 v160 v161 v162 v163 v164 v165 v166 v167 v168 v169 v170 v171 v172 v173 v174 v175 v176 v177 v178 v179 v180 v181 v182 v183 v184 v185 v186 v187 v188 v189 : Value)
    (HQ : Hid (∀ (x11 x12 x13 x14 x15 x148 x149 x150 x151 x152 x153 x154 x155 x156 x157 x158 x159 x160 x161 x162 x163 x164 x165 x166 x167 x168 : Value) (M' : List En) (a' : Option Addr) (c' : Nat) (wn : World), Ws w wn P X now M' n a' c' [] → Q .normal ⟨#[v0, v1, v2, v3, v4, .int .i64 now, .pointer (some ⟨P, 0, none⟩), .pointer (some ⟨X, 0, none⟩), v8, v9, v10, x11, x12, x13, x14, x15, v16, v17, v18, v19, v20, v21, v22, v23, v24, v25, v26, v27, v28, v29, v30, v31, v32, v33, v34, v35, v36, v37, v38, v39, v40, v41, v42, v43, v44, v45, v46, v47, v48, v49, v50, v51, v52, v53, v54, v55, v56, v57, v58, v59, v60, v61, v62, v63, v64, v65, v66, v67, v68, v69, v70, v71, v72, v73, v74, v75, v76, v77, v78, v79, v80, v81, v82, v83, v84, v85, v86, v87, v88, v89, v90, v91, v92, v93, v94, v95, v96, v97, v98, v99, v100, v101, v102, v103, v104, v105, v106, v107, v108, v109, v110, v111, v112, v113, v114, v115, v116, v117, v118, v119, v120, v121, v122, v123, v124, v125, v126, v127, v128, v129, v130, v131, v132, v133, v134, v135, v136, v137, v138, v139, v140, v141, v142, v143, v144, .bool true, v146, v147, x148, x149, x150, x151, x152, x153, x154, x155, x156, x157, x158, x159, x160, x161, x162, x163, x164, x165, x166, x167, x168, v169, v170, v171, v172, v173, v174, v175, v176, v177, v178, v179, v180, v181, v182, v183, v184, v185, v186, v187, v188, v189], []⟩ wn)) :
    Code.wp Try.prog ((Try.f3.body.bind (findIfs 145)).getD .skip) Q ⟨#[v0, v1, v2, v3, v4, .int .i64 now, .pointer (some ⟨P, 0, none⟩), .pointer (some ⟨X, 0, none⟩), v8, v9, v10, v11, v12, v13, v14, v15, v16, v17, v18, v19, v20, v21, v22, v23, v24, v25, v26, v27, v28, v29, v30, v31, v32, v33, v34, v35, v36, v37, v38, v39, v40, v41, v42, v43, v44, v45, v46, v47, v48, v49, v50, v51, v52, v53, v54, v55, v56, v57, v58, v59, v60, v61, v62, v63, v64, v65, v66, v67, v68, v69, v70, v71, v72, v73, v74, v75, v76, v77, v78, v79, v80, v81, v82, v83, v84, v85, v86, v87, v88, v89, v90, v91, v92, v93, v94, v95, v96, v97, v98, v99, v100, v101, v102, v103, v104, v105, v106, v107, v108, v109, v110, v111, v112, v113, v114, v115, v116, v117, v118, v119, v120, v121, v122, v123, v124, v125, v126, v127, v128, v129, v130, v131, v132, v133, v134, v135, v136, v137, v138, v139, v140, v141, v142, v143, v144, .bool true, v146, v147, v148, v149, v150, v151, v152, v153, v154, v155, v156, v157, v158, v159, v160, v161, v162, v163, v164, v165, v166, v167, v168, v169, v170, v171, v172, v173, v174, v175, v176, v177, v178, v179, v180, v181, v182, v183, v184, v185, v186, v187, v188, v189], []⟩ wr := by
  conv => arg 2; whnf
  by_cases hno : M.length = 0 ∨ now < (Hp.e M 0).t
  · have hwc := come_zero HS.out.wl.asc hno
    have hw1 := rtake_no n now wr HS.out.lz HS.out.less (hno.elim .inl (fun h => past_no HS.out.wl h))
    obtain ⟨c0, c1⟩ := HS.out.cells
    have HWc := Lib.hid hwc
    clear hwc
    go_wp2_with fail
    refine hw1.mono ?_
    rintro e w3 ⟨rfl, hr3⟩
    have HS3 := Lib.hid (HS.out.past hr3)
    clear hw1 hr3 c0 c1 HS hno
    go_wp2_with fail
    obtain ⟨hb11, hb12⟩ := @box5 w3 #[.slice a M.length c, .int .i64 n] #[.int .i64 0, .int .i64 0, .int .i64 0, .int .i64 0, .int .i64 0] 28 30
    have hr4 : Rest (fun _ => False) w3 ((w3.alloc (.cells #[.slice a M.length c, .int .i64 n] 28)).alloc (.cells #[.int .i64 0, .int .i64 0, .int .i64 0, .int .i64 0, .int .i64 0] 30)) := (Rest.alloc (fun _ => False) w3 _).trans (o3 := fun _ => False) (Rest.alloc (fun _ => False) _ _) (fun _ _ => id) (fun _ _ => id)
    generalize (w3.alloc (.cells #[.slice a M.length c, .int .i64 n] 28)).alloc (.cells #[.int .i64 0, .int .i64 0, .int .i64 0, .int .i64 0, .int .i64 0] 30) = w4 at hb11 hb12 hr4 ⊢
    have HS4 := Lib.hid (HS3.out.past hr4)
    have H4 := Lib.hid (⟨hb11, hb12⟩ : _ ∧ _)
    clear hb11 hb12 hr4 HS3
    refine (wl_wait HS4.out.wl HWc.out).mono ?_
    rintro e w5 ⟨rfl, hr5⟩
    have HX5 := Lib.hid ((HS4.out.past hr5).box)
    have HWl := Lib.hid ((HS4.out.past hr5).wl)
    have HLz := Lib.hid ((HS4.out.past hr5).lz)
    have H11 := Lib.hid ((hr5.block _ (lt_of_block H4.out.1) (fun x => x)).trans H4.out.1)
    have H12 := Lib.hid ((hr5.block _ (lt_of_block H4.out.2) (fun x => x)).trans H4.out.2)
    have HNum := Lib.hid HS4.out.num
    have HXf := Lib.hid HS4.out.from_
    have HXa := Lib.hid HS4.out.apart
    clear hr5 HS4 H4 HWc
    have hs6 := Rest.alloc (fun _ => False) w5 (.cells #[.int .i64 0, .int .i64 0, .int .i64 0, .int .i64 0, .int .i64 0] 30)
    have h14 := heap_alloc_new w5 (.cells #[.int .i64 0, .int .i64 0, .int .i64 0, .int .i64 0, .int .i64 0] 30)
    have hX6 := (hs6.block _ (lt_of_block HX5.out) (fun x => x)).trans HX5.out
    have h11 := (hs6.block _ (lt_of_block H11.out) (fun x => x)).trans H11.out
    have h12 := (hs6.block _ (lt_of_block H12.out) (fun x => x)).trans H12.out
    have HN : Hid (∀ w7, w7 = ((w5.alloc (.cells #[.int .i64 0, .int .i64 0, .int .i64 0, .int .i64 0, .int .i64 0] 30)).setCell ⟨X, 0, none⟩ (.slice a M.length c)).setCell ⟨X, 1, none⟩ (.int .i64 n) → Ws w w7 P X now M n a c []) := Lib.hid (fun w7 e => Ws.next (HWl.out.past hs6) hX6 (HLz.out.past hs6) HNum.out HXf.out HXa.out e)
    obtain ⟨x0, x1, x2, x3, x4⟩ := five_cells13 h12
    obtain ⟨y0, y1, y2, y3, y4⟩ := five_cells13 h14
    obtain ⟨n0, n1⟩ := two_cells13 h11
    obtain ⟨m0, m1⟩ := two_cells13 hX6
    have fX : ∀ i, (w5.alloc (.cells #[.int .i64 0, .int .i64 0, .int .i64 0, .int .i64 0, .int .i64 0] 30)).frozen? ⟨X, i, none⟩ = false := fun _ => frozen_of_row _ _ _ _ _ hX6
    clear hs6 h14 h11 h12 hX6 HX5 H11 H12 HWl HLz
    go_wp2_with fail
    exact HQ.out _ _ _ _ _ _ _ _ _ _ _ _ _ _ _ _ _ _ _ _ _ _ _ _ _ _ M a c _ (HN.out _ rfl)
  · obtain ⟨x, r, rfl⟩ : ∃ x r, M = x :: r := by
      cases M with
      | nil => exact absurd (.inl rfl) hno
      | cons x r => exact ⟨x, r, rfl⟩
    have hxn : x.t ≤ now := by
      have : ¬ now < x.t := fun e => hno (.inr e)
      omega
    have hxt := HS.out.wl.times x List.mem_cons_self
    have hpa : Tk.past now x.t = true := by rw [past_in HS.out.wl.time.1 HS.out.wl.time.2 hxt.1 hxt.2]; simpa using hxn
    have hrl : r.length ≤ 1000 := by have := HS.out.less; simp at this; omega
    have hw1 := rtake_yes n now wr HS.out.lz hrl hpa
    simp only [Hp.alarm] at hw1
    obtain ⟨c0, c1⟩ := HS.out.cells
    simp only [List.length_cons] at c0
    have HXn := Lib.hid hxn
    clear hxt hpa hrl hxn hno
    go_wp2_with fail
    refine hw1.mono ?_
    rintro e w3 ⟨g, off0, off, ha, rfl, hrow, hr3⟩
    subst ha
    have HS3 := Lib.hid (HS.out.past hr3)
    have HRw := Lib.hid hrow
    clear hw1 hr3 c0 c1 HS hrow
    go_wp2_with fail
    obtain ⟨hb11, hb12⟩ := @box5 w3 #[.slice (some ⟨g, off, none⟩) r.length (c - 1), .int .i64 n] #[.int .i64 x.t, .int .i64 x.c, .int .i64 x.s, .int .i64 x.g, .int .i64 x.x] 28 30
    have hr4 : Rest (fun _ => False) w3 ((w3.alloc (.cells #[.slice (some ⟨g, off, none⟩) r.length (c - 1), .int .i64 n] 28)).alloc (.cells #[.int .i64 x.t, .int .i64 x.c, .int .i64 x.s, .int .i64 x.g, .int .i64 x.x] 30)) := (Rest.alloc (fun _ => False) w3 _).trans (o3 := fun _ => False) (Rest.alloc (fun _ => False) _ _) (fun _ _ => id) (fun _ _ => id)
    generalize (w3.alloc (.cells #[.slice (some ⟨g, off, none⟩) r.length (c - 1), .int .i64 n] 28)).alloc (.cells #[.int .i64 x.t, .int .i64 x.c, .int .i64 x.s, .int .i64 x.g, .int .i64 x.x] 30) = w4 at hb11 hb12 hr4 ⊢
    have hz3 := (lt_of_block hb12)
    have HS4 := Lib.hid (HS3.out.past hr4)
    have HRow4 := Lib.hid (HRw.out.kept (hr4.block _ HRw.out.lt (fun x => x)))
    have hown := HS3.out.owns (bs := [w3.heap.size, w3.heap.size + 1]) hr4 (fun b hb => by
      simp only [List.mem_cons, List.not_mem_nil, or_false] at hb
      omega)
    have hK : Wl w w4 P now (x :: r) (X :: ([g] ++ [w3.heap.size, w3.heap.size + 1])) := by
      have := hown.wl
      rwa [List.append_nil] at this
    have H4 := Lib.hid (⟨hb11, hb12⟩ : _ ∧ _)
    clear hown hb11 hb12 hr4 HS3 HRw
    refine (wl_take hK HXn.out).mono ?_
    rintro e w5 ⟨rfl, h5, hs5⟩
    have HX5 := Lib.hid ((hs5.2 X List.mem_cons_self).trans HS4.out.box)
    have HWl : Hid (Wl w w5 P now r (X :: (aBlk (some ⟨g, off, none⟩) ++ []))) := Lib.hid (h5.drop (fun k hk => by simp [aBlk] at hk ⊢; omega))
    have HLz : Hid (Lz w5 w.heap.size (some ⟨g, off, none⟩) (c - 1) r) := Lib.hid (.inr ⟨g, off, rfl, HRow4.out.kept (hs5.2 g (by simp))⟩)
    have H11 := Lib.hid ((hs5.2 w3.heap.size (by simp)).trans H4.out.1)
    have H12 := Lib.hid ((hs5.2 (w3.heap.size + 1) (by simp)).trans H4.out.2)
    have HNum := Lib.hid HS4.out.num
    have HXf := Lib.hid HS4.out.from_
    have HXa : Hid (X ∉ aBlk (some ⟨g, off, none⟩)) := HS4.out.apart
    clear h5 hs5 HS4 H4 HXn hK hz3 HRow4
    have hs6 := Rest.alloc (fun _ => False) w5 (.cells #[.int .i64 x.t, .int .i64 x.c, .int .i64 x.s, .int .i64 x.g, .int .i64 x.x] 30)
    have h14 := heap_alloc_new w5 (.cells #[.int .i64 x.t, .int .i64 x.c, .int .i64 x.s, .int .i64 x.g, .int .i64 x.x] 30)
    have hX6 := (hs6.block _ (lt_of_block HX5.out) (fun x => x)).trans HX5.out
    have h11 := (hs6.block _ (lt_of_block H11.out) (fun x => x)).trans H11.out
    have h12 := (hs6.block _ (lt_of_block H12.out) (fun x => x)).trans H12.out
    have HN : Hid (∀ w7, w7 = ((w5.alloc (.cells #[.int .i64 x.t, .int .i64 x.c, .int .i64 x.s, .int .i64 x.g, .int .i64 x.x] 30)).setCell ⟨X, 0, none⟩ (.slice (some ⟨g, off, none⟩) r.length (c - 1))).setCell ⟨X, 1, none⟩ (.int .i64 n) → Ws w w7 P X now r n (some ⟨g, off, none⟩) (c - 1) []) := Lib.hid (fun w7 e => Ws.next (HWl.out.past hs6) hX6 (HLz.out.past hs6) HNum.out HXf.out HXa.out e)
    obtain ⟨x0, x1, x2, x3, x4⟩ := five_cells13 h12
    obtain ⟨y0, y1, y2, y3, y4⟩ := five_cells13 h14
    obtain ⟨n0, n1⟩ := two_cells13 h11
    obtain ⟨m0, m1⟩ := two_cells13 hX6
    have fX : ∀ i, (w5.alloc (.cells #[.int .i64 x.t, .int .i64 x.c, .int .i64 x.s, .int .i64 x.g, .int .i64 x.x] 30)).frozen? ⟨X, i, none⟩ = false := fun _ => frozen_of_row _ _ _ _ _ hX6
    clear hs6 h14 h11 h12 hX6 HX5 H11 H12 HWl HLz
    go_wp2_with fail
    exact HQ.out _ _ _ _ _ _ _ _ _ _ _ _ _ _ _ _ _ _ _ _ _ _ _ _ _ _ r (some ⟨g, off, none⟩) (c - 1) _ (HN.out _ rfl)
end Go.Proofs.Ytcjidobdbdfjlaa
