/- DuePlays: where one is taken. -/
import Derived.Test.YtfjhknmpolhfeaaLaw12R
import Derived.Test.YtfjhknmpolhfeaaTkA
import Derived.BigQuiet
import Derived.Deep.QuietTactic
import Derived.Deep.CutBlock
namespace Go.Proofs.Ytfjhknmpolhfeaa
open Go.RowKit Go.Sort

theorem cell_old {w : World} {b o : Nat} {v : Value} (h : w.cell? ⟨b, o, none⟩ = some v) : b < w.heap.size := by
  by_cases hb : b < w.heap.size
  · exact hb
  · have : w.heap[b]? = none := Array.getElem?_eq_none (by omega)
    simp [World.cell?, this] at h
/-- The acts that came in. -/
def Acts (w : World) (bk o len : Nat) (X : Nat → Nat → Int) : Prop := ∀ i, i < len → ∀ j, j < 7 → w.cell? ⟨bk, o + i * 7 + j, none⟩ = some (.int .i64 (X i j))
theorem Acts.at_ {w wr : World} {bk o len : Nat} {X : Nat → Nat → Int} (h : Acts w bk o len X) (hr : Rest (fun _ => False) w wr) {i j : Nat} (hi : i < len) (hj : j < 7) : wr.cell? ⟨bk, o + i * 7 + j, none⟩ = some (.int .i64 (X i j)) := by
  have hb : bk < w.heap.size := cell_old (h i hi j hj)
  rw [World.cell?_of_block (hr.block bk hb (fun x => x))]
  exact h i hi j hj
theorem Rest.drewN (own : Nat → Prop) (w : World) (n : Nat) : Rest own w (w.drewN n) := ⟨rfl, rfl, rfl, Nat.le_refl _, fun _ _ _ => rfl⟩

/-- Of the first k the first of the earliest. -/
def BestTo (g : List En) (k b : Nat) : Prop := (∀ j, j < k → (Hp.e g b).t ≤ (Hp.e g j).t) ∧ ∀ j, j < b → (Hp.e g b).t < (Hp.e g j).t
theorem BestTo.one (g : List En) : BestTo g (0 + 1) 0 := by
  refine ⟨fun j hj => ?_, fun j hj => absurd hj (Nat.not_lt_zero _)⟩
  obtain rfl : j = 0 := by omega
  exact Int.le_refl _
theorem BestTo.less {g : List En} {k b : Nat} (h : BestTo g k b) (hlt : (Hp.e g k).t < (Hp.e g b).t) (hb : b < k) : BestTo g (k + 1) k := by
  refine ⟨fun j hj => ?_, fun j hj => ?_⟩
  · by_cases e : j = k
    · subst e; exact Int.le_refl _
    · have := h.1 j (by omega); omega
  · have := h.1 j hj; omega
theorem BestTo.more {g : List En} {k b : Nat} (h : BestTo g k b) (hlt : ¬ (Hp.e g k).t < (Hp.e g b).t) : BestTo g (k + 1) b := by
  refine ⟨fun j hj => ?_, h.2⟩
  by_cases e : j = k
  · subst e; omega
  · exact h.1 j (by omega)
theorem BestTo.best {g : List En} {b : Nat} (h : BestTo g g.length b) (hb : b < g.length) : Hp.Best g b := ⟨hb, h.1, h.2⟩

/-- The 'if' on a slot that does something where it says yes, taken out of a body. -/
def findIfs (n : Nat) : Code → Option Code
  | .cond (.tmp k) (.seq a c) b => if k = n then some (.cond (.tmp k) (.seq a c) b) else (match findIfs n (.seq a c) with
    | some c => some c
    | none => findIfs n b)
  | .cond _ a b => match findIfs n a with
    | some c => some c
    | none => findIfs n b
  | .seq a b => match findIfs n a with
    | some c => some c
    | none => findIfs n b
  | .loop c => findIfs n c
  | .block _ c => findIfs n c
  | .scope c => findIfs n c
  | _ => none

set_option maxHeartbeats 4000000 in
set_option maxRecDepth 1000000 in
/-- One is taken. -/
theorem take_part {w wr : World} {bk o len cap i n mb mo mc : Nat} {X : Nat → Nat → Int} {g : List En} (HX : Hid (Acts w bk o len X)) (hl1 : i < len) (HP : Hid (Pl w wr w.heap.size n g g mb mo mc [])) (hgl : g.length ≤ 80) (_hi80 : i < 80)
    (Q : Exit → Act → World → Prop) (v1 v2 v6 v7 v8 v9 v10 v11 v12 v13 v14 v15 v16 v17 v18 v19 v20 v21 v22 v23 v24 v25 v26 v27 v28 v29 v30 v31 v32 v33 v34 v35 v36 v37 v38 v39 v40 v41 v42 v43 v44 v45 v46 v47 v48 v49 v50 v51 v52 v53 v54 v55 v56 v57 v58 v59 v60 v61 v62 v63 v64 v65 v66 v67 v68 v69 v70 v72 v73 v74 v75 v76 v77 v78 v79 v80 v81 v82 v83 v84 v85 v86 v87 v88 v89 v90 v91 v92 v93 v94 v95 v96 v97 v98 v99 v100 v101 v102 v103 v104 v105 v106 v107 v108 v109 v110 v111 v112 v113 v114 v115 v116 v117 v118 v119 v120 v121 v122 v123 v124 v125 v126 v127 v128 v129 v130 v131 v132 v133 v134 v135 v136 v137 v138 v139 v140 v141 v142 v143 v144 v145 v146 v147 v148 v149 v150 v151 v152 v153 v154 v155 v156 v157 v158 v159 v160 v161 v162 v163 v164 v165 v166 v167 v168 v169 v170 v171 v172 v173 v174 v175 v176 v177 v178 v179 v180 v181 v182 v183 v184 v185 v186 v187 v188 v189 v190 v191 v192 v193 v194 v195 v196 v197 v198 v199 v200 v201 v202 v203 v204 v205 v206 v207 v208 v209 v210 v211 v212 v213 : Value)
    (HQ : Hid (∀ (x7 x8 x9 x10 x11 x74 x75 x76 x77 x78 x79 x80 x81 x82 x83 x84 x85 x86 x87 x88 x89 x90 x91 x92 x93 x94 x95 x96 x97 x98 x99 x100 x101 x102 x103 x104 x105 x106 x107 x108 x109 x110 x111 x112 x113 x114 x115 x116 x117 x118 x119 x120 x121 x122 x123 x124 x125 x126 x127 x128 x129 x130 x131 x132 x133 x134 x135 x136 x137 x138 x139 x140 x141 x142 x143 x144 x145 x146 x147 x148 x149 x150 x151 x152 x153 x154 : Value) (mb' mo' mc' : Nat) (g' : List En) (wn : World), g'.length ≤ g.length → Pl w wn w.heap.size n g' g' mb' mo' mc' [] → Q .normal ⟨#[.slice (some ⟨bk, o, none⟩) len cap, v1, v2, .pointer (some ⟨w.heap.size, 0, none⟩), .slice (some ⟨mb', mo', none⟩) g'.length mc', .int .i64 (i : Int), v6, x7, x8, x9, x10, x11, v12, v13, v14, v15, v16, v17, v18, v19, v20, v21, v22, v23, v24, v25, v26, v27, v28, v29, v30, v31, v32, v33, v34, v35, v36, v37, v38, v39, v40, v41, v42, v43, v44, v45, v46, v47, v48, v49, v50, v51, v52, v53, v54, v55, v56, v57, v58, v59, v60, v61, v62, v63, v64, v65, v66, v67, v68, v69, v70, .bool true, v72, v73, x74, x75, x76, x77, x78, x79, x80, x81, x82, x83, x84, x85, x86, x87, x88, x89, x90, x91, x92, x93, x94, x95, x96, x97, x98, x99, x100, x101, x102, x103, x104, x105, x106, x107, x108, x109, x110, x111, x112, x113, x114, x115, x116, x117, x118, x119, x120, x121, x122, x123, x124, x125, x126, x127, x128, x129, x130, x131, x132, x133, x134, x135, x136, x137, x138, x139, x140, x141, x142, x143, x144, x145, x146, x147, x148, x149, x150, x151, x152, x153, x154, v155, v156, v157, v158, v159, v160, v161, v162, v163, v164, v165, v166, v167, v168, v169, v170, v171, v172, v173, v174, v175, v176, v177, v178, v179, v180, v181, v182, v183, v184, v185, v186, v187, v188, v189, v190, v191, v192, v193, v194, v195, v196, v197, v198, v199, v200, v201, v202, v203, v204, v205, v206, v207, v208, v209, v210, v211, v212, v213], []⟩ wn)) (hP : ∀ (v : Value) (d : Option Tmp) c a w, Q (.panic c) (a.put d v) w → Q (.panic c) a w) :
    Code.wp Try.prog ((Try.f3.body.bind (findIfs 71)).getD .skip) Q ⟨#[.slice (some ⟨bk, o, none⟩) len cap, v1, v2, .pointer (some ⟨w.heap.size, 0, none⟩), .slice (some ⟨mb, mo, none⟩) g.length mc, .int .i64 (i : Int), v6, v7, v8, v9, v10, v11, v12, v13, v14, v15, v16, v17, v18, v19, v20, v21, v22, v23, v24, v25, v26, v27, v28, v29, v30, v31, v32, v33, v34, v35, v36, v37, v38, v39, v40, v41, v42, v43, v44, v45, v46, v47, v48, v49, v50, v51, v52, v53, v54, v55, v56, v57, v58, v59, v60, v61, v62, v63, v64, v65, v66, v67, v68, v69, v70, .bool true, v72, v73, v74, v75, v76, v77, v78, v79, v80, v81, v82, v83, v84, v85, v86, v87, v88, v89, v90, v91, v92, v93, v94, v95, v96, v97, v98, v99, v100, v101, v102, v103, v104, v105, v106, v107, v108, v109, v110, v111, v112, v113, v114, v115, v116, v117, v118, v119, v120, v121, v122, v123, v124, v125, v126, v127, v128, v129, v130, v131, v132, v133, v134, v135, v136, v137, v138, v139, v140, v141, v142, v143, v144, v145, v146, v147, v148, v149, v150, v151, v152, v153, v154, v155, v156, v157, v158, v159, v160, v161, v162, v163, v164, v165, v166, v167, v168, v169, v170, v171, v172, v173, v174, v175, v176, v177, v178, v179, v180, v181, v182, v183, v184, v185, v186, v187, v188, v189, v190, v191, v192, v193, v194, v195, v196, v197, v198, v199, v200, v201, v202, v203, v204, v205, v206, v207, v208, v209, v210, v211, v212, v213], []⟩ wr := by
  conv => arg 2; whnf
  have hgi : ((g.length : Nat) : Int) ≤ 80 := by omega
  have hl1' : (i : Int) < (len : Int) := by omega
  have hshape := HP.out.own.row.room
  go_wp2_with fail
  go_loopg [7, 8] (80 : Nat) (fun g1 s7 s8 wx => ∃ k : Nat, s8 = .int .i64 k ∧ k ≤ g.length ∧ 80 - k ≤ g1 ∧ ((k = 0 ∧ s7 = .int .i64 (-1)) ∨ ∃ b : Nat, b < k ∧ s7 = .int .i64 b ∧ Hid (BestTo g k b)) ∧ Hid (Pl w wx w.heap.size n g g mb mo mc []))
  case atStart => exact ⟨0, rfl, by omega, by omega, .inl ⟨rfl, rfl⟩, HP⟩
  case round =>
    obtain ⟨k, rfl, hkl, hk1, hb, HPx⟩ := hrel
    clear HP
    by_cases hk : k < g.length
    · have hk' : (k : Int) < ((g.length : Nat) : Int) := by omega
      have hwk : IntKind.i64.wrap ((k : Int) + 1) = (k : Int) + 1 := by rw [IntKind.wrap_i64]; omega
      rcases hb with ⟨rfl, rfl⟩ | ⟨b, hbk, rfl, HB⟩
      · go_wp2_with fail
        go_quiet (fail)
        have HPn := Lib.hid (HPx.out.past (Rest.drewN (fun _ => False) wr nq))
        clear HPx
        go_wp2_with fail
        go_roundg (80 - (0 + 1))
        case measure => omega
        case rel => exact ⟨0 + 1, by go_num, by omega, by omega, .inr ⟨0, by omega, by go_num, BestTo.one g⟩, HPn⟩
      · obtain ⟨a0, -⟩ := HPx.out.al (i := k) hk
        obtain ⟨b0, -⟩ := HPx.out.al (i := b) (by omega)
        have hb0 : ¬ (b : Int) < 0 := by omega
        have hbk' : (b : Int) < ((g.length : Nat) : Int) := by omega
        by_cases hlt : (Hp.e g k).t < (Hp.e g b).t
        · have HB2 := Lib.hid (HB.out.less hlt hbk)
          generalize (Hp.e g k).t = tk at a0 hlt
          generalize (Hp.e g b).t = tb at b0 hlt
          go_wp2_with fail
          go_quiet (fail)
          have HPn := Lib.hid (HPx.out.past (Rest.drewN (fun _ => False) wr nq))
          clear HPx
          go_wp2_with fail
          go_roundg (80 - (k + 1))
          case measure => omega
          case rel => exact ⟨k + 1, by go_num, by omega, by omega, .inr ⟨k, by omega, rfl, HB2⟩, HPn⟩
        · have HB2 := Lib.hid (HB.out.more hlt)
          generalize (Hp.e g k).t = tk at a0 hlt
          generalize (Hp.e g b).t = tb at b0 hlt
          go_wp2_with fail
          go_quiet (fail)
          have HPn := Lib.hid (HPx.out.past (Rest.drewN (fun _ => False) wr nq))
          clear HPx
          go_wp2_with fail
          go_roundg (80 - (k + 1))
          case measure => omega
          case rel => exact ⟨k + 1, by go_num, by omega, by omega, .inr ⟨b, by omega, rfl, HB2⟩, HPn⟩
    · obtain rfl : k = g.length := by omega
      have hx6 := fun wz (hr : Rest (fun _ => False) wr wz) => HX.out.at_ (HPx.out.past hr).du.rest hl1 (j := 6) (by omega)
      have HX6 := Lib.hid hx6
      have x6 := hx6 wr (Rest.refl _ _)
      clear hx6
      rcases hb with ⟨h0, rfl⟩ | ⟨b, hbl, rfl, HB⟩
      · have H0 := Lib.hid h0
        clear h0 hkl
        go_wp2_with fail
        go_quiet (fail)
        have HPy := Lib.hid (HPx.out.past (Rest.drewN (fun _ => False) wr nq))
        have y6 := HX6.out _ (Rest.drewN (fun _ => False) wr nq)
        clear HPx HX6 x6
        generalize wr.drewN nq = wy at HPy y6 ⊢
        have hw := du_wait (X i 6) wy HPy.out.du (.inl ⟨H0.out, rfl⟩) (by unfold Tk.past Tk.clamp; simp)
        go_wp2_with fail
        refine hw.mono ?_
        rintro e w3 ⟨rfl, hr3⟩
        have HP3 := Lib.hid (HPy.out.past hr3)
        clear hw hr3 HPy
        go_wp2_with fail
        have hbx := heap_alloc_new w3 (.cells #[.int .i64 0, .int .i64 0, .int .i64 0, .int .i64 0, .int .i64 0] 31)
        have hp4 := HP3.out.past (Rest.alloc (fun _ => False) w3 (.cells #[.int .i64 0, .int .i64 0, .int .i64 0, .int .i64 0, .int .i64 0] 31))
        generalize w3.alloc (.cells #[.int .i64 0, .int .i64 0, .int .i64 0, .int .i64 0, .int .i64 0] 31) = w4 at hbx hp4 ⊢
        obtain ⟨z0, z1, z2, z3, z4⟩ := five_zero hbx
        have HP4 := Lib.hid hp4
        clear hp4 hbx HP3
        go_quiet (fail)
        have HP5 := Lib.hid (HP4.out.past (Rest.drewN (fun _ => False) w4 nq))
        clear z0 z1 z2 z3 z4 HP4
        go_wp2_with fail
        exact HQ.out _ _ _ _ _ _ _ _ _ _ _ _ _ _ _ _ _ _ _ _ _ _ _ _ _ _ _ _ _ _ _ _ _ _ _ _ _ _ _ _ _ _ _ _ _ _ _ _ _ _ _ _ _ _ _ _ _ _ _ _ _ _ _ _ _ _ _ _ _ _ _ _ _ _ _ _ _ _ _ _ _ _ _ _ _ _ mb mo mc g _ (Nat.le_refl _) HP5.out
      · have hbest := HB.out.best hbl
        obtain ⟨b0, -⟩ := HPx.out.al (i := b) hbl
        have hb0 : (0 : Int) ≤ (b : Int) := by omega
        have hbl' : (b : Int) < ((g.length : Nat) : Int) := by omega
        have hpst : ∀ w', Calls Try.prog 5 #[.int .i64 (X i 6), .int .i64 (Hp.e g b).t] w' fun e w2 => e = .returned (.bool (Tk.past (X i 6) (Hp.e g b).t)) ∧ w2 = w' := fun w' => (rpast_any (X i 6) (Hp.e g b).t w').mono fun _ _ h => ⟨h.1, h.2.symm⟩
        cases hpa : Tk.past (X i 6) (Hp.e g b).t with
        | false =>
          rw [hpa] at hpst
          go_wp2_with fail
          go_quiet ((go_at_call 5; exact Calls.quiet_of_same (hpst _)))
          have HPy := Lib.hid (HPx.out.past (Rest.drewN (fun _ => False) wr nq))
          have y6 := HX6.out _ (Rest.drewN (fun _ => False) wr nq)
          clear HPx HX6 x6 hpst b0
          generalize wr.drewN nq = wy at HPy y6 ⊢
          have hw := du_wait (X i 6) wy HPy.out.du (.inr ⟨b, hbest, rfl⟩) (hpa)
          go_wp2_with fail
          refine hw.mono ?_
          rintro e w3 ⟨rfl, hr3⟩
          have HP3 := Lib.hid (HPy.out.past hr3)
          clear hw hr3 HPy
          go_wp2_with fail
          have hbx := heap_alloc_new w3 (.cells #[.int .i64 0, .int .i64 0, .int .i64 0, .int .i64 0, .int .i64 0] 31)
          have hp4 := HP3.out.past (Rest.alloc (fun _ => False) w3 (.cells #[.int .i64 0, .int .i64 0, .int .i64 0, .int .i64 0, .int .i64 0] 31))
          generalize w3.alloc (.cells #[.int .i64 0, .int .i64 0, .int .i64 0, .int .i64 0, .int .i64 0] 31) = w4 at hbx hp4 ⊢
          obtain ⟨z0, z1, z2, z3, z4⟩ := five_zero hbx
          have HP4 := Lib.hid hp4
          clear hp4 hbx HP3
          go_quiet (fail)
          have HP5 := Lib.hid (HP4.out.past (Rest.drewN (fun _ => False) w4 nq))
          clear z0 z1 z2 z3 z4 HP4
          go_wp2_with fail
          exact HQ.out _ _ _ _ _ _ _ _ _ _ _ _ _ _ _ _ _ _ _ _ _ _ _ _ _ _ _ _ _ _ _ _ _ _ _ _ _ _ _ _ _ _ _ _ _ _ _ _ _ _ _ _ _ _ _ _ _ _ _ _ _ _ _ _ _ _ _ _ _ _ _ _ _ _ _ _ _ _ _ _ _ _ _ _ _ _ mb mo mc g _ (Nat.le_refl _) HP5.out
        | true =>
          rw [hpa] at hpst
          go_wp2_with fail
          go_quiet ((go_at_call 5; exact Calls.quiet_of_same (hpst _)))
          have HPy := Lib.hid (HPx.out.past (Rest.drewN (fun _ => False) wr nq))
          have y6 := HX6.out _ (Rest.drewN (fun _ => False) wr nq)
          clear HPx HX6 x6 hpst b0
          generalize wr.drewN nq = wy at HPy y6 ⊢
          have hw := du_take (X i 6) wy HPy.out.du (by omega) hbest hpa
          simp only [Hp.alarm] at hw
          go_wp2_with fail
          refine hw.mono ?_
          rintro e w3 ⟨rfl, hd3, hs3⟩
          have HP3 := Lib.hid (HPy.out.called hd3 hs3)
          clear hw hd3 hs3 HPy
          go_wp2_with fail
          have hbx := heap_alloc_new w3 (.cells #[.int .i64 (Hp.e g b).t, .int .i64 (Hp.e g b).c, .int .i64 (Hp.e g b).s, .int .i64 (Hp.e g b).g, .int .i64 (Hp.e g b).x] 31)
          have hp4 := HP3.out.past (Rest.alloc (fun _ => False) w3 (.cells #[.int .i64 (Hp.e g b).t, .int .i64 (Hp.e g b).c, .int .i64 (Hp.e g b).s, .int .i64 (Hp.e g b).g, .int .i64 (Hp.e g b).x] 31))
          generalize w3.alloc (.cells #[.int .i64 (Hp.e g b).t, .int .i64 (Hp.e g b).c, .int .i64 (Hp.e g b).s, .int .i64 (Hp.e g b).g, .int .i64 (Hp.e g b).x] 31) = w4 at hbx hp4 ⊢
          obtain ⟨z0, z1, z2, z3, z4⟩ := five_zero hbx
          obtain ⟨m0, m1, m2, m3, m4⟩ := hp4.al (i := b) hbl
          have HP4 := Lib.hid hp4
          clear hp4 hbx HP3
          go_quiet (fail)
          have HP5 := Lib.hid (HP4.out.past (Rest.drewN (fun _ => False) w4 nq))
          clear z0 z1 z2 z3 z4 m0 m1 m2 m3 m4 HP4
          generalize w4.drewN nq = w5 at HP5 ⊢
          go_wp2_with fail
          refine cut_row HP5 (by omega) hbl _ _ _ _ _ _ _ _ _ _ _ _ _ _ _ _ _ _ _ _ _ _ _ _ _ _ _ _ _ _ _ _ _ _ _ _ _ _ _ _ _ _ _ _ _ _ _ _ _ _ _ _ _ _ _ _ _ _ _ _ _ _ _ _ _ _ _ _ _ _ _ _ _ _ _ _ _ _ _ _ _ _ _ _ _ _ _ _ _ _ _ _ _ _ _ _ _ _ _ _ _ _ _ _ _ _ _ _ _ _ _ _ _ _ _ _ _ _ _ _ _ _ _ _ _ _ _ _ _ _ _ _ _ _ _ _ _ _ _ _ _ _ _ _ _ _ _ _ _ _ _ _ _ _ _ _ _ _ _ _ _ _ _ _ _ _ _ _ _ _ _ _ _ _ _ _ _ _ _ _ _ _ _ _ _ _ _ _ _ _ _ _ _ _ _ _ _ _ _ _ _ _ _ _ _ _ _ _ _ _ _ _ _ (Lib.hid (fun x145 x146 x147 x148 x149 x150 x151 x152 x153 x154 g2 o2 c2 m2 wn hm2 hpl => ?_)) (fun v d c a w h => hP v d c a w h)
          subst hm2
          exact HQ.out _ _ _ _ _ _ _ _ _ _ _ _ _ _ _ _ _ _ _ _ _ _ _ _ _ _ _ _ _ _ _ _ _ _ _ _ _ _ _ _ _ _ _ _ _ _ _ _ _ _ _ _ _ _ _ _ _ _ _ _ _ _ _ _ _ _ _ _ _ _ _ _ _ _ _ _ _ _ _ _ _ _ _ _ _ _ g2 o2 c2 _ _ (by simp; omega) hpl
end Go.Proofs.Ytfjhknmpolhfeaa
