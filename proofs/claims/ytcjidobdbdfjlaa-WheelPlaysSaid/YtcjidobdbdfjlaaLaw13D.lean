/- WheelPlays: a wheel beside the document's own list; the time goes on. -/
import Derived.Test.YtcjidobdbdfjlaaLaw13A
import Derived.Test.YtcjidobdbdfjlaaLow
import Derived.Test.YtcjidobdbdfjlaaFind
import Derived.BigQuiet
import Derived.Deep.QuietTactic
import Derived.Deep.CutBlock
namespace Go.Proofs.Ytcjidobdbdfjlaa
open Go.RowKit Go.Sort

/-- The acts that came in. -/
def Acts (w : World) (bk o len : Nat) (X : Nat → Nat → Int) : Prop := ∀ i, i < len → ∀ j, j < 7 → w.cell? ⟨bk, o + i * 7 + j, none⟩ = some (.int .i64 (X i j))
theorem Acts.at_ {w wr : World} {bk o len : Nat} {X : Nat → Nat → Int} (h : Acts w bk o len X) (hr : Rest (fun _ => False) w wr) {i j : Nat} (hi : i < len) (hj : j < 7) : wr.cell? ⟨bk, o + i * 7 + j, none⟩ = some (.int .i64 (X i j)) := by
  have hb : bk < w.heap.size := cell_old (h i hi j hj)
  rw [World.cell?_of_block (hr.block bk hb (fun x => x))]
  exact h i hi j hj
theorem Acts.old {w : World} {bk o len : Nat} {X : Nat → Nat → Int} (h : Acts w bk o len X) {i : Nat} (hi : i < len) : bk < w.heap.size := cell_old (h i hi 0 (by decide))

/-- The 'if' on a slot that does something where it says yes, taken out of a body. -/
def findIfs (n : Nat) : Code → Option Code
  | .cond (.tmp k) (.seq a c) b => if k = n then some (.cond (.tmp k) (.seq a c) b) else (match findIfs n (.seq a c) with
    | some c => some c
    | none => findIfs n b)
  | .cond _ a b => match findIfs n a with
    | some c => some c
    | none => findIfs n b
  | .seq a b => match findIfs n a with
    | some c => some c
    | none => findIfs n b
  | .loop c => findIfs n c
  | .block _ c => findIfs n c
  | .scope c => findIfs n c
  | _ => none

/-- The block of a list. -/
def aBlk : Option Addr → List Nat
  | none => []
  | some ad => [ad.block]
theorem Lz.on {w w' : World} {B c : Nat} {a : Option Addr} {l : List En} (h : Lz w B a c l) (hk : ∀ k, k ∈ aBlk a → w'.heap[k]? = w.heap[k]?) : Lz w' B a c l := by
  rcases h with h | ⟨g, off, rfl, h⟩
  · exact .inl h
  · exact .inr ⟨g, off, rfl, h.kept (hk g (by simp [aBlk]))⟩
theorem Lz.old {w : World} {B c : Nat} {a : Option Addr} {l : List En} (h : Lz w B a c l) : ∀ k, k ∈ aBlk a → k < w.heap.size := by
  rcases h with ⟨rfl, -, -⟩ | ⟨g, off, rfl, h⟩
  · intro k hk; simp [aBlk] at hk
  · intro k hk
    obtain rfl : k = g := by simpa [aBlk] using hk
    exact h.lt
theorem Lz.from_ {w : World} {B c : Nat} {a : Option Addr} {l : List En} (h : Lz w B a c l) : ∀ k, k ∈ aBlk a → B ≤ k := by
  rcases h with ⟨rfl, -, -⟩ | ⟨g, off, rfl, h⟩
  · intro k hk; simp [aBlk] at hk
  · intro k hk
    obtain rfl : k = g := by simpa [aBlk] using hk
    exact RowK.from_ h

/-- A wheel and the document's own list of the same alarms, made since the world w; beside them blocks K. -/
structure Ws (w wr : World) (P X : Nat) (now : Int) (M : List En) (n : Int) (a : Option Addr) (c : Nat) (K : List Nat) : Prop where
  wl : Wl w wr P now M (X :: (aBlk a ++ K))
  box : wr.heap[X]? = some (.cells #[.slice a M.length c, .int .i64 n] 28 (0, 0))
  lz : Lz wr w.heap.size a c M
  num : 0 ≤ n
  from_ : w.heap.size ≤ X
namespace Ws
variable {w wr w' : World} {P X c : Nat} {now n : Int} {M : List En} {a : Option Addr} {K : List Nat}
theorem past (h : Ws w wr P X now M n a c K) (hr : Rest (fun _ => False) wr w') : Ws w w' P X now M n a c K :=
  ⟨h.wl.past hr, (hr.block _ (lt_of_block h.box) (fun x => x)).trans h.box, h.lz.past hr, h.num, h.from_⟩
theorem called {now' : Int} (h : Ws w wr P X now M n a c K) (hw : Wl w w' P now' M (X :: (aBlk a ++ K))) (hs : Same (X :: (aBlk a ++ K)) wr w') : Ws w w' P X now' M n a c K :=
  ⟨hw, (hs.2 X List.mem_cons_self).trans h.box, h.lz.on (fun k hk => hs.2 k (List.mem_cons_of_mem _ (List.mem_append_left _ hk))), h.num, h.from_⟩
theorem own (h : Ws w wr P X now M n a c K) (hr : Rest (fun _ => False) wr w') {b : Nat} (h1 : wr.heap.size ≤ b) (h2 : b < w'.heap.size) : Ws w w' P X now M n a c (b :: K) :=
  ⟨(h.wl.own hr h1 h2).drop (fun k hk => by
    simp only [List.mem_cons, List.mem_append] at hk ⊢
    rcases hk with hk | hk | hk | hk
    · exact .inr (.inl hk)
    · exact .inr (.inr (.inl hk))
    · exact .inl hk
    · exact .inr (.inr (.inr hk))), (hr.block _ (lt_of_block h.box) (fun x => x)).trans h.box, h.lz.past hr, h.num, h.from_⟩
theorem drop (h : Ws w wr P X now M n a c K) {K' : List Nat} (hs : ∀ k, k ∈ K' → k ∈ K) : Ws w wr P X now M n a c K' :=
  ⟨h.wl.drop (fun k hk => by
    simp only [List.mem_cons, List.mem_append] at hk ⊢
    rcases hk with hk | hk | hk
    · exact .inl hk
    · exact .inr (.inl hk)
    · exact .inr (.inr (hs k hk))), h.box, h.lz, h.num, h.from_⟩
/-- A block of one's own is written. -/
theorem wrote (h : Ws w wr P X now M n a c K) {b : Nat} (hb : b ∈ K) (hX : b ≠ X) (ha : ∀ k, k ∈ aBlk a → b ≠ k) (hw : w.heap.size ≤ b) (hr : Rest (fun k => k = b) wr w') : Ws w w' P X now M n a c K :=
  ⟨h.wl.wrote hr (fun k e => by subst e; exact List.mem_cons_of_mem _ (List.mem_append_right _ hb)) (fun k e => by subst e; exact hw), (hr.block _ (lt_of_block h.box) (fun e => hX e.symm)).trans h.box, h.lz.on (fun k hk => hr.block k (h.lz.old k hk) (fun e => ha k hk e.symm)), h.num, h.from_⟩
theorem cells (h : Ws w wr P X now M n a c K) : wr.cell? ⟨X, 0, none⟩ = some (.slice a M.length c) ∧ wr.cell? ⟨X, 1, none⟩ = some (.int .i64 n) := two_cells13 h.box
theorem frozen (h : Ws w wr P X now M n a c K) (i : Nat) : wr.frozen? ⟨X, i, none⟩ = false := frozen_of_row _ _ _ _ _ h.box
theorem less (h : Ws w wr P X now M n a c K) : M.length ≤ 1000 := Nat.le_trans h.wl.few (by decide)
theorem hi (h : Ws w wr P X now M n a c K) : X < wr.heap.size := lt_of_block h.box
end Ws
theorem Ws.apart {w wr : World} {P X c : Nat} {now n : Int} {M : List En} {a : Option Addr} {K : List Nat} (h : Ws w wr P X now M n a c K) : X ∉ aBlk a := fun hk => by
  rcases h.lz with ⟨rfl, -, -⟩ | ⟨g, off, rfl, hrow⟩
  · simp [aBlk] at hk
  · obtain rfl : X = g := by simpa [aBlk] using hk
    obtain ⟨cur, hg, -⟩ := hrow.block
    rw [h.box] at hg
    have := Obj.cells.inj (Option.some.inj hg)
    exact absurd this.2.1 (by decide)
theorem Wl.owns {w0 w w' : World} {P : Nat} {now : Int} {M : List En} {K : List Nat} (h : Wl w0 w P now M K) (hr : Rest (fun _ => False) w w') {bs : List Nat} (hb : ∀ b, b ∈ bs → w.heap.size ≤ b ∧ b < w'.heap.size) : Wl w0 w' P now M (bs ++ K) := by
  obtain ⟨V, hV⟩ := h.whl
  have h' := h.past hr
  have hV' := hV.past hr
  exact ⟨⟨V, hV'.from_, hV'.block, hV'.rows, hV'.apart, hV'.off, fun k hk => by
    rcases List.mem_append.1 hk with hk | hk
    · obtain ⟨h1, h2⟩ := hb k hk
      exact ⟨h2, fun e => by have := hV.lt; omega, fun q hq e => by have := ((hV.rows q hq).lt e).2; omega⟩
    · exact hV'.own k hk⟩, h'.rest, h.asc, h.alone, h.few, h.time, h.times⟩
theorem Ws.owns {w wr w' : World} {P X c : Nat} {now n : Int} {M : List En} {a : Option Addr} {K : List Nat} (h : Ws w wr P X now M n a c K) (hr : Rest (fun _ => False) wr w') {bs : List Nat} (hb : ∀ b, b ∈ bs → wr.heap.size ≤ b ∧ b < w'.heap.size) : Ws w w' P X now M n a c (bs ++ K) :=
  ⟨(h.wl.owns hr hb).drop (fun k hk => by
    simp only [List.mem_cons, List.mem_append] at hk ⊢
    rcases hk with hk | hk | hk | hk
    · exact .inr (.inl hk)
    · exact .inr (.inr (.inl hk))
    · exact .inl hk
    · exact .inr (.inr (.inr hk))), (hr.block _ (lt_of_block h.box) (fun x => x)).trans h.box, h.lz.past hr, h.num, h.from_⟩
theorem low7 (n : Int) : bits .and .i64 n 7 = n % 8 := i64_low n 3 (by omega)
theorem low511 (n : Int) : bits .and .i64 n 511 = n % 512 := i64_low n 9 (by omega)
theorem low8191 (n : Int) : bits .and .i64 n 8191 = n % 8192 := i64_low n 13 (by omega)
theorem low16383 (n : Int) : bits .and .i64 n 16383 = n % 16384 := i64_low n 14 (by omega)

set_option maxHeartbeats 4000000 in
set_option maxRecDepth 1000000 in
theorem adv_part {w wr : World} {P X c bk o len cap i : Nat} {now n : Int} {M : List En} {a : Option Addr} {Zs : Nat → Nat → Int} (HX : Hid (Acts w bk o len Zs)) (hl1 : i < len) (HS : Hid (Ws w wr P X now M n a c [])) (hnow : now ≤ 1073741824)
    (Q : Exit → Act → World → Prop) (v0 v2 v3 v4 v7 v9 v10 v11 v12 v13 v14 v15 v16 v17 v18 v19 v20 v21 v22 v23 v24 v25 v26 v27 v28 v29 v30 v31 v32 v33 v34 v35 v36 v37 v38 v39 v40 v41 v42 v43 v44 v45 v46 v47 v48 v49 v50 v51 v52 v53 v54 v55 v56 v57 v58 v59 v60 v61 v62 v63 v64 v65 v66 v67 v68 v69 v70 v71 v72 v73 v74 v75 v76 v77 v78 v79 v80 v81 v82 v83 v84 v85 v86 v87 v88 v89 v90 v91 v92 v93 v94 v95 v96 v97 v98 v99 v100 v101 v102 v103 v104 v106 v107 v108 v109 v110 v111 v112 v113 v114 v115 v116 v117 v118 v119 v120 v121 v122 v123 v124 v125 v126 v127 v128 v129 v130 v131 v132 v133 v134 v135 v136 v137 v138 v139 v140 v141 v142 v143 v144 v145 v146 v147 v148 v149 v150 v151 v152 v153 v154 v155 v156 v157 v158 v159 v160 v161 v162 v163 v164 v165 v166 v167 v168 v169 v170 v171 v172 v173 v174 v175 v176 v177 v178 v179 v180 v181 v182 v183 v184 v185 v186 v187 v188 v189 : Value)
    (HQ : Hid (∀ (x10 x108 x109 x110 x111 x112 x113 x114 x115 x116 x117 x118 x119 x120 x121 x122 x123 x124 x125 x126 x127 x128 x129 x130 x131 x132 x133 x134 x135 x136 x137 x138 x139 x140 x141 x142 x143 x144 : Value) (on : Int) (wn : World), 0 ≤ on → on ≤ 8191 → Ws w wn P X (now + on) M n a c [] → Q .normal ⟨#[v0, .slice (some ⟨bk, o, none⟩) len cap, v2, v3, v4, .int .i64 (now + on), .pointer (some ⟨P, 0, none⟩), v7, .int .i64 (i : Int), v9, x10, v11, v12, v13, v14, v15, v16, v17, v18, v19, v20, v21, v22, v23, v24, v25, v26, v27, v28, v29, v30, v31, v32, v33, v34, v35, v36, v37, v38, v39, v40, v41, v42, v43, v44, v45, v46, v47, v48, v49, v50, v51, v52, v53, v54, v55, v56, v57, v58, v59, v60, v61, v62, v63, v64, v65, v66, v67, v68, v69, v70, v71, v72, v73, v74, v75, v76, v77, v78, v79, v80, v81, v82, v83, v84, v85, v86, v87, v88, v89, v90, v91, v92, v93, v94, v95, v96, v97, v98, v99, v100, v101, v102, v103, v104, .bool true, v106, v107, x108, x109, x110, x111, x112, x113, x114, x115, x116, x117, x118, x119, x120, x121, x122, x123, x124, x125, x126, x127, x128, x129, x130, x131, x132, x133, x134, x135, x136, x137, x138, x139, x140, x141, x142, x143, x144, v145, v146, v147, v148, v149, v150, v151, v152, v153, v154, v155, v156, v157, v158, v159, v160, v161, v162, v163, v164, v165, v166, v167, v168, v169, v170, v171, v172, v173, v174, v175, v176, v177, v178, v179, v180, v181, v182, v183, v184, v185, v186, v187, v188, v189], []⟩ wn)) :
    Code.wp Try.prog ((Try.f3.body.bind (findIfs 105)).getD .skip) Q ⟨#[v0, .slice (some ⟨bk, o, none⟩) len cap, v2, v3, v4, .int .i64 now, .pointer (some ⟨P, 0, none⟩), v7, .int .i64 (i : Int), v9, v10, v11, v12, v13, v14, v15, v16, v17, v18, v19, v20, v21, v22, v23, v24, v25, v26, v27, v28, v29, v30, v31, v32, v33, v34, v35, v36, v37, v38, v39, v40, v41, v42, v43, v44, v45, v46, v47, v48, v49, v50, v51, v52, v53, v54, v55, v56, v57, v58, v59, v60, v61, v62, v63, v64, v65, v66, v67, v68, v69, v70, v71, v72, v73, v74, v75, v76, v77, v78, v79, v80, v81, v82, v83, v84, v85, v86, v87, v88, v89, v90, v91, v92, v93, v94, v95, v96, v97, v98, v99, v100, v101, v102, v103, v104, .bool true, v106, v107, v108, v109, v110, v111, v112, v113, v114, v115, v116, v117, v118, v119, v120, v121, v122, v123, v124, v125, v126, v127, v128, v129, v130, v131, v132, v133, v134, v135, v136, v137, v138, v139, v140, v141, v142, v143, v144, v145, v146, v147, v148, v149, v150, v151, v152, v153, v154, v155, v156, v157, v158, v159, v160, v161, v162, v163, v164, v165, v166, v167, v168, v169, v170, v171, v172, v173, v174, v175, v176, v177, v178, v179, v180, v181, v182, v183, v184, v185, v186, v187, v188, v189], []⟩ wr := by
  conv => arg 2; whnf
  have hl1' : (i : Int) < (len : Int) := by omega
  have c6 := HX.out.at_ HS.out.wl.rest hl1 (j := 6) (by decide)
  have n0 := HS.out.wl.time.1
  have b1 := low31 (Zs i 6)
  have b2 := low7 (Zs i 6 / 32)
  have b3 := low8191 (Zs i 6 / 256)
  have b4 := low511 (Zs i 6 / 256)
  have p1 : 0 ≤ Zs i 6 % 32 := by omega
  have p2 : Zs i 6 % 32 ≤ 8191 := by omega
  have p3 : 0 ≤ Zs i 6 / 256 % 8192 := by omega
  have p4 : Zs i 6 / 256 % 8192 ≤ 8191 := by omega
  have p5 : 0 ≤ Zs i 6 / 256 % 512 := by omega
  have p6 : Zs i 6 / 256 % 512 ≤ 8191 := by omega
  generalize Zs i 6 % 32 = on1 at b1 p1 p2
  generalize Zs i 6 / 32 % 8 = tg at b2
  generalize Zs i 6 / 256 % 8192 = on2 at b3 p3 p4
  generalize Zs i 6 / 256 % 512 = on3 at b4 p5 p6
  generalize Zs i 6 = z at c6 b1 b2 b3 b4
  by_cases e0 : tg = 0
  · have e0b : (tg == 0) = true := by simpa using e0
    have hcl : Tk.clamp (now + on2) = now + on2 := Tk.clamp_in (by omega) (by omega)
    have hadv := wl_adv (now + on2) HS.out.wl (by rw [hcl]; omega)
    rw [hcl, show (if now < now + on2 then now + on2 else now) = now + on2 by split <;> omega] at hadv
    have hwn : IntKind.i64.wrap (now + on2) = now + on2 := by rw [IntKind.wrap_i64]; omega
    have HA := Lib.hid hadv
    clear hadv hcl
    go_wp2_with fail
    refine HA.out.mono ?_
    rintro e w3 ⟨rfl, h3, hs3⟩
    have H3 := Lib.hid (HS.out.called h3 hs3)
    clear h3 hs3 HA
    go_wp2_with fail
    exact HQ.out _ _ _ _ _ _ _ _ _ _ _ _ _ _ _ _ _ _ _ _ _ _ _ _ _ _ _ _ _ _ _ _ _ _ _ _ _ _ (on2) _ (by omega) (by omega) H3.out
  · have e0b : (tg == 0) = false := by simpa using e0
    by_cases e1 : tg = 1
    · have e1b : (tg == 1) = true := by simpa using e1
      have hcl : Tk.clamp (now + on3) = now + on3 := Tk.clamp_in (by omega) (by omega)
      have hadv := wl_adv (now + on3) HS.out.wl (by rw [hcl]; omega)
      rw [hcl, show (if now < now + on3 then now + on3 else now) = now + on3 by split <;> omega] at hadv
      have hwn : IntKind.i64.wrap (now + on3) = now + on3 := by rw [IntKind.wrap_i64]; omega
      have HA := Lib.hid hadv
      clear hadv hcl
      go_wp2_with fail
      refine HA.out.mono ?_
      rintro e w3 ⟨rfl, h3, hs3⟩
      have H3 := Lib.hid (HS.out.called h3 hs3)
      clear h3 hs3 HA
      go_wp2_with fail
      exact HQ.out _ _ _ _ _ _ _ _ _ _ _ _ _ _ _ _ _ _ _ _ _ _ _ _ _ _ _ _ _ _ _ _ _ _ _ _ _ _ (on3) _ (by omega) (by omega) H3.out
    · have e1b : (tg == 1) = false := by simpa using e1
      have hcl : Tk.clamp (now + on1) = now + on1 := Tk.clamp_in (by omega) (by omega)
      have hadv := wl_adv (now + on1) HS.out.wl (by rw [hcl]; omega)
      rw [hcl, show (if now < now + on1 then now + on1 else now) = now + on1 by split <;> omega] at hadv
      have hwn : IntKind.i64.wrap (now + on1) = now + on1 := by rw [IntKind.wrap_i64]; omega
      have HA := Lib.hid hadv
      clear hadv hcl
      go_wp2_with fail
      refine HA.out.mono ?_
      rintro e w3 ⟨rfl, h3, hs3⟩
      have H3 := Lib.hid (HS.out.called h3 hs3)
      clear h3 hs3 HA
      go_wp2_with fail
      exact HQ.out _ _ _ _ _ _ _ _ _ _ _ _ _ _ _ _ _ _ _ _ _ _ _ _ _ _ _ _ _ _ _ _ _ _ _ _ _ _ (on1) _ (by omega) (by omega) H3.out
end Go.Proofs.Ytcjidobdbdfjlaa
