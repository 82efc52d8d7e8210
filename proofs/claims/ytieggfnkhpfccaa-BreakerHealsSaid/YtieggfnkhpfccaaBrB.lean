/- The contracts of breaker's calls that count: whether enough went ill, opening, shutting, a note. -/
import Derived.Test.YtieggfnkhpfccaaBrA
import Derived.Deep.DeepCutAuto
namespace Go.Proofs.Ytieggfnkhpfccaa
open Go.RowKit

namespace Br
/-- The window is cleared. -/
def clear (s : Br) : Br := ⟨s.st, s.un, s.we, s.wl, s.last, []⟩
end Br
namespace Brk
variable {w wx wy : World} {B P R : Nat} {r : BRule} {s : Br} {l : List (Nat × Obj)}
theorem few (h : Brk w wx B P R r s l) (v : Bool) : 0 ≤ s.lately r v ∧ s.lately r v ≤ 1000000 := by
  have h0 := Wn.above_lo v (s.last - r.many) s.ev
  have h1 := Wn.above_hi v (s.last - r.many) s.ev
  have h2 := h.wnl.wv.few
  unfold Br.lately
  omega
/-- The last block of one's own is forgotten. -/
theorem but {p : Nat × Obj} (h : Brk w wx B P R r s (p :: l)) : Brk w wx B P R r s l := ⟨h.wnl.swap.tail, h.good, h.ok⟩
/-- .. it is of two cells, and written. -/
theorem two {b : Nat} {t : TypeId} {c0 c1 : Value} (h : Brk w wx B P R r s ((b, .cells #[c0, c1] t (0, 0)) :: l)) (x y : Value) : Brk w ((wx.setCell ⟨b, 0, none⟩ x).setCell ⟨b, 1, none⟩ y) B P R r s ((b, .cells #[x, y] t (0, 0)) :: l) :=
  ⟨(h.wnl.swap.two x y).swap, h.good, h.ok⟩
end Brk

variable {w wx : World} {B P R : Nat} {r : BRule} {s : Br} {l : List (Nat × Obj)}

/-! Its window's calls. -/
theorem brwin_counts (t : Int) (h : Brk w wx B P R r s l) :
    Calls Try.prog 19 #[.pointer (some ⟨P, 0, none⟩), .int .i64 t] wx fun e w' => e = .returned (.agg #[.int .i64 ((s.meet r t).lately r true), .int .i64 ((s.meet r t).lately r false)]) ∧ Brk w w' B P R r (s.meet r t) l := by
  refine (wnl_counts t h.wnl).mono ?_
  rintro e w' ⟨rfl, hw⟩
  rw [many_nat]
  exact ⟨rfl, hw, h.good, h.ok.meet t⟩
theorem brwin_note (t : Int) (v : Bool) (h : Brk w wx B P R r s l) (hf : s.ev.length < 1000000) :
    Calls Try.prog 14 #[.pointer (some ⟨P, 0, none⟩), .int .i64 t, .bool v] wx fun e w' => e = .returned (.tuple #[]) ∧ Brk w w' B P R r (s.noted r t v) l :=
  (wnl_note t v h.wnl hf).mono fun _ _ ⟨he, hw⟩ => ⟨he, hw, h.good, h.ok.noted t v⟩
theorem brwin_clear (h : Brk w wx B P R r s l) :
    Calls Try.prog 23 #[.pointer (some ⟨P, 0, none⟩)] wx fun e w' => e = .returned (.tuple #[]) ∧ Brk w w' B P R r s.clear l :=
  (wnl_clear h.wnl).mono fun _ _ ⟨he, hw⟩ => ⟨he, hw, h.good, h.ok.kind, h.ok.wl0, h.ok.wl1, h.ok.we1⟩

set_option maxHeartbeats 1000000 in
/-- open. -/
theorem bropen_any (t : Int) (h : Brk w wx B P R r s l) :
    Calls Try.prog 16 #[.pointer (some ⟨B, 0, none⟩), .int .i64 t] wx fun e w' => e = .returned (.tuple #[]) ∧ Brk w w' B P R r (s.opened r t) l := by
  have H := Lib.hid h
  have HA := Lib.hid (fun w => after_any t r.co w)
  have HO := Lib.hid (h.ok.opened t)
  obtain ⟨-, -, c4, -, c6, c7, c8, -, -⟩ := brk_cells h.at_
  have f7 := brk_free h.at_ 7
  have f8 := brk_free h.at_ 8
  clear h
  have HU : Hid (s.opened r t = (⟨1, Tk.after t r.co, s.we, s.wl, s.last, s.ev⟩ : Br).clear) := Lib.hid rfl
  rw [HU.out] at HO ⊢
  generalize Tk.after t r.co = u at HA HO ⊢
  clear HU
  go_enter Try.func16, Try.ntmps16
  go_wp2_with fail
  refine (HA.out _).mono ?_
  rintro e w1 ⟨rfl, rfl⟩
  go_wp2_with fail
  have H2 := Lib.hid (H.out.put (s' := ⟨1, u, s.we, s.wl, s.last, s.ev⟩) (rest_more (rest_one wx B 7 (.int .i64 1)) 8 (.int .i64 u)) (heap_setCell_same _ _ 8 _ _ _ (heap_setCell_same _ _ 7 _ _ _ H.out.at_)) rfl rfl ⟨.inr (.inl rfl), H.out.ok.wl0, H.out.ok.wl1, H.out.ok.we1⟩)
  refine (brwin_clear H2.out).mono ?_
  rintro e w2 ⟨rfl, h2⟩
  have H3 := Lib.hid h2
  clear h2
  go_wp2_with fail
  go_end0
  exact ⟨rfl, H3.out⟩

/-- shut. -/
theorem brshut_any (h : Brk w wx B P R r s l) :
    Calls Try.prog 24 #[.pointer (some ⟨B, 0, none⟩)] wx fun e w' => e = .returned (.tuple #[]) ∧ Brk w w' B P R r s.shut l := by
  have H := Lib.hid h
  obtain ⟨-, -, -, -, c6, c7, -, -, -⟩ := brk_cells h.at_
  have f7 := brk_free h.at_ 7
  clear h
  go_enter Try.func24, Try.ntmps24
  go_wp2_with fail
  have H2 := Lib.hid (H.out.put (s' := ⟨0, s.un, s.we, s.wl, s.last, s.ev⟩) (rest_one wx B 7 (.int .i64 0)) (heap_setCell_same _ _ 7 _ _ _ H.out.at_) rfl rfl ⟨.inl rfl, H.out.ok.wl0, H.out.ok.wl1, H.out.ok.we1⟩)
  refine (brwin_clear H2.out).mono ?_
  rintro e w2 ⟨rfl, h2⟩
  have H3 := Lib.hid h2
  clear h2
  go_wp2_with fail
  go_end0
  exact ⟨rfl, H3.out⟩

set_option maxHeartbeats 1000000 in
/-- bad. -/
theorem brbad_any (t : Int) (h : Brk w wx B P R r s l) :
    Calls Try.prog 15 #[.pointer (some ⟨B, 0, none⟩), .int .i64 t] wx fun e w' => e = .returned (.bool ((s.meet r t).bad r)) ∧ Brk w w' B P R r (s.meet r t) l := by
  have HC := Lib.hid (brwin_counts t h)
  obtain ⟨-, -, -, -, c6, -⟩ := brk_cells h.at_
  have hpa0 := h.good.pa0
  have hpa1 := h.good.pa1
  clear h
  have HV : Hid ((s.meet r t).bad r = decide (r.le ≤ (s.meet r t).lately r true + (s.meet r t).lately r false ∧ ((s.meet r t).lately r true + (s.meet r t).lately r false) * r.pa ≤ (s.meet r t).lately r false * 100)) := Lib.hid rfl
  generalize (s.meet r t).bad r = v at HV ⊢
  go_enter Try.func15, Try.ntmps15
  go_wp2_with fail
  refine HC.out.mono ?_
  rintro e w1 ⟨rfl, h1⟩
  obtain ⟨ha0, ha1⟩ := h1.few true
  obtain ⟨hb0, hb1⟩ := h1.few false
  have H1 := Lib.hid h1
  clear h1 HC c6
  generalize (s.meet r t).lately r true = a at HV ha0 ha1 ⊢
  generalize (s.meet r t).lately r false = b at HV hb0 hb1 ⊢
  have hw1 : IntKind.i64.wrap (a + b) = a + b := by rw [IntKind.wrap_i64]; omega
  have hw2 : IntKind.i64.wrap (b * 100) = b * 100 := by rw [IntKind.wrap_i64]; omega
  have hm0 : 0 ≤ (a + b) * r.pa := Int.mul_nonneg (by omega) (by omega)
  have hm1 : (a + b) * r.pa ≤ (a + b) * 100 := Int.mul_le_mul_of_nonneg_left hpa1 (by omega)
  have hw3 : IntKind.i64.wrap ((a + b) * r.pa) = (a + b) * r.pa := by rw [IntKind.wrap_i64]; omega
  clear ha0 ha1 hb0 hb1 hpa0 hpa1 hm0 hm1
  go_upto_region 2 with fail
  have H2 := Lib.hid (H1.out.lay (.cells #[.int .i64 a, .int .i64 b] 33))
  generalize w1.alloc (.cells #[.int .i64 a, .int .i64 b] 33) = w2 at H2 ⊢
  generalize w1.heap.size = z at H2 ⊢
  obtain ⟨z0, z1⟩ := two_cells (H2.out.wnl.held.get 1 rfl)
  clear H1
  by_cases hl : r.le ≤ a + b
  · by_cases hp : (a + b) * r.pa ≤ b * 100
    · have hv : v = true := by rw [HV.out]; simp [hl, hp]
      subst hv
      obtain ⟨c2, c3, -⟩ := brk_cells H2.out.at_
      have hd1 : decide (r.le ≤ a + b) = true := by simpa using hl
      have hd2 : decide ((a + b) * r.pa ≤ b * 100) = true := by simpa using hp
      clear HV hl hp
      go_wp2_with fail
      go_quiet (fail)
      go_wp2_with fail
      go_ret
      exact ⟨rfl, (H2.out.drewN _).but⟩
    · have hv : v = false := by rw [HV.out]; simp [hp]
      subst hv
      obtain ⟨c2, c3, -⟩ := brk_cells H2.out.at_
      have hd1 : decide (r.le ≤ a + b) = true := by simpa using hl
      have hd2 : decide ((a + b) * r.pa ≤ b * 100) = false := by simpa using hp
      clear HV hl hp
      go_wp2_with fail
      go_quiet (fail)
      go_wp2_with fail
      go_ret
      exact ⟨rfl, (H2.out.drewN _).but⟩
  · have hv : v = false := by rw [HV.out]; simp [hl]
    subst hv
    obtain ⟨c2, c3, -⟩ := brk_cells H2.out.at_
    have hd1 : decide (r.le ≤ a + b) = false := by simpa using hl
    clear HV hl
    go_wp2_with fail
    go_quiet (fail)
    go_wp2_with fail
    go_ret
    exact ⟨rfl, (H2.out.drewN _).but⟩

set_option maxHeartbeats 1000000 in
/-- tried. -/
theorem brtried_any (t : Int) (v : Bool) (h : Brk w wx B P R r s l) :
    Calls Try.prog 17 #[.pointer (some ⟨B, 0, none⟩), .int .i64 t, .bool v] wx fun e w' => e = .returned (.tuple #[]) ∧ Brk w w' B P R r (s.tried r t v) l := by
  cases v
  · have HO := Lib.hid (bropen_any t h)
    rw [show s.tried r t false = s.opened r t by unfold Br.tried; rw [if_neg (by decide)]]
    clear h
    go_enter Try.func17, Try.ntmps17
    go_wp2_with fail
    refine HO.out.mono ?_
    rintro e w1 ⟨rfl, h1⟩
    have H1 := Lib.hid h1
    clear h1 HO
    go_wp2_with fail
    refine bodyPost_ret (results_none rfl _ _ _) rfl ?_
    exact ⟨rfl, H1.out⟩
  · -- well
    rw [show s.tried r t true = if s.back.wl = r.tr then s.back.shut else s.back by unfold Br.tried; rw [if_pos rfl]]
    have H := Lib.hid h
    have hO := h.ok.back
    have HM := Lib.hid h.good.tr1
    have h0 := h.ok.wl0
    have h1 := h.ok.wl1
    have h2 := h.ok.we1
    clear h
    obtain ⟨-, -, -, c5, -, -, -, c9, c10⟩ := brk_cells H.out.at_
    by_cases hlt : s.wl < s.we
    · have hb : s.back = ⟨s.st, s.un, s.we, s.wl + 1, s.last, s.ev⟩ := by unfold Br.back; rw [if_pos hlt]
      have hd : decide (s.wl < s.we) = true := by simpa using hlt
      have hw : IntKind.i64.wrap (s.wl + 1) = s.wl + 1 := by have := HM.out; rw [IntKind.wrap_i64]; omega
      rw [hb] at hO ⊢
      dsimp only
      have HO := Lib.hid hO
      clear hlt hb hO h0 h1 h2
      by_cases he : s.wl + 1 = r.tr
      · have he' : (s.wl + 1 == r.tr) = true := by simpa using he
        rw [if_pos he]
        clear he
        go_enter Try.func17, Try.ntmps17
        go_wp2_with fail
        go_quiet (fail)
        generalize hn : wx.drewN _ = w2
        have H2 := Lib.hid (show Brk w w2 B P R r s l by rw [← hn]; exact H.out.drewN _)
        clear hn H c5 c9 c10
        obtain ⟨-, -, -, -, -, -, -, -, c10⟩ := brk_cells H2.out.at_
        have f10 := brk_free H2.out.at_ 10
        go_upto_region 4 with fail
        have H3 := Lib.hid (H2.out.put (s' := ⟨s.st, s.un, s.we, s.wl + 1, s.last, s.ev⟩) (rest_one w2 B 10 (.int .i64 (s.wl + 1))) (heap_setCell_same _ _ 10 _ _ _ H2.out.at_) rfl rfl HO.out)
        generalize w2.setCell ⟨B, 10, none⟩ (.int .i64 (s.wl + 1)) = w3 at H3 ⊢
        clear H2 c10 f10
        obtain ⟨-, -, -, c5, -, -, -, -, c10⟩ := brk_cells H3.out.at_
        dsimp only at c10
        go_wp2_with fail
        go_quiet (fail)
        generalize hn : w3.drewN _ = w4
        have HQ := Lib.hid (brshut_any (show Brk w w4 B P R r (⟨s.st, s.un, s.we, s.wl + 1, s.last, s.ev⟩ : Br) l by rw [← hn]; exact H3.out.drewN _))
        clear hn H3 c5 c10
        go_wp2_with fail
        refine HQ.out.mono ?_
        rintro e w5 ⟨rfl, h5⟩
        have H5 := Lib.hid h5
        clear h5 HQ
        go_wp2_with fail
        go_end0
        exact ⟨rfl, H5.out⟩
      · have he' : (s.wl + 1 == r.tr) = false := by simpa using he
        rw [if_neg he]
        clear he
        go_enter Try.func17, Try.ntmps17
        go_wp2_with fail
        go_quiet (fail)
        generalize hn : wx.drewN _ = w2
        have H2 := Lib.hid (show Brk w w2 B P R r s l by rw [← hn]; exact H.out.drewN _)
        clear hn H c5 c9 c10
        obtain ⟨-, -, -, -, -, -, -, -, c10⟩ := brk_cells H2.out.at_
        have f10 := brk_free H2.out.at_ 10
        go_upto_region 4 with fail
        have H3 := Lib.hid (H2.out.put (s' := ⟨s.st, s.un, s.we, s.wl + 1, s.last, s.ev⟩) (rest_one w2 B 10 (.int .i64 (s.wl + 1))) (heap_setCell_same _ _ 10 _ _ _ H2.out.at_) rfl rfl HO.out)
        generalize w2.setCell ⟨B, 10, none⟩ (.int .i64 (s.wl + 1)) = w3 at H3 ⊢
        clear H2 c10 f10
        obtain ⟨-, -, -, c5, -, -, -, -, c10⟩ := brk_cells H3.out.at_
        dsimp only at c10
        go_wp2_with fail
        go_quiet (fail)
        generalize hn : w3.drewN _ = w4
        have H4 := Lib.hid (show Brk w w4 B P R r (⟨s.st, s.un, s.we, s.wl + 1, s.last, s.ev⟩ : Br) l by rw [← hn]; exact H3.out.drewN _)
        clear hn H3 c5 c10
        go_wp2_with fail
        go_end0
        exact ⟨rfl, H4.out⟩
    · have hb : s.back = s := by unfold Br.back; rw [if_neg hlt]
      have hd : decide (s.wl < s.we) = false := by simpa using hlt
      rw [hb]
      clear hlt hb hO h0 h1 h2
      by_cases he : s.wl = r.tr
      · have he' : (s.wl == r.tr) = true := by simpa using he
        rw [if_pos he]
        clear he
        go_enter Try.func17, Try.ntmps17
        go_wp2_with fail
        go_quiet (fail)
        generalize hn : wx.drewN _ = w3
        have H3 := Lib.hid (show Brk w w3 B P R r s l by rw [← hn]; exact H.out.drewN _)
        clear hn H c5 c9 c10
        go_upto_region 4 with fail
        obtain ⟨-, -, -, c5, -, -, -, -, c10⟩ := brk_cells H3.out.at_
        go_wp2_with fail
        go_quiet (fail)
        generalize hn : w3.drewN _ = w4
        have HQ := Lib.hid (brshut_any (show Brk w w4 B P R r s l by rw [← hn]; exact H3.out.drewN _))
        clear hn H3 c5 c10
        go_wp2_with fail
        refine HQ.out.mono ?_
        rintro e w5 ⟨rfl, h5⟩
        have H5 := Lib.hid h5
        clear h5 HQ
        go_wp2_with fail
        go_end0
        exact ⟨rfl, H5.out⟩
      · have he' : (s.wl == r.tr) = false := by simpa using he
        rw [if_neg he]
        clear he
        go_enter Try.func17, Try.ntmps17
        go_wp2_with fail
        go_quiet (fail)
        generalize hn : wx.drewN _ = w3
        have H3 := Lib.hid (show Brk w w3 B P R r s l by rw [← hn]; exact H.out.drewN _)
        clear hn H c5 c9 c10
        go_upto_region 4 with fail
        obtain ⟨-, -, -, c5, -, -, -, -, c10⟩ := brk_cells H3.out.at_
        go_wp2_with fail
        go_quiet (fail)
        generalize hn : w3.drewN _ = w4
        have H4 := Lib.hid (show Brk w w4 B P R r s l by rw [← hn]; exact H3.out.drewN _)
        clear hn H3 c5 c10
        go_wp2_with fail
        go_end0
        exact ⟨rfl, H4.out⟩

set_option maxHeartbeats 1000000 in
/-- Note. -/
theorem brnote_any (t : Int) (v : Bool) (h : Brk w wx B P R r s l) (hf : s.ev.length < 1000000) :
    Calls Try.prog 7 #[.pointer (some ⟨B, 0, none⟩), .int .i64 t, .bool v] wx fun e w' => e = .returned (.tuple #[]) ∧ Brk w w' B P R r (s.note r t v) l := by
  have HN := Lib.hid (brnone_any wx h.at_)
  have HS := Lib.hid (brstate_any t h)
  have hO := h.ok.at_ h.good t
  have HF : Hid ((s.at_ t).ev.length < 1000000) := Lib.hid (by unfold Br.at_; split <;> exact hf)
  clear h hf
  unfold Br.note
  generalize s.at_ t = a at HS hO HF ⊢
  rcases hO.kind with hk | hk | hk
  · rw [if_neg (by rw [hk]; decide), if_neg (by rw [hk]; decide)]
    rw [hk] at HS
    clear hO hk
    have HW := Lib.hid (fun w1 (h1 : Brk w w1 B P R r a l) => brwin_note t v h1 HF.out)
    have HB := Lib.hid (fun w1 (h1 : Brk w w1 B P R r (a.noted r t v) l) => by have hb := brbad_any t h1; rw [Br.noted_meet] at hb; exact hb)
    generalize a.noted r t v = b at HB HW ⊢
    generalize b.bad r = q at HB ⊢
    cases q
    · rw [if_neg (by decide)]
      go_enter Try.func7, Try.ntmps7
      go_wp2_with fail
      refine HN.out.mono ?_
      rintro e w1 ⟨rfl, rfl⟩
      go_wp2_with fail
      refine HS.out.mono ?_
      rintro e w1 ⟨rfl, h1⟩
      have H1 := Lib.hid h1
      clear h1 HS HN
      obtain ⟨-, -, -, -, c6, -⟩ := brk_cells H1.out.at_
      go_wp2_with fail
      refine (HW.out _ H1.out).mono ?_
      rintro e w2 ⟨rfl, h2⟩
      have H2 := Lib.hid h2
      clear h2 H1 HF c6
      go_wp2_with fail
      refine (HB.out _ H2.out).mono ?_
      rintro e w3 ⟨rfl, h3⟩
      have H3 := Lib.hid h3
      clear h3 H2
      go_wp2_with fail
      go_end0
      exact ⟨rfl, H3.out⟩
    · rw [if_pos rfl]
      go_enter Try.func7, Try.ntmps7
      go_wp2_with fail
      refine HN.out.mono ?_
      rintro e w1 ⟨rfl, rfl⟩
      go_wp2_with fail
      refine HS.out.mono ?_
      rintro e w1 ⟨rfl, h1⟩
      have H1 := Lib.hid h1
      clear h1 HS HN
      obtain ⟨-, -, -, -, c6, -⟩ := brk_cells H1.out.at_
      go_wp2_with fail
      refine (HW.out _ H1.out).mono ?_
      rintro e w2 ⟨rfl, h2⟩
      have H2 := Lib.hid h2
      clear h2 H1 HF c6
      go_wp2_with fail
      refine (HB.out _ H2.out).mono ?_
      rintro e w3 ⟨rfl, h3⟩
      have H3 := Lib.hid h3
      clear h3 H2
      go_wp2_with fail
      refine (bropen_any t H3.out).mono ?_
      rintro e w4 ⟨rfl, h4⟩
      have H4 := Lib.hid h4
      clear h4 H3
      go_wp2_with fail
      go_end0
      exact ⟨rfl, H4.out⟩
  · rw [if_pos hk]
    rw [hk] at HS
    clear hO hk HF
    go_enter Try.func7, Try.ntmps7
    go_wp2_with fail
    refine HN.out.mono ?_
    rintro e w1 ⟨rfl, rfl⟩
    go_wp2_with fail
    refine HS.out.mono ?_
    rintro e w1 ⟨rfl, h1⟩
    have H1 := Lib.hid h1
    clear h1 HS HN
    go_wp2_with fail
    go_end0
    exact ⟨rfl, H1.out⟩
  · rw [if_neg (by rw [hk]; decide), if_pos hk]
    rw [hk] at HS
    clear hO hk
    go_enter Try.func7, Try.ntmps7
    go_wp2_with fail
    refine HN.out.mono ?_
    rintro e w1 ⟨rfl, rfl⟩
    go_wp2_with fail
    refine HS.out.mono ?_
    rintro e w1 ⟨rfl, h1⟩
    have H1 := Lib.hid h1
    clear h1 HS HN
    obtain ⟨-, -, -, -, c6, -⟩ := brk_cells H1.out.at_
    go_wp2_with fail
    refine (brwin_note t v H1.out HF.out).mono ?_
    rintro e w2 ⟨rfl, h2⟩
    have HT := Lib.hid (brtried_any t v h2)
    clear h2 H1 HF c6
    go_wp2_with fail
    refine HT.out.mono ?_
    rintro e w3 ⟨rfl, h3⟩
    have H3 := Lib.hid h3
    clear h3 HT
    go_wp2_with fail
    go_end0
    exact ⟨rfl, H3.out⟩
end Go.Proofs.Ytieggfnkhpfccaa
