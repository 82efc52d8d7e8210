/- The contracts of all of breaker's calls: a breaker that was made since a world, with its window, beside blocks of one's own. -/
import Derived.Test.YtieggfnkhpfccaaBrM
import Derived.Test.YtieggfnkhpfccaaWinT
import Derived.Test.YtieggfnkhpfccaaTkA
import Derived.RegionTactic
import Derived.BigRegion
import Derived.BigQuiet
namespace Go.Proofs.Ytieggfnkhpfccaa
open Go.RowKit

/-- A breaker's block. -/
def brk (r : BRule) (P : Nat) (st un we wl : Int) : Obj :=
  .cells #[.int .i64 r.n, .int .i64 r.wd, .int .i64 r.le, .int .i64 r.pa, .int .i64 r.co, .int .i64 r.tr, .pointer (some ⟨P, 0, none⟩), .int .i64 st, .int .i64 un, .int .i64 we, .int .i64 wl] 40 (0, 0)
theorem brk_cells {w : World} {B P : Nat} {r : BRule} {st un we wl : Int} (h : w.heap[B]? = some (brk r P st un we wl)) :
    w.cell? ⟨B, 2, none⟩ = some (.int .i64 r.le) ∧ w.cell? ⟨B, 3, none⟩ = some (.int .i64 r.pa) ∧ w.cell? ⟨B, 4, none⟩ = some (.int .i64 r.co) ∧ w.cell? ⟨B, 5, none⟩ = some (.int .i64 r.tr) ∧
      w.cell? ⟨B, 6, none⟩ = some (.pointer (some ⟨P, 0, none⟩)) ∧ w.cell? ⟨B, 7, none⟩ = some (.int .i64 st) ∧ w.cell? ⟨B, 8, none⟩ = some (.int .i64 un) ∧ w.cell? ⟨B, 9, none⟩ = some (.int .i64 we) ∧ w.cell? ⟨B, 10, none⟩ = some (.int .i64 wl) :=
  ⟨cell_of_row _ _ _ _ _ _ h, cell_of_row _ _ _ _ _ _ h, cell_of_row _ _ _ _ _ _ h, cell_of_row _ _ _ _ _ _ h, cell_of_row _ _ _ _ _ _ h, cell_of_row _ _ _ _ _ _ h, cell_of_row _ _ _ _ _ _ h, cell_of_row _ _ _ _ _ _ h, cell_of_row _ _ _ _ _ _ h⟩
theorem brk_free {w : World} {B P : Nat} {r : BRule} {st un we wl : Int} (h : w.heap[B]? = some (brk r P st un we wl)) (i : Nat) : w.frozen? ⟨B, i, none⟩ = false := frozen_of_row _ _ _ _ _ h
theorem Br.below_drewN {B : Nat} {a w : World} (h : Below B a w) (n : Nat) : Below B a (w.drewN n) := ⟨h.os, h.tape, h.output, h.size, h.block⟩
theorem many_nat (r : BRule) : ((Wn.many r.n : Nat) : Int) = r.many := (Wn.many_some r.n).2.2

/-- A breaker that was made since the world w, and one's own blocks beside it. -/
structure Brk (w wx : World) (B P R : Nat) (r : BRule) (s : Br) (l : List (Nat × Obj)) : Prop where
  wnl : Wnl w wx P R (Wn.many r.n) (max 1 r.wd) s.last s.ev ((B, brk r P s.st s.un s.we s.wl) :: l)
  good : r.Good
  ok : s.Ok r
namespace Brk
variable {w wx wy : World} {B P R : Nat} {r : BRule} {s : Br} {l : List (Nat × Obj)}
theorem below (h : Brk w wx B P R r s l) : Below w.heap.size w wx := h.wnl.below
theorem at_ (h : Brk w wx B P R r s l) : wx.heap[B]? = some (brk r P s.st s.un s.we s.wl) := h.wnl.held.get 0 rfl
theorem call (h : Brk w wx B P R r s l) (hb : Below wx.heap.size wx wy) : Brk w wy B P R r s l := ⟨h.wnl.call hb, h.good, h.ok⟩
theorem drewN (h : Brk w wx B P R r s l) (n : Nat) : Brk w (wx.drewN n) B P R r s l := h.call (Br.below_drewN (Below.refl _ _) n)
theorem drew (h : Brk w wx B P R r s l) : Brk w wx.drew B P R r s l := h.call (Below.refl _ _).drew
theorem lay (h : Brk w wx B P R r s l) (o : Obj) : Brk w (wx.alloc o) B P R r s ((wx.heap.size, o) :: l) := ⟨(h.wnl.lay o).swap, h.good, h.ok⟩
/-- Its own cells are written. -/
theorem put {s' : Br} (h : Brk w wx B P R r s l) (hr : Rest (fun k => k = B) wx wy) (hn : wy.heap[B]? = some (brk r P s'.st s'.un s'.we s'.wl)) (hl : s'.last = s.last) (he : s'.ev = s.ev) (ho : s'.Ok r) : Brk w wy B P R r s' l :=
  ⟨by rw [hl, he]; exact h.wnl.put hr hn, h.good, ho⟩
end Brk
theorem rest_one (w : World) (B i : Nat) (x : Value) : Rest (fun k => k = B) w (w.setCell ⟨B, i, none⟩ x) := Rest.setCell (own := fun k => k = B) w ⟨B, i, none⟩ x rfl
theorem rest_more {w w1 : World} {B : Nat} (h : Rest (fun k => k = B) w w1) (i : Nat) (x : Value) : Rest (fun k => k = B) w (w1.setCell ⟨B, i, none⟩ x) := h.trans (o3 := fun k => k = B) (rest_one w1 B i x) (fun _ _ => id) (fun _ _ => id)

/-! The small calls. -/
theorem brnone_any {B P : Nat} {r : BRule} {st un we wl : Int} (w : World) (h : w.heap[B]? = some (brk r P st un we wl)) : Calls Try.prog 13 #[.pointer (some ⟨B, 0, none⟩)] w fun e w' => e = .returned (.bool false) ∧ w = w' := by
  obtain ⟨-, -, -, -, c6, -⟩ := brk_cells h
  clear h
  go_enter Try.func13, Try.ntmps13
  go_wp2
  go_ret
  exact ⟨rfl, rfl⟩
theorem brnone_nil (w : World) : Calls Try.prog 13 #[.pointer none] w fun e w' => e = .returned (.bool true) ∧ w = w' := by
  go_enter Try.func13, Try.ntmps13
  go_wp2
  go_ret
  exact ⟨rfl, rfl⟩

variable {w wx : World} {B P R : Nat} {r : BRule} {s : Br} {l : List (Nat × Obj)}

set_option maxHeartbeats 1000000 in
/-- State. -/
theorem brstate_any (t : Int) (h : Brk w wx B P R r s l) :
    Calls Try.prog 9 #[.pointer (some ⟨B, 0, none⟩), .int .i64 t] wx fun e w' => e = .returned (.int .i64 (s.at_ t).st) ∧ Brk w w' B P R r (s.at_ t) l := by
  have H := Lib.hid h
  have HN := Lib.hid (brnone_any wx h.at_)
  have HO := Lib.hid (h.ok.at_ h.good t)
  have hk := h.ok.kind
  obtain ⟨-, -, -, -, -, c7, c8, c9, c10⟩ := brk_cells h.at_
  have f7 := brk_free h.at_ 7
  have f9 := brk_free h.at_ 9
  have f10 := brk_free h.at_ 10
  have HP := Lib.hid (fun w => past_any t s.un w)
  clear h
  by_cases h1 : s.st = 1
  · cases hp : Tk.past t s.un
    · rw [Br.at_no hp] at HO ⊢
      rw [h1] at c7 ⊢
      rw [hp] at HP
      have H1 := Lib.hid h1
      clear h1 hk hp
      go_enter Try.func9, Try.ntmps9
      go_wp2_with fail
      refine HN.out.mono ?_
      rintro e w1 ⟨rfl, rfl⟩
      go_wp2_with fail
      refine (HP.out _).mono ?_
      rintro e w1 ⟨rfl, rfl⟩
      go_wp2_with fail
      go_ret
      exact ⟨rfl, H.out⟩
    · rw [Br.at_yes h1 hp] at HO ⊢
      rw [h1] at c7
      rw [hp] at HP
      have H1 := Lib.hid h1
      clear h1 hk hp
      go_enter Try.func9, Try.ntmps9
      go_wp2_with fail
      refine HN.out.mono ?_
      rintro e w1 ⟨rfl, rfl⟩
      go_wp2_with fail
      refine (HP.out _).mono ?_
      rintro e w1 ⟨rfl, rfl⟩
      go_upto_region 5 with fail
      have H2 := Lib.hid (H.out.put (s' := ⟨2, s.un, 0, 0, s.last, s.ev⟩) (rest_more (rest_more (rest_one wx B 7 (.int .i64 2)) 9 (.int .i64 0)) 10 (.int .i64 0)) (heap_setCell_same _ _ 10 _ _ _ (heap_setCell_same _ _ 9 _ _ _ (heap_setCell_same _ _ 7 _ _ _ H.out.at_))) rfl rfl HO.out)
      generalize ((wx.setCell ⟨B, 7, none⟩ (.int .i64 2)).setCell ⟨B, 9, none⟩ (.int .i64 0)).setCell ⟨B, 10, none⟩ (.int .i64 0) = w2 at H2 ⊢
      clear c7 c8
      obtain ⟨-, -, -, -, -, c7, -⟩ := brk_cells H2.out.at_
      dsimp only at c7
      go_wp2_with fail
      go_ret
      exact ⟨rfl, H2.out⟩
  · rw [Br.at_other t h1] at HO ⊢
    have H1 := Lib.hid h1
    rcases hk with hk | hk | hk
    · rw [hk] at c7 ⊢
      clear h1 hk
      go_enter Try.func9, Try.ntmps9
      go_wp2_with fail
      refine HN.out.mono ?_
      rintro e w1 ⟨rfl, rfl⟩
      go_wp2_with fail
      go_ret
      exact ⟨rfl, H.out⟩
    · exact absurd hk h1
    · rw [hk] at c7 ⊢
      clear h1 hk
      go_enter Try.func9, Try.ntmps9
      go_wp2_with fail
      refine HN.out.mono ?_
      rintro e w1 ⟨rfl, rfl⟩
      go_wp2_with fail
      go_ret
      exact ⟨rfl, H.out⟩

set_option maxHeartbeats 1000000 in
/-- May. -/
theorem brmay_any (t : Int) (h : Brk w wx B P R r s l) :
    Calls Try.prog 10 #[.pointer (some ⟨B, 0, none⟩), .int .i64 t] wx fun e w' => e = .returned (.bool ((s.at_ t).went r)) ∧ Brk w w' B P R r ((s.at_ t).gone r) l := by
  have HS := Lib.hid (brstate_any t h)
  have hO := h.ok.at_ h.good t
  have hg := h.good.tr1
  clear h
  generalize s.at_ t = a at HS hO ⊢
  have hk := hO.kind
  have HG := Lib.hid hO.gone
  have HV : Hid (a.went r = (!(a.st == 1) && !(a.st == 2 && a.we == r.tr))) := Lib.hid rfl
  generalize hv : a.went r = v at HV ⊢
  clear hv
  have hm := hO.we1
  have hm0 := hO.wl0
  have hm1 := hO.wl1
  rcases hk with hk | hk | hk
  · have hgo : a.gone r = a := by unfold Br.gone; rw [if_neg (by rw [hk]; omega)]
    have HV2 := HV.out
    rw [hk] at HS HV2
    simp at HV2
    rw [hgo, HV2]
    clear hk HV2 hgo HV hm hm0 hm1 hg HG
    go_enter Try.func10, Try.ntmps10
    go_wp2_with fail
    refine HS.out.mono ?_
    rintro e w1 ⟨rfl, h1⟩
    have H1 := Lib.hid h1
    clear h1 HS
    go_wp2_with fail
    go_ret
    exact ⟨rfl, H1.out⟩
  · have hgo : a.gone r = a := by unfold Br.gone; rw [if_neg (by rw [hk]; omega)]
    have HV2 := HV.out
    rw [hk] at HS HV2
    simp at HV2
    rw [hgo, HV2]
    clear hk HV2 hgo HV hm hm0 hm1 hg HG
    go_enter Try.func10, Try.ntmps10
    go_wp2_with fail
    refine HS.out.mono ?_
    rintro e w1 ⟨rfl, h1⟩
    have H1 := Lib.hid h1
    clear h1 HS
    go_wp2_with fail
    go_ret
    exact ⟨rfl, H1.out⟩
  · by_cases he : a.we = r.tr
    · have hgo : a.gone r = a := by unfold Br.gone; rw [if_neg (fun k => k.2 he)]
      have HV2 := HV.out
      rw [hk] at HS HV2
      simp [he] at HV2
      rw [hgo, HV2]
      have HE := Lib.hid he
      clear hk HV2 hgo HV hm hm0 hm1 hg HG he
      go_enter Try.func10, Try.ntmps10
      go_wp2_with fail
      refine HS.out.mono ?_
      rintro e w1 ⟨rfl, h1⟩
      have H1 := Lib.hid h1
      clear h1 HS
      obtain ⟨-, -, -, c5, -, -, -, c9, -⟩ := brk_cells H1.out.at_
      rw [HE.out] at c9
      have hd : (r.tr == r.tr) = true := by simp
      go_wp2_with fail
      go_quiet (fail)
      go_wp2_with fail
      go_ret
      exact ⟨rfl, H1.out.drewN _⟩
    · have hgo : a.gone r = ⟨2, a.un, a.we + 1, a.wl, a.last, a.ev⟩ := by unfold Br.gone; rw [if_pos ⟨hk, he⟩, hk]
      have hw : IntKind.i64.wrap (a.we + 1) = a.we + 1 := by rw [IntKind.wrap_i64]; omega
      have hd : (a.we == r.tr) = false := by simpa using he
      have HV2 := HV.out
      rw [hk, hd] at HV2
      rw [hk] at HS
      rw [HV2, hgo]
      rw [hgo] at HG
      show Calls _ _ _ _ (fun e w' => e = .returned (.bool true) ∧ _)
      have HK := Lib.hid hk
      clear hk HV2 hgo HV hm hm0 hm1 hg he
      go_enter Try.func10, Try.ntmps10
      go_wp2_with fail
      refine HS.out.mono ?_
      rintro e w1 ⟨rfl, h1⟩
      have H1 := Lib.hid h1
      clear h1 HS
      obtain ⟨-, -, -, c5, -, -, -, c9, -⟩ := brk_cells H1.out.at_
      have f9 := brk_free H1.out.at_ 9
      go_wp2_with fail
      go_quiet (fail)
      generalize hn : w1.drewN _ = w2
      have H2 := Lib.hid (show Brk w w2 B P R r a l by rw [← hn]; exact H1.out.drewN _)
      clear hn H1 c5 c9 f9
      obtain ⟨-, -, -, c5, -, -, -, c9, -⟩ := brk_cells H2.out.at_
      have f9 := brk_free H2.out.at_ 9
      go_wp2_with fail
      go_ret
      refine ⟨rfl, H2.out.put (s' := ⟨2, a.un, a.we + 1, a.wl, a.last, a.ev⟩) (rest_one w2 B 9 _) ?_ rfl rfl HG.out⟩
      have hx : (w2.setCell ⟨B, 9, none⟩ (.int .i64 (a.we + 1))).heap[B]? = some (brk r P a.st a.un (a.we + 1) a.wl) := heap_setCell_same _ _ 9 _ _ _ H2.out.at_
      rw [HK.out] at hx
      exact hx
end Go.Proofs.Ytieggfnkhpfccaa
