/- A wheel's calls, as one list has it. -/
import Derived.Test.YtcjidobdbdfjlaaWhT
namespace Go.Proofs.Ytcjidobdbdfjlaa
open Go.RowKit Go.Sort

theorem wl_new (t : Int) (ht : Tk.clamp t < 1099511627776) (w0 w : World) (hr : Rest (fun _ => False) w0 w) (K : List Nat) (hK : ∀ k, k ∈ K → k < w.heap.size) : Calls Try.prog 6 #[.int .i64 t] w fun e w' => e = .returned (.pointer (some ⟨w.heap.size, 0, none⟩)) ∧ Wl w0 w' w.heap.size (Tk.clamp t) [] K ∧ Rest (fun _ => False) w w' := by
  refine (wnew_any t w0 w hr).mono ?_
  rintro e w' ⟨rfl, h, hr'⟩
  have e0 : Wh.spread [] (Wh.home (Tk.clamp t)) = fun _ => [] := by funext q; rfl
  have h' : Whl w0.heap.size w' w.heap.size (Tk.clamp t) (fun _ => []) (fun _ => .slice none 0 0) K := ⟨h.from_, h.block, h.rows, h.apart, h.off, fun k hk => ⟨Nat.lt_of_lt_of_le (hK k hk) hr'.size, Nat.ne_of_lt (hK k hk), fun q _ e => by simp [Value.ownBlock] at e⟩⟩
  exact ⟨rfl, ⟨⟨_, by rw [e0]; exact h'⟩, hr.trans (o3 := fun _ => False) hr' (fun _ _ => id) (fun _ _ => id), List.Pairwise.nil, List.Pairwise.nil, by simp, ⟨Tk.clamp_lo t, ht⟩, fun a ha => by simp at ha⟩, hr'⟩
theorem wl_now {w0 w : World} {P : Nat} {now : Int} {M : List En} {K : List Nat} (h : Wl w0 w P now M K) : Calls Try.prog 16 #[.pointer (some ⟨P, 0, none⟩)] w fun e w' => e = .returned (.int .i64 now) ∧ w = w' := by
  obtain ⟨V, hV⟩ := h.whl
  exact wnow_any hV
theorem wl_come {w0 w : World} {P : Nat} {now : Int} {M : List En} {K : List Nat} (h : Wl w0 w P now M K) : Calls Try.prog 14 #[.pointer (some ⟨P, 0, none⟩)] w fun e w' => e = .returned (.int .i64 (Rf.come now M : Nat)) ∧ w = w' := by
  obtain ⟨V, hV⟩ := h.whl
  have := wcome_any hV
  rw [Wh.come_spread] at this
  exact this
theorem wl_len {w0 w : World} {P : Nat} {now : Int} {M : List En} {K : List Nat} (h : Wl w0 w P now M K) : Calls Try.prog 13 #[.pointer (some ⟨P, 0, none⟩)] w fun e w' => e = .returned (.int .i64 (M.length : Nat)) ∧ Rest (fun _ => False) w w' := by
  obtain ⟨V, hV⟩ := h.whl
  have := wlen_any hV h.lens
  rw [Wh.total_all] at this
  exact this
/-- The time goes on, if it is a later one. -/
theorem wl_adv {w0 w : World} {P : Nat} {now : Int} {M : List En} {K : List Nat} (t : Int) (h : Wl w0 w P now M K) (ht : Tk.clamp t < 1099511627776) :
    Calls Try.prog 7 #[.pointer (some ⟨P, 0, none⟩), .int .i64 t] w fun e w' => e = .returned (.tuple #[]) ∧ Wl w0 w' P (if now < Tk.clamp t then Tk.clamp t else now) M K ∧ Same K w w' := by
  obtain ⟨V, hV⟩ := h.whl
  by_cases c : now < Tk.clamp t
  · rw [if_pos c]
    refine (adv_yes t hV h.time.1 c ht h.asc (Nat.le_trans h.few (by decide)) h.times).mono ?_
    rintro e w' ⟨rfl, V', h', hr⟩
    exact ⟨rfl, ⟨⟨V', h'⟩, rest0_of h.rest hr, h.asc, h.alone, h.few, ⟨Tk.clamp_lo t, ht⟩, h.times⟩, same_of_rest (fun k hk => (hV.own k hk).1) hr⟩
  · rw [if_neg c]
    refine (adv_no t hV (by omega)).mono ?_
    rintro e w' ⟨rfl, rfl⟩
    exact ⟨rfl, h, Same.refl _ _⟩

set_option maxHeartbeats 2000000 in
set_option maxRecDepth 100000 in
/-- One that never comes is not laid. -/
theorem wl_never {w0 w : World} {P : Nat} {now : Int} {M : List En} {K : List Nat} (x : En) (_ : Wl w0 w P now M K) (hx : Tk.clamp x.t = 1099511627776) :
    Calls Try.prog 12 #[.pointer (some ⟨P, 0, none⟩), .agg #[.int .i64 x.t, .int .i64 x.c, .int .i64 x.s, .int .i64 x.g, .int .i64 x.x]] w fun e w' => e = .returned (.bool false) ∧ Rest (fun _ => False) w w' := by
  have hcl := fun w => clamp_any x.t w
  rw [hx] at hcl
  clear hx
  have hs := Rest.alloc (fun _ => False) w (.cells #[.int .i64 x.t, .int .i64 x.c, .int .i64 x.s, .int .i64 x.g, .int .i64 x.x] 30)
  have h9 := heap_alloc_new w (.cells #[.int .i64 x.t, .int .i64 x.c, .int .i64 x.s, .int .i64 x.g, .int .i64 x.x] 30)
  go_enter Try.func12, Try.ntmps12
  go_wp2_with fail
  refine (hcl _).mono ?_
  rintro e w1 ⟨rfl, rfl⟩
  generalize w.alloc (.cells #[.int .i64 x.t, .int .i64 x.c, .int .i64 x.s, .int .i64 x.g, .int .i64 x.x] 30) = w1 at hs h9 ⊢
  have hs1 : Rest (fun _ => False) w (w1.setCell ⟨w.heap.size, 0, none⟩ (.int .i64 1099511627776)) := hs.trans (o3 := fun _ => False) (Rest.setCell (own := fun k => k = w.heap.size) w1 ⟨w.heap.size, 0, none⟩ _ rfl) (fun _ _ => id) (fun i hi e => by omega)
  obtain ⟨x0, x1, x2, x3, x4⟩ := five_cells13 h9
  have f0 : w1.frozen? ⟨w.heap.size, 0, none⟩ = false := frozen_of_row _ _ _ _ _ h9
  have HS := Lib.hid hs1
  clear h9 hs hs1
  go_wp2_with fail
  go_ret
  exact ⟨rfl, HS.out⟩
theorem wput_nil (x : En) (w : World) :
    Calls Try.prog 12 #[.pointer none, .agg #[.int .i64 x.t, .int .i64 x.c, .int .i64 x.s, .int .i64 x.g, .int .i64 x.x]] w fun e w' => e = .returned (.bool false) ∧ Rest (fun _ => False) w w' := by
  have hcl := fun w => clamp_any x.t w
  generalize Tk.clamp x.t = y at hcl
  have hs := Rest.alloc (fun _ => False) w (.cells #[.int .i64 x.t, .int .i64 x.c, .int .i64 x.s, .int .i64 x.g, .int .i64 x.x] 30)
  have h9 := heap_alloc_new w (.cells #[.int .i64 x.t, .int .i64 x.c, .int .i64 x.s, .int .i64 x.g, .int .i64 x.x] 30)
  go_enter Try.func12, Try.ntmps12
  go_wp2_with fail
  refine (hcl _).mono ?_
  rintro e w1 ⟨rfl, rfl⟩
  generalize w.alloc (.cells #[.int .i64 x.t, .int .i64 x.c, .int .i64 x.s, .int .i64 x.g, .int .i64 x.x] 30) = w1 at hs h9 ⊢
  have hs1 : Rest (fun _ => False) w (w1.setCell ⟨w.heap.size, 0, none⟩ (.int .i64 y)) := hs.trans (o3 := fun _ => False) (Rest.setCell (own := fun k => k = w.heap.size) w1 ⟨w.heap.size, 0, none⟩ _ rfl) (fun _ _ => id) (fun i hi e => by omega)
  obtain ⟨x0, x1, x2, x3, x4⟩ := five_cells13 h9
  have f0 : w1.frozen? ⟨w.heap.size, 0, none⟩ = false := frozen_of_row _ _ _ _ _ h9
  have HS := Lib.hid hs1
  clear h9 hs hs1
  go_wp2_with fail
  go_ret
  exact ⟨rfl, HS.out⟩

set_option maxHeartbeats 2000000 in
set_option maxRecDepth 100000 in
/-- There is no room. -/
theorem wl_full {w0 w : World} {P : Nat} {now : Int} {M : List En} {K : List Nat} (x : En) (h : Wl w0 w P now M K) (hx : Tk.clamp x.t ≠ 1099511627776) (hm : 256 ≤ (Rf.without x M).length) :
    Calls Try.prog 12 #[.pointer (some ⟨P, 0, none⟩), .agg #[.int .i64 x.t, .int .i64 x.c, .int .i64 x.s, .int .i64 x.g, .int .i64 x.x]] w fun e w' => e = .returned (.bool false) ∧ Rest (fun _ => False) w w' := by
  have hcl := fun w => clamp_any x.t w
  generalize hy : Tk.clamp x.t = y at hcl hx
  clear hy
  have hyb : (y == 1099511627776) = false := by simpa using hx
  have hle : (Rf.without x M).length ≤ M.length := List.length_filter_le _ _
  have hM : M.length = 256 := by have := h.few; omega
  have HMs : Hid (∀ a ∈ M, Rf.same a x = false) := Lib.hid (fun a ha => by
    cases hc : Rf.same a x
    · rfl
    · have := Wh.without_less ha hc; omega)
  have HW := Lib.hid h
  clear h hx hm hle
  have hs := Rest.alloc (fun _ => False) w (.cells #[.int .i64 x.t, .int .i64 x.c, .int .i64 x.s, .int .i64 x.g, .int .i64 x.x] 30)
  have h9 := heap_alloc_new w (.cells #[.int .i64 x.t, .int .i64 x.c, .int .i64 x.s, .int .i64 x.g, .int .i64 x.x] 30)
  go_enter Try.func12, Try.ntmps12
  go_wp2_with fail
  refine (hcl _).mono ?_
  rintro e w1 ⟨rfl, rfl⟩
  generalize w.alloc (.cells #[.int .i64 x.t, .int .i64 x.c, .int .i64 x.s, .int .i64 x.g, .int .i64 x.x] 30) = w1 at hs h9 ⊢
  have h10 := heap_setCell_same w1 w.heap.size 0 _ _ (.int .i64 y) h9
  have hs1 : Rest (fun _ => False) w (w1.setCell ⟨w.heap.size, 0, none⟩ (.int .i64 y)) := hs.trans (o3 := fun _ => False) (Rest.setCell (own := fun k => k = w.heap.size) w1 ⟨w.heap.size, 0, none⟩ _ rfl) (fun _ _ => id) (fun i hi e => by omega)
  obtain ⟨x0, x1, x2, x3, x4⟩ := five_cells13 h9
  have f0 : w1.frozen? ⟨w.heap.size, 0, none⟩ = false := frozen_of_row _ _ _ _ _ h9
  obtain ⟨y0, y1, y2, y3, y4⟩ := five_cells13 (c0 := .int .i64 y) h10
  have HS := Lib.hid hs1
  clear h9 hs h10 hs1
  go_wp2_with fail
  clear x0 x1 x2 x3 x4 f0 y0 y1 y2 y3 y4
  generalize w1.setCell ⟨w.heap.size, 0, none⟩ (.int .i64 y) = w2 at HS ⊢
  obtain ⟨V, hV⟩ := HW.out.whl
  have HV := Lib.hid (hV.past HS.out)
  clear hV
  refine (find_any (⟨y, x.c, x.s, x.g, x.x, 0⟩ : En) HV.out HW.out.lens).mono ?_
  rintro e w3 ⟨⟨q, i, hf, rfl⟩ | ⟨rfl, hmiss⟩, hr3⟩
  · obtain ⟨hq, hi, hs⟩ := hf
    have hm := (Wh.spread_mem.1 (Wh.e_mem hi)).1
    have := HMs.out _ hm
    rw [Wh.same_symm] at this
    have hs' : Rf.same x (Hp.e (Wh.spread M (Wh.home now) q) i) = true := hs
    rw [this] at hs'
    cases hs'
  · have hlen := wlen_any (HV.out.past hr3) HW.out.lens
    rw [Wh.total_all, hM] at hlen
    have HR := Lib.hid (HS.out.trans (o3 := fun _ => False) hr3 (fun _ _ => id) (fun _ _ => id))
    clear hmiss hr3
    go_wp2_with fail
    go_at_call 13
    refine hlen.mono ?_
    rintro e w4 ⟨rfl, hr5⟩
    have HR5 := Lib.hid hr5
    clear hr5 hlen
    go_wp2_with fail
    go_ret
    exact ⟨rfl, HR.out.trans (o3 := fun _ => False) HR5.out (fun _ _ => id) (fun _ _ => id)⟩

theorem wtake_nil (w : World) : Calls Try.prog 9 #[.pointer none] w fun e w' => e = .returned (.tuple #[.agg #[.int .i64 0, .int .i64 0, .int .i64 0, .int .i64 0, .int .i64 0], .bool false]) ∧ Rest (fun _ => False) w w' := by
  have hs := Rest.alloc (fun _ => False) w (.cells #[.int .i64 0, .int .i64 0, .int .i64 0, .int .i64 0, .int .i64 0] 30)
  have h9 := heap_alloc_new w (.cells #[.int .i64 0, .int .i64 0, .int .i64 0, .int .i64 0, .int .i64 0] 30)
  have HB := Lib.hid (⟨hs, h9⟩ : Rest (fun _ => False) w (w.alloc (.cells #[.int .i64 0, .int .i64 0, .int .i64 0, .int .i64 0, .int .i64 0] 30)) ∧ _)
  clear hs h9
  go_enter Try.func9, Try.ntmps9
  go_wp2_with (go_at_call 14; refine (wcome_nil _).mono ?_; rintro e w' ⟨rfl, rfl⟩)
  exact bodyPost_ret (results_row_tmp Try.results9 _ _ w.heap.size 30 _ (0, 0) _ rfl HB.out.2 Try.underlying30 rfl Try.sizeA13) rfl ⟨rfl, HB.out.1⟩
/-- None has come. -/
theorem wl_wait {w0 w : World} {P : Nat} {now : Int} {M : List En} {K : List Nat} (h : Wl w0 w P now M K) (hc : Rf.come now M = 0) : Calls Try.prog 9 #[.pointer (some ⟨P, 0, none⟩)] w fun e w' => e = .returned (.tuple #[.agg #[.int .i64 0, .int .i64 0, .int .i64 0, .int .i64 0, .int .i64 0], .bool false]) ∧ Rest (fun _ => False) w w' := by
  have hs := Rest.alloc (fun _ => False) w (.cells #[.int .i64 0, .int .i64 0, .int .i64 0, .int .i64 0, .int .i64 0] 30)
  have h9 := heap_alloc_new w (.cells #[.int .i64 0, .int .i64 0, .int .i64 0, .int .i64 0, .int .i64 0] 30)
  have HB := Lib.hid (⟨hs, h9⟩ : Rest (fun _ => False) w (w.alloc (.cells #[.int .i64 0, .int .i64 0, .int .i64 0, .int .i64 0, .int .i64 0] 30)) ∧ _)
  have hcome := wl_come (h.past hs)
  rw [hc] at hcome
  clear hs h9 h hc
  go_enter Try.func9, Try.ntmps9
  go_wp2_with (go_at_call 14; refine hcome.mono ?_; rintro e w' ⟨rfl, rfl⟩)
  exact bodyPost_ret (results_row_tmp Try.results9 _ _ w.heap.size 30 _ (0, 0) _ rfl HB.out.2 Try.underlying30 rfl Try.sizeA13) rfl ⟨rfl, HB.out.1⟩

namespace Wh
theorem spread_head {M : List En} {x : En} {now : Int} (h : x.t ≤ now) : spread (x :: M) (home now) 0 = x :: spread M (home now) 0 := by
  unfold spread
  rw [List.filter_cons, if_pos (by simpa using (home_zero now x.t).2 h)]
theorem take_head {M : List En} {x : En} {now : Int} (h : x.t ≤ now) : upd (spread (x :: M) (home now)) 0 ((spread (x :: M) (home now) 0).take 0 ++ (spread (x :: M) (home now) 0).drop (0 + 1)) = spread M (home now) := by
  funext q
  by_cases e : q = 0
  · subst e
    rw [upd_same, spread_head h]
    simp
  · rw [upd_other e]
    unfold spread
    rw [List.filter_cons, if_neg]
    have := (home_zero now x.t).2 h
    simp only [decide_eq_true_eq]
    omega
theorem come_head {M : List En} {x : En} {now : Int} (h : x.t ≤ now) : 0 < Rf.come now (x :: M) := by simp only [Rf.come, if_pos h]; omega
end Wh

set_option maxHeartbeats 2000000 in
set_option maxRecDepth 100000 in
/-- The first one is taken. -/
theorem wl_take {w0 w : World} {P : Nat} {now : Int} {M : List En} {x : En} {K : List Nat} (h : Wl w0 w P now (x :: M) K) (hx : x.t ≤ now) :
    Calls Try.prog 9 #[.pointer (some ⟨P, 0, none⟩)] w fun e w' => e = .returned (.tuple #[.agg #[.int .i64 x.t, .int .i64 x.c, .int .i64 x.s, .int .i64 x.g, .int .i64 x.x], .bool true]) ∧ Wl w0 w' P now M K ∧ Same K w w' := by
  have hs := Rest.alloc (fun _ => False) w (.cells #[.int .i64 0, .int .i64 0, .int .i64 0, .int .i64 0, .int .i64 0] 30)
  have h9 := heap_alloc_new w (.cells #[.int .i64 0, .int .i64 0, .int .i64 0, .int .i64 0, .int .i64 0] 30)
  have hz : w.heap.size < (w.alloc (.cells #[.int .i64 0, .int .i64 0, .int .i64 0, .int .i64 0, .int .i64 0] 30)).heap.size := by simp
  have HB := Lib.hid (⟨hs, h9, hz⟩ : Rest (fun _ => False) w (w.alloc (.cells #[.int .i64 0, .int .i64 0, .int .i64 0, .int .i64 0, .int .i64 0] 30)) ∧ _ ∧ _)
  have hcome := wl_come (h.past hs)
  have hc0 := Wh.come_head (M := M) hx
  generalize Rf.come now (x :: M) = k at hcome hc0
  have hk0 : ¬ (k : Int) = 0 := by omega
  have hkb : ((k : Int) == 0) = false := by simpa using hk0
  have HX := Lib.hid hx
  have HW := Lib.hid h
  clear hs h9 hz h hx
  go_enter Try.func9, Try.ntmps9
  go_wp2_with fail
  refine hcome.mono ?_
  rintro e w' ⟨rfl, rfl⟩
  clear hcome
  go_wp2_with fail
  generalize w.alloc (.cells #[.int .i64 0, .int .i64 0, .int .i64 0, .int .i64 0, .int .i64 0] 30) = w1 at HB ⊢
  obtain ⟨V, hV⟩ := (HW.out.own HB.out.1 (Nat.le_refl _) HB.out.2.2).whl
  have hl := HW.out.lens 0
  have hcut := cut_any hV (q := 0) (i := 0) (by decide) (by rw [Wh.spread_head HX.out]; simp) (Nat.le_trans hl (by decide))
  rw [Wh.take_head HX.out, Wh.spread_head HX.out] at hcut
  simp only [Hp.alarm] at hcut
  go_at_call 22
  refine hcut.mono ?_
  clear hcut hl hV
  rintro e w2 ⟨rfl, V2, h2, hr2⟩
  have hb2 := (hr2.block _ (lt_of_block HB.out.2.1) (fun e => e.2 List.mem_cons_self)).trans HB.out.2.1
  have f2 : ∀ i, w2.frozen? ⟨w.heap.size, i, none⟩ = false := fun _ => frozen_of_row _ _ _ _ _ hb2
  obtain ⟨z0, z1, z2, z3, z4⟩ := five_cells13 hb2
  have H5 := Lib.hid (five_set hb2 x.t x.c x.s x.g x.x)
  have hr3 := five_rest w2 w.heap.size (.int .i64 x.t) (.int .i64 x.c) (.int .i64 x.s) (.int .i64 x.g) (.int .i64 x.x)
  have hall : Rest (fun k => w0.heap.size ≤ k ∧ k ∉ K) w (((((w2.setCell ⟨w.heap.size, 0, none⟩ (.int .i64 x.t)).setCell ⟨w.heap.size, 1, none⟩ (.int .i64 x.c)).setCell ⟨w.heap.size, 2, none⟩ (.int .i64 x.s)).setCell ⟨w.heap.size, 3, none⟩ (.int .i64 x.g)).setCell ⟨w.heap.size, 4, none⟩ (.int .i64 x.x)) :=
    (HB.out.1.trans (o3 := fun k => w0.heap.size ≤ k ∧ k ∉ K) hr2 (fun _ _ => False.elim) (fun _ _ e => ⟨e.1, fun hk => e.2 (List.mem_cons_of_mem _ hk)⟩)).trans (o3 := fun k => w0.heap.size ≤ k ∧ k ∉ K) hr3 (fun _ _ => id) (fun i hi e => by omega)
  have HE : Hid (Wl w0 (((((w2.setCell ⟨w.heap.size, 0, none⟩ (.int .i64 x.t)).setCell ⟨w.heap.size, 1, none⟩ (.int .i64 x.c)).setCell ⟨w.heap.size, 2, none⟩ (.int .i64 x.s)).setCell ⟨w.heap.size, 3, none⟩ (.int .i64 x.g)).setCell ⟨w.heap.size, 4, none⟩ (.int .i64 x.x)) P now M K ∧ Same K w (((((w2.setCell ⟨w.heap.size, 0, none⟩ (.int .i64 x.t)).setCell ⟨w.heap.size, 1, none⟩ (.int .i64 x.c)).setCell ⟨w.heap.size, 2, none⟩ (.int .i64 x.s)).setCell ⟨w.heap.size, 3, none⟩ (.int .i64 x.g)).setCell ⟨w.heap.size, 4, none⟩ (.int .i64 x.x))) := by
    obtain ⟨VW, hVW⟩ := HW.out.whl
    have hf := HW.out.few
    refine ⟨⟨⟨V2, (h2.wrote hr3 (fun k e => by subst e; exact List.mem_cons_self)).drop (fun k hk => List.mem_cons_of_mem _ hk)⟩, rest0_of HW.out.rest hall, (List.pairwise_cons.1 HW.out.asc).2, (List.pairwise_cons.1 HW.out.alone).2, by simp at hf; omega, HW.out.time, fun a ha => HW.out.times a (List.mem_cons_of_mem _ ha)⟩, same_of_rest (fun k hk => (hVW.own k hk).1) hall⟩
  clear h2 hr2 hr3 hall hb2
  go_wp2_with fail
  exact bodyPost_ret (results_row_tmp Try.results9 _ _ w.heap.size 30 _ (0, 0) _ rfl H5.out Try.underlying30 rfl Try.sizeA13) rfl ⟨rfl, HE.out⟩
end Go.Proofs.Ytcjidobdbdfjlaa
