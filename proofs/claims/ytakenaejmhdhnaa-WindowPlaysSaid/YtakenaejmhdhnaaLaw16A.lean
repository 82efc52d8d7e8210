/- WindowRaw: at any time counting ends, and what happened at that very time counts. -/
import Derived.Test.YtakenaejmhdhnaaWinT
namespace Go.Proofs.Ytakenaejmhdhnaa
open Go.RowKit

set_option maxHeartbeats 2000000 in
set_option maxRecDepth 100000 in
theorem awake16_any (w : World) : Calls Try.prog 13 #[] w fun e w' => e = .returned (.bool true) ∧ Below w.heap.size w w' := by
  have hnew := wnl_new 2 4 (Held.start w)
  rw [show Wn.many 2 = 2 by decide, show max (1 : Int) 4 = 4 by decide] at hnew
  go_enter Try.func13, Try.ntmps13
  go_wp2_with fail
  refine hnew.mono ?_
  rintro e w1 ⟨rfl, h1⟩
  have H1 := Lib.hid h1
  clear h1 hnew
  generalize w.heap.size + 1 = P at H1 ⊢
  generalize w.heap.size = R at H1
  go_wp2_with fail
  have hn := wnl_note 3 true H1.out (by decide)
  rw [show max (0 : Int) (Tk.clamp 3 / 4) = 0 by decide] at hn
  refine hn.mono ?_
  rintro e w2 ⟨rfl, h2⟩
  have H2 := Lib.hid h2
  clear h2 H1 hn
  go_wp2_with fail
  have hn := wnl_note 4 false H2.out (by decide)
  rw [show max (0 : Int) (Tk.clamp 4 / 4) = 1 by decide] at hn
  refine hn.mono ?_
  rintro e w3 ⟨rfl, h3⟩
  have H3 := Lib.hid h3
  clear h3 H2 hn
  go_wp2_with fail
  have hn := wnl_counts 4 H3.out
  rw [show max (1 : Int) (Tk.clamp 4 / 4) = 1 by decide, show Wn.above ([] ++ [((0 : Int), true)] ++ [(1, false)]) (1 - ((2 : Nat) : Int)) true = 1 by decide, show Wn.above ([] ++ [((0 : Int), true)] ++ [(1, false)]) (1 - ((2 : Nat) : Int)) false = 1 by decide] at hn
  refine hn.mono ?_
  rintro e w4 ⟨rfl, h4⟩
  have H4 := Lib.hid h4
  clear h4 H3 hn
  go_wp2_with fail
  have hn := wnl_counts 8 H4.out
  rw [show max (1 : Int) (Tk.clamp 8 / 4) = 2 by decide, show Wn.above ([] ++ [((0 : Int), true)] ++ [(1, false)]) (2 - ((2 : Nat) : Int)) true = 0 by decide, show Wn.above ([] ++ [((0 : Int), true)] ++ [(1, false)]) (2 - ((2 : Nat) : Int)) false = 1 by decide] at hn
  refine hn.mono ?_
  rintro e w5 ⟨rfl, h5⟩
  have HB := Lib.hid h5.below
  clear h5 H4 hn
  go_wp2_with fail
  go_ret
  exact ⟨rfl, (HB.out.alloc HB.out.size _).alloc (by have := HB.out.size; simp; omega) _⟩

/-- What two things come to, at the second one's time. -/
theorem raw_two {a b : Int} (n : Nat) (hn : 0 < n) : Wn.above ([] ++ [(a, true)] ++ [(b, false)]) (b - n) false = 1 ∧ Wn.above ([] ++ [(a, true)] ++ [(b, false)]) (b - n) true = if b - n < a then 1 else 0 := by
  constructor
  · simp [Wn.above]; omega
  · simp [Wn.above]

set_option maxHeartbeats 2000000 in
set_option maxRecDepth 100000 in
theorem wraw_any (n wd t0 t1 : Int) (w : World) : Calls Try.prog 4 #[.int .i64 n, .int .i64 wd, .agg #[.int .i64 t0, .int .i64 t1]] w fun e w' => e = .returned (.bool true) ∧ Below w.heap.size w w' := by
  have hnew := fun (w wx : World) (l : List (Nat × Obj)) (h : Held w wx l) => wnl_new n wd h
  have hm0 := (Wn.many_some n).1
  generalize Wn.many n = m at hnew hm0
  generalize max 1 wd = d at hnew
  have hE : max (max (max 0 (Tk.clamp t0 / d)) (Tk.clamp t1 / d)) (Tk.clamp t1 / d) = max (max 0 (Tk.clamp t0 / d)) (Tk.clamp t1 / d) := by omega
  have hX : ∃ x : Int, (if max (max 0 (Tk.clamp t0 / d)) (Tk.clamp t1 / d) - (m : Int) < max 0 (Tk.clamp t0 / d) then (1 : Int) else 0) = x ∧ ((t0 = t1 ∧ x = 1) ∨ (t0 ≠ t1 ∧ x = 1) ∨ (t0 ≠ t1 ∧ x = 0)) := by
    refine ⟨_, rfl, ?_⟩
    by_cases ht : t0 = t1
    · subst ht
      exact .inl ⟨rfl, by rw [if_pos (by omega)]⟩
    · split
      · exact .inr (.inl ⟨ht, rfl⟩)
      · exact .inr (.inr ⟨ht, rfl⟩)
  have hnote0 := fun (w wx : World) (P R n : Nat) (ev : List (Int × Bool)) (l : List (Nat × Obj)) (h : Wnl w wx P R n d 0 ev l) hf => wnl_note t0 true h hf
  have hnote1 := fun (w wx : World) (P R n : Nat) (ev : List (Int × Bool)) (l : List (Nat × Obj)) (h : Wnl w wx P R n d (max 0 (Tk.clamp t0 / d)) ev l) hf => wnl_note t1 false h hf
  have hcounts := fun (w wx : World) (P R n : Nat) (ev : List (Int × Bool)) (l : List (Nat × Obj)) (h : Wnl w wx P R n d (max (max 0 (Tk.clamp t0 / d)) (Tk.clamp t1 / d)) ev l) => wnl_counts t1 h
  rw [hE] at hcounts
  clear hE
  generalize max (max 0 (Tk.clamp t0 / d)) (Tk.clamp t1 / d) = b at hnote1 hcounts hX
  generalize max 0 (Tk.clamp t0 / d) = a at hnote0 hnote1 hX
  obtain ⟨x, hx, hX⟩ := hX
  obtain ⟨hr1, hr2⟩ := raw_two (a := a) (b := b) m hm0
  rw [hx] at hr2
  clear hx
  have HR1 := Lib.hid hr1
  have HR2 := Lib.hid hr2
  have HN := Lib.hid hnew
  have HN0 := Lib.hid hnote0
  have HN1 := Lib.hid hnote1
  have HC := Lib.hid hcounts
  have H0 := Lib.hid ((Held.start w).lay (.cells #[.int .i64 t0, .int .i64 t1] 43))
  clear hr1 hr2 hnew hnote0 hnote1 hcounts hm0
  go_enter Try.func4, Try.ntmps4
  go_wp2_with fail
  generalize hs : w.heap.size = s at H0 ⊢
  have HS := Lib.hid hs
  clear hs
  generalize w.alloc (.cells #[.int .i64 t0, .int .i64 t1] 43) = w1 at H0 ⊢
  refine (HN.out _ _ _ H0.out).mono ?_
  rintro e w2 ⟨rfl, h2⟩
  have H2 := Lib.hid h2
  clear h2 H0 HN
  generalize w1.heap.size + 1 = P at H2 ⊢
  generalize w1.heap.size = R at H2
  obtain ⟨c0, c1⟩ := two_cells (H2.out.held.get 0 rfl)
  go_wp2_with fail
  refine (HN0.out _ _ _ _ _ _ _ H2.out (by simp)).mono ?_
  rintro e w3 ⟨rfl, h3⟩
  have H3 := Lib.hid h3
  clear h3 H2 HN0 c0 c1
  obtain ⟨c0, c1⟩ := two_cells (H3.out.held.get 0 rfl)
  go_wp2_with fail
  refine (HN1.out _ _ _ _ _ _ _ H3.out (by simp)).mono ?_
  rintro e w4 ⟨rfl, h4⟩
  have H4 := Lib.hid h4
  clear h4 H3 HN1 c0 c1
  obtain ⟨c0, c1⟩ := two_cells (H4.out.held.get 0 rfl)
  go_wp2_with fail
  refine (HC.out _ _ _ _ _ _ _ H4.out).mono ?_
  rintro e w5 ⟨rfl, h5⟩
  rw [HR1.out, HR2.out]
  have H5 := Lib.hid h5
  clear h5 H4 HC c0 c1 HR1 HR2
  have c0 : ∀ o, (w5.alloc o).cell? ⟨s, 0, none⟩ = some (.int .i64 t0) := fun o => (two_cells ((H5.out.lay o).held.get 1 rfl)).1
  go_wp2_with fail
  refine (wnote_nil t0 true _).mono ?_
  rintro e w6 ⟨rfl, rfl⟩
  go_wp2_with fail
  refine (wclear_nil _).mono ?_
  rintro e w6 ⟨rfl, rfl⟩
  have H6 := Lib.hid (H5.out.lay (.cells #[.int .i64 x, .int .i64 1] 38))
  clear c0
  go_wp2_with fail
  generalize hs5 : w5.heap.size = s5 at H6 ⊢
  have HS5 := Lib.hid hs5
  clear hs5
  generalize w5.alloc (.cells #[.int .i64 x, .int .i64 1] 38) = w6 at H6 ⊢
  clear H5
  refine (awake16_any w6).mono ?_
  rintro e w7 ⟨rfl, h7⟩
  have H7 := Lib.hid (H6.out.call h7)
  clear h7 H6
  obtain ⟨d0, d1⟩ := two_cells (H7.out.held.get 0 rfl)
  obtain ⟨c0, c1⟩ := two_cells (H7.out.held.get 1 rfl)
  have hnil := wcounts_nil t0 w7
  rcases hX with ⟨rfl, rfl⟩ | ⟨hne, rfl⟩ | ⟨hne, rfl⟩
  all_goals
    try have hnb : (t0 != t1) = true := by simpa using hne
    try clear hne
    go_wp2_with fail
    refine hnil.mono ?_
    rintro e w8 ⟨rfl, hb⟩
    have H8 := Lib.hid (H7.out.call hb)
    clear hb H7 hnil
    go_wp2_with fail
    go_ret
    exact ⟨rfl, H8.out.below⟩
end Go.Proofs.Ytakenaejmhdhnaa
