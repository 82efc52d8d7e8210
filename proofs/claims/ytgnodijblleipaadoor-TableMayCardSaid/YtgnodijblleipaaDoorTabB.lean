/- A client's slots: one is picked, one is back; which tables may be; a new one. -/
import Derived.Test.YtgnodijblleipaaDoorTabA
import Derived.Test.YtgnodijblleipaaDoorSkip
namespace Go.Proofs.YtgnodijblleipaaDoor
open Go.RowKit

/-- What a call on the numbers that can be taken leaves of the table. -/
theorem TNow.turn {w w' : World} {B : Nat} {s : TSpot} {t : Tb} {l : List Nat} (h : Tab w B s t) (hF : FNow w w' B s.F ⟨l, t.slots⟩) (ha : ∀ i, i ∈ t.rt → i ∉ l) : TNow w w' B s { t with ln := l } := by
  obtain ⟨L, hL, hf, hR⟩ := hF
  have key : ∀ k, k < w.heap.size → ¬ s.F.has k → ¬ (⟨s.F.P, s.F.M, L⟩ : FSpot).has k := fun k hk hn hx => by
    rcases hx with e | e | e
    · exact hn (.inl e)
    · exact hn (.inr (.inl e))
    · rcases hL with g | g
      · exact hn (.inr (.inr (g ▸ e)))
      · have := g k e; omega
  have hp := h.old s.P (.inl rfl)
  have hr := h.old s.R (.inr (.inl rfl))
  exact ⟨L, hL, {
    hP := (hR.block _ hp h.dPF).trans h.hP
    hR := (hR.block _ hr h.dRF).trans h.hR
    hF := hf, dPR := h.dPR
    dPF := key _ hp h.dPF
    dRF := key _ hr h.dRF
    bP := h.bP, bR := h.bR, nd := h.nd, lt := h.lt, ap := ha, ma := h.ma }, hR.mono (fun _ _ x => .inr (.inr x))⟩

/-- A slot is marked as retired. -/
theorem TNow.retire {w : World} {B : Nat} {s : TSpot} {t : Tb} (h : Tab w B s t) {i : Nat} (hi : t.Out i) : TNow w (w.setCell ⟨s.R, i, none⟩ (.bool true)) B s { t with rt := t.rt ++ [i] } := by
  obtain ⟨h1, h2, h3⟩ := hi
  have hR : Rest (fun k => k = s.R) w (w.setCell ⟨s.R, i, none⟩ (.bool true)) := Rest.setCell w _ _ rfl
  refine ⟨s.F.L, .inl rfl, ?_, hR.mono (fun _ _ x => .inr (.inl x))⟩
  exact {
    hP := by rw [heap_setCell_other _ _ _ _ h.dPR]; exact h.hP
    hR := by
      show (w.setCell ⟨s.R, i, none⟩ (.bool true)).heap[s.R]? = _
      rw [heap_setCell_same w s.R i _ _ _ h.hR, markCells_set]
    hF := h.hF.kept hR (fun k hk e => h.dRF (e ▸ hk))
    dPR := h.dPR, dPF := h.dPF, dRF := h.dRF, bP := h.bP, bR := h.bR
    nd := by
      rw [List.nodup_append]
      exact ⟨h.nd, by simp, fun x hx y hy e => by simp at hy; subst hy; subst e; exact h3 hx⟩
    lt := fun j hj => by
      rcases List.mem_append.1 hj with g | g
      · exact h.lt j g
      · simp at g; subst g; exact h1
    ap := fun j hj => by
      rcases List.mem_append.1 hj with g | g
      · exact h.ap j g
      · simp at g; subst g; exact h2
    ma := h.ma }

theorem tpick_no {B : Nat} {s : TSpot} {t : Tb} (w : World) (h : Tab w B s t) (hl : t.ln = []) : Calls Tryd.prog 8 #[.pointer (some ⟨s.P, 0, none⟩)] w fun e w' => e = .returned (.tuple #[.int .i64 0, .bool false]) ∧ w = w' := by
  have HF := Lib.hid h.hF
  have HE := Lib.hid hl
  obtain ⟨-, -, -, c3, -⟩ := h.cells
  clear h hl
  go_enter Tryd.func8, Tryd.ntmps8
  go_wp2_with fail
  refine (take_no _ HF.out HE.out).mono ?_
  rintro e w1 ⟨rfl, rfl⟩
  go_wp2
  go_ret2
  exact ⟨rfl, rfl⟩
theorem tpick_yes {B : Nat} {s : TSpot} {b n g x : Nat} {r rt : List Nat} (w : World) (h : Tab w B s ⟨b, n, g, x :: r, rt⟩) :
    Calls Tryd.prog 8 #[.pointer (some ⟨s.P, 0, none⟩)] w fun e w' => e = .returned (.tuple #[.int .i64 (x : Int), .bool true]) ∧ TNow w w' B s ⟨b, n, g, r, rt⟩ := by
  have H := Lib.hid h
  have HF := Lib.hid h.hF
  obtain ⟨-, -, -, c3, -⟩ := h.cells
  clear h
  go_enter Tryd.func8, Tryd.ntmps8
  go_wp2_with fail
  refine (take_yes _ HF.out).mono ?_
  rintro e w1 ⟨rfl, hN⟩
  have HN := Lib.hid (TNow.turn H.out hN (fun i hi => fun hx => H.out.ap i hi (List.mem_cons_of_mem _ hx)))
  clear hN
  go_wp2
  go_ret2
  exact ⟨rfl, HN.out⟩

/-- Back: what was not picked. -/
theorem tback_no {B : Nat} {s : TSpot} {t : Tb} (i : Int) (x : Int) (w : World) (h : Tab w B s t) (hi : ∀ n : Nat, i = n → ¬ t.Out n) :
    Calls Tryd.prog 6 #[.pointer (some ⟨s.P, 0, none⟩), .int .i64 i, .int .u64 x] w fun e w' => e = .returned (.bool false) ∧ w = w' := by
  have H := Lib.hid h
  have HI := Lib.hid hi
  clear h hi
  go_enter Tryd.func6, Tryd.ntmps6
  go_wp2_with fail
  refine (tpicked_no _ _ H.out HI.out).mono ?_
  rintro e w1 ⟨rfl, rfl⟩
  go_wp2_with fail
  go_ret
  exact ⟨rfl, rfl⟩
/-- .. a word that is neither free nor retired. -/
theorem tback_other {B : Nat} {s : TSpot} {t : Tb} (i : Nat) (x : Nat) (w : World) (h : Tab w B s t) (hL : SLay w) (hi : t.Out i) (hx : x < 18446744073709551616) (h0 : Slt.st x ≠ 0) (h3 : Slt.st x ≠ 3) :
    Calls Tryd.prog 6 #[.pointer (some ⟨s.P, 0, none⟩), .int .i64 (i : Int), .int .u64 (x : Int)] w fun e w' => e = .returned (.bool false) ∧ Below w.heap.size w w' := by
  have H := Lib.hid h
  have HI := Lib.hid hi
  have HL := Lib.hid hL
  clear h hi hL
  go_enter Tryd.func6, Tryd.ntmps6
  go_wp2_with fail
  refine (tpicked_yes _ _ H.out HI.out).mono ?_
  rintro e w1 ⟨rfl, rfl⟩
  go_wp2_with fail
  refine (sstate_any x hx _ HL.out).mono ?_
  rintro e w1 ⟨rfl, hb⟩
  generalize Slt.st x = q at h0 h3 ⊢
  have q0 : ¬ (q : Int) = 0 := by omega
  have q3 : ¬ (q : Int) = 3 := by omega
  clear h0 h3
  go_wp2_with fail
  go_ret
  exact ⟨rfl, hb⟩
/-- .. a free one: it can be taken again. -/
theorem tback_free {B : Nat} {s : TSpot} {t : Tb} (i : Nat) (x : Nat) (w : World) (h : Tab w B s t) (hL : SLay w) (hi : t.Out i) (hx : x < 18446744073709551616) (h0 : Slt.st x = 0) :
    Calls Tryd.prog 6 #[.pointer (some ⟨s.P, 0, none⟩), .int .i64 (i : Int), .int .u64 (x : Int)] w fun e w' => e = .returned (.bool true) ∧ TNow w w' B s { t with ln := t.ln ++ [i] } := by
  have H := Lib.hid h
  have HI := Lib.hid hi
  have HL := Lib.hid hL
  clear h hi hL
  go_enter Tryd.func6, Tryd.ntmps6
  go_wp2_with fail
  refine (tpicked_yes _ _ H.out HI.out).mono ?_
  rintro e w1 ⟨rfl, rfl⟩
  go_wp2_with fail
  refine (sstate_any x hx _ HL.out).mono ?_
  rintro e w1 ⟨rfl, hb⟩
  rw [h0]
  have H1 := Lib.hid (H.out.on hb)
  have HB := Lib.hid hb
  obtain ⟨-, -, -, c3, -⟩ := H1.out.cells
  clear hb h0
  go_wp2_with fail
  refine (give_yes i _ H1.out.hF HI.out.1 HI.out.2.1).mono ?_
  rintro e w2 ⟨rfl, hN⟩
  have HN := Lib.hid ((TNow.turn H1.out hN (fun j hj hx => by
    rcases List.mem_append.1 hx with g | g
    · exact H1.out.ap j hj g
    · simp at g; subst g; exact HI.out.2.2 hj)).ahead HB.out)
  clear hN
  go_wp2_with fail
  go_ret
  exact ⟨rfl, HN.out⟩
/-- .. a retired one: it never can again. -/
theorem tback_gone {B : Nat} {s : TSpot} {t : Tb} (i : Nat) (x : Nat) (w : World) (h : Tab w B s t) (hL : SLay w) (hi : t.Out i) (hx : x < 18446744073709551616) (h0 : Slt.st x = 3) :
    Calls Tryd.prog 6 #[.pointer (some ⟨s.P, 0, none⟩), .int .i64 (i : Int), .int .u64 (x : Int)] w fun e w' => e = .returned (.bool true) ∧ TNow w w' B s { t with rt := t.rt ++ [i] } := by
  have H := Lib.hid h
  have HI := Lib.hid hi
  have HL := Lib.hid hL
  clear h hi hL
  go_enter Tryd.func6, Tryd.ntmps6
  go_wp2_with fail
  refine (tpicked_yes _ _ H.out HI.out).mono ?_
  rintro e w1 ⟨rfl, rfl⟩
  go_wp2_with fail
  refine (sstate_any x hx _ HL.out).mono ?_
  rintro e w1 ⟨rfl, hb⟩
  rw [h0]
  have h1 := H.out.on hb
  have HN := Lib.hid ((TNow.retire h1 HI.out).ahead hb)
  obtain ⟨-, -, -, -, c4, c5⟩ := h1.cells
  have c6 := c5 i HI.out.1
  have f6 : w1.frozen? ⟨s.R, i, none⟩ = false := frozen_of_row _ _ _ _ _ h1.hR
  have hi2 := HI.out.1
  obtain ⟨-, m1, -⟩ := h1.ma
  clear hb h0 h1 c5
  go_wp2_with fail
  go_ret
  exact ⟨rfl, HN.out⟩

/-! Which may be. -/

theorem tmay_yes (b n g : Nat) (h : 1 ≤ n ∧ n ≤ 16 ∧ b + n ≤ 16384 ∧ 1 ≤ g ∧ g ≤ 16777215) (w : World) :
    Calls Tryd.prog 16 #[.agg #[.int .i64 (b : Int), .int .i64 (n : Int), .int .i64 (g : Int)]] w fun e w' => e = .returned (.bool true) ∧ Below w.heap.size w w' := by
  obtain ⟨h1, h2, h3, h4, h5⟩ := h
  go_enter Tryd.func16, Tryd.ntmps16
  go_wp2_with fail
  go_ret
  exact ⟨retb (by simp; omega), below_box _ _⟩
set_option maxHeartbeats 800000 in
theorem tmay_no (b n g : Int) (hb : -9223372036854775808 ≤ b ∧ b ≤ 9223372036854775807) (h : ¬ (1 ≤ n ∧ n ≤ 16 ∧ 0 ≤ b ∧ b ≤ 16384 - n ∧ 1 ≤ g ∧ g ≤ 16777215)) (w : World) :
    Calls Tryd.prog 16 #[.agg #[.int .i64 b, .int .i64 n, .int .i64 g]] w fun e w' => e = .returned (.bool false) ∧ Below w.heap.size w w' := by
  by_cases h1 : n < 1
  · clear h
    go_enter Tryd.func16, Tryd.ntmps16
    go_wp2_with fail
    go_ret
    exact ⟨rfl, below_box _ _⟩
  · by_cases h2 : 16 < n
    · clear h
      go_enter Tryd.func16, Tryd.ntmps16
      go_wp2_with fail
      go_ret
      exact ⟨rfl, below_box _ _⟩
    · by_cases h3 : g < 1
      · clear h
        go_enter Tryd.func16, Tryd.ntmps16
        go_wp2_with fail
        go_ret
        exact ⟨rfl, below_box _ _⟩
      · by_cases h4 : 16777215 < g
        · clear h
          go_enter Tryd.func16, Tryd.ntmps16
          go_wp2_with fail
          go_ret
          exact ⟨rfl, below_box _ _⟩
        · by_cases h5 : b < 0
          · clear h
            go_enter Tryd.func16, Tryd.ntmps16
            go_wp2_with fail
            go_ret
            exact ⟨rfl, below_box _ _⟩
          · have h6 : ¬ b ≤ 16384 - n := by omega
            clear h
            go_enter Tryd.func16, Tryd.ntmps16
            go_wp2_with fail
            go_ret
            exact ⟨retb (by simp), below_box _ _⟩

end Go.Proofs.YtgnodijblleipaaDoor
