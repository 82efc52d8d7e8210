/- Plain numbers: a breaker that many go well of, one that opens by what goes ill, and is tried. Nothing here speaks of a program. -/
import Derived.Test.YtieggfnkhpfccaaBrM
namespace Go.Proofs.Ytieggfnkhpfccaa.Br

theorem note_shut {r : BRule} {s a : Br} {t : Int} {v : Bool} (h : s.at_ t = a) (ha : a.st = 0) : note r s t v = if (noted r a t v).bad r = true then opened r (noted r a t v) t else noted r a t v := by
  unfold note
  rw [h, if_neg (by rw [ha]; decide), if_neg (by rw [ha]; decide)]
theorem note_half {r : BRule} {s a : Br} {t : Int} {v : Bool} (h : s.at_ t = a) (ha : a.st = 2) : note r s t v = tried r (noted r a t v) t v := by
  unfold note
  rw [h, if_neg (by rw [ha]; decide), if_pos ha]
theorem note_open {r : BRule} {s a : Br} {t : Int} {v : Bool} (h : s.at_ t = a) (ha : a.st = 1) : note r s t v = a := by
  unfold note
  rw [h, if_pos ha]

/-! Calm: each k-th one goes ill. -/
def calmV (k j : Nat) : Bool := ((j % k : Nat) : Int) != (k : Int) - 1
def evs (k : Nat) : Nat → List (Int × Bool)
  | 0 => []
  | i + 1 => evs k i ++ [(0, calmV k i)]
def ills (k : Nat) : Nat → Nat
  | 0 => 0
  | i + 1 => ills k i + if calmV k i = true then 0 else 1
def calm (k i : Nat) : Br := ⟨0, 0, 0, 0, 0, evs k i⟩
theorem evs_length (k : Nat) : ∀ i, (evs k i).length = i
  | 0 => rfl
  | i + 1 => by simp [evs, evs_length k i]
theorem evs_above {b : Int} (hb : b < 0) (k : Nat) : ∀ i, Wn.above (evs k i) b false = (ills k i : Nat) ∧ Wn.above (evs k i) b true = (i : Int) - (ills k i : Nat)
  | 0 => by simp [evs, ills, Wn.above]
  | i + 1 => by
    obtain ⟨h1, h2⟩ := evs_above hb k i
    simp only [evs, ills, Wn.above_append, h1, h2]
    cases calmV k i <;> simp [Wn.above, hb] <;> omega
theorem ills_mod {k : Nat} (hk : 0 < k) : ∀ i, k * ills k i + i % k = i
  | 0 => by simp [ills]
  | i + 1 => by
    have h := ills_mod hk i
    have hm := Nat.mod_lt i hk
    have hd := Nat.div_add_mod (i + 1) k
    by_cases he : i % k = k - 1
    · have hv : calmV k i = false := by unfold calmV; simp only [bne_eq_false_iff_eq]; omega
      have e : i + 1 = k * (ills k i + 1) := by rw [Nat.mul_add]; omega
      simp only [ills, hv]
      rw [e, Nat.mul_mod_right]
      simp
    · have hv : calmV k i = true := by unfold calmV; simp only [bne_iff_ne, ne_eq]; omega
      have e : (i + 1) % k = i % k + 1 := by
        have e1 : (k * ills k i + (i % k + 1)) % k = i % k + 1 := by rw [Nat.mul_add_mod, Nat.mod_eq_of_lt (by omega)]
        rwa [show k * ills k i + (i % k + 1) = i + 1 by omega] at e1
      simp only [ills, hv, if_true, Nat.add_zero]
      rw [e]
      omega
theorem ills_few {k : Nat} (hk : 3 ≤ k) (i : Nat) : 3 * ills k i ≤ i := by
  have h := ills_mod (k := k) (by omega) i
  have : 3 * ills k i ≤ k * ills k i := Nat.mul_le_mul_right _ hk
  omega
theorem calm_at (k i : Nat) : (calm k i).at_ 0 = calm k i := at_other 0 (show (0 : Int) ≠ 1 by decide)
theorem calm_went (r : BRule) (k i : Nat) : (calm k i).went r = true := rfl
theorem calm_gone (r : BRule) (k i : Nat) : (calm k i).gone r = calm k i := by unfold gone; rw [if_neg (fun h => absurd h.1 (show ¬(0 : Int) = 2 by decide))]
theorem met_zero (r : BRule) {s : Br} (h : s.last = 0) : s.met r 0 = 0 := by
  unfold met
  rw [h, show Tk.clamp 0 = 0 by decide, Int.zero_ediv]
  rfl
theorem many_some (r : BRule) : 1 ≤ r.many := by unfold BRule.many; omega
theorem calm_note {r : BRule} (hp : r.pa = 50) {k : Nat} (hk : 3 ≤ k) (i : Nat) : (calm k i).note r 0 (calmV k i) = calm k (i + 1) := by
  have hn : (calm k i).noted r 0 (calmV k i) = calm k (i + 1) := by unfold noted; rw [met_zero r rfl]; rfl
  have hb : (calm k (i + 1)).bad r = false := by
    obtain ⟨h1, h2⟩ := evs_above (b := 0 - r.many) (by have := many_some r; omega) k (i + 1)
    have h3 := ills_few hk (i + 1)
    have l1 : lately r (calm k (i + 1)) false = (ills k (i + 1) : Nat) := h1
    have l2 : lately r (calm k (i + 1)) true = ((i + 1 : Nat) : Int) - (ills k (i + 1) : Nat) := h2
    simp only [bad, l1, l2, hp, decide_eq_false_iff_not]
    omega
  rw [note_shut (calm_at k i) rfl, hn, hb, if_neg (by decide)]

/-! What goes ill opens it. -/
def ill (r : BRule) (j : Nat) : Br := if (j : Int) < r.le then ⟨0, 0, 0, 0, 0, List.replicate j (0, false)⟩ else ⟨1, r.co, 0, 0, 0, []⟩
/-- A rule with small numbers. -/
structure Small (r : BRule) : Prop where
  le0 : 1 ≤ r.le
  le1 : r.le ≤ 4
  pa1 : r.pa ≤ 100
  co0 : 1 ≤ r.co
  co1 : r.co ≤ 15
  tr0 : 1 ≤ r.tr
  tr1 : r.tr ≤ 3
theorem above_ill {b : Int} (hb : b < 0) : ∀ j, Wn.above (List.replicate j ((0 : Int), false)) b false = (j : Nat) ∧ Wn.above (List.replicate j ((0 : Int), false)) b true = 0
  | 0 => by simp [Wn.above]
  | j + 1 => by
    obtain ⟨h1, h2⟩ := above_ill hb j
    simp only [List.replicate_succ, Wn.above, h1, h2]
    simp [hb]
    omega
theorem after_small {r : BRule} (h : Small r) {t : Int} (h0 : 0 ≤ t) (h1 : t ≤ 1000) : Tk.after t r.co = t + r.co := by
  have := h.co0; have := h.co1
  unfold Tk.after
  rw [Tk.clamp_in h0 (by omega), Tk.clamp_in (t := r.co) (by omega) (by omega), Tk.clamp_in (by omega) (by omega)]
theorem past_small {t u : Int} (t0 : 0 ≤ t) (t1 : t ≤ 1000) (u0 : 0 ≤ u) (u1 : u ≤ 2000) : Tk.past t u = decide (u ≤ t) := by
  unfold Tk.past
  rw [Tk.clamp_in t0 (by omega), Tk.clamp_in u0 (by omega)]
  have : (u ≠ 1099511627776) := by omega
  simp [this]
theorem ill_at {r : BRule} (h : Small r) (j : Nat) : (ill r j).at_ 0 = ill r j := by
  have := h.co0; have := h.co1
  unfold ill
  split
  · exact at_other 0 (show (0 : Int) ≠ 1 by decide)
  · refine at_no ?_
    rw [past_small (by omega) (by omega) (by dsimp only; omega) (by dsimp only; omega)]
    simp only [decide_eq_false_iff_not]
    omega
theorem ill_note {r : BRule} (h : Small r) (j : Nat) : (ill r j).note r 0 false = ill r (j + 1) := by
  by_cases hj : (j : Int) < r.le
  · have e : ill r j = ⟨0, 0, 0, 0, 0, List.replicate j (0, false)⟩ := by unfold ill; rw [if_pos hj]
    have hn : (ill r j).noted r 0 false = ⟨0, 0, 0, 0, 0, List.replicate (j + 1) (0, false)⟩ := by
      rw [e]
      unfold noted
      rw [met_zero r rfl, List.replicate_succ']
    rw [note_shut (ill_at h j) (by rw [e]), hn]
    obtain ⟨h1, h2⟩ := above_ill (b := 0 - r.many) (by have := many_some r; omega) (j + 1)
    have hb : bad r ⟨0, 0, 0, 0, 0, List.replicate (j + 1) (0, false)⟩ = decide (r.le ≤ (j : Int) + 1) := by
      simp only [bad, lately, h1, h2, decide_eq_decide]
      have hq : (0 + ((j + 1 : Nat) : Int)) * r.pa ≤ (0 + ((j + 1 : Nat) : Int)) * 100 := Int.mul_le_mul_of_nonneg_left h.pa1 (by omega)
      constructor
      · intro k; omega
      · intro k; exact ⟨by omega, by omega⟩
    rw [hb]
    unfold ill
    by_cases hl : r.le ≤ (j : Int) + 1
    · rw [if_pos (by simpa using hl), if_neg (by omega)]
      unfold opened
      rw [after_small h (by omega) (by omega), Int.zero_add]
    · rw [if_neg (by simpa using hl), if_pos (by omega)]
  · have e : ill r j = ⟨1, r.co, 0, 0, 0, []⟩ := by unfold ill; rw [if_neg hj]
    rw [note_open (ill_at h j) (by rw [e]), e]
    unfold ill
    rw [if_neg (by omega)]
theorem ill_length (r : BRule) (j : Nat) : (ill r j).ev.length ≤ j := by unfold ill; split <;> simp
theorem ill_opened {r : BRule} (h : Small r) : ill r 8 = ⟨1, r.co, 0, 0, 0, []⟩ := by unfold ill; rw [if_neg (by have := h.le1; omega)]

/-! Open for a while, then half open. -/
theorem open_half {u we wl last t : Int} (t0 : 0 ≤ t) (t1 : t ≤ 1000) (u0 : 0 ≤ u) (ut : u ≤ t) : at_ ⟨1, u, we, wl, last, []⟩ t = ⟨2, u, 0, 0, last, []⟩ :=
  at_yes rfl (by rw [past_small t0 t1 (by dsimp only; omega) (by dsimp only; omega)]; simpa using ut)
theorem open_stays {u we wl last t : Int} (t0 : 0 ≤ t) (t1 : t ≤ 1000) (u0 : 0 ≤ u) (u1 : u ≤ 2000) (ut : t < u) : at_ ⟨1, u, we, wl, last, []⟩ t = ⟨1, u, we, wl, last, []⟩ :=
  at_no (by rw [past_small t0 t1 (by dsimp only; omega) (by dsimp only; omega)]; simpa using ut)
theorem half_at {u we wl last : Int} {ev : List (Int × Bool)} (t : Int) : at_ ⟨2, u, we, wl, last, ev⟩ t = ⟨2, u, we, wl, last, ev⟩ := at_other t (by dsimp only; omega)
theorem half_went {r : BRule} {u we wl last : Int} {ev : List (Int × Bool)} : went r ⟨2, u, we, wl, last, ev⟩ = !(we == r.tr) := by simp [went]
theorem half_gone {r : BRule} {u we wl last : Int} {ev : List (Int × Bool)} (h : we ≠ r.tr) : gone r ⟨2, u, we, wl, last, ev⟩ = ⟨2, u, we + 1, wl, last, ev⟩ := by unfold gone; rw [if_pos ⟨rfl, h⟩]
theorem half_full {r : BRule} {u wl last : Int} {ev : List (Int × Bool)} : gone r ⟨2, u, r.tr, wl, last, ev⟩ = ⟨2, u, r.tr, wl, last, ev⟩ := by unfold gone; rw [if_neg (fun h => h.2 rfl)]
theorem half_ill {r : BRule} (h : Small r) {u we wl last t : Int} {ev : List (Int × Bool)} (t0 : 0 ≤ t) (t1 : t ≤ 1000) : ∃ last', note r ⟨2, u, we, wl, last, ev⟩ t false = ⟨1, t + r.co, we, wl, last', []⟩ := by
  refine ⟨met r ⟨2, u, we, wl, last, ev⟩ t, ?_⟩
  rw [note_half (half_at t) rfl]
  unfold tried
  rw [if_neg (by decide)]
  unfold opened
  rw [after_small h t0 t1]
  rfl
theorem half_well {r : BRule} {u i last t : Int} {ev : List (Int × Bool)} (hi : i < r.tr) : ∃ last' ev', ev'.length ≤ ev.length + 1 ∧ note r ⟨2, u, r.tr, i, last, ev⟩ t true = ⟨if i + 1 = r.tr then 0 else 2, u, r.tr, i + 1, last', ev'⟩ := by
  have e : note r ⟨2, u, r.tr, i, last, ev⟩ t true = tried r (noted r ⟨2, u, r.tr, i, last, ev⟩ t true) t true := note_half (half_at t) rfl
  have eb : back (noted r ⟨2, u, r.tr, i, last, ev⟩ t true) = ⟨2, u, r.tr, i + 1, met r ⟨2, u, r.tr, i, last, ev⟩ t, ev ++ [(met r ⟨2, u, r.tr, i, last, ev⟩ t, true)]⟩ := by
    unfold back noted
    dsimp only
    rw [if_pos hi]
  rw [e]
  unfold tried
  rw [if_pos rfl, eb]
  dsimp only
  by_cases h : i + 1 = r.tr
  · rw [if_pos h]
    refine ⟨met r ⟨2, u, r.tr, i, last, ev⟩ t, [], by simp, ?_⟩
    rw [if_pos h]
    rfl
  · rw [if_neg h]
    refine ⟨met r ⟨2, u, r.tr, i, last, ev⟩ t, ev ++ [(met r ⟨2, u, r.tr, i, last, ev⟩ t, true)], by simp, ?_⟩
    rw [if_neg h]
end Go.Proofs.Ytieggfnkhpfccaa.Br
