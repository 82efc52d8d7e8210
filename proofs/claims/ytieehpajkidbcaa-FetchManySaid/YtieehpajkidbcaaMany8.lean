/- Many who send numbered frames, and one who fetches them, as plain numbers: each one's frames come in its order, none is left out. -/
import Derived.Test.YtieehpajkidbcaaRngInv
namespace Go.Proofs.Ytieehpajkidbcaa
open Go.RowKit
namespace Rg

/-- How many of the m turns from H on are the sender's. -/
def cnt (own : Nat → Nat) (i H : Nat) : Nat → Nat
  | 0 => 0
  | m + 1 => cnt own i H m + (if own (H + m) = i then 1 else 0)
theorem cnt_congr {own own' : Nat → Nat} {i H : Nat} : ∀ {m : Nat}, (∀ d, d < m → own (H + d) = own' (H + d)) → cnt own i H m = cnt own' i H m
  | 0, _ => rfl
  | m + 1, h => by
    show cnt own i H m + _ = cnt own' i H m + _
    rw [cnt_congr (fun d hd => h d (by omega)), h m (by omega)]
theorem cnt_head (own : Nat → Nat) (i H : Nat) : ∀ m : Nat, cnt own i H (m + 1) = (if own H = i then 1 else 0) + cnt own i (H + 1) m
  | 0 => by simp [cnt]
  | m + 1 => by
    show cnt own i H (m + 1) + _ = _ + (cnt own i (H + 1) m + _)
    rw [cnt_head own i H m, show H + (m + 1) = H + 1 + m by omega, Nat.add_assoc]

def puts (d : Snd) : Nat := if d.k = 3 ∨ d.k = 4 then 1 else 0
def frameOf (i m : Nat) : Nat × Nat × Nat := (i, m, i + 10 * m)

/-- Each sender's frames are numbered in its order. -/
structure Many (H T : Nat) (own : Nat → Nat) (W : Nat → Nat × Nat × Nat) (K : Nat) (S : Nat → Snd) (seen sent : Nat → Nat) : Prop where
  live : ∀ i, i < K → (S i).k < 5
  wd : ∀ i, i < K → ((S i).x, (S i).y, (S i).z) = frameOf i (sent i)
  num : ∀ τ, H ≤ τ → τ < T → own τ < K ∧ W τ = frameOf (own τ) (seen (own τ) + cnt own (own τ) H (τ - H))
  all : ∀ i, i < K → seen i + cnt own i H (T - H) = sent i + puts (S i)

/-- A sender begins anew. -/
def anew (b n i m : Nat) : Snd := ⟨b, n, i, m, i + 10 * m, false, 0, 0, 0⟩

theorem next_words (d : Snd) (cs : List Nat) : ((d.next cs).1.x, (d.next cs).1.y, (d.next cs).1.z) = (d.x, d.y, d.z) := by
  unfold Snd.next Snd.found Snd.again
  split
  · rfl
  split
  · split
    · split <;> rfl
    · split <;> rfl
  split
  · split <;> rfl
  split
  · rfl
  split <;> rfl

/-- What comes next behind each step. -/
theorem next_ways {d : Snd} {cs : List Nat} (hl : d.l = false) (hk : d.k < 5) :
    (d.k = 2 ∧ cs.getD d.b 0 = d.t ∧ (d.next cs).1.k = 3) ∨ (¬ (d.k = 2 ∧ cs.getD d.b 0 = d.t) ∧ ((d.k = 4 ∧ (d.next cs).1.k = 5) ∨ (d.k ≠ 4 ∧ (d.next cs).1.k ≠ 5 ∧ (d.next cs).1.k < 7 ∧ puts (d.next cs).1 = puts d))) := by
  obtain ⟨b, p, x, y, z, l, t, k, j⟩ := d
  simp only at hl hk
  subst hl
  obtain rfl | rfl | rfl | rfl | rfl : k = 0 ∨ k = 1 ∨ k = 2 ∨ k = 3 ∨ k = 4 := by omega
  · exact .inr ⟨fun e => (by cases e.1), .inr ⟨by show 0 ≠ 4; decide, by show 1 ≠ 5; decide, by show 1 < 7; decide, rfl⟩⟩
  · refine .inr ⟨fun e => (by cases e.1), .inr ⟨by show 1 ≠ 4; decide, ?_⟩⟩
    show (Snd.found ⟨b, p, x, y, z, false, t, 1, j⟩ (cs.getD (stand b p t) 0)).k ≠ 5 ∧ (Snd.found ⟨b, p, x, y, z, false, t, 1, j⟩ (cs.getD (stand b p t) 0)).k < 7 ∧ puts (Snd.found ⟨b, p, x, y, z, false, t, 1, j⟩ (cs.getD (stand b p t) 0)) = _
    unfold Snd.found
    split
    · rw [if_neg (by simp)]; exact ⟨by show 2 ≠ 5; decide, by show 2 < 7; decide, rfl⟩
    · split
      · exact ⟨by show 6 ≠ 5; decide, by show 6 < 7; decide, rfl⟩
      · exact ⟨by show 0 ≠ 5; decide, by show 0 < 7; decide, rfl⟩
  · have en : Snd.next ⟨b, p, x, y, z, false, t, 2, j⟩ cs = if cs.getD b 0 = t then (⟨b, p, x, y, z, false, t, 3, j⟩, cs.set b (Rg.next t)) else (⟨b, p, x, y, z, false, 0, 0, 0⟩, cs) := rfl
    rw [en]
    by_cases e : cs.getD b 0 = t
    · rw [if_pos e]; exact .inl ⟨rfl, e, rfl⟩
    · rw [if_neg e]; exact .inr ⟨fun e2 => e e2.2, .inr ⟨by show 2 ≠ 4; decide, by show 0 ≠ 5; decide, by show 0 < 7; decide, rfl⟩⟩
  · refine .inr ⟨fun e => (by cases e.1), .inr ⟨by show 3 ≠ 4; decide, ?_⟩⟩
    show (if j = 2 then 4 else 3) ≠ 5 ∧ (if j = 2 then 4 else 3) < 7 ∧ puts ⟨b, p, x, y, z, false, t, if j = 2 then 4 else 3, j + 1⟩ = _
    split <;> exact ⟨by decide, by decide, rfl⟩
  · exact .inr ⟨fun e => (by cases e.1), .inl ⟨rfl, rfl⟩⟩

/-- What a sender is behind its step: another one, where it was done. -/
def after (b n i : Nat) (sent : Nat → Nat) (d : Snd) : Snd := if d.k = 5 then anew b n i (sent i + 1) else if d.k = 6 then anew b n i (sent i) else d
def count (i : Nat) (sent : Nat → Nat) (d : Snd) : Nat → Nat := fun m => if m = i then (if d.k = 5 then sent i + 1 else sent i) else sent m

theorem Many.step {b n H T K : Nat} {cs : List Nat} {own : Nat → Nat} {W : Nat → Nat × Nat × Nat} {S : Nat → Snd} {seen sent : Nat → Nat} (h : Inv b n cs H T own W K S) (hm : Many H T own W K S seen sent) (hT : T + 1 < 18446744073709551616) {i : Nat} (hi : i < K) :
    ∃ T' own' W', Inv b n ((S i).next cs).2 H T' own' W' K (fun m => if m = i then after b n i sent ((S i).next cs).1 else S m) ∧ Many H T' own' W' K (fun m => if m = i then after b n i sent ((S i).next cs).1 else S m) seen (count i sent ((S i).next cs).1) ∧
      ((S i).next cs).2.length = cs.length ∧ T' ≤ T + 1 ∧ ∀ τ, τ < T → W' τ = W τ := by
  obtain ⟨T', own', W', hinv, hlen, hway⟩ := h.step hT hi
  have hlv := hm.live i hi
  have hkn := h.snd i hi
  have hwd := next_words (S i) cs
  have htl : cs.getD (S i).b 0 = T := by rw [hkn.hb]; exact h.tail
  -- the sender's place among the others, whatever it becomes
  have hput : ∀ d : Snd, Knows b n ((S i).next cs).2 H T' own' W' i d → ((S i).next cs).1.k ≠ 3 ∧ ((S i).next cs).1.k ≠ 4 → Inv b n ((S i).next cs).2 H T' own' W' K (fun m => if m = i then d else S m) := fun d hd hk => by
    have := hinv.other (i := i) (by rw [if_pos rfl]; exact hk) hd
    have e : (fun m => if m = i then d else (fun m => if m = i then ((S i).next cs).1 else S m) m) = (fun m => if m = i then d else S m) := by
      funext m; by_cases e : m = i <;> simp [e]
    rwa [e] at this
  have hA : Inv b n ((S i).next cs).2 H T' own' W' K (fun m => if m = i then after b n i sent ((S i).next cs).1 else S m) := by
    unfold after
    by_cases e5 : ((S i).next cs).1.k = 5
    · rw [if_pos e5]; exact hput _ (Knows.new _ _ _) (by omega)
    by_cases e6 : ((S i).next cs).1.k = 6
    · rw [if_neg e5, if_pos e6]; exact hput _ (Knows.new _ _ _) (by omega)
    · rw [if_neg e5, if_neg e6]; exact hinv
  have hT' : T' ≤ T + 1 := by rcases hway with ⟨e, _⟩ | ⟨e, _⟩ <;> omega
  have hWW : ∀ τ, τ < T → W' τ = W τ := fun τ hτ => by
    rcases hway with ⟨_, _, e, _⟩ | ⟨_, _, _, _, e⟩
    · rw [e]
    · rw [e]; exact if_neg (by omega)
  refine ⟨T', own', W', hA, ?_, hlen, hT', hWW⟩
  have hwdA : ((after b n i sent ((S i).next cs).1).x, (after b n i sent ((S i).next cs).1).y, (after b n i sent ((S i).next cs).1).z) = frameOf i (count i sent ((S i).next cs).1 i) := by
    unfold after count
    rw [if_pos rfl]
    by_cases e5 : ((S i).next cs).1.k = 5
    · rw [if_pos e5, if_pos e5]; rfl
    by_cases e6 : ((S i).next cs).1.k = 6
    · rw [if_neg e5, if_pos e6, if_neg e5]; rfl
    · rw [if_neg e5, if_neg e6, if_neg e5, hwd]; exact hm.wd i hi
  have hcnt : ∀ m, m ≠ i → count i sent ((S i).next cs).1 m = sent m := fun m e => by unfold count; rw [if_neg e]
  have hlvA : (after b n i sent ((S i).next cs).1).k < 5 := by
    unfold after
    by_cases e5 : ((S i).next cs).1.k = 5
    · rw [if_pos e5]; show 0 < 5; decide
    by_cases e6 : ((S i).next cs).1.k = 6
    · rw [if_neg e5, if_pos e6]; show 0 < 5; decide
    · rw [if_neg e5, if_neg e6]
      rcases next_ways (cs := cs) hkn.hl hlv with ⟨_, _, e⟩ | ⟨_, ⟨_, e⟩ | ⟨_, e1, e2, _⟩⟩ <;> omega
  have hlive : ∀ m, m < K → ((fun m => if m = i then after b n i sent ((S i).next cs).1 else S m) m).k < 5 := fun m hmK => by
    by_cases e : m = i
    · simp only [e, if_true]; exact hlvA
    · simp only [e, if_false]; exact hm.live m hmK
  have hwords : ∀ m, m < K → (((fun m => if m = i then after b n i sent ((S i).next cs).1 else S m) m).x, ((fun m => if m = i then after b n i sent ((S i).next cs).1 else S m) m).y, ((fun m => if m = i then after b n i sent ((S i).next cs).1 else S m) m).z) = frameOf m (count i sent ((S i).next cs).1 m) := fun m hmK => by
    by_cases e : m = i
    · subst e; simp only [if_true]; exact hwdA
    · simp only [e, if_false]; rw [hcnt m e]; exact hm.wd m hmK
  have hHT := h.HT
  clear hWW
  rcases hway with ⟨rfl, rfl, rfl, hno⟩ | ⟨rfl, hk2, hk3, rfl, rfl⟩
  · refine ⟨hlive, hwords, hm.num, fun m hmK => ?_⟩
    by_cases e : m = i
    · subst e
      simp only [if_true]
      rw [hm.all m hmK]
      rcases next_ways (cs := cs) hkn.hl hlv with ⟨g1, g2, _⟩ | ⟨_, ⟨g1, g2⟩ | ⟨g0, g1, g2, g3⟩⟩
      · exact absurd ⟨g1, by rw [← htl]; exact g2⟩ hno
      · have e1 : puts (S m) = 1 := by unfold puts; rw [if_pos (.inr g1)]
        have e2 : after b n m sent ((S m).next cs).1 = anew b n m (sent m + 1) := by unfold after; rw [if_pos g2]
        have e3 : count m sent ((S m).next cs).1 m = sent m + 1 := by unfold count; rw [if_pos rfl, if_pos g2]
        rw [e1, e2, e3]; rfl
      · have e3 : count m sent ((S m).next cs).1 m = sent m := by unfold count; rw [if_pos rfl, if_neg g1]
        rw [e3, ← g3]
        congr 1
        unfold after
        rw [if_neg g1]
        by_cases e6 : ((S m).next cs).1.k = 6
        · rw [if_pos e6]; unfold puts anew; rw [if_neg (by omega), if_neg (by simp)]
        · rw [if_neg e6]
    · simp only [e, if_false]; rw [hcnt m e]; exact hm.all m hmK
  · have hcg : ∀ m d, d ≤ T - H → cnt (fun τ => if τ = T then i else own τ) m H d = cnt own m H d := fun m d hd => cnt_congr (fun q hq => by rw [if_neg (by omega)])
    refine ⟨hlive, hwords, fun τ g1 g2 => ?_, fun m hmK => ?_⟩
    · by_cases e : τ = T
      · subst e
        simp only [if_true]
        rw [hcg i _ (Nat.le_refl _)]
        have e0 : puts (S i) = 0 := by unfold puts; rw [if_neg (by omega)]
        have ha := hm.all i hi
        rw [e0] at ha
        exact ⟨hi, by rw [hm.wd i hi, ha]; rfl⟩
      · simp only [e, if_false]
        rw [hcg _ _ (by omega)]
        exact hm.num τ g1 (by omega)
    · rw [show T + 1 - H = (T - H) + 1 by omega]
      show seen m + (cnt (fun τ => if τ = T then i else own τ) m H (T - H) + (if (if H + (T - H) = T then i else own (H + (T - H))) = m then 1 else 0)) = _
      rw [hcg m _ (Nat.le_refl _), show (if H + (T - H) = T then i else own (H + (T - H))) = i from if_pos (by omega)]
      have ha := hm.all m hmK
      by_cases e : m = i
      · subst e
        simp only [if_true]
        have e0 : puts (S m) = 0 := by unfold puts; rw [if_neg (by omega)]
        have e2 : after b n m sent ((S m).next cs).1 = ((S m).next cs).1 := by unfold after; rw [if_neg (by omega), if_neg (by omega)]
        have e1 : puts ((S m).next cs).1 = 1 := by unfold puts; rw [if_pos (.inl hk3)]
        have e3 : count m sent ((S m).next cs).1 m = sent m := by unfold count; rw [if_pos rfl, if_neg (by omega)]
        rw [e0] at ha
        rw [e2, e1, e3]; omega
      · simp only [e, if_false]
        rw [if_neg (fun e2 => e e2.symm), hcnt m e]
        exact ha

/-- The first frame is fetched: it is its sender's next one. -/
theorem Many.back {H T K : Nat} {own : Nat → Nat} {W : Nat → Nat × Nat × Nat} {S : Nat → Snd} {seen sent : Nat → Nat} (hm : Many H T own W K S seen sent) (hlt : H < T) :
    own H < K ∧ W H = frameOf (own H) (seen (own H)) ∧ Many (H + 1) T own W K S (fun m => if m = own H then seen m + 1 else seen m) sent := by
  have h0 := hm.num H (Nat.le_refl _) hlt
  rw [Nat.sub_self] at h0
  refine ⟨h0.1, h0.2, hm.live, hm.wd, fun τ g1 g2 => ?_, fun i hi => ?_⟩
  · obtain ⟨q1, q2⟩ := hm.num τ (by omega) g2
    refine ⟨q1, ?_⟩
    rw [show τ - H = (τ - (H + 1)) + 1 by omega, cnt_head] at q2
    rw [q2]
    by_cases e : own τ = own H
    · rw [if_pos e.symm, if_pos e, Nat.add_assoc]
    · rw [if_neg (fun e2 => e e2.symm), if_neg e, Nat.zero_add]
  · have ha := hm.all i hi
    rw [show T - H = (T - (H + 1)) + 1 by omega, cnt_head] at ha
    by_cases e : i = own H
    · subst e; rw [if_pos rfl] at ha; simp only [if_true]; omega
    · rw [if_neg (fun e2 => e e2.symm)] at ha; simp only [e, if_false]; omega

/-- Nobody's frame was fetched that was not sent, or is being sent. -/
theorem Many.most {H T K : Nat} {own : Nat → Nat} {W : Nat → Nat × Nat × Nat} {S : Nat → Snd} {seen sent : Nat → Nat} (hm : Many H T own W K S seen sent) {i : Nat} (hi : i < K) : seen i ≤ sent i + 1 := by
  have := hm.all i hi
  unfold puts at this
  split at this <;> omega

theorem Many.start {b n K : Nat} (own : Nat → Nat) (W : Nat → Nat × Nat × Nat) (S : Nat → Snd) (hS : ∀ i, i < K → S i = anew b n i 0) : Many 0 0 own W K S (fun _ => 0) (fun _ => 0) :=
  ⟨fun i hi => by rw [hS i hi]; show 0 < 5; decide, fun i hi => by rw [hS i hi]; rfl, fun τ _ g => absurd g (Nat.not_lt_zero _), fun i hi => by rw [hS i hi]; rfl⟩

end Rg
end Go.Proofs.Ytieehpajkidbcaa
