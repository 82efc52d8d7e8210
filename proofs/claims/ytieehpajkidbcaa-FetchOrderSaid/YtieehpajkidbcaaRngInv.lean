/- A ring into which many send and from which one fetches, as plain numbers: what stays true behind any step of any of them. -/
import Derived.Test.YtieehpajkidbcaaSndD
namespace Go.Proofs.Ytieehpajkidbcaa
open Go.RowKit

/-- What a step makes of a sending and of the cells. -/
def Snd.next (d : Snd) (cs : List Nat) : Snd × List Nat :=
  if d.k = 0 then ({ d with t := cs.getD d.b 0, k := 1 }, cs)
  else if d.k = 1 then (d.found (cs.getD d.at_ 0), cs)
  else if d.k = 2 then (if cs.getD d.b 0 = d.t then ({ d with k := 3 }, cs.set d.b (Rg.next d.t)) else (d.again, cs))
  else if d.k = 3 then ({ d with j := d.j + 1, k := if d.j = 2 then 4 else 3 }, cs.set (d.at_ + 1 + d.j) d.word)
  else if d.k = 4 then ({ d with k := 5 }, cs.set d.at_ (Rg.next d.t))
  else (d, cs)
theorem Snd.step_next (d : Snd) (a : Ar) : (d.step a).1 = (d.next a.cs).1 ∧ (d.step a).2.cs = (d.next a.cs).2 := by
  have hp : ∀ i x, ((a.touch i).put i x).cs = a.cs.set i x := fun i x => by simp [Ar.put, Ar.touch_cs]
  unfold Snd.step Snd.next
  split
  · exact ⟨rfl, Ar.touch_cs _ _⟩
  split
  · exact ⟨rfl, Ar.touch_cs _ _⟩
  split
  · split
    · exact ⟨rfl, hp _ _⟩
    · exact ⟨rfl, Ar.touch_cs _ _⟩
  split
  · exact ⟨rfl, hp _ _⟩
  split
  · exact ⟨rfl, hp _ _⟩
  · exact ⟨rfl, rfl⟩

namespace Rg
/-- Word m of three. -/
def pick (v : Nat × Nat × Nat) (m : Nat) : Nat := if m = 0 then v.1 else if m = 1 then v.2.1 else v.2.2

/-- What a sender that is not alone knows. -/
structure Knows (b n : Nat) (cs : List Nat) (H T : Nat) (own : Nat → Nat) (W : Nat → Nat × Nat × Nat) (i : Nat) (d : Snd) : Prop where
  hb : d.b = b
  hn : d.p = n
  hl : d.l = false
  j0 : d.k < 3 → d.j = 0
  k1 : d.k = 1 → d.t ≤ T
  k2 : d.k = 2 → d.t ≤ T ∧ (d.t = T → T < H + n)
  k3 : d.k = 3 ∨ d.k = 4 → H ≤ d.t ∧ d.t < T ∧ own d.t = i ∧ W d.t = (d.x, d.y, d.z) ∧ cs.getD (stand b n d.t) 0 = d.t ∧ ∀ m, m < d.j → cs.getD (stand b n d.t + 1 + m) 0 = pick (d.x, d.y, d.z) m
  j3 : d.k = 3 → d.j < 3
  j4 : d.k = 4 → d.j = 3

/-- A ring: from the turn H on frames are there or are being put, up to the turn T; each turn has its sender and its words. -/
structure Inv (b n : Nat) (cs : List Nat) (H T : Nat) (own : Nat → Nat) (W : Nat → Nat × Nat × Nat) (K : Nat) (S : Nat → Snd) : Prop where
  ok : Ok b n
  len : b + 1 + 4 * n ≤ cs.length
  tail : cs.getD b 0 = T
  HT : H ≤ T
  TH : T ≤ H + n
  free : ∀ τ, T ≤ τ → τ < H + n → cs.getD (stand b n τ) 0 = τ
  busy : ∀ τ, H ≤ τ → τ < T → (cs.getD (stand b n τ) 0 = τ ∧ own τ < K ∧ ((S (own τ)).k = 3 ∨ (S (own τ)).k = 4) ∧ (S (own τ)).t = τ) ∨
    (cs.getD (stand b n τ) 0 = τ + 1 ∧ ∀ m, m < 3 → cs.getD (stand b n τ + 1 + m) 0 = pick (W τ) m)
  snd : ∀ i, i < K → Knows b n cs H T own W i (S i)

theorem stand_ne {n τ σ H : Nat} (h0 : H ≤ τ) (h1 : τ < H + n) (h2 : H ≤ σ) (h3 : σ < H + n) (h : τ ≠ σ) : τ % n ≠ σ % n := by
  intro e
  have hn : 0 < n := by omega
  have d1 := Nat.div_add_mod τ n
  have d2 := Nat.div_add_mod σ n
  rw [e] at d1
  rcases Nat.lt_trichotomy (τ / n) (σ / n) with g | g | g
  · have : n * (τ / n) + n ≤ n * (σ / n) := by rw [← Nat.mul_succ]; exact Nat.mul_le_mul_left n g
    omega
  · rw [g] at d1; omega
  · have : n * (σ / n) + n ≤ n * (τ / n) := by rw [← Nat.mul_succ]; exact Nat.mul_le_mul_left n g
    omega
/-- Cells of two turns that are in the ring at once. -/
theorem cells_ne {b n τ σ H : Nat} (h0 : H ≤ τ) (h1 : τ < H + n) (h2 : H ≤ σ) (h3 : σ < H + n) (h : τ ≠ σ) (i j : Nat) (hi : i ≤ 3) (hj : j ≤ 3) : stand b n τ + i ≠ stand b n σ + j := by
  have := stand_ne h0 h1 h2 h3 h
  unfold stand; omega
theorem stand_gt (b n τ : Nat) : b < stand b n τ := by unfold stand; omega
theorem stand_wrap (b n H : Nat) : stand b n (H + n) = stand b n H := by unfold stand; rw [Nat.add_mod_right]

/-- A sender that is not putting anything does something else instead. -/
theorem Inv.other {b n H T K : Nat} {cs : List Nat} {own : Nat → Nat} {W : Nat → Nat × Nat × Nat} {S : Nat → Snd} (h : Inv b n cs H T own W K S) {i : Nat} (hk : (S i).k ≠ 3 ∧ (S i).k ≠ 4) {d : Snd} (hd : Knows b n cs H T own W i d) :
    Inv b n cs H T own W K (fun m => if m = i then d else S m) := by
  refine { h with busy := fun τ h1 h2 => ?_, snd := fun m hm => ?_ }
  · rcases h.busy τ h1 h2 with ⟨g1, g2, g3, g4⟩ | g
    · have hne : own τ ≠ i := fun e => by rw [e] at g3; exact g3.elim hk.1 hk.2
      exact .inl ⟨g1, g2, by rw [if_neg hne]; exact g3, by rw [if_neg hne]; exact g4⟩
    · exact .inr g
  · by_cases e : m = i
    · subst e; rw [if_pos rfl]; exact hd
    · rw [if_neg e]; exact h.snd m hm

/-- One that begins. -/
theorem Knows.new {b n H T i : Nat} {cs : List Nat} {own : Nat → Nat} {W : Nat → Nat × Nat × Nat} (x y z : Nat) : Knows b n cs H T own W i ⟨b, n, x, y, z, false, 0, 0, 0⟩ :=
  ⟨rfl, rfl, rfl, fun _ => rfl, fun e => (by cases e), fun e => (by cases e), fun e => (by rcases e with e | e <;> cases e), fun e => (by cases e), fun e => (by cases e)⟩

/-- Any step of a sender: nothing is lost, and a turn is given to one alone. -/
theorem Inv.step {b n H T K : Nat} {cs : List Nat} {own : Nat → Nat} {W : Nat → Nat × Nat × Nat} {S : Nat → Snd} (h : Inv b n cs H T own W K S) (hT : T + 1 < 18446744073709551616) {i : Nat} (hi : i < K) :
    ∃ T' own' W', Inv b n ((S i).next cs).2 H T' own' W' K (fun m => if m = i then ((S i).next cs).1 else S m) ∧ ((S i).next cs).2.length = cs.length ∧
      ((T' = T ∧ own' = own ∧ W' = W ∧ ¬ ((S i).k = 2 ∧ T = (S i).t)) ∨ (T' = T + 1 ∧ (S i).k = 2 ∧ ((S i).next cs).1.k = 3 ∧ own' = (fun τ => if τ = T then i else own τ) ∧ W' = (fun τ => if τ = T then ((S i).x, (S i).y, (S i).z) else W τ))) := by
  have hs := h.snd i hi
  obtain ⟨hp2, hp64, _⟩ := h.ok.pos
  rcases hd : S i with ⟨b', p', x, y, z, l, t, k, j⟩
  rw [hd] at hs
  obtain ⟨hb, hn, hl, j0, k1, k2, k3, j3, j4⟩ := hs
  simp only at hb hn hl j0 k1 k2 k3 j3 j4
  subst hb hn hl
  have hnk : ∀ {c : Nat}, k = c → c ≠ 3 → c ≠ 4 → (S i).k ≠ 3 ∧ (S i).k ≠ 4 := fun e h3 h4 => by rw [hd]; exact ⟨by show k ≠ 3; omega, by show k ≠ 4; omega⟩
  by_cases e0 : k = 0
  · have hj := j0 (by omega)
    subst e0
    refine ⟨T, own, W, h.other (hnk rfl (by decide) (by decide)) ?_, rfl, .inl ⟨rfl, rfl, rfl, fun e => by cases e.1⟩⟩
    exact ⟨rfl, rfl, rfl, fun _ => hj, fun _ => by show cs.getD b' 0 ≤ T; rw [h.tail]; exact Nat.le_refl _, fun e => (by cases e), fun e => (by rcases e with e | e <;> cases e), fun e => (by cases e), fun e => (by cases e)⟩
  by_cases e1 : k = 1
  · have hj := j0 (by omega)
    have ht := k1 e1
    subst e1
    refine ⟨T, own, W, h.other (hnk rfl (by decide) (by decide)) ?_, rfl, .inl ⟨rfl, rfl, rfl, fun e => by cases e.1⟩⟩
    show Knows b' p' cs H T own W i (Snd.found ⟨b', p', x, y, z, false, t, 1, j⟩ (cs.getD (stand b' p' t) 0))
    unfold Snd.found
    split
    · rename_i hv
      simp only at hv
      rw [if_neg (by simp)]
      refine ⟨rfl, rfl, rfl, fun _ => hj, fun e => (by cases e), fun _ => ⟨ht, fun e => ?_⟩, fun e => (by rcases e with e | e <;> cases e), fun e => (by cases e), fun e => (by cases e)⟩
      simp only at e
      subst e
      by_cases hlt : t < H + p'
      · exact hlt
      · have hTH := h.TH
        have e2 : t = H + p' := by omega
        rw [e2, stand_wrap] at hv
        rcases h.busy H (Nat.le_refl _) (by omega) with ⟨g, _⟩ | ⟨g, _⟩ <;> omega
    · split
      · exact ⟨rfl, rfl, rfl, fun e => absurd e (by show ¬ 6 < 3; decide), fun e => (by cases e), fun e => (by cases e), fun e => (by rcases e with e | e <;> cases e), fun e => (by cases e), fun e => (by cases e)⟩
      · exact ⟨rfl, rfl, rfl, fun _ => rfl, fun e => (by cases e), fun e => (by cases e), fun e => (by rcases e with e | e <;> cases e), fun e => (by cases e), fun e => (by cases e)⟩
  by_cases e2 : k = 2
  · have hj := j0 (by omega)
    obtain ⟨ht, htT⟩ := k2 e2
    subst e2
    have en : Snd.next ⟨b', p', x, y, z, false, t, 2, j⟩ cs = if cs.getD b' 0 = t then (⟨b', p', x, y, z, false, t, 3, j⟩, cs.set b' (Rg.next t)) else (⟨b', p', x, y, z, false, 0, 0, 0⟩, cs) := rfl
    rw [en, h.tail]
    by_cases e3 : T = t
    · rw [if_pos e3]
      subst e3
      have hTH := htT rfl
      have hnx : Rg.next T = T + 1 := Nat.mod_eq_of_lt hT
      have hlen := h.len
      have hset : ∀ c, c ≠ b' → (cs.set b' (Rg.next T)).getD c 0 = cs.getD c 0 := fun c hc => getD_set_other _ _ _ _ (Ne.symm hc)
      have hst : ∀ τ, (cs.set b' (Rg.next T)).getD (stand b' p' τ) 0 = cs.getD (stand b' p' τ) 0 := fun τ => hset _ (by have := stand_gt b' p' τ; omega)
      have hda : ∀ τ m, (cs.set b' (Rg.next T)).getD (stand b' p' τ + 1 + m) 0 = cs.getD (stand b' p' τ + 1 + m) 0 := fun τ m => hset _ (by have := stand_gt b' p' τ; omega)
      have hfr := h.free T (Nat.le_refl _) hTH
      refine ⟨T + 1, _, _, ?_, by simp, .inr ⟨rfl, rfl, rfl, rfl, rfl⟩⟩
      refine ⟨h.ok, by simpa using hlen, by rw [getD_set_same _ _ _ (by omega), hnx], by have := h.HT; omega, by omega, fun τ g1 g2 => by rw [hst]; exact h.free τ (by omega) g2, fun τ g1 g2 => ?_, fun m hm => ?_⟩
      · by_cases eT : τ = T
        · subst eT
          refine .inl ⟨by rw [hst]; exact hfr, ?_, ?_, ?_⟩
          · rw [if_pos rfl]; exact hi
          · rw [if_pos rfl, if_pos rfl]; exact .inl rfl
          · rw [if_pos rfl, if_pos rfl]
        · rw [if_neg eT]
          rcases h.busy τ g1 (by omega) with ⟨q1, q2, q3, q4⟩ | ⟨q1, q2⟩
          · have hne : own τ ≠ i := fun e => by rw [e, hd] at q3; rcases q3 with q3 | q3 <;> cases q3
            exact .inl ⟨by rw [hst]; exact q1, q2, by rw [if_neg hne]; exact q3, by rw [if_neg hne]; exact q4⟩
          · exact .inr ⟨by rw [hst]; exact q1, fun m hm => by rw [hda, q2 m hm, if_neg eT]⟩
      · by_cases em : m = i
        · subst em
          rw [if_pos rfl]
          exact ⟨rfl, rfl, rfl, fun e => absurd e (by show ¬ 3 < 3; decide), fun e => (by cases e), fun e => (by cases e),
            fun _ => ⟨h.HT, Nat.lt_succ_self _, by rw [if_pos rfl], by rw [if_pos rfl], by rw [hst]; exact hfr, fun q hq => absurd hq (by show ¬ q < j; omega)⟩, fun _ => (by show j < 3; omega), fun e => (by cases e)⟩
        · rw [if_neg em]
          have hk := h.snd m hm
          refine { hk with k1 := fun e => by have := hk.k1 e; omega, k2 := fun e => ?_, k3 := fun e => ?_ }
          · have := hk.k2 e
            exact ⟨by omega, fun e2 => by omega⟩
          · obtain ⟨q1, q2, q3, q4, q5, q6⟩ := hk.k3 e
            have hne : (S m).t ≠ T := by omega
            exact ⟨q1, by omega, by rw [if_neg hne]; exact q3, by rw [if_neg hne]; exact q4, by rw [hst]; exact q5, fun u hu => by rw [hda]; exact q6 u hu⟩
    · rw [if_neg e3]
      exact ⟨T, own, W, h.other (hnk rfl (by decide) (by decide)) (Knows.new x y z), rfl, .inl ⟨rfl, rfl, rfl, fun e => e3 e.2⟩⟩
  by_cases e3 : k = 3
  · obtain ⟨q1, q2, q3, q4, q5, q6⟩ := k3 (.inl e3)
    have hj := j3 e3
    subst e3
    have hlen := h.len
    have hTH := h.TH
    have hsl := stand_lt h.ok t
    have en : Snd.next ⟨b', p', x, y, z, false, t, 3, j⟩ cs = (⟨b', p', x, y, z, false, t, if j = 2 then 4 else 3, j + 1⟩, cs.set (stand b' p' t + 1 + j) (pick (x, y, z) j)) := rfl
    rw [en]
    have hset : ∀ c, c ≠ stand b' p' t + 1 + j → (cs.set (stand b' p' t + 1 + j) (pick (x, y, z) j)).getD c 0 = cs.getD c 0 := fun c hc => getD_set_other _ _ _ _ (Ne.symm hc)
    have hst : ∀ τ, (cs.set (stand b' p' t + 1 + j) (pick (x, y, z) j)).getD (stand b' p' τ) 0 = cs.getD (stand b' p' τ) 0 := fun τ => hset _ (by unfold stand; omega)
    have hda : ∀ τ m, H ≤ τ → τ < H + p' → τ ≠ t → m < 3 → (cs.set (stand b' p' t + 1 + j) (pick (x, y, z) j)).getD (stand b' p' τ + 1 + m) 0 = cs.getD (stand b' p' τ + 1 + m) 0 := fun τ m g1 g2 g3 g4 =>
      hset _ (by have := cells_ne (b := b') g1 g2 q1 (show t < H + p' by omega) g3 (1 + m) (1 + j) (by omega) (by omega); omega)
    refine ⟨T, own, W, ?_, by simp, .inl ⟨rfl, rfl, rfl, fun e => by cases e.1⟩⟩
    refine ⟨h.ok, by simpa using hlen, by rw [hset _ (by have := stand_gt b' p' t; omega)]; exact h.tail, h.HT, h.TH, fun τ g1 g2 => by rw [hst]; exact h.free τ g1 g2, fun τ g1 g2 => ?_, fun m hm => ?_⟩
    · rcases h.busy τ g1 g2 with ⟨a1, a2, a3, a4⟩ | ⟨a1, a2⟩
      · refine .inl ⟨by rw [hst]; exact a1, a2, ?_, ?_⟩
        · by_cases e : own τ = i
          · rw [if_pos e]; show (if j = 2 then 4 else 3) = 3 ∨ (if j = 2 then 4 else 3) = 4; split <;> simp
          · rw [if_neg e]; exact a3
        · by_cases e : own τ = i
          · rw [if_pos e]; rw [e, hd] at a4; exact a4
          · rw [if_neg e]; exact a4
      · have hne : τ ≠ t := fun e => by subst e; omega
        exact .inr ⟨by rw [hst]; exact a1, fun m hm => by rw [hda τ m g1 (by omega) hne hm]; exact a2 m hm⟩
    · by_cases em : m = i
      · subst em
        rw [if_pos rfl]
        refine ⟨rfl, rfl, rfl, fun e => ?_, fun e => ?_, fun e => ?_, fun _ => ⟨q1, q2, q3, q4, by rw [hst]; exact q5, fun u hu => ?_⟩, fun e => ?_, fun e => ?_⟩
        · simp only at e; split at e <;> omega
        · simp only at e; split at e <;> omega
        · simp only at e; split at e <;> omega
        · simp only at hu
          by_cases eu : u = j
          · subst eu; exact getD_set_same _ _ _ (by omega)
          · show (cs.set (stand b' p' t + 1 + j) (pick (x, y, z) j)).getD (stand b' p' t + 1 + u) 0 = _
            rw [hset _ (by omega)]; exact q6 u (by omega)
        · simp only at e ⊢; split at e <;> omega
        · simp only at e ⊢; split at e <;> omega
      · rw [if_neg em]
        have hk := h.snd m hm
        refine { hk with k3 := fun e => ?_ }
        obtain ⟨a1, a2, a3, a4, a5, a6⟩ := hk.k3 e
        have hne : (S m).t ≠ t := fun e2 => em (by rw [e2] at a3; exact a3.symm.trans q3)
        refine ⟨a1, a2, a3, a4, by rw [hst]; exact a5, fun u hu => ?_⟩
        have hj3 : (S m).j ≤ 3 := by rcases e with e | e; exact Nat.le_of_lt (hk.j3 e); exact Nat.le_of_eq (hk.j4 e)
        rw [hda _ u a1 (by omega) hne (by omega)]; exact a6 u hu
  by_cases e4 : k = 4
  · obtain ⟨q1, q2, q3, q4, q5, q6⟩ := k3 (.inr e4)
    have hj := j4 e4
    subst e4
    subst hj
    have hlen := h.len
    have hTH := h.TH
    have hsl := stand_lt h.ok t
    have hnx : Rg.next t = t + 1 := Nat.mod_eq_of_lt (by omega)
    have en : Snd.next ⟨b', p', x, y, z, false, t, 4, 3⟩ cs = (⟨b', p', x, y, z, false, t, 5, 3⟩, cs.set (stand b' p' t) (t + 1)) := by rw [← hnx]; rfl
    rw [en]
    have hset : ∀ c, c ≠ stand b' p' t → (cs.set (stand b' p' t) (t + 1)).getD c 0 = cs.getD c 0 := fun c hc => getD_set_other _ _ _ _ (Ne.symm hc)
    have hst : ∀ τ, H ≤ τ → τ < H + p' → τ ≠ t → (cs.set (stand b' p' t) (t + 1)).getD (stand b' p' τ) 0 = cs.getD (stand b' p' τ) 0 := fun τ g1 g2 g3 =>
      hset _ (by have := cells_ne (b := b') g1 g2 q1 (show t < H + p' by omega) g3 0 0 (by omega) (by omega); omega)
    have hda : ∀ τ m, m < 3 → (cs.set (stand b' p' t) (t + 1)).getD (stand b' p' τ + 1 + m) 0 = cs.getD (stand b' p' τ + 1 + m) 0 := fun τ m g4 => hset _ (by unfold stand; omega)
    refine ⟨T, own, W, ?_, by simp, .inl ⟨rfl, rfl, rfl, fun e => by cases e.1⟩⟩
    refine ⟨h.ok, by simpa using hlen, by rw [hset _ (by have := stand_gt b' p' t; omega)]; exact h.tail, h.HT, h.TH, fun τ g1 g2 => by rw [hst τ (by have := h.HT; omega) g2 (by omega)]; exact h.free τ g1 g2, fun τ g1 g2 => ?_, fun m hm => ?_⟩
    · by_cases et : τ = t
      · subst et
        exact .inr ⟨getD_set_same _ _ _ (by omega), fun m hm => by rw [hda τ m hm, q6 m hm, q4]⟩
      · rcases h.busy τ g1 g2 with ⟨a1, a2, a3, a4⟩ | ⟨a1, a2⟩
        · have hne : own τ ≠ i := fun e => by rw [e, hd] at a4; exact et a4.symm
          exact .inl ⟨by rw [hst τ g1 (by omega) et]; exact a1, a2, by rw [if_neg hne]; exact a3, by rw [if_neg hne]; exact a4⟩
        · exact .inr ⟨by rw [hst τ g1 (by omega) et]; exact a1, fun m hm => by rw [hda τ m hm]; exact a2 m hm⟩
    · by_cases em : m = i
      · subst em
        rw [if_pos rfl]
        exact ⟨rfl, rfl, rfl, fun e => absurd e (by show ¬ 5 < 3; decide), fun e => (by cases e), fun e => (by cases e), fun e => (by rcases e with e | e <;> cases e), fun e => (by cases e), fun e => (by cases e)⟩
      · rw [if_neg em]
        have hk := h.snd m hm
        refine { hk with k3 := fun e => ?_ }
        obtain ⟨a1, a2, a3, a4, a5, a6⟩ := hk.k3 e
        have hne : (S m).t ≠ t := fun e2 => em (by rw [e2] at a3; exact a3.symm.trans q3)
        have hj3 : (S m).j ≤ 3 := by rcases e with e | e; exact Nat.le_of_lt (hk.j3 e); exact Nat.le_of_eq (hk.j4 e)
        exact ⟨a1, a2, a3, a4, by rw [hst _ a1 (by omega) hne]; exact a5, fun u hu => by rw [hda _ u (by omega)]; exact a6 u hu⟩
  have en : Snd.next ⟨b', p', x, y, z, false, t, k, j⟩ cs = (⟨b', p', x, y, z, false, t, k, j⟩, cs) := by unfold Snd.next; simp only [e0, e1, e2, e3, e4, if_false]
  rw [en]
  have hself : (fun m => if m = i then (⟨b', p', x, y, z, false, t, k, j⟩ : Snd) else S m) = S := by
    funext m
    by_cases e : m = i
    · subst e; rw [if_pos rfl, hd]
    · rw [if_neg e]
  exact ⟨T, own, W, by rw [hself]; exact h, rfl, .inl ⟨rfl, rfl, rfl, fun e => e2 e.1⟩⟩

/-- What stands full at the first turn. -/
theorem Inv.head_full {b n H T K : Nat} {cs : List Nat} {own : Nat → Nat} {W : Nat → Nat × Nat × Nat} {S : Nat → Snd} (h : Inv b n cs H T own W K S) (hv : cs.getD (stand b n H) 0 = H + 1) :
    H < T ∧ ∀ m, m < 3 → cs.getD (stand b n H + 1 + m) 0 = pick (W H) m := by
  obtain ⟨hp2, _⟩ := h.ok.pos
  by_cases hlt : H < T
  · rcases h.busy H (Nat.le_refl _) hlt with ⟨g, _⟩ | ⟨_, g⟩
    · omega
    · exact ⟨hlt, g⟩
  · have := h.free H (by omega) (by omega)
    omega

/-- The first turn's place is given back. -/
theorem Inv.back {b n H T K : Nat} {cs : List Nat} {own : Nat → Nat} {W : Nat → Nat × Nat × Nat} {S : Nat → Snd} (h : Inv b n cs H T own W K S) (hv : cs.getD (stand b n H) 0 = H + 1) :
    Inv b n (cs.set (stand b n H) (H + n)) (H + 1) T own W K S := by
  obtain ⟨hp2, _⟩ := h.ok.pos
  obtain ⟨hlt, _⟩ := h.head_full hv
  have hlen := h.len
  have hTH := h.TH
  have hsl := stand_lt h.ok H
  have hset : ∀ c, c ≠ stand b n H → (cs.set (stand b n H) (H + n)).getD c 0 = cs.getD c 0 := fun c hc => getD_set_other _ _ _ _ (Ne.symm hc)
  have hst : ∀ τ, H < τ → τ < H + n → (cs.set (stand b n H) (H + n)).getD (stand b n τ) 0 = cs.getD (stand b n τ) 0 := fun τ g1 g2 =>
    hset _ (by have := cells_ne (b := b) (show H ≤ τ by omega) g2 (Nat.le_refl _) (show H < H + n by omega) (by omega) 0 0 (by omega) (by omega); omega)
  have hda : ∀ τ m, m < 3 → (cs.set (stand b n H) (H + n)).getD (stand b n τ + 1 + m) 0 = cs.getD (stand b n τ + 1 + m) 0 := fun τ m g4 => hset _ (by unfold stand; omega)
  refine ⟨h.ok, by simpa using hlen, by rw [hset _ (by have := stand_gt b n H; omega)]; exact h.tail, by omega, by omega, fun τ g1 g2 => ?_, fun τ g1 g2 => ?_, fun m hm => ?_⟩
  · by_cases e : τ = H + n
    · subst e; rw [stand_wrap]; exact getD_set_same _ _ _ (by omega)
    · rw [hst τ (by omega) (by omega)]; exact h.free τ g1 (by omega)
  · rcases h.busy τ (by omega) g2 with ⟨a1, a2⟩ | ⟨a1, a2⟩
    · exact .inl ⟨by rw [hst τ (by omega) (by omega)]; exact a1, a2⟩
    · exact .inr ⟨by rw [hst τ (by omega) (by omega)]; exact a1, fun m hm => by rw [hda τ m hm]; exact a2 m hm⟩
  · have hk := h.snd m hm
    refine { hk with k2 := fun e => ?_, k3 := fun e => ?_ }
    · have := hk.k2 e
      exact ⟨this.1, fun e2 => by have := this.2 e2; omega⟩
    · obtain ⟨a1, a2, a3, a4, a5, a6⟩ := hk.k3 e
      have hne : (S m).t ≠ H := fun e2 => by rw [e2] at a5; omega
      have hj3 : (S m).j ≤ 3 := by rcases e with e | e; exact Nat.le_of_lt (hk.j3 e); exact Nat.le_of_eq (hk.j4 e)
      exact ⟨by omega, a2, a3, a4, by rw [hst _ (by omega) (by omega)]; exact a5, fun u hu => by rw [hda _ u (by omega)]; exact a6 u hu⟩

/-- A ring that is begun. -/
theorem Inv.start {b n K : Nat} (h : Ok b n) (cs : List Nat) (hl : b + 1 + 4 * n ≤ cs.length) (own : Nat → Nat) (W : Nat → Nat × Nat × Nat) (S : Nat → Snd) (hS : ∀ i, i < K → ∃ x y z, S i = ⟨b, n, x, y, z, false, 0, 0, 0⟩) : Inv b n (laid b cs n) 0 0 own W K S := by
  refine ⟨h, by rw [laid_length]; exact hl, laid_tail _ _ _ hl, Nat.le_refl _, Nat.zero_le _, fun τ _ g => ?_, fun τ _ g => absurd g (Nat.not_lt_zero _), fun i hi => ?_⟩
  · rw [stand_small (by omega)]; exact laid_at _ _ _ _ (by omega) hl
  · obtain ⟨x, y, z, e⟩ := hS i hi
    rw [e]; exact Knows.new x y z

end Rg
end Go.Proofs.Ytieehpajkidbcaa
