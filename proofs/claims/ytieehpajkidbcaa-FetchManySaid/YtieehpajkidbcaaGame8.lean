/- Many who send numbered frames and one who fetches them, round behind round, as plain numbers. -/
import Derived.Test.YtieehpajkidbcaaRead8
namespace Go.Proofs.Ytieehpajkidbcaa
open Go.RowKit
namespace Rg

/-- Behind i rounds: K senders, the turn H is fetched next. -/
def Game (K i : Nat) (cs : List Nat) (H : Nat) (S : Nat → Snd) (sent seen : Nat → Nat) (u : Ftc) : Prop :=
  ∃ T own W, Inv 0 2 cs H T own W K S ∧ Many H T own W K S seen sent ∧ Reads 0 2 cs H W u ∧ T ≤ i ∧ (∀ m, m < K → sent m ≤ i) ∧ ∀ m, m < K → ∀ a : Ar, a.cs = cs → (S m).Good a

theorem good_anew {m c : Nat} (hm : m < 3) (hc : c ≤ 400) {a : Ar} (hl : 9 ≤ a.cs.length) : (anew 0 2 m c).Good a :=
  ⟨by show Ok 0 2; unfold Ok; omega, by show 0 + 1 + 4 * 2 ≤ _; omega, by show m < 18446744073709551616; omega, by show c < 18446744073709551616; omega, by show m + 10 * c < 18446744073709551616; omega, by show 0 < 18446744073709551616; decide, fun _ => by show 0 < 3; decide⟩

theorem Game.start {K : Nat} (hK : K = 2 ∨ K = 3) (cs : List Nat) (hl : cs.length = 9) : Game K 0 (laid 0 cs 2) 0 (fun m => anew 0 2 m 0) (fun _ => 0) (fun _ => 0) ⟨0, 2, 0, 0, 0, 0, 0, 0⟩ :=
  ⟨0, fun _ => 0, fun _ => (0, 0, 0), Inv.start (by unfold Ok; omega) cs (by omega) _ _ _ (fun i _ => ⟨i, 0, i + 10 * 0, rfl⟩), Many.start (b := 0) (n := 2) _ _ _ (fun _ _ => rfl), Reads.new, Nat.le_refl _, fun _ _ => Nat.le_refl _, fun m hm a ha => good_anew (by omega) (by omega) (by rw [ha, laid_length, hl]; exact Nat.le_refl _)⟩

theorem Game.live {K i H : Nat} {cs : List Nat} {S : Nat → Snd} {sent seen : Nat → Nat} {u : Ftc} (h : Game K i cs H S sent seen u) {m : Nat} (hm : m < K) : (S m).k < 5 ∧ ∀ a : Ar, a.cs = cs → (S m).Good a := by
  obtain ⟨T, own, W, hi, hn, hr, hT, hs, hg⟩ := h
  exact ⟨hn.live m hm, hg m hm⟩
theorem Game.few {K i H : Nat} {cs : List Nat} {S : Nat → Snd} {sent seen : Nat → Nat} {u : Ftc} (h : Game K i cs H S sent seen u) {m : Nat} (hm : m < K) : sent m ≤ i ∧ seen m ≤ sent m + 1 := by
  obtain ⟨T, own, W, hi, hn, hr, hT, hs, hg⟩ := h
  exact ⟨hs m hm, hn.most hm⟩
theorem Game.head {K i H : Nat} {cs : List Nat} {S : Nat → Snd} {sent seen : Nat → Nat} {u : Ftc} (h : Game K i cs H S sent seen u) : H ≤ i := by
  obtain ⟨T, own, W, hi, hn, hr, hT, hs, hg⟩ := h
  exact Nat.le_trans hi.HT hT

/-- A sender's step. -/
theorem Game.send {K i H : Nat} {cs : List Nat} {S : Nat → Snd} {sent seen : Nat → Nat} {u : Ftc} (h : Game K i cs H S sent seen u) (hK : K = 2 ∨ K = 3) (hi : i < 400) {m : Nat} (hm : m < K) (hwb : ∀ j, j < cs.length → cs.getD j 0 < 18446744073709551616) :
    Game K (i + 1) ((S m).next cs).2 H (fun q => if q = m then after 0 2 m sent ((S m).next cs).1 else S q) (count m sent ((S m).next cs).1) seen u := by
  obtain ⟨T, own, W, hinv, hn, hr, hT, hs, hg⟩ := h
  obtain ⟨T', own', W', h1, h2, hlen, hT', hW⟩ := Many.step hinv hn (by omega) hm
  have hsent : ∀ q, q < K → count m sent ((S m).next cs).1 q ≤ i + 1 := fun q hq => by
    have a1 := hs q hq
    unfold count
    by_cases e : q = m
    · subst e; rw [if_pos rfl]; split <;> omega
    · rw [if_neg e]; omega
  refine ⟨T', own', W', h1, h2, hr.other hinv hm hW, by omega, hsent, fun q hq a ha => ?_⟩
  have hl := hinv.len
  have hl2 : 9 ≤ a.cs.length := by rw [ha, hlen]; omega
  by_cases e : q = m
  · subst e
    simp only [if_true]
    have hc := hsent q hq
    unfold after
    by_cases e5 : ((S q).next cs).1.k = 5
    · rw [if_pos e5]; unfold count at hc; rw [if_pos rfl, if_pos e5] at hc; exact good_anew (by omega) (by omega) hl2
    by_cases e6 : ((S q).next cs).1.k = 6
    · rw [if_neg e5, if_pos e6]; exact good_anew (by omega) (by have := hs q hq; omega) hl2
    · rw [if_neg e5, if_neg e6]
      let a0 : Ar := { a with cs := cs }
      have g0 := hg q hq a0 rfl
      obtain ⟨g1, _⟩ := g0.step hwb
      have e1 := Snd.step_next (S q) a0
      rw [e1.1] at g1
      refine g1.same ?_
      rw [e1.2]; exact ha
  · simp only [e, if_false]
    have g0 := hg q hq { a with cs := cs } rfl
    exact { g0 with cells := by rw [ha, hlen]; exact g0.cells }

/-- A step of his who fetches. -/
theorem Game.fetch {K i H : Nat} {cs : List Nat} {S : Nat → Snd} {sent seen : Nat → Nat} {u : Ftc} (h : Game K i cs H S sent seen u) (hi : i < 400) :
    u.k < 3 ∧ (∀ a : Ar, a.cs = cs → u.Good a) ∧
    (((u.next cs).1.k < 3 ∧ Game K (i + 1) (u.next cs).2 H S sent seen (u.next cs).1) ∨
     ((u.next cs).1.k = 4 ∧ Game K (i + 1) (u.next cs).2 H S sent seen ⟨0, 2, H, 0, 0, 0, 0, 0⟩) ∨
     ((u.next cs).1.k = 3 ∧ ∃ f, f < K ∧ (u.next cs).1.x = f ∧ (u.next cs).1.y = seen f ∧ (u.next cs).1.z = f + 10 * seen f ∧ Game K (i + 1) (u.next cs).2 (H + 1) S sent (fun q => if q = f then seen q + 1 else seen q) ⟨0, 2, H + 1, 0, 0, 0, 0, 0⟩)) := by
  obtain ⟨T, own, W, hinv, hn, hr, hT, hs, hg⟩ := h
  have hHT := hinv.HT
  refine ⟨hr.k3, fun a ha => hr.good hinv (by omega) ha, ?_⟩
  rcases hr.step hinv (by omega) with ⟨e1, e2, e3⟩ | ⟨e1, e2⟩ | ⟨e1, e2, e3, e4, e5⟩
  · exact .inl ⟨e1, T, own, W, by rw [e2]; exact hinv, hn, by rw [e2]; exact e3, by omega, fun m hm => by have := hs m hm; omega, by rw [e2]; exact hg⟩
  · exact .inr (.inl ⟨e1, T, own, W, by rw [e2]; exact hinv, hn, Reads.new, by omega, fun m hm => by have := hs m hm; omega, by rw [e2]; exact hg⟩)
  · obtain ⟨q1, q2, q3⟩ := hn.back e4
    rw [q2] at e5
    unfold frameOf at e5
    simp only [Prod.mk.injEq] at e5
    obtain ⟨x1, x2, x3⟩ := e5
    refine .inr (.inr ⟨e1, own H, q1, x1, x2, x3, T, own, W, by rw [e2]; exact hinv.back e3, q3, Reads.new, by omega, fun m hm => by have := hs m hm; omega, fun m hm a ha => ?_⟩)
    have g0 := hg m hm { a with cs := cs } rfl
    exact { g0 with cells := by rw [ha, e2, List.length_set]; exact g0.cells }
end Rg

end Go.Proofs.Ytieehpajkidbcaa
