/- The law on which tables may be, cells of slots, and live words: true whatever comes. -/
import Derived.Test.YtgnodijblleipaaDoorLaw10A
import Derived.Test.YtgnodijblleipaaDoorLow
import Derived.Test.YtgnodijblleipaaDoorArnD
import Derived.Test.YtgnodijblleipaaDoorNows
import Derived.Test.YtgnodijblleipaaDoorSkip
import Derived.IntWalk
import Derived.BigQuiet
import Derived.Deep.QuietTactic
import Derived.Deep.CutBlock
import Derived.Deep.DrawnRows
namespace Go.Proofs.YtgnodijblleipaaDoor
open Go.RowKit
attribute [local go_sem ↓] Go.wp_at_zero Go.wp_at_succ

/-- A table may be. -/
def May3 (b n g : Int) : Prop := 1 ≤ n ∧ n ≤ 16 ∧ 0 ≤ b ∧ b ≤ 16384 - n ∧ 1 ≤ g ∧ g ≤ 16777215
instance (b n g : Int) : Decidable (May3 b n g) := by unfold May3; infer_instance

/-- It was made, or may not be. -/
def Made (B : Nat) (wx : World) (b n g : Int) (p : Option Addr) : Prop :=
  (May3 b n g ∧ ∃ (s : TSpot) (b' n' g' : Nat), b = b' ∧ n = n' ∧ g = g' ∧ p = some ⟨s.P, 0, none⟩ ∧ Tab wx B s ⟨b', n', g', List.range n', []⟩) ∨ (¬ May3 b n g ∧ p = none)

theorem tnew_made (b n g : Int) (hb : -9223372036854775808 ≤ b ∧ b ≤ 9223372036854775807) (w : World) :
    Calls Tryd.prog 5 #[.agg #[.int .i64 b, .int .i64 n, .int .i64 g]] w fun e w' => ∃ p, e = .returned (.pointer p) ∧ Made w.heap.size w' b n g p ∧ Below w.heap.size w w' := by
  by_cases h : May3 b n g
  · have hm := h
    unfold May3 at h
    obtain ⟨b', rfl⟩ := Int.eq_ofNat_of_zero_le h.2.2.1
    obtain ⟨n', rfl⟩ := Int.eq_ofNat_of_zero_le (show 0 ≤ n by omega)
    obtain ⟨g', rfl⟩ := Int.eq_ofNat_of_zero_le (show 0 ≤ g by omega)
    refine (tnew_yes b' n' g' (by omega) w).mono fun e w' ⟨s, he, hT, hB⟩ => ⟨_, he, .inl ⟨hm, s, b', n', g', rfl, rfl, rfl, rfl, hT⟩, hB⟩
  · exact (tnew_no b n g hb h w).mono fun e w' ⟨he, hB⟩ => ⟨none, he, .inr ⟨h, rfl⟩, hB⟩
theorem tmay_dec (b n g : Int) (hb : -9223372036854775808 ≤ b ∧ b ≤ 9223372036854775807) (w : World) :
    Calls Tryd.prog 16 #[.agg #[.int .i64 b, .int .i64 n, .int .i64 g]] w fun e w' => e = .returned (.bool (decide (May3 b n g))) ∧ Below w.heap.size w w' := by
  by_cases h : May3 b n g
  · rw [decide_eq_true h]
    unfold May3 at h
    obtain ⟨b', rfl⟩ := Int.eq_ofNat_of_zero_le h.2.2.1
    obtain ⟨n', rfl⟩ := Int.eq_ofNat_of_zero_le (show 0 ≤ n by omega)
    obtain ⟨g', rfl⟩ := Int.eq_ofNat_of_zero_le (show 0 ≤ g by omega)
    exact tmay_yes b' n' g' (by omega) w
  · rw [decide_eq_false h]
    exact tmay_no b n g hb h w

/-- One word more. -/
theorem lives_set {F F' : Nat → Nat} {k : Nat} (h0 : ¬ Slt.Live (F k)) (he : ∀ i, i ≠ k → F' i = F i) : ∀ n, lives F' n = lives F n + (if k < n ∧ Slt.Live (F' k) then 1 else 0)
  | 0 => by simp [lives]
  | n + 1 => by
    have ih := lives_set h0 he n
    by_cases e : n = k
    · subst e
      rw [if_neg (fun h => Nat.lt_irrefl _ h.1)] at ih
      rw [lives_no h0]
      by_cases hv : Slt.Live (F' n)
      · rw [lives_yes hv, if_pos ⟨by omega, hv⟩, ih]
      · rw [lives_no hv, if_neg (fun h => hv h.2), ih]
    · have hv := he n e
      have hif : (if k < n + 1 ∧ Slt.Live (F' k) then 1 else 0) = (if k < n ∧ Slt.Live (F' k) then 1 else 0) := by
        by_cases hk : Slt.Live (F' k)
        · by_cases h1 : k < n
          · rw [if_pos ⟨by omega, hk⟩, if_pos ⟨h1, hk⟩]
          · rw [if_neg (fun h => by omega), if_neg (fun h => h1 h.1)]
        · rw [if_neg (fun h => hk h.2), if_neg (fun h => hk h.2)]
      rw [hif]
      by_cases hl : Slt.Live (F n)
      · rw [lives_yes hl, lives_yes (by rw [hv]; exact hl), ih]; omega
      · rw [lives_no hl, lives_no (by rw [hv]; exact hl), ih]

/-- The arena, of which k slots' words are written. -/
def Wrote (wr : World) (B : Nat) (s : Spot) (k q : Nat) : Prop :=
  ∃ T a, Arena wr B ⟨s.P, s.C, s.M, T⟩ a ∧ a.cs.length = 8 ∧ (∀ i, k ≤ i → a.cs.getD (1 + i) 0 = 0) ∧ lives (fun i => a.cs.getD (1 + i) 0) 4 = q
theorem Wrote.on {w w' : World} {B : Nat} {s : Spot} {k q : Nat} (h : Wrote w B s k q) (hb : Below w.heap.size w w') : Wrote w' B s k q := by
  obtain ⟨T, a, h1, h2⟩ := h
  exact ⟨T, a, h1.on hb, h2⟩
theorem not_live : ¬ Slt.Live 0 := by unfold Slt.Live Slt.st; omega
theorem new_zero (i : Nat) : (Ar.new 8).cs.getD (1 + i) 0 = 0 := by
  unfold Ar.new
  rw [List.getD, List.getElem?_replicate]
  split <;> rfl
theorem Wrote.start {w : World} {B : Nat} {s : Spot} (h : Arena w B s (Ar.new 8)) : Wrote w B s 0 0 :=
  ⟨s.T, Ar.new 8, h, by simp [Ar.new], fun i _ => new_zero i, by decide⟩
/-- .. one more, by whatever word. -/
theorem Wrote.more {w : World} {B : Nat} {s : Spot} {k q v t : Nat} (hk : k < 4) (hs : Slt.st v = t) (h : Wrote w B s k q) :
    ∃ T a, Arena w B ⟨s.P, s.C, s.M, T⟩ a ∧ 1 + k < a.cs.length ∧
      (∀ w', Now w w' B ⟨s.P, s.C, s.M, T⟩ ((a.touch (1 + k)).put (1 + k) v) → Wrote w' B s (k + 1) (q + if t = 1 ∨ t = 2 then 1 else 0) ∧ Below B w w') := by
  obtain ⟨T, a, hA, h8, h0, hq⟩ := h
  refine ⟨T, a, hA, by omega, fun w' hN => ⟨?_, hN.below hA⟩⟩
  obtain ⟨T', -, hA', -⟩ := hN
  have hcs : ((a.touch (1 + k)).put (1 + k) v).cs = a.cs.set (1 + k) v := by simp only [Ar.put, Ar.touch_cs]
  have hx : (a.cs.set (1 + k) v).getD (1 + k) 0 = v := by
    have h1 : 1 + k < a.cs.length := by omega
    rw [List.getD, List.getElem?_set_self h1]
    rfl
  have ho : ∀ i, i ≠ k → (a.cs.set (1 + k) v).getD (1 + i) 0 = a.cs.getD (1 + i) 0 := fun i hi => by
    have h1 : 1 + k ≠ 1 + i := by omega
    rw [List.getD, List.getElem?_set_ne h1]
    rfl
  refine ⟨T', _, hA', by rw [hcs, List.length_set]; exact h8, fun i hi => ?_, ?_⟩
  · rw [hcs, ho i (by omega)]
    exact h0 i (by omega)
  · have hz : ¬ Slt.Live (a.cs.getD (1 + k) 0) := by rw [h0 k (Nat.le_refl _)]; exact not_live
    have hl := lives_set (F := fun i => a.cs.getD (1 + i) 0) (F' := fun i => (a.cs.set (1 + k) v).getD (1 + i) 0) (k := k) hz ho 4
    rw [hcs, hl, hq]
    have hlv : Slt.Live v ↔ (t = 1 ∨ t = 2) := by unfold Slt.Live; rw [hs]
    simp only [hx, hlv, hk, true_and]

/-- What lies beside the arena, and stays. -/
structure Keeps (w wr : World) (b n g : Int) (p : Option Addr) (su : TSpot) : Prop where
  box : Boxed wr w.heap.size (.int .i64 b) (.int .i64 n) (.int .i64 g)
  made : Made w.heap.size wr b n g p
  tab : Tab wr w.heap.size su ⟨1, 4, 3, [0, 1, 2, 3], []⟩
  lay : SLay wr
  below : Below w.heap.size w wr
theorem Keeps.on {w w2 wr : World} {b n g : Int} {p : Option Addr} {su : TSpot} (h : Keeps w w2 b n g p su) (hb : Below w2.heap.size w2 wr) : Keeps w wr b n g p su where
  box := h.box.on hb
  made := by
    rcases h.made with ⟨h1, s, b', n', g', e1, e2, e3, e4, hT⟩ | h1
    · exact .inl ⟨h1, s, b', n', g', e1, e2, e3, e4, hT.on hb⟩
    · exact .inr h1
  tab := h.tab.on hb
  lay := h.lay.kept hb
  below := h.below.trans (hb.mono h.below.size)
theorem Made.on {w wr : World} {b n g : Int} {B : Nat} {p : Option Addr} (h : Made B w b n g p) (hb : Below w.heap.size w wr) : Made B wr b n g p := by
  rcases h with ⟨h1, s, b', n', g', e1, e2, e3, e4, hT⟩ | h1
  · exact .inl ⟨h1, s, b', n', g', e1, e2, e3, e4, hT.on hb⟩
  · exact .inr h1

theorem Made.lower {w : World} {b n g : Int} {B B' : Nat} {p : Option Addr} (h : Made B w b n g p) (hB : B' ≤ B) : Made B' w b n g p := by
  rcases h with ⟨h1, s, b', n', g', e1, e2, e3, e4, hT⟩ | h1
  · exact .inl ⟨h1, s, b', n', g', e1, e2, e3, e4, hT.lower hB⟩
  · exact .inr h1

theorem made_tab {w : World} {B b n g : Nat} {P : Nat} (h : Made B w b n g (some ⟨P, 0, none⟩)) (_ : Hid (May3 (b : Int) (n : Int) (g : Int))) : ∃ s : TSpot, P = s.P ∧ Tab w B s ⟨b, n, g, List.range n, []⟩ := by
  rcases h with ⟨_, s, b', n', g', e1, e2, e3, e4, hT⟩ | h1
  · obtain rfl : b = b' := by omega
    obtain rfl : n = n' := by omega
    obtain rfl : g = g' := by omega
    simp only [Option.some.injEq, Addr.mk.injEq, and_true] at e4
    exact ⟨s, e4, hT⟩
  · cases h1.2

theorem low7_nat (p : Int) : ∃ j : Nat, j ≤ 7 ∧ bits .and .i64 p 7 = (j : Int) := by
  rw [show bits .and .i64 p 7 = p % 8 from i64_low p 3 (by omega)]
  exact ⟨(p % 8).toNat, by omega, by omega⟩
theorem low3_nat (p : Int) : ∃ j : Nat, j ≤ 3 ∧ bits .and .i64 p 3 = (j : Int) := by
  rw [low3]
  exact ⟨(p % 4).toNat, by omega, by omega⟩

end Go.Proofs.YtgnodijblleipaaDoor
