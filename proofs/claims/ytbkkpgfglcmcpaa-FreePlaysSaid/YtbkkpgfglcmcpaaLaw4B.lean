/- The law on what is taken and given back: true for every number and every list of acts. -/
import Derived.Test.YtbkkpgfglcmcpaaLaw4A
import Derived.IntWalk
import Derived.Deep.RegionHeld3
import Derived.Deep.DrawnRows
namespace Go.Proofs.Ytbkkpgfglcmcpaa
open Go.RowKit
attribute [local go_sem ↓] Go.wp_at_zero Go.wp_at_succ

/-- The last four bits of any number are a number below 16. -/
theorem and15 (k : Int) : 0 ≤ bits .and .i64 k 15 ∧ bits .and .i64 k 15 ≤ 15 := by
  have h : ((BitVec.ofInt 64 k) &&& (BitVec.ofInt 64 15)).toNat ≤ 15 := by
    rw [BitVec.toNat_and]; exact Nat.and_le_right
  have e : bits .and .i64 k 15 = IntKind.i64.wrap (((BitVec.ofInt 64 k) &&& (BitVec.ofInt 64 15)).toNat : Nat) := rfl
  rw [e]
  generalize ((BitVec.ofInt 64 k) &&& (BitVec.ofInt 64 15)).toNat = m at h
  rw [IntWalk.i64_in _ (by omega)]
  omega

/-- The program's numbers, and the law's own list, apart. -/
def Both (w : World) (B P M : Nat) (v : Value) (a : Fr) (l : List Nat) : Prop :=
  ∃ L, Free w B ⟨P, M, L⟩ a ∧ Row w B 3 v (numCells l) ∧ ∀ j, v.ownBlock = some j → ¬ (FSpot.mk P M L).has j

theorem Both.turn {w w' : World} {B P M : Nat} {L : Option Nat} {v : Value} {a' : Fr} {l : List Nat} (hR : Row w B 3 v (numCells l)) (hd : ∀ j, v.ownBlock = some j → ¬ (FSpot.mk P M L).has j) (hN : FNow w w' B ⟨P, M, L⟩ a') : Both w' B P M v a' l := by
  obtain ⟨L', hL', hF', hr⟩ := hN
  refine ⟨L', hF', hR.rest hr hd, fun j hj hh => ?_⟩
  rcases hh with e | e | e
  · exact hd j hj (.inl e)
  · exact hd j hj (.inr (.inl e))
  · rcases hL' with e' | e'
    · exact hd j hj (.inr (.inr (e'.symm.trans e)))
    · have h1 := e' j e
      have := (hR.lt hj).2
      omega
theorem Both.rest {w w' : World} {B P M : Nat} {v : Value} {a : Fr} {l : List Nat} (h : Both w B P M v a l) (hr : Rest (fun _ => False) w w') : Both w' B P M v a l := by
  obtain ⟨L, hF, hR, hd⟩ := h
  exact ⟨L, hF.kept hr (fun _ _ => id), hR.rest hr (fun _ _ => id), hd⟩
theorem Both.size {w : World} {B P M : Nat} {v : Value} {a : Fr} {l : List Nat} (h : Both w B P M v a l) : B < w.heap.size := by
  obtain ⟨L, hF, -⟩ := h
  exact hF.size
/-- The law's list is a new one. -/
theorem Both.fresh {w w' : World} {B P M : Nat} {L : Option Nat} {v' : Value} {a : Fr} {l' : List Nat} (hF : Free w B ⟨P, M, L⟩ a) (hr : Rest (fun _ => False) w w') (hrow : Row w' w.heap.size 3 v' (numCells l')) : Both w' B P M v' a l' :=
  ⟨L, hF.kept hr (fun _ _ => id), hrow.lower (Nat.le_of_lt hF.size), fun j hj hh => by have := (hrow.lt hj).1; have := hF.old j hh; omega⟩
/-- The law's list has grown. -/
theorem Both.snoc {w w1 : World} {B P M : Nat} {v v' : Value} {a : Fr} {l : List Nat} {x : Nat} {o : Obj} (h : Both w B P M v a l) (hrow : Row w1 B 3 v' (numCells l ++ [.int .i64 (x : Int)])) (hg : (w.alloc o).grownBy w1 v.ownBlock)
    (hw : v'.ownBlock = v.ownBlock ∨ ∀ k, v'.ownBlock = some k → w.heap.size + 1 ≤ k) : Both w1 B P M v' a (l ++ [x]) ∧ Below B w w1 := by
  have hB := h.size
  obtain ⟨L, hF, hR, hd⟩ := h
  have hr : Rest (fun k => v.ownBlock = some k) w w1 := (Rest.alloc (fun _ => False) w o).trans (Rest.grown (own := fun k => v.ownBlock = some k) hg (fun _ => id)) (fun _ _ => False.elim) (fun _ _ => id)
  refine ⟨⟨L, hF.kept hr (fun k hk e => hd k e hk), by rw [numCells_append]; exact hrow, fun j hj hh => ?_⟩, hr.below (by omega) (fun k hk => (hR.lt hk).1)⟩
  rcases hw with e | e
  · exact hd j (e ▸ hj) hh
  · have h1 := e j hj
    have h2 := hF.old j hh
    omega
theorem Both.shape {w : World} {B P M : Nat} {v : Value} {a : Fr} {l : List Nat} (h : Both w B P M v a l) : ∃ g o c, v = .slice (some ⟨g, o, none⟩) l.length c ∧ l.length ≤ c ∧ c ≤ 9223372036854775807 ∧ ∀ j, j < l.length → w.cell? ⟨g, o + j, none⟩ = some (.int .i64 ((l.getD j 0 : Nat) : Int)) := by
  obtain ⟨L, hF, hR, hd⟩ := h
  obtain ⟨g, o, c, rfl, h1, h2, h3⟩ := hR.cells
  rw [numCells_length] at h1 ⊢
  exact ⟨g, o, c, rfl, h1, by unfold maxLen at h2; omega, fun j hj => h3 j _ (numCells_at l j hj)⟩
theorem Both.few {w : World} {B P M : Nat} {v : Value} {kk : Nat} {ln l : List Nat} (h : Both w B P M v ⟨ln, kk⟩ l) : ln.length ≤ kk ∧ kk ≤ 1024 := by
  obtain ⟨L, hF, hR, hd⟩ := h
  exact ⟨hF.few.1, hF.few.2.1⟩

/-- The law's list without its first. -/
theorem Both.cut {w : World} {B P M g off c x : Nat} {a : Fr} {r : List Nat} (h : Both w B P M (.slice (some ⟨g, off, none⟩) (r.length + 1) c) a (x :: r)) :
    ∃ g' o' c' : Nat, sliced (some ⟨g, off, none⟩) 1 (r.length + 1) c 1 = .slice (some ⟨g', o', none⟩) r.length c' ∧ r.length ≤ c' ∧ c' ≤ 9223372036854775807 ∧ Both w B P M (.slice (some ⟨g', o', none⟩) r.length c') a r := by
  obtain ⟨L, hF, hR, hd⟩ := h
  have hrow : Row w B 3 (.slice (some ⟨g, off, none⟩) ((numCells r).length + 1) c) (.int .i64 (x : Int) :: numCells r) := by rw [numCells_length]; exact hR
  have ht := hrow.tail
  rw [numCells_length] at ht
  have hb : Both w B P M (sliced (some ⟨g, off, none⟩) 1 (r.length + 1) c 1) a r := ⟨L, hF, ht, fun j hj => by rw [sliced_block] at hj; cases hj; exact hd g rfl⟩
  obtain ⟨g', o', c', e, h1, h2, -⟩ := hb.shape
  refine ⟨g', o', c', e, h1, h2, ?_⟩
  rw [← e]
  exact hb
/-- A list of numbers that was handed out, as cells. -/
theorem Line.spread {w : World} {B : Nat} {v : Value} {l : List Nat} (h : Line w B 3 v (numCells l)) : ∃ (a : Option Addr) (c g o : Nat), v = .slice a l.length c ∧ (0 < l.length → a = some ⟨g, o, none⟩) ∧ ∀ j, j < l.length → w.cell? ⟨g, o + j, none⟩ = some (.int .i64 ((l.getD j 0 : Nat) : Int)) := by
  rcases h with ⟨rfl, h0⟩ | h
  · have hx : l = [] := by simpa [numCells] using h0
    subst hx
    exact ⟨none, 0, 0, 0, rfl, (fun h => absurd h (Nat.lt_irrefl _)), fun j hj => absurd hj (Nat.not_lt_zero _)⟩
  · obtain ⟨g, o, c, rfl, h1, h2, h3⟩ := h.cells
    rw [numCells_length]
    exact ⟨_, c, g, o, rfl, fun _ => rfl, fun j hj => h3 j _ (numCells_at l j hj)⟩

/-- What is looked at in the last loop. -/
theorem fhas_seen {B : Nat} {s : FSpot} {a : Fr} {w0 w : World} {p q : Addr} {u v : Value} (i : Nat) (hS : w.cell? p = some u ∧ w.cell? q = some v ∧ Hid (Free w B s a) ∧ Below w0.heap.size w0 w) (hm : i ∈ a.ln) :
    Calls Try.prog 10 #[.pointer (some ⟨s.P, 0, none⟩), .int .i64 (i : Int)] w fun e w' => e = .returned (.bool true) ∧ w = w' := by
  have h := hS.2.2.1.out
  refine (fhas_in i w h (h.few.2.2.2 i hm)).mono fun e w' ⟨he, hw⟩ => ⟨he.trans (retb ?_), hw⟩
  simp [hm]

/-- What the law finds out of x behind j numbers. -/
def Found (x : Int) (kk : Nat) (ln : List Nat) (j : Nat) (q : Bool) : Prop := q = true ↔ (¬ (0 ≤ x ∧ x < kk) ∨ ∃ i, i < j ∧ ((ln.getD i 0 : Nat) : Int) = x)
theorem Found.start (x : Int) (kk : Nat) (ln : List Nat) : Found x kk ln 0 (decide (¬ (0 ≤ x ∧ x < kk))) :=
  ⟨fun h => .inl (of_decide_eq_true h), fun h => by rcases h with h | ⟨i, hi, _⟩; exact decide_eq_true h; omega⟩
theorem Found.yes {x : Int} {kk : Nat} {ln : List Nat} {j : Nat} (h : Found x kk ln j true) : Found x kk ln (j + 1) true :=
  ⟨fun _ => by rcases h.1 rfl with h | ⟨i, hi, e⟩; exact .inl h; exact .inr ⟨i, by omega, e⟩, fun _ => rfl⟩
theorem Found.now {x : Int} {kk : Nat} {ln : List Nat} {j : Nat} (h : ((ln.getD j 0 : Nat) : Int) = x) : Found x kk ln (j + 1) true := ⟨fun _ => .inr ⟨j, by omega, h⟩, fun _ => rfl⟩
theorem Found.no {x : Int} {kk : Nat} {ln : List Nat} {j : Nat} (h : Found x kk ln j false) (hx : ¬ ((ln.getD j 0 : Nat) : Int) = x) : Found x kk ln (j + 1) false := by
  refine ⟨(fun e => by cases e), fun e => ?_⟩
  rcases e with e | ⟨i, hi, e⟩
  · exact h.2 (.inl e)
  · by_cases g : i = j
    · subst g; exact absurd e hx
    · exact h.2 (.inr ⟨i, by omega, e⟩)
theorem Found.mem {x : Nat} {ln : List Nat} : (∃ i, i < ln.length ∧ ((ln.getD i 0 : Nat) : Int) = (x : Int)) ↔ x ∈ ln := by
  constructor
  · rintro ⟨i, hi, e⟩
    have : ln.getD i 0 = x := by omega
    rw [← this, List.getD_eq_getElem?_getD, List.getElem?_eq_getElem hi]
    exact List.getElem_mem _
  · intro h
    obtain ⟨i, hi, e⟩ := List.getElem_of_mem h
    exact ⟨i, hi, by simp [List.getD, hi, e]⟩

/-- Giving back, by what was found. -/
theorem give_found {B : Nat} {s : FSpot} {kk : Nat} {ln : List Nat} (x : Int) (w : World) (h : Free w B s ⟨ln, kk⟩) (hq : Found x kk ln ln.length true) :
    Calls Try.prog 6 #[.pointer (some ⟨s.P, 0, none⟩), .int .i64 x] w fun e w' => e = .returned (.bool false) ∧ w = w' := by
  by_cases hx : 0 ≤ x ∧ x < kk
  · obtain ⟨i, rfl⟩ := Int.eq_ofNat_of_zero_le hx.1
    rcases hq.1 rfl with e | e
    · exact absurd hx e
    · exact give_no i w h (Found.mem.1 e)
  · exact give_out x w h hx
theorem found_not {kk : Nat} {ln : List Nat} {x : Int} (hq : Found x kk ln ln.length false) : ∃ i : Nat, x = i ∧ i < kk ∧ i ∉ ln := by
  have h1 : 0 ≤ x ∧ x < kk := Classical.byContradiction fun h => by have := hq.2 (.inl h); cases this
  obtain ⟨i, rfl⟩ := Int.eq_ofNat_of_zero_le h1.1
  exact ⟨i, rfl, by omega, fun hm => by have := hq.2 (.inr (Found.mem.2 hm)); cases this⟩

end Go.Proofs.Ytbkkpgfglcmcpaa
