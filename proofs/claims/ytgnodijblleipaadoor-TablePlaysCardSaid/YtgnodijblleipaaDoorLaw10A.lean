/- The law's own first look at a table; the table beside the law's own row and marks. -/
import Derived.Test.YtgnodijblleipaaDoorTabC
import Derived.Deep.DeepCutAuto
namespace Go.Proofs.YtgnodijblleipaaDoor
open Go.RowKit

set_option maxHeartbeats 1000000 in
theorem awake10_any (w : World) (hL : SLay w) : Calls Tryd.prog 11 #[] w fun e w' => e = .returned (.bool true) ∧ Below w.heap.size w w' := by
  have HL := Lib.hid hL
  clear hL
  go_enter Tryd.func11, Tryd.ntmps11
  go_wp2_with fail
  refine (tnew_yes 3 2 5 (by decide) _).mono ?_
  rintro e w1 ⟨s, rfl, h1, hb1⟩
  have h1' : Tab w1 w.heap.size s ⟨3, 2, 5, [0, 1], []⟩ := h1
  clear h1
  go_wp2_with fail
  refine (tpick_yes _ h1').mono ?_
  rintro e w2 ⟨rfl, hN⟩
  have hb2 := hb1.trans (hN.below h1')
  obtain ⟨L2, -, h2, -⟩ := hN
  clear h1' hb1
  go_wp2_with fail
  refine (tcell_in 0 _ h2 (by decide)).mono ?_
  rintro e w3 ⟨rfl, rfl⟩
  go_wp2_with fail
  refine (tfree_any _ h2).mono ?_
  rintro e w3 ⟨rfl, rfl⟩
  go_wp2_with fail
  refine (sword_any _ _ (by omega) (by omega) _ (HL.out.kept hb2)).mono ?_
  rintro e w3 ⟨rfl, hb⟩
  have hb3 := below_on hb2 hb
  have h3 := h2.on hb
  clear hb hb2 h2
  go_wp2_with fail
  refine (tback_free 0 _ _ h3 (HL.out.kept hb3) ⟨by decide, by decide, by decide⟩ (by decide) (by decide)).mono ?_
  rintro e w4 ⟨rfl, hN⟩
  have hb4 := hb3.trans (hN.below h3)
  obtain ⟨L4, -, h4, -⟩ := hN
  clear h3 hb3
  go_wp2_with fail
  refine (tfree_any _ h4).mono ?_
  rintro e w5 ⟨rfl, rfl⟩
  go_wp2_with fail
  refine (tmost_any _ h4).mono ?_
  rintro e w5 ⟨rfl, rfl⟩
  go_wp2_with fail
  go_ret
  exact ⟨rfl, hb4⟩

def boolCells (n : Nat) (F : Nat → Bool) : Array Value := ((List.range n).map fun i => Value.bool (F i)).toArray
theorem boolCells_at (n : Nat) (F : Nat → Bool) (i : Nat) (h : i < n) : (boolCells n F)[i]? = some (.bool (F i)) := by simp [boolCells, h]
theorem boolCells_set (n : Nat) (F : Nat → Bool) (i : Nat) (b : Bool) : (boolCells n F).setIfInBounds i (.bool b) = boolCells n (fun j => if j = i then b else F j) := by
  unfold boolCells
  rw [List.setIfInBounds_toArray]
  congr 1
  apply List.ext_getElem?
  intro j
  rw [List.getElem?_set]
  by_cases hj : i = j
  · subst hj; by_cases hi : i < n <;> simp [hi]
  · rw [if_neg hj]
    by_cases hjn : j < n
    · simp [hjn, Ne.symm hj]
    · simp [hjn]
theorem boolCells_congr {n : Nat} {F F' : Nat → Bool} (h : ∀ i, i < n → F i = F' i) : boolCells n F = boolCells n F' := by
  unfold boolCells
  congr 1
  exact List.map_congr_left fun i hi => by rw [h i (List.mem_range.1 hi)]
theorem boolCells_none (n : Nat) : boolCells n (fun _ => false) = markCells n [] := by simp [boolCells, markCells]

/-- The table; the law's own row of those that can be taken, and its marks of those that are out, apart. -/
structure Plays (w : World) (B : Nat) (s : TSpot) (G : Nat) (v : Value) (t : Tb) (l : List Nat) (F : Nat → Bool) : Prop where
  tab : ∃ L, Tab w B (s.line L) t ∧ ¬ (s.line L).has G ∧ ∀ k, v.ownBlock = some k → ¬ (s.line L).has k
  row : Row w B 3 v (numCells l)
  out : w.heap[G]? = some (.cells (boolCells t.slots F) 4 (0, 0))
  gB : B ≤ G
  gv : ∀ k, v.ownBlock = some k → k ≠ G

theorem Plays.size {w : World} {B : Nat} {s : TSpot} {G : Nat} {v : Value} {t : Tb} {l : List Nat} {F : Nat → Bool} (h : Plays w B s G v t l F) : B < w.heap.size := by
  obtain ⟨L, hT, -⟩ := h.tab
  exact hT.size
theorem Plays.on {w w' : World} {B : Nat} {s : TSpot} {G : Nat} {v : Value} {t : Tb} {l : List Nat} {F : Nat → Bool} (h : Plays w B s G v t l F) (hb : Below w.heap.size w w') : Plays w' B s G v t l F := by
  obtain ⟨L, hT, h1, h2⟩ := h.tab
  exact { h with
    tab := ⟨L, hT.on hb, h1, h2⟩
    row := h.row.rest (Rest.of_below (own := fun _ => False) hb) (fun _ _ => id)
    out := (hb.block _ (lt_of_block h.out)).trans h.out }
/-- A call on the table. -/
theorem Plays.call {w : World} {B : Nat} {s : TSpot} {G : Nat} {v : Value} {t : Tb} {l : List Nat} {F : Nat → Bool} (h : Plays w B s G v t l F) :
    ∃ L, Tab w B (s.line L) t ∧ ∀ w' t', t'.slots = t.slots → TNow w w' B (s.line L) t' → Plays w' B s G v t' l F ∧ Below B w w' := by
  obtain ⟨L, hT, h1, h2⟩ := h.tab
  refine ⟨L, hT, fun w' t' hs hN => ⟨?_, hN.below hT⟩⟩
  obtain ⟨L', hL', hT', hR⟩ := hN
  have key : ∀ k, k < w.heap.size → ¬ (s.line L).has k → ¬ (s.line L').has k := fun k hk hn hx => by
    rcases hx with e | e | e | e | e
    · exact hn (.inl e)
    · exact hn (.inr (.inl e))
    · exact hn (.inr (.inr (.inl e)))
    · exact hn (.inr (.inr (.inr (.inl e))))
    · rcases hL' with g | g
      · exact hn (.inr (.inr (.inr (.inr (g ▸ e)))))
      · have := g k e; omega
  exact {
    tab := ⟨L', hT', key _ (lt_of_block h.out) h1, fun k hk => key _ (h.row.lt hk).2 (h2 k hk)⟩
    row := h.row.rest hR h2
    out := by rw [hs]; exact (hR.block _ (lt_of_block h.out) h1).trans h.out
    gB := h.gB, gv := h.gv }
/-- A mark is set. -/
theorem Plays.mark {w : World} {B : Nat} {s : TSpot} {G : Nat} {v : Value} {t : Tb} {l : List Nat} {F : Nat → Bool} (h : Plays w B s G v t l F) (i : Nat) (b : Bool) :
    Plays (w.setCell ⟨G, i, none⟩ (.bool b)) B s G v t l (fun j => if j = i then b else F j) ∧ Below B w (w.setCell ⟨G, i, none⟩ (.bool b)) := by
  obtain ⟨L, hT, h1, h2⟩ := h.tab
  have hB := h.size
  have hR : Rest (fun k => k = G) w (w.setCell ⟨G, i, none⟩ (.bool b)) := Rest.setCell w _ _ rfl
  refine ⟨{ h with
    tab := ⟨L, hT.kept hR (fun k hk e => h1 (e ▸ hk)), h1, h2⟩
    row := h.row.rest hR (fun k hk e => h.gv k hk e)
    out := by rw [heap_setCell_same w G i _ _ _ h.out, boolCells_set] }, hR.below (by omega) (fun k e => e ▸ h.gB)⟩
theorem Plays.same {w : World} {B : Nat} {s : TSpot} {G : Nat} {v : Value} {t : Tb} {l : List Nat} {F F' : Nat → Bool} (h : Plays w B s G v t l F) (hf : ∀ i, i < t.slots → F i = F' i) : Plays w B s G v t l F' :=
  { h with out := by rw [h.out, boolCells_congr hf] }
/-- Its cells. -/
theorem Plays.cells {w : World} {B : Nat} {s : TSpot} {G : Nat} {v : Value} {t : Tb} {l : List Nat} {F : Nat → Bool} (h : Plays w B s G v t l F) :
    (∀ i, i < t.slots → w.cell? ⟨G, i, none⟩ = some (.bool (F i))) ∧ ∀ i, w.frozen? ⟨G, i, none⟩ = false :=
  ⟨fun i hi => by rw [cell_of_row _ _ _ _ _ _ h.out]; exact boolCells_at _ _ _ hi, fun _ => frozen_of_row _ _ _ _ _ h.out⟩
theorem Plays.shape {w : World} {B : Nat} {s : TSpot} {G : Nat} {v : Value} {t : Tb} {l : List Nat} {F : Nat → Bool} (h : Plays w B s G v t l F) :
    ∃ g o c, v = .slice (some ⟨g, o, none⟩) l.length c ∧ l.length ≤ c ∧ c ≤ 9223372036854775807 ∧ ∀ j, j < l.length → w.cell? ⟨g, o + j, none⟩ = some (.int .i64 ((l.getD j 0 : Nat) : Int)) := by
  obtain ⟨g, o, c, rfl, h1, h2, h3⟩ := h.row.cells
  rw [numCells_length] at h1 ⊢
  exact ⟨g, o, c, rfl, h1, by unfold maxLen at h2; omega, fun j hj => h3 j _ (numCells_at l j hj)⟩
/-- The law's row is a new one. -/
theorem Plays.fresh {w w' : World} {B : Nat} {s : TSpot} {G : Nat} {v v' : Value} {t : Tb} {l l' : List Nat} {F : Nat → Bool} (h : Plays w B s G v t l F) (hr : Rest (fun _ => False) w w') (hrow : Row w' w.heap.size 3 v' (numCells l')) :
    Plays w' B s G v' t l' F := by
  obtain ⟨L, hT, h1, h2⟩ := h.tab
  have hB := h.size
  have hG := lt_of_block h.out
  exact {
    tab := ⟨L, hT.kept hr (fun _ _ => id), h1, fun k hk hx => by have := (hrow.lt hk).1; have := hT.old k hx; omega⟩
    row := hrow.lower (by omega)
    out := (hr.block _ hG id).trans h.out
    gB := h.gB, gv := fun k hk e => by have := (hrow.lt hk).1; omega }
/-- The law's row has grown. -/
theorem Plays.snoc {w w1 : World} {B : Nat} {s : TSpot} {G : Nat} {v v' : Value} {t : Tb} {l : List Nat} {F : Nat → Bool} {x : Nat} {o : Obj} (h : Plays w B s G v t l F) (hrow : Row w1 B 3 v' (numCells l ++ [.int .i64 (x : Int)])) (hg : (w.alloc o).grownBy w1 v.ownBlock)
    (hw : v'.ownBlock = v.ownBlock ∨ ∀ k, v'.ownBlock = some k → w.heap.size + 1 ≤ k) : Plays w1 B s G v' t (l ++ [x]) F ∧ Below B w w1 := by
  have hB := h.size
  have hG := lt_of_block h.out
  obtain ⟨L, hT, h1, h2⟩ := h.tab
  have hr : Rest (fun k => v.ownBlock = some k) w w1 := (Rest.alloc (fun _ => False) w o).trans (Rest.grown (own := fun k => v.ownBlock = some k) hg (fun _ => id)) (fun _ _ => False.elim) (fun _ _ => id)
  refine ⟨{
    tab := ⟨L, hT.kept hr (fun k hk e => h2 k e hk), h1, fun k hk hx => ?_⟩
    row := by rw [numCells_append]; exact hrow
    out := (hr.block _ hG (fun e => h.gv _ e rfl)).trans h.out
    gB := h.gB
    gv := fun k hk e => ?_ }, hr.below (by omega) (fun k hk => (h.row.lt hk).1)⟩
  · rcases hw with e | e
    · exact h2 k (e ▸ hk) hx
    · have := e k hk; have := hT.old k hx; omega
  · rcases hw with g | g
    · exact h.gv k (g ▸ hk) e
    · have := g k hk; omega
/-- The law's row without its head. -/
theorem Plays.cut {w : World} {B : Nat} {s : TSpot} {G g o c : Nat} {t : Tb} {x : Nat} {r : List Nat} {F : Nat → Bool} (h : Plays w B s G (.slice (some ⟨g, o, none⟩) (r.length + 1) c) t (x :: r) F) :
    ∃ g8 o8 c8, sliced (some ⟨g, o, none⟩) 1 (r.length + 1) c 1 = .slice (some ⟨g8, o8, none⟩) r.length c8 ∧ r.length ≤ c8 ∧ c8 ≤ 9223372036854775807 ∧ Plays w B s G (.slice (some ⟨g8, o8, none⟩) r.length c8) t r F := by
  have hrow : Row w B 3 (.slice (some ⟨g, o, none⟩) ((numCells r).length + 1) c) (.int .i64 (x : Int) :: numCells r) := by rw [numCells_length]; exact h.row
  have htail := hrow.tail
  rw [numCells_length] at htail
  have hbl := sliced_block g o (r.length + 1) c 1 1
  obtain ⟨g8, o8, c8, e, h1, h2, -⟩ := htail.cells
  rw [numCells_length] at e h1
  rw [e] at htail hbl
  obtain ⟨L, hT, k1, k2⟩ := h.tab
  refine ⟨g8, o8, c8, e, h1, by unfold maxLen at h2; omega, {
    tab := ⟨L, hT, k1, fun k hk => k2 k (hbl.symm.trans hk ▸ rfl)⟩
    row := htail
    out := h.out
    gB := h.gB
    gv := fun k hk => h.gv k (hbl.symm.trans hk ▸ rfl) }⟩

set_option maxHeartbeats 1000000 in
/-- How many can be picked, in the order that is told. -/
theorem left_any {B : Nat} {s : TSpot} {G g o c b n gn : Nat} {l rt : List Nat} {F : Nat → Bool} (w : World) (hl : l.length ≤ 1024) (h : Plays w B s G (.slice (some ⟨g, o, none⟩) l.length c) ⟨b, n, gn, l, rt⟩ l F) :
    Calls Tryd.prog 12 #[.pointer (some ⟨s.P, 0, none⟩), .slice (some ⟨g, o, none⟩) l.length c] w fun e w' => e = .returned (.int .i64 (l.length : Nat)) ∧ Below B w w' := by
  have H := Lib.hid h
  clear h
  go_enter Tryd.func12, Tryd.ntmps12
  go_wp2_with fail
  go_loopg [5] l.length (fun m s5 wr => ∃ k : Nat, k ≤ l.length ∧ m = l.length - k ∧ s5 = .int .i64 k ∧ Hid (Plays wr B s G (.slice (some ⟨g, o, none⟩) l.length c) ⟨b, n, gn, l.drop k, rt⟩ l F) ∧ Below B w wr)
  case atStart => exact ⟨0, Nat.zero_le _, rfl, rfl, H, Below.refl _ _⟩
  case round =>
    clear H
    obtain ⟨k, hk, rfl, rfl, H, hb⟩ := hrel
    obtain ⟨L, hT, hc⟩ := H.out.call
    by_cases hlt : k < l.length
    · have hlt2 : (k : Int) < l.length := by omega
      have hd : l.drop k = l.getD k 0 :: l.drop (k + 1) := by rw [List.drop_eq_getElem_cons hlt]; simp [List.getD, hlt]
      rw [hd] at hT
      have HT := Lib.hid hT
      have HC := Lib.hid hc
      clear hT hc hd
      go_wp2_with fail
      refine (tpick_yes _ HT.out).mono ?_
      rintro e w1 ⟨rfl, hN⟩
      obtain ⟨hP, hb1⟩ := HC.out w1 ⟨b, n, gn, l.drop (k + 1), rt⟩ rfl hN
      have HP := Lib.hid hP
      have hb := hb.trans hb1
      obtain ⟨ga, oa, ca, ea, -, -, hcells⟩ := hP.shape
      simp only [Value.slice.injEq, Option.some.injEq, Addr.mk.injEq, and_true, true_and] at ea
      obtain ⟨⟨rfl, rfl⟩, rfl⟩ := ea
      have hx := hcells k hlt
      generalize l.getD k 0 = x at *
      clear hN hP hb1 hcells HT HC
      go_wp2_with fail
      go_roundg (l.length - (k + 1))
      case measure => go_light; omega
      case rel => exact ⟨k + 1, by omega, rfl, by go_num, HP, hb⟩
    · obtain rfl : k = l.length := by omega
      have HT := Lib.hid hT
      clear hT hc
      go_wp2_with fail
      refine (tpick_no _ HT.out (by simp)).mono ?_
      rintro e w1 ⟨rfl, rfl⟩
      go_wp2_with fail
      go_ret
      exact ⟨rfl, hb⟩

end Go.Proofs.YtgnodijblleipaaDoor
