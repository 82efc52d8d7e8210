/- A new table; how many slots' words are live. -/
import Derived.Test.YtgnodijblleipaaDoorTabB
import Derived.Test.YtgnodijblleipaaDoorArnB
namespace Go.Proofs.YtgnodijblleipaaDoor
open Go.RowKit

/-- A new one, behind all that was there. -/
def TFresh (w w' : World) (b n g : Nat) (e : Ending) : Prop := ∃ s : TSpot, e = .returned (.pointer (some ⟨s.P, 0, none⟩)) ∧ Tab w' w.heap.size s ⟨b, n, g, List.range n, []⟩ ∧ Below w.heap.size w w'

theorem three_held {w w' : World} {x y z : Value} {t : TypeId} (h : Below (w.alloc (.cells #[x, y, z] t)).heap.size (w.alloc (.cells #[x, y, z] t)) w') :
    w'.cell? ⟨w.heap.size, 0, none⟩ = some x ∧ w'.cell? ⟨w.heap.size, 1, none⟩ = some y ∧ w'.cell? ⟨w.heap.size, 2, none⟩ = some z := by
  have k : (w.alloc (.cells #[x, y, z] t)).heap[w.heap.size]? = some (.cells #[x, y, z] t (0, 0)) := heap_alloc_new _ _
  have hb : w'.heap[w.heap.size]? = some (.cells #[x, y, z] t (0, 0)) := (h.block _ (by simp)).trans k
  refine ⟨?_, ?_, ?_⟩
  · rw [cell_of_row _ _ _ _ _ _ hb]; rfl
  · rw [cell_of_row _ _ _ _ _ _ hb]; rfl
  · rw [cell_of_row _ _ _ _ _ _ hb]; rfl
/-- Three cells of a box, behind all that comes. -/
def Boxed (w' : World) (g : Nat) (x y z : Value) : Prop := w'.cell? ⟨g, 0, none⟩ = some x ∧ w'.cell? ⟨g, 1, none⟩ = some y ∧ w'.cell? ⟨g, 2, none⟩ = some z
theorem Boxed.on {w w' : World} {g : Nat} {x y z : Value} (h : Boxed w g x y z) (hb : Below w.heap.size w w') : Boxed w' g x y z :=
  ⟨(hb.cell (cell_block h.1)).trans h.1, (hb.cell (cell_block h.1)).trans h.2.1, (hb.cell (cell_block h.1)).trans h.2.2⟩

/-- All is there: the numbers ahead of the marks, or behind them. -/
theorem tab_made {w0 wd wf : World} {sf : FSpot} {b n g : Nat} (hw : w0.heap.size ≤ wd.heap.size) (hm : 1 ≤ n ∧ n ≤ 16 ∧ b + n ≤ 16384 ∧ 1 ≤ g ∧ g ≤ 16777215)
    (hf : Free wf wd.heap.size sf ⟨List.range n, n⟩) :
    Tab ((wf.alloc (.cells (markCells n []) 4)).alloc (.cells #[.int .i64 (b : Int), .int .i64 (n : Int), .int .i64 (g : Int), .pointer (some ⟨sf.P, 0, none⟩), .slice (some ⟨wf.heap.size, 0, none⟩) n n] 51)) w0.heap.size ⟨wf.heap.size + 1, wf.heap.size, sf⟩ ⟨b, n, g, List.range n, []⟩ where
  hP := by have := heap_alloc_new (wf.alloc (.cells (markCells n []) 4)) (.cells #[.int .i64 (b : Int), .int .i64 (n : Int), .int .i64 (g : Int), .pointer (some ⟨sf.P, 0, none⟩), .slice (some ⟨wf.heap.size, 0, none⟩) n n] 51); simpa using this
  hR := by rw [Below.heap_alloc _ _ _ (by simp)]; exact heap_alloc_new _ _
  hF := ((hf.kept (Rest.alloc (fun _ => False) wf _) (fun _ _ => id)).kept (Rest.alloc (fun _ => False) _ _) (fun _ _ => id)).lower hw
  dPR := by dsimp only; omega
  dPF := fun hk => by have := hf.old _ hk; dsimp only at this; omega
  dRF := fun hk => by have := hf.old _ hk; dsimp only at this; omega
  bP := by have := hf.size; dsimp only; omega
  bR := by have := hf.size; dsimp only; omega
  nd := List.nodup_nil
  lt := fun i hi => by cases hi
  ap := fun i hi => by cases hi
  ma := hm
theorem tab_made2 {w0 wd wf : World} {sf : FSpot} {b n g : Nat} (hw : w0.heap.size ≤ wd.heap.size) (hm : 1 ≤ n ∧ n ≤ 16 ∧ b + n ≤ 16384 ∧ 1 ≤ g ∧ g ≤ 16777215)
    (hf : Free wf (wd.alloc (.cells (markCells n []) 4)).heap.size sf ⟨List.range n, n⟩) (hR : Rest (fun _ => False) (wd.alloc (.cells (markCells n []) 4)) wf) :
    Tab (wf.alloc (.cells #[.int .i64 (b : Int), .int .i64 (n : Int), .int .i64 (g : Int), .pointer (some ⟨sf.P, 0, none⟩), .slice (some ⟨wd.heap.size, 0, none⟩) n n] 51)) w0.heap.size ⟨wf.heap.size, wd.heap.size, sf⟩ ⟨b, n, g, List.range n, []⟩ := by
  have h1 := hf.size
  simp only [World.size_alloc] at h1
  have h2 : wd.heap.size < (wd.alloc (.cells (markCells n []) 4)).heap.size := by simp
  exact {
    hP := heap_alloc_new _ _
    hR := by
      show (wf.alloc _).heap[wd.heap.size]? = _
      rw [Below.heap_alloc _ _ _ (by omega), hR.block _ h2 id]; exact heap_alloc_new _ _
    hF := (hf.kept (Rest.alloc (fun _ => False) wf _) (fun _ _ => id)).lower (by simp; omega)
    dPR := by dsimp only; omega
    dPF := fun hk => by have := hf.old _ hk; dsimp only at this; omega
    dRF := fun hk => by have := hf.from _ hk; simp only [World.size_alloc] at this; omega
    bP := by dsimp only; omega
    bR := hw
    nd := List.nodup_nil
    lt := fun i hi => by cases hi
    ap := fun i hi => by cases hi
    ma := hm }

set_option maxHeartbeats 1000000 in
theorem tnew_no (b n g : Int) (hb : -9223372036854775808 ≤ b ∧ b ≤ 9223372036854775807) (h : ¬ (1 ≤ n ∧ n ≤ 16 ∧ 0 ≤ b ∧ b ≤ 16384 - n ∧ 1 ≤ g ∧ g ≤ 16777215)) (w : World) :
    Calls Tryd.prog 5 #[.agg #[.int .i64 b, .int .i64 n, .int .i64 g]] w fun e w' => e = .returned (.pointer none) ∧ Below w.heap.size w w' := by
  have H := Lib.hid h
  clear h
  go_enter Tryd.func5, Tryd.ntmps5
  go_wp2_with fail
  refine (tmay_no b n g hb H.out _).mono ?_
  rintro e w1 ⟨rfl, hb1⟩
  go_wp2_with fail
  go_ret
  exact ⟨rfl, (below_box w _).trans (hb1.mono (by simp))⟩

set_option maxHeartbeats 2000000 in
theorem tnew_yes (b n g : Nat) (h : 1 ≤ n ∧ n ≤ 16 ∧ b + n ≤ 16384 ∧ 1 ≤ g ∧ g ≤ 16777215) (w : World) :
    Calls Tryd.prog 5 #[.agg #[.int .i64 (b : Int), .int .i64 (n : Int), .int .i64 (g : Int)]] w fun e w' => TFresh w w' b n g e := by
  have H := Lib.hid h
  have hn2 := h.2.1
  have hmk := make_free_marks n (by omega)
  generalize hmc : markCells n [] = mc at hmk
  have HMC := Lib.hid hmc
  clear hmc
  have HN := Lib.hid (show (n : Int) = min (max (n : Int) 0) 1024 by have := h.2.1; omega)
  clear h
  go_enter Tryd.func5, Tryd.ntmps5
  go_wp2_with fail
  refine (tmay_yes b n g H.out _).mono ?_
  rintro e w1 ⟨rfl, hb1⟩
  have hB := (below_box w (.cells #[.int .i64 (b : Int), .int .i64 (n : Int), .int .i64 (g : Int)] 26)).trans (hb1.mono (by simp))
  have hX : Boxed w1 w.heap.size (.int .i64 (b : Int)) (.int .i64 (n : Int)) (.int .i64 (g : Int)) := three_held hb1
  clear hb1
  go_wp2_with fail
  have hBd := Lib.hid hB.drew
  have hXd := Lib.hid (show Boxed w1.drew w.heap.size (.int .i64 (b : Int)) (.int .i64 (n : Int)) (.int .i64 (g : Int)) from hX)
  clear hB hX
  refine wp_region_held_drew (S := fun w' => w'.cell? ⟨w.heap.size, 0, none⟩ = some (.int .i64 (b : Int)) ∧ w'.cell? ⟨w.heap.size, 1, none⟩ = some (.int .i64 (n : Int)) ∧ w'.cell? ⟨w.heap.size, 2, none⟩ = some (.int .i64 (g : Int))) (by kernel_rfl) hXd.out (fun hHeld => ?_)
  refine wpAnyH_yield 0 (.agg #[.int .i64 b, .int .i64 n, .int .i64 g]) rfl (by kernel_rfl) (by kernel_rfl) (by kernel_rfl) (fun d _ _ _ h => by cases d <;> exact h) (by rfl) (by assumption) (fun _ hSw => by (try dsimp only at hSw); go_simp) ?_
  simp only [Act.put, List.setIfInBounds_toArray, List.set_cons_zero, List.set_cons_succ]
  refine wpAnyH_yield 1 (.pointer (some ⟨w.heap.size, 1, none⟩)) rfl (by kernel_rfl) (by kernel_rfl) (by kernel_rfl) (fun d _ _ _ h => by cases d <;> exact h) (by rfl) (by assumption) (fun _ _ => by go_simp) ?_
  simp only [Act.put, List.setIfInBounds_toArray, List.set_cons_zero, List.set_cons_succ]
  refine wpAnyH_yield 2 (.int .i64 n) rfl (by kernel_rfl) (by kernel_rfl) (by kernel_rfl) (fun d _ _ _ h => by cases d <;> exact h) (by rfl) (by assumption) (fun _ hSw => by (try dsimp only at hSw); go_simp) ?_
  simp only [Act.put, List.setIfInBounds_toArray, List.set_cons_zero, List.set_cons_succ]
  refine wpAnyH_yield 4 (.pointer (some ⟨w.heap.size, 1, none⟩)) rfl (by kernel_rfl) (by kernel_rfl) (by kernel_rfl) (fun d _ _ _ h => by cases d <;> exact h) (by rfl) (by assumption) (fun _ _ => by go_simp) ?_
  simp only [Act.put, List.setIfInBounds_toArray, List.set_cons_zero, List.set_cons_succ]
  refine wpAnyH_yield 5 (.int .i64 n) rfl (by kernel_rfl) (by kernel_rfl) (by kernel_rfl) (fun d _ _ _ h => by cases d <;> exact h) (by rfl) (by assumption) (fun _ hSw => by (try dsimp only at hSw); go_simp) ?_
  simp only [Act.put, List.setIfInBounds_toArray, List.set_cons_zero, List.set_cons_succ]
  generalize w1.drew = wd at hBd hXd hHeld ⊢
  refine wpAnyH_ready (rs := [3, 6]) (by kernel_rfl) (by simp) (AllReadyH.cons rfl (fun K hK => ?_) (AllReadyH.cons rfl (fun K hK => ?_) AllReadyH.nil))
  · go_simp
    go_at_call 19
    refine (fnew_any (n : Int) n HN.out _).mono ?_
    rintro e w3 ⟨sf, rfl, hf, hR⟩
    have hb3 : Below wd.heap.size wd w3 := hR.below (Nat.le_refl _) (fun k hk => hk.elim)
    have hX3 := hXd.out.on hb3
    have HF := Lib.hid hf
    have HB := Lib.hid (hBd.out.trans (hb3.mono hBd.out.size))
    clear hf hR hb3
    refine hK.out _ _ hX3 (fun hHeld => ?_)
    clear hK K
    try simp only [Act.put, List.setIfInBounds_toArray, List.set_cons_zero, List.set_cons_succ]
    refine wpAnyH_ready (rs := [6]) (by kernel_rfl) (by simp) (AllReadyH.cons rfl (fun K hK => ?_) AllReadyH.nil)
    go_simp
    refine hK.out _ _ (hX3.on (below_box _ _)) (fun hHeld => ?_)
    clear hK K
    try simp only [Act.put, List.setIfInBounds_toArray, List.set_cons_zero, List.set_cons_succ]
    refine wpAnyH_ready (rs := [7]) (by kernel_rfl) (by simp) (AllReadyH.cons rfl (fun K hK => ?_) AllReadyH.nil)
    go_simp
    refine hK.out _ _ (hX3.on (below_box _ _)) (fun hHeld => ?_)
    clear hK K
    try simp only [Act.put, List.setIfInBounds_toArray, List.set_cons_zero, List.set_cons_succ]
    refine wpAnyH_ready (rs := [8]) (by kernel_rfl) (by simp) (AllReadyH.cons rfl (fun K hK => ?_) AllReadyH.nil)
    go_simp
    refine hK.out _ _ ((hX3.on (below_box _ _)).on (below_box _ _)) (fun hHeld => ?_)
    clear hK K
    try simp only [Act.put, List.setIfInBounds_toArray, List.set_cons_zero, List.set_cons_succ]
    refine wpAnyH_ready (rs := [9]) (by kernel_rfl) (by simp) (AllReadyH.cons rfl (fun K hK => ?_) AllReadyH.nil)
    go_simp
    refine hK.out _ _ ((hX3.on (below_box _ _)).on (below_box _ _)) (fun hHeld => ?_)
    clear hK K
    try simp only [Act.put, List.setIfInBounds_toArray, List.set_cons_zero, List.set_cons_succ]
    refine wpAnyH_done (by kernel_rfl) ?_ _
    have k := tab_made (w0 := w) (wd := wd) (b := b) (g := g) hBd.out.size H.out HF.out
    rw [HMC.out] at k
    have HK := Lib.hid k
    have HB2 := Lib.hid ((HB.out.alloc HB.out.size (.cells mc 4)).alloc (by have := HB.out.size; simp; omega) (.cells #[.int .i64 (b : Int), .int .i64 (n : Int), .int .i64 (g : Int), .pointer (some ⟨sf.P, 0, none⟩), .slice (some ⟨w3.heap.size, 0, none⟩) n n] 51))
    clear k hHeld hX3
    go_wp2_with fail
    go_ret
    exact ⟨_, rfl, HK.out, HB2.out⟩
  · go_simp
    refine hK.out _ _ (hXd.out.on (below_box _ _)) (fun hHeld => ?_)
    clear hK K
    try simp only [Act.put, List.setIfInBounds_toArray, List.set_cons_zero, List.set_cons_succ]
    refine wpAnyH_ready (rs := [3]) (by kernel_rfl) (by simp) (AllReadyH.cons rfl (fun K hK => ?_) AllReadyH.nil)
    go_simp
    go_at_call 19
    refine (fnew_any (n : Int) n HN.out _).mono ?_
    rintro e w3 ⟨sf, rfl, hf, hR⟩
    have hb3 : Below (wd.alloc (.cells mc 4)).heap.size (wd.alloc (.cells mc 4)) w3 := hR.below (Nat.le_refl _) (fun k hk => hk.elim)
    have hX3 := (hXd.out.on (below_box wd (.cells mc 4))).on hb3
    have HF := Lib.hid hf
    have HR := Lib.hid hR
    have HB := Lib.hid (hBd.out.trans ((below_on (below_box wd (.cells mc 4)) hb3).mono hBd.out.size))
    clear hf hR hb3
    refine hK.out _ _ hX3 (fun hHeld => ?_)
    clear hK K
    try simp only [Act.put, List.setIfInBounds_toArray, List.set_cons_zero, List.set_cons_succ]
    refine wpAnyH_ready (rs := [7]) (by kernel_rfl) (by simp) (AllReadyH.cons rfl (fun K hK => ?_) AllReadyH.nil)
    go_simp
    refine hK.out _ _ (hX3) (fun hHeld => ?_)
    clear hK K
    try simp only [Act.put, List.setIfInBounds_toArray, List.set_cons_zero, List.set_cons_succ]
    refine wpAnyH_ready (rs := [8]) (by kernel_rfl) (by simp) (AllReadyH.cons rfl (fun K hK => ?_) AllReadyH.nil)
    go_simp
    refine hK.out _ _ (hX3.on (below_box _ _)) (fun hHeld => ?_)
    clear hK K
    try simp only [Act.put, List.setIfInBounds_toArray, List.set_cons_zero, List.set_cons_succ]
    refine wpAnyH_ready (rs := [9]) (by kernel_rfl) (by simp) (AllReadyH.cons rfl (fun K hK => ?_) AllReadyH.nil)
    go_simp
    refine hK.out _ _ (hX3.on (below_box _ _)) (fun hHeld => ?_)
    clear hK K
    try simp only [Act.put, List.setIfInBounds_toArray, List.set_cons_zero, List.set_cons_succ]
    refine wpAnyH_done (by kernel_rfl) ?_ _
    have HR2 := HR.out
    rw [← HMC.out] at HR2
    have HF2 := HF.out
    rw [← HMC.out] at HF2
    have HK := Lib.hid (tab_made2 (w0 := w) (wd := wd) (b := b) (g := g) hBd.out.size H.out HF2 HR2)
    have HB2 := Lib.hid (HB.out.alloc HB.out.size (.cells #[.int .i64 (b : Int), .int .i64 (n : Int), .int .i64 (g : Int), .pointer (some ⟨sf.P, 0, none⟩), .slice (some ⟨wd.heap.size, 0, none⟩) n n] 51))
    clear HR2 HF2 hHeld hX3
    go_wp2_with fail
    go_ret
    exact ⟨_, rfl, HK.out, HB2.out⟩

/-- What a look at a cell tells, whether it is there or not. -/
theorem look_at {B : Nat} {s : Spot} {a : Ar} (i : Nat) (w : World) (h : Arena w B s a) : Calls Tryd.prog 29 #[.pointer (some ⟨s.P, 0, none⟩), .int .i64 (i : Int)] w fun e w' => e = .returned (.int .u64 (a.cs.getD i 0 : Nat)) ∧ w = w' := by
  by_cases hi : i < a.cs.length
  · exact look_any i w h hi
  · refine (look_out (i : Int) w h (by omega)).mono fun e w' ⟨he, hw⟩ => ⟨he.trans ?_, hw⟩
    rw [show a.cs.getD i 0 = 0 by simp [List.getD, List.getElem?_eq_none (by omega : a.cs.length ≤ i)]]
    rfl
theorem Arena.wb {w : World} {B : Nat} {s : Spot} {a : Ar} (h : Arena w B s a) (i : Nat) : a.cs.getD i 0 < 18446744073709551616 := by
  obtain ⟨tv, h⟩ := h
  by_cases hi : i < a.cs.length
  · exact h.wb i hi
  · simp [List.getD, List.getElem?_eq_none (by omega : a.cs.length ≤ i)]
theorem Arena.on {w w' : World} {B : Nat} {s : Spot} {a : Ar} (h : Arena w B s a) (hb : Below w.heap.size w w') : Arena w' B s a := h.kept (Rest.of_below (own := fun _ => False) hb) (fun _ _ => id)

/-- How many of so many words are live. -/
def lives (F : Nat → Nat) (k : Nat) : Nat := ((List.range k).filter fun i => decide (Slt.Live (F i))).length
theorem lives_yes {F : Nat → Nat} {k : Nat} (h : Slt.Live (F k)) : lives F (k + 1) = lives F k + 1 := by unfold lives; rw [List.range_succ, List.filter_append, List.length_append]; simp [h]
theorem lives_no {F : Nat → Nat} {k : Nat} (h : ¬ Slt.Live (F k)) : lives F (k + 1) = lives F k := by unfold lives; rw [List.range_succ, List.filter_append, List.length_append]; simp [h]
theorem lives_le (F : Nat → Nat) (k : Nat) : lives F k ≤ k := by
  have := List.length_filter_le (fun i => decide (Slt.Live (F i))) (List.range k)
  simpa [lives] using this

set_option maxHeartbeats 1000000 in
theorem tlive_any {B : Nat} {s : TSpot} {t : Tb} {B2 : Nat} {sa : Spot} {a : Ar} (w : World) (h : Tab w B s t) (ha : Arena w B2 sa a) (hL : SLay w) :
    Calls Tryd.prog 17 #[.pointer (some ⟨s.P, 0, none⟩), .pointer (some ⟨sa.P, 0, none⟩)] w fun e w' => e = .returned (.int .i64 (lives (fun i => a.cs.getD (t.base + i) 0) t.slots : Nat)) ∧ Below w.heap.size w w' := by
  have H := Lib.hid h
  have HA := Lib.hid ha
  have HL := Lib.hid hL
  have hsl := h.ma.2.1
  clear h ha hL
  go_enter Tryd.func17, Tryd.ntmps17
  go_wp2_with fail
  refine (tslots_any _ H.out).mono ?_
  rintro e w1 ⟨rfl, rfl⟩
  go_wp2_with fail
  generalize hF : (fun i => a.cs.getD (t.base + i) 0) = F
  have HFF := Lib.hid hF
  clear hF
  go_loopg [5, 10] t.slots (fun g s5 s10 wr => ∃ k : Nat, k ≤ t.slots ∧ g = t.slots - k ∧ s5 = .int .i64 (lives F k : Nat) ∧ s10 = .int .i64 k ∧ Below w.heap.size w wr)
  case atStart => exact ⟨0, Nat.zero_le _, rfl, rfl, rfl, Below.refl _ _⟩
  case round =>
    obtain ⟨k, hk, rfl, rfl, rfl, hb⟩ := hrel
    have hck := lives_le F k
    by_cases hlt : k < t.slots
    · have hlt2 : (k : Int) < t.slots := by omega
      have H2 := Lib.hid (H.out.on hb)
      have HA2 := Lib.hid (HA.out.on hb)
      go_wp2_with fail
      refine (tcell_in k _ H2.out hlt).mono ?_
      rintro e w1 ⟨rfl, rfl⟩
      go_wp2_with fail
      refine (look_at _ _ HA2.out).mono ?_
      rintro e w1 ⟨rfl, rfl⟩
      have hx := HA.out.wb (t.base + k)
      rw [show a.cs.getD (t.base + k) 0 = F k by rw [← HFF.out]]
      rw [show a.cs.getD (t.base + k) 0 = F k by rw [← HFF.out]] at hx
      go_wp2_with fail
      refine (sgen_any _ hx _ (HL.out.kept hb)).mono ?_
      rintro e w2 ⟨rfl, hb2⟩
      have hb := below_on hb hb2
      clear hb2
      go_wp2_with fail
      refine (slive_any _ _ hx _ (HL.out.kept hb)).mono ?_
      rintro e w3 ⟨rfl, hb2⟩
      have hb := below_on hb hb2
      clear hb2
      by_cases hv : Slt.Live (F k)
      · have hs := Lib.hid (lives_yes hv)
        rw [show decide (((Slt.gen (F k) : Nat) : Int) = ((Slt.gen (F k) : Nat) : Int) ∧ Slt.Live (F k)) = true from decide_eq_true ⟨rfl, hv⟩]
        generalize lives F k = q at *
        clear hv
        go_wp2_with fail
        go_roundg (t.slots - (k + 1))
        case measure => go_light; omega
        case rel => exact ⟨k + 1, by omega, rfl, by rw [hs.out]; go_num, by go_num, hb⟩
      · have hs := Lib.hid (lives_no hv)
        rw [show decide (((Slt.gen (F k) : Nat) : Int) = ((Slt.gen (F k) : Nat) : Int) ∧ Slt.Live (F k)) = false from decide_eq_false (fun h => hv h.2)]
        generalize lives F k = q at *
        clear hv
        go_wp2_with fail
        go_roundg (t.slots - (k + 1))
        case measure => go_light; omega
        case rel => exact ⟨k + 1, by omega, rfl, by rw [hs.out], by go_num, hb⟩
    · obtain rfl : k = t.slots := by omega
      go_wp2_with fail
      go_ret
      exact ⟨reti (by rw [HFF.out]), hb⟩

end Go.Proofs.YtgnodijblleipaaDoor
