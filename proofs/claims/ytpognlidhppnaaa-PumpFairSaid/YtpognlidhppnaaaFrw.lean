/- Frames in a row, wherever they lie: one is put behind them, all of them are copied. -/
import Derived.Test.YtpognlidhppnaaaFrR
import Derived.Laws.Cover3
namespace Go.Proofs.Ytpognlidhppnaaa
open Go.RowKit Go.Sort

/-- One is put behind them, or into the first one's row. -/
theorem FRow.add {w : World} {a : Option Addr} {c : Nat} {q : List Wk.Fr} {L : Option Nat} (h : FRow w a c q L) (hq : q.length ≤ 1000000) (x : Wk.Fr) {b : Nat} (hb : w.heap[b]? = some (.cells x.cells.toArray 27 (0, 0))) (ty : TypeId) :
    ∃ a' c' w' L', (Builtin.append_ #[32, 32] ty #[.slice a q.length c, .slice (some ⟨b, 0, none⟩) 1 1]).run Try.prog w = .ok (.slice a' (q.length + 1) c') w' ∧ FRow w' a' c' (q ++ [x]) L' ∧ (L' = L ∨ ∀ j, L' = some j → w.heap.size ≤ j) ∧ Rest (fun k => L = some k) w w' := by
  obtain ⟨i, z, hi, hz, hzs, hs, hby⟩ := Try.bigFrame.info
  have hl : (q ++ [x]).length = q.length + 1 := by simp
  rcases h with ⟨rfl, rfl, rfl, rfl⟩ | ⟨g, off, rfl, rfl, hr⟩
  · obtain ⟨g', off', cap', w', h1, h2, h3, h4⟩ := run_append_nilK (P := Try.prog) w 32 ty 0 11 27 i z i.bytes Try.underlying32 hi hz hs rfl hzs (by decide) ⟨b, 0, none⟩ 1 1 (Wk.fitm.flat [x]) (by rw [Wk.fitm.flat_length]; rfl) (by decide) (Wk.fitm.box x hb) (Wk.fitm.flat_ones _) (by unfold maxLen; omega) (by omega) (Nat.zero_le _)
    exact ⟨_, cap', w', some g', h1, .inr ⟨g', off', rfl, rfl, h2⟩, .inr (fun j e => by cases e; exact h4), Rest.grown h3 (fun _ e => by cases e)⟩
  · obtain ⟨g', off', cap', w', h1, h2, h3, h4⟩ := Wk.fitm.run_add (P := Try.prog) (ts := 32) (ty := ty) Try.underlying32 hi hz hs rfl hzs (by decide) hby hr hq (ys := [x]) (m := 1) (c := 1) rfl (by decide) (ad := ⟨b, 0, none⟩) (Wk.fitm.box x hb) (Nat.zero_le _)
    exact ⟨_, cap', w', some g', h1, .inr ⟨g', off', rfl, rfl, by rw [hl]; exact h2⟩, h4.imp (fun e => by rw [e]) (fun e j hj => by cases hj; exact e), Rest.grown h3 (fun _ e => e)⟩

/-- .. of frames that stand among other things. -/
theorem Own.fr_add {G : Nat → Prop} {w0 w : World} {l : List Part} {a : Option Addr} {c : Nat} {q : List Wk.Fr} (h : Own G w0 w l) (i : Nat) (e : l[i]? = some (.fr a c q)) {n : Nat} (hn : n = q.length) (hq : n ≤ 1000000) (x : Wk.Fr) {b : Nat} (hb : w.heap[b]? = some (.cells x.cells.toArray 27 (0, 0))) (ty : TypeId) :
    ∃ a' c' w', (Builtin.append_ #[32, 32] ty #[.slice a n c, .slice (some ⟨b, 0, none⟩) 1 1]).run Try.prog w = .ok (.slice a' (n + 1) c') w' ∧ Own G w0 w' (l.set i (.fr a' c' (q ++ [x]))) := by
  subst hn
  obtain ⟨L, h1, h2⟩ := h.fr i e
  obtain ⟨a', c', w', L', hrun, h3, h4, h5⟩ := h1.add hq x hb ty
  exact ⟨a', c', w', hrun, h2 h3 h4 h5⟩

theorem eql_nilf (a : Option Addr) (n c : Nat) (w : World) : (binOp .eql 32 (.slice a n c) (.slice none 0 0)).run Try.prog w = .ok (.bool a.isNone) w := by
  unfold binOp
  simp [run_equal_slice_nil w 32 27 a n c Try.underlying32]
/-- What comes of copying them. -/
theorem frclone_way {B g off cap n : Nat} {q : List Wk.Fr} (w : World) (hn : n = q.length) (h : RowK w B 27 11 g off n cap (Wk.fitm.flat q)) (hm : n ≤ 1000000) (ty : TypeId) :
    ∃ g' off' cap' w2, (Builtin.append_ #[32, 32] ty #[.slice (some ⟨w.heap.size, 0, none⟩) 0 0, .slice (some ⟨g, off, none⟩) n cap]).run Try.prog (w.alloc (.cells #[] 27)) = .ok (.slice (some ⟨g', off', none⟩) n cap') w2 ∧ RowK w2 w.heap.size 27 11 g' off' n cap' (Wk.fitm.flat q) ∧ Rest (fun _ => False) w w2 := by
  obtain ⟨i0, z, hinf, hz0, hzs, hs, hby⟩ := Try.bigFrame.info
  have h1 := h.kept (Below.heap_alloc w (.cells #[] 27) _ h.lt)
  have hb : n * i0.bytes ≤ 1000000 * 10000 := Nat.mul_le_mul hm hby
  obtain ⟨g', off', cap', w2, hrun, hrow, hgr, hw⟩ := run_append_rowK (P := Try.prog) (w.alloc (.cells #[] 27)) 32 ty w.heap.size 11 27 i0 z i0.bytes Try.underlying32 hinf hz0 hs rfl hzs (by decide) w.heap.size 0 0 0 [] (RowK.nil w w.heap.size 11 27 (Nat.le_refl _)) ⟨g, off, none⟩ n cap (Wk.fitm.flat q) (by rw [Wk.fitm.flat_length, hn]) (fun j u hu => by rw [Addr.add_lit]; exact h1.cell hu) (Wk.fitm.flat_ones q) (by unfold maxLen; omega) (by rw [Nat.zero_add]; omega) (by simp)
  rw [Nat.zero_add] at hrun hrow
  exact ⟨g', off', cap', w2, hrun, hrow, (Rest.alloc (fun _ => False) w _).trans (o3 := fun _ => False) (Rest.grown (own := fun k => k = w.heap.size) hgr (fun k e => by cases e; rfl)) (fun _ _ => id) (fun i hi e => by omega)⟩
set_option maxHeartbeats 1000000 in
/-- slices.Clone. -/
theorem frclone_any {a : Option Addr} {c n : Nat} {q : List Wk.Fr} {L : Option Nat} (w : World) (hn : n = q.length) (h : FRow w a c q L) (hm : n ≤ 1000000) :
    Calls Try.prog 15 #[.slice a n c] w fun e w' => ∃ a' c' L', e = .returned (.slice a' n c') ∧ FRow w' a' c' q L' ∧ (∀ j, L' = some j → w.heap.size ≤ j) ∧ Below w.heap.size w w' := by
  rcases h with ⟨-, rfl, rfl, rfl⟩ | ⟨g, off, rfl, rfl, hr⟩
  · subst hn
    have he := eql_nilf none 0 0
    go_enter Try.func15, Try.ntmps15
    go_wp2
    go_ret
    exact ⟨none, 0, none, rfl, .inl ⟨rfl, rfl, rfl, rfl⟩, (fun _ e => by cases e), Below.refl _ _⟩
  · rw [← hn] at hr
    have HN := Lib.hid hn
    have he := eql_nilf (some ⟨g, off, none⟩) n c
    have HW := Lib.hid (frclone_way w hn hr hm 32)
    clear hr hm hn
    go_enter Try.func15, Try.ntmps15
    obtain ⟨g', off', cap', w2, hrun, hrow, hr⟩ := HW.out
    have HE := Lib.hid (And.intro hrow hr)
    clear hrow hr HW
    go_wp2_with (at_builtin; refine wpList_append_run rfl _ _ 32 rfl rfl rfl hrun ?_)
    go_ret
    refine ⟨some ⟨g', off', none⟩, cap', some g', rfl, .inr ⟨g', off', rfl, rfl, ?_⟩, (fun j e => by cases e; exact HE.out.1.from_), HE.out.2.below (Nat.le_refl _) (fun _ h => h.elim)⟩
    rw [← HN.out]; exact HE.out.1.lower (Nat.zero_le _)
end Go.Proofs.Ytpognlidhppnaaa
