/- Due's Put and Take. -/
import Derived.Test.YtfjhknmpolhfeaaDueH
namespace Go.Proofs.Ytfjhknmpolhfeaa
open Go.RowKit Go.Sort

/-- How many were laid is one more. -/
theorem put_way {w wd w2 : World} {B P g2 o2 c2 : Nat} {n : Int} {q q2 : List En} {x : En} {L : Option Nat} (hd : Dq w2 B P g2 o2 c2 n q2) (hp : q2.Perm (q ++ [x])) (hh : Hp.Heap q2 q2.length) (hg : L = some g2 ∨ wd.heap.size ≤ g2) (hr : Rest (fun k => k = P ∨ L = some k) w w2) (hs : w.heap.size ≤ wd.heap.size) :
    ∃ q' L', Dz (w2.setCell ⟨P, 1, none⟩ (.int .i64 (n + 1))) B P (n + 1) q' L' ∧ q'.Perm (q ++ [x]) ∧ Hp.Heap q' q'.length ∧ (L' = L ∨ ∀ k, L' = some k → w.heap.size ≤ k) ∧ Rest (fun k => k = P ∨ L = some k) w (w2.setCell ⟨P, 1, none⟩ (.int .i64 (n + 1))) := by
  refine ⟨q2, some g2, .inr ⟨g2, o2, c2, rfl, ⟨heap_setCell_same _ P 1 _ _ _ hd.hP, hd.row.kept (Below.heap_setCell _ _ _ _ (fun e => hd.dP e)), hd.bP, hd.dP⟩⟩, hp, hh, ?_, hr.trans (o3 := fun k => k = P ∨ L = some k) (Rest.setCell (own := fun k => k = P) _ _ _ rfl) (fun _ _ => id) (fun _ _ => .inl)⟩
  rcases hg with hg | hg
  · exact .inl hg.symm
  · exact .inr (fun k hk => by cases hk; omega)

set_option maxHeartbeats 2000000 in
set_option maxRecDepth 100000 in
/-- An alarm that comes is laid, where there is room. -/
theorem dput_yes {B P : Nat} {n : Int} {q : List En} {L : Option Nat} (t c s g x : Int) (w : World) (h : Dz w B P n q L) (hB : B ≤ w.heap.size) (hm : q.length < 256) (hh : Hp.Heap q q.length) (ht : Tk.clamp t ≠ 1099511627776) (hn : 0 ≤ n ∧ n < 4611686018427387904) :
    Calls Try.prog 8 #[.pointer (some ⟨P, 0, none⟩), .agg #[.int .i64 t, .int .i64 c, .int .i64 s, .int .i64 g, .int .i64 x]] w fun e w' => e = .returned (.bool true) ∧ ∃ q' L', Dz w' B P (n + 1) q' L' ∧ q'.Perm (q ++ [⟨Tk.clamp t, c, s, g, x, n⟩]) ∧ Hp.Heap q' q'.length ∧ (L' = L ∨ ∀ k, L' = some k → w.heap.size ≤ k) ∧ Rest (fun k => k = P ∨ L = some k) w w' := by
  have HH := Lib.hid h
  have HB := Lib.hid hB
  have HP := Lib.hid hh
  clear h hB hh
  have hct := fun w => clamp_any t w
  generalize Tk.clamp t = u at hct ht ⊢
  go_enter Try.func8, Try.ntmps8
  go_wp2_with fail
  refine (hct _).mono ?_
  rintro e w1 ⟨rfl, rfl⟩
  have hc : (u == 1099511627776) = false := by simp [ht]
  go_wp2_with fail
  have hal : (w.alloc (.cells #[.int .i64 u, .int .i64 c, .int .i64 s, .int .i64 g, .int .i64 x] 31)).heap[w.heap.size]? = some (.cells #[.int .i64 u, .int .i64 c, .int .i64 s, .int .i64 g, .int .i64 x] 31 (0, 0)) := heap_alloc_new _ _
  have hra : Rest (fun _ => False) w (w.alloc (.cells #[.int .i64 u, .int .i64 c, .int .i64 s, .int .i64 g, .int .i64 x] 31)) := Rest.alloc _ _ _
  have hsa : (w.alloc (.cells #[.int .i64 u, .int .i64 c, .int .i64 s, .int .i64 g, .int .i64 x] 31)).heap.size = w.heap.size + 1 := by simp
  generalize w.alloc (.cells #[.int .i64 u, .int .i64 c, .int .i64 s, .int .i64 g, .int .i64 x] 31) = wa at hal hra hsa ⊢
  have HA := Lib.hid (HH.out.none hra)
  have HRA := Lib.hid hra
  have HL := Lib.hid hal
  have HS := Lib.hid hsa
  have hq : ((q.length : Nat) : Int) < 256 := by omega
  have hbx : w.heap.size < wa.heap.size := by omega
  clear hra hal hsa
  refine (dlen_any wa HA.out).mono ?_
  rintro e w1 ⟨rfl, rfl⟩
  go_wp2_with fail
  have hcells : wa.cell? ⟨w.heap.size, 0, none⟩ = some (.int .i64 u) ∧ wa.cell? ⟨w.heap.size, 1, none⟩ = some (.int .i64 c) ∧ wa.cell? ⟨w.heap.size, 2, none⟩ = some (.int .i64 s) ∧ wa.cell? ⟨w.heap.size, 3, none⟩ = some (.int .i64 g) ∧ wa.cell? ⟨w.heap.size, 4, none⟩ = some (.int .i64 x) ∧ wa.cell? ⟨P, 1, none⟩ = some (.int .i64 n) := by
    obtain ⟨a, c', hP⟩ := HA.out.shape
    have h := HL.out
    refine ⟨?_, ?_, ?_, ?_, ?_, ?_⟩
    iterate 5 (rw [cell_of_row _ _ _ _ _ _ h]; rfl)
    rw [cell_of_row _ _ _ _ _ _ hP]; rfl
  refine wp_region_held_drew (S := fun w' => w'.cell? ⟨w.heap.size, 0, none⟩ = some (.int .i64 u) ∧ w'.cell? ⟨w.heap.size, 1, none⟩ = some (.int .i64 c) ∧ w'.cell? ⟨w.heap.size, 2, none⟩ = some (.int .i64 s) ∧ w'.cell? ⟨w.heap.size, 3, none⟩ = some (.int .i64 g) ∧ w'.cell? ⟨w.heap.size, 4, none⟩ = some (.int .i64 x) ∧ w'.cell? ⟨P, 1, none⟩ = some (.int .i64 n)) (by kernel_rfl) hcells (fun hHeld => ?_)
  clear hcells
  have hD : Rest (fun _ => False) wa wa.drew := Rest.drew _ _
  generalize wa.drew = wd at hD hHeld ⊢
  have HD := Lib.hid (HA.out.none hD)
  have HRD := Lib.hid (HRA.out.trans (o3 := fun _ => False) hD (fun _ _ => id) (fun _ _ => id))
  have hbd : w.heap.size < wd.heap.size := by have := hD.size; omega
  clear hD
  refine wpAnyH_yield 0 (.pointer (some ⟨P, 0, none⟩)) rfl (by kernel_rfl) (by kernel_rfl) (by kernel_rfl) (fun d _ _ _ h => by cases d <;> exact h) (by rfl) (by assumption) (fun _ _ => by go_simp) ?_
  simp only [Act.put, List.setIfInBounds_toArray, List.set_cons_zero, List.set_cons_succ]
  refine wpAnyH_yield 1 (.pointer (some ⟨P, 0, none⟩)) rfl (by kernel_rfl) (by kernel_rfl) (by kernel_rfl) (fun d _ _ _ h => by cases d <;> exact h) (by rfl) (by assumption) (fun _ _ => by go_simp) ?_
  simp only [Act.put, List.setIfInBounds_toArray, List.set_cons_zero, List.set_cons_succ]
  refine wpAnyH_yield 2 (.pointer (some ⟨P, 0, none⟩)) rfl (by kernel_rfl) (by kernel_rfl) (by kernel_rfl) (fun d _ _ _ h => by cases d <;> exact h) (by rfl) (by assumption) (fun _ _ => by go_simp) ?_
  simp only [Act.put, List.setIfInBounds_toArray, List.set_cons_zero, List.set_cons_succ]
  refine wpAnyH_yield 3 (.iface 49 (.pointer (some ⟨P, 0, none⟩))) rfl (by kernel_rfl) (by kernel_rfl) (by kernel_rfl) (fun d _ _ _ h => by cases d <;> exact h) (by rfl) (by assumption) (fun _ _ => by go_simp) ?_
  simp only [Act.put, List.setIfInBounds_toArray, List.set_cons_zero, List.set_cons_succ]
  refine wpAnyH_yield 4 (.agg #[.int .i64 u, .int .i64 c, .int .i64 s, .int .i64 g, .int .i64 x]) rfl (by kernel_rfl) (by kernel_rfl) (by kernel_rfl) (fun d _ _ _ h => by cases d <;> exact h) (by rfl) (by assumption) (fun _ hSw => by (try dsimp only at hSw); go_simp) ?_
  simp only [Act.put, List.setIfInBounds_toArray, List.set_cons_zero, List.set_cons_succ]
  refine wpAnyH_yield 5 (.pointer (some ⟨P, 0, none⟩)) rfl (by kernel_rfl) (by kernel_rfl) (by kernel_rfl) (fun d _ _ _ h => by cases d <;> exact h) (by rfl) (by assumption) (fun _ _ => by go_simp) ?_
  simp only [Act.put, List.setIfInBounds_toArray, List.set_cons_zero, List.set_cons_succ]
  refine wpAnyH_yield 6 (.pointer (some ⟨P, 0, none⟩)) rfl (by kernel_rfl) (by kernel_rfl) (by kernel_rfl) (fun d _ _ _ h => by cases d <;> exact h) (by rfl) (by assumption) (fun _ _ => by go_simp) ?_
  simp only [Act.put, List.setIfInBounds_toArray, List.set_cons_zero, List.set_cons_succ]
  refine wpAnyH_yield 7 (.pointer (some ⟨P, 1, none⟩)) rfl (by kernel_rfl) (by kernel_rfl) (by kernel_rfl) (fun d _ _ _ h => by cases d <;> exact h) (by rfl) (by assumption) (fun _ _ => by go_simp) ?_
  simp only [Act.put, List.setIfInBounds_toArray, List.set_cons_zero, List.set_cons_succ]
  refine wpAnyH_yield 8 (.int .i64 n) rfl (by kernel_rfl) (by kernel_rfl) (by kernel_rfl) (fun d _ _ _ h => by cases d <;> exact h) (by rfl) (by assumption) (fun _ hSw => by (try dsimp only at hSw); go_simp) ?_
  simp only [Act.put, List.setIfInBounds_toArray, List.set_cons_zero, List.set_cons_succ]
  refine wpAnyH_yield 9 (.agg #[.int .i64 u, .int .i64 c, .int .i64 s, .int .i64 g, .int .i64 x, .int .i64 n]) rfl (by kernel_rfl) (by kernel_rfl) (by kernel_rfl) (fun d _ _ _ h => by cases d <;> exact h) (by rfl) (by assumption) (fun _ _ => by go_simp) ?_
  simp only [Act.put, List.setIfInBounds_toArray, List.set_cons_zero, List.set_cons_succ]
  refine wpAnyH_yield 10 (.iface 47 (.agg #[.int .i64 u, .int .i64 c, .int .i64 s, .int .i64 g, .int .i64 x, .int .i64 n])) rfl (by kernel_rfl) (by kernel_rfl) (by kernel_rfl) (fun d _ _ _ h => by cases d <;> exact h) (by rfl) (by assumption) (fun _ _ => by go_simp) ?_
  simp only [Act.put, List.setIfInBounds_toArray, List.set_cons_zero, List.set_cons_succ]
  refine wpAnyH_ready (rs := [11]) (by kernel_rfl) (by simp) (AllReadyH.cons rfl (fun K hK => ?_) AllReadyH.nil)
  go_simp
  go_at_call 16
  refine (hpush_any ⟨u, c, s, g, x, n⟩ wd HD.out (by have := HB.out; omega) (by omega) HP.out).mono ?_
  rintro e w2 ⟨rfl, g2, o2, c2, q2, hd2, hp2, hh2, hg2, hr2⟩
  have hPw := HH.out.old
  have hLw := fun k (hk : L = some k) => (HH.out.row hk).2.1
  have hbox : ∀ i, w2.cell? ⟨w.heap.size, i, none⟩ = wd.cell? ⟨w.heap.size, i, none⟩ := fun i => World.cell?_of_block (hr2.block _ hbd (fun (e : w.heap.size = P ∨ L = some w.heap.size) => by
    rcases e with e | e
    · omega
    · have := hLw _ e; omega))
  have hl2 := hd2.laid
  have hf2 : w2.frozen? ⟨P, 1, none⟩ = false := frozen_of_row _ _ _ _ _ hd2.hP
  have hnw : IntKind.i64.wrap (n + 1) = n + 1 := by rw [IntKind.wrap_i64]; omega
  have HE := Lib.hid (put_way hd2 hp2 hh2 hg2 (HRD.out.trans (o3 := fun k => k = P ∨ L = some k) hr2 (fun _ _ => False.elim) (fun _ _ => id)) HRD.out.size)
  clear hd2 hp2 hh2 hg2 hr2 HH HD HRD HA HRA HL hPw hLw
  refine hK.out _ _ ((by obtain ⟨k0, k1, k2, k3, k4, k5⟩ := hHeld; exact ⟨(hbox 0).trans k0, (hbox 1).trans k1, (hbox 2).trans k2, (hbox 3).trans k3, (hbox 4).trans k4, hl2⟩)) (fun hHeld => ?_)
  clear hK K
  try simp only [Act.put, List.setIfInBounds_toArray, List.set_cons_zero, List.set_cons_succ]
  refine wpAnyH_done (by kernel_rfl) ?_ _
  go_wp2
  go_ret
  exact ⟨rfl, HE.out⟩
end Go.Proofs.Ytfjhknmpolhfeaa
