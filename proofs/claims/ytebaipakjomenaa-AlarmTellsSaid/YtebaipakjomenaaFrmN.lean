/- Near: a frame that may be, or one that nearly may be. -/
import Derived.Test.YtebaipakjomenaaFrmT
import Derived.Deep.RegionHeld3
namespace Go.Proofs.Ytebaipakjomenaa
open Go.RowKit

/-- Frames whose numbers are the same are one. -/
theorem ret_fr {k c s t g a r q v k' c' s' t' g' a' r' q' v' : Int} {su st su' st' : Bool} (h0 : k = k') (h1 : c = c') (h2 : s = s') (h3 : t = t') (h4 : g = g') (h5 : a = a') (h6 : r = r') (h7 : su = su') (h8 : st = st') (h9 : q = q') (h10 : v = v') :
    Ending.returned (.agg #[.int .i64 k, .int .i64 c, .int .i64 s, .int .i64 t, .int .i64 g, .int .u32 a, .int .i64 r, .bool su, .bool st, .int .i64 q, .int .u32 v]) = .returned (.agg #[.int .i64 k', .int .i64 c', .int .i64 s', .int .i64 t', .int .i64 g', .int .u32 a', .int .i64 r', .bool su', .bool st', .int .i64 q', .int .u32 v']) := by
  rw [h0, h1, h2, h3, h4, h5, h6, h7, h8, h9, h10]

set_option maxRecDepth 100000 in
set_option maxHeartbeats 4000000 in
/-- With 0: a frame that may be. -/
theorem near_zero (k c s t g a r q v : Int) (su st : Bool) (ha : 0 ≤ a ∧ a ≤ 4294967295) (hv : 0 ≤ v ∧ v ≤ 4294967295) (w : World) :
    Calls Try.prog 10 #[.agg #[.int .i64 k, .int .i64 c, .int .i64 s, .int .i64 t, .int .i64 g, .int .u32 a, .int .i64 r, .bool su, .bool st, .int .i64 q, .int .u32 v], .int .i64 0] w fun e w' => (∃ f : Fm.Fr, f.Ok ∧ e = .returned (.agg #[.int .i64 (f.kind : Int), .int .i64 (f.client : Int), .int .i64 (f.service : Int), .int .i64 (f.slot : Int), .int .i64 (f.gen : Int), .int .u32 (f.call : Int), .int .i64 (f.tr : Int), .bool f.sure, .bool f.stream, .int .i64 (f.seq : Int), .int .u32 (f.value : Int)])) ∧ Below w.heap.size w w' := by
  have m1 := low255 k
  have m2 := low3 c
  have m3 := low3 s
  have m4 := low15 t
  have m5 := low24 g
  have m6 := low15 r
  have m7 := low16 q
  have m8 := low31 0
  go_enter Try.func10, Try.ntmps10
  go_wp2_with fail
  go_region_held3 (fun w' => w'.cell? ⟨w.heap.size, 0, none⟩ = some (.int .i64 k) ∧ w'.cell? ⟨w.heap.size, 1, none⟩ = some (.int .i64 c) ∧ w'.cell? ⟨w.heap.size, 2, none⟩ = some (.int .i64 s) ∧ w'.cell? ⟨w.heap.size, 3, none⟩ = some (.int .i64 t))
    (first | assumption | simp)
    (first | fail)
  go_wp2_with fail
  go_region_held3 (fun w' => w'.cell? ⟨w.heap.size, 4, none⟩ = some (.int .i64 g) ∧ w'.cell? ⟨w.heap.size, 6, none⟩ = some (.int .i64 r) ∧ w'.cell? ⟨w.heap.size, 9, none⟩ = some (.int .i64 q))
    (first | assumption | simp)
    (first | fail)
  have hk0 : (k % 256).tmod 10 = k % 256 % 10 := Int.tmod_eq_emod_of_nonneg (by omega)
  clear m1 m2 m3 m4 m5 m6 m7
  go_wp2_with fail
  refine bodyPost_ret (results_cell_row Try.results10 _ _ (w.heap.size + 1) 27 _ (0, 0) _ rfl (heap_alloc2_new _ _ _) Try.underlying27 rfl Try.sizeFrame) rfl ⟨⟨⟨(k % 256 % 10 + 1).toNat, (c % 4).toNat, (s % 4).toNat, (t % 16).toNat, (g % 16777216).toNat, a.toNat, (r % 16).toNat, su, st, (q % 65536).toNat, v.toNat⟩, by unfold Fm.Fr.Ok; dsimp only; omega, ret_fr (by dsimp only; omega) (by dsimp only; omega) (by dsimp only; omega) (by dsimp only; omega) (by dsimp only; omega) (by dsimp only; omega) (by dsimp only; omega) rfl rfl (by dsimp only; omega) (by dsimp only; omega)⟩, (below_two _ _ _).drew.drew⟩

set_option maxRecDepth 100000 in
set_option maxHeartbeats 8000000 in
/-- With any number: some frame. -/
theorem near_any (k c s t g a r q v n : Int) (su st : Bool) (w : World) :
    Calls Try.prog 10 #[.agg #[.int .i64 k, .int .i64 c, .int .i64 s, .int .i64 t, .int .i64 g, .int .u32 a, .int .i64 r, .bool su, .bool st, .int .i64 q, .int .u32 v], .int .i64 n] w fun e w' => (∃ k' c' s' t' g' r' q' : Int, e = .returned (.agg #[.int .i64 k', .int .i64 c', .int .i64 s', .int .i64 t', .int .i64 g', .int .u32 a, .int .i64 r', .bool su, .bool st, .int .i64 q', .int .u32 v])) ∧ Below w.heap.size w w' := by
  have m1 := low255 k
  have m2 := low3 c
  have m3 := low3 s
  have m4 := low15 t
  have m5 := low24 g
  have m6 := low15 r
  have m7 := low16 q
  obtain ⟨o, ho⟩ : ∃ o, o = n % 32 := ⟨_, rfl⟩
  have m8 : bits .and .i64 n 31 = o := by rw [low31, ho]
  clear ho
  go_enter Try.func10, Try.ntmps10
  go_wp2_with fail
  go_region_held3 (fun w' => w'.cell? ⟨w.heap.size, 0, none⟩ = some (.int .i64 k) ∧ w'.cell? ⟨w.heap.size, 1, none⟩ = some (.int .i64 c) ∧ w'.cell? ⟨w.heap.size, 2, none⟩ = some (.int .i64 s) ∧ w'.cell? ⟨w.heap.size, 3, none⟩ = some (.int .i64 t))
    (first | assumption | simp)
    (first | fail)
  go_wp2_with fail
  go_region_held3 (fun w' => w'.cell? ⟨w.heap.size, 4, none⟩ = some (.int .i64 g) ∧ w'.cell? ⟨w.heap.size, 6, none⟩ = some (.int .i64 r) ∧ w'.cell? ⟨w.heap.size, 9, none⟩ = some (.int .i64 q))
    (first | assumption | simp)
    (first | fail)
  clear m1 m2 m3 m4 m5 m6 m7
  rcases (show o = 1 ∨ o = 2 ∨ o = 3 ∨ o = 4 ∨ o = 5 ∨ o = 6 ∨ (o ≠ 1 ∧ o ≠ 2 ∧ o ≠ 3 ∧ o ≠ 4 ∧ o ≠ 5 ∧ o ≠ 6) by omega) with e | e | e | e | e | e | ⟨e1, e2, e3, e4, e5, e6⟩
  · subst e
    go_wp2_with fail
    refine bodyPost_ret (results_cell_row Try.results10 _ _ (w.heap.size + 1) 27 _ (0, 0) _ rfl (heap_alloc2_new _ _ _) Try.underlying27 rfl Try.sizeFrame) rfl ⟨⟨_, _, _, _, _, _, _, rfl⟩, (below_two _ _ _).drew.drew⟩
  · subst e
    go_wp2_with fail
    refine bodyPost_ret (results_cell_row Try.results10 _ _ (w.heap.size + 1) 27 _ (0, 0) _ rfl (heap_alloc2_new _ _ _) Try.underlying27 rfl Try.sizeFrame) rfl ⟨⟨_, _, _, _, _, _, _, rfl⟩, (below_two _ _ _).drew.drew⟩
  · subst e
    go_wp2_with fail
    refine bodyPost_ret (results_cell_row Try.results10 _ _ (w.heap.size + 1) 27 _ (0, 0) _ rfl (heap_alloc2_new _ _ _) Try.underlying27 rfl Try.sizeFrame) rfl ⟨⟨_, _, _, _, _, _, _, rfl⟩, (below_two _ _ _).drew.drew⟩
  · subst e
    go_wp2_with fail
    refine bodyPost_ret (results_cell_row Try.results10 _ _ (w.heap.size + 1) 27 _ (0, 0) _ rfl (heap_alloc2_new _ _ _) Try.underlying27 rfl Try.sizeFrame) rfl ⟨⟨_, _, _, _, _, _, _, rfl⟩, (below_two _ _ _).drew.drew⟩
  · subst e
    go_wp2_with fail
    refine bodyPost_ret (results_cell_row Try.results10 _ _ (w.heap.size + 1) 27 _ (0, 0) _ rfl (heap_alloc2_new _ _ _) Try.underlying27 rfl Try.sizeFrame) rfl ⟨⟨_, _, _, _, _, _, _, rfl⟩, (below_two _ _ _).drew.drew⟩
  · subst e
    go_wp2_with fail
    go_region_held3 (fun w' => w'.cell? ⟨w.heap.size, 2, none⟩ = some (.int .i64 s) ∧ w'.cell? ⟨w.heap.size, 6, none⟩ = some (.int .i64 r))
      (first | assumption | simp)
      (first | fail)
    go_wp2_with fail
    refine bodyPost_ret (results_cell_row Try.results10 _ _ (w.heap.size + 1) 27 _ (0, 0) _ rfl (heap_alloc2_new _ _ _) Try.underlying27 rfl Try.sizeFrame) rfl ⟨⟨_, _, _, _, _, _, _, rfl⟩, (below_two _ _ _).drew.drew.drew⟩
  · go_wp2_with fail
    refine bodyPost_ret (results_cell_row Try.results10 _ _ (w.heap.size + 1) 27 _ (0, 0) _ rfl (heap_alloc2_new _ _ _) Try.underlying27 rfl Try.sizeFrame) rfl ⟨⟨_, _, _, _, _, _, _, rfl⟩, (below_two _ _ _).drew.drew⟩

end Go.Proofs.Ytebaipakjomenaa
