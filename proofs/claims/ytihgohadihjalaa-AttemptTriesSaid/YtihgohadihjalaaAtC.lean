/- Moves in memory, and the contracts of wait, fail, sendAndWait and Begin. -/
import Derived.Test.YtihgohadihjalaaAtB
import Derived.Test.YtihgohadihjalaaAlmS
import Derived.Test.YtihgohadihjalaaHdA
import Derived.Test.YtihgohadihjalaaEnRow
namespace Go.Proofs.Ytihgohadihjalaa
open Go.RowKit

/-- A move's cells. -/
def At.Mv.cells (u : At.Rq) : At.Mv → List Value
  | .send n => [.int .i64 1, .int .i64 1, .int .i64 u.c, .int .i64 u.s, .int .i64 u.t, .int .i64 u.g, .int .u32 u.a, .int .i64 ((n : Int)), .bool u.su, .bool u.st, .int .i64 u.q, .int .u32 u.v, .int .i64 0, .int .i64 0, .int .i64 0, .int .i64 0, .int .i64 0]
  | .wait z x => [.int .i64 2, .int .i64 0, .int .i64 0, .int .i64 0, .int .i64 0, .int .i64 0, .int .u32 0, .int .i64 0, .bool false, .bool false, .int .i64 0, .int .u32 0, .int .i64 (z), .int .i64 (u.c), .int .i64 (u.t), .int .i64 (u.g), .int .i64 (x)]
  | .fail => [.int .i64 3, .int .i64 0, .int .i64 0, .int .i64 0, .int .i64 0, .int .i64 0, .int .u32 0, .int .i64 0, .bool false, .bool false, .int .i64 0, .int .u32 0, .int .i64 0, .int .i64 0, .int .i64 0, .int .i64 0, .int .i64 0]
/-- A row of these moves, made since the world w, or nil. -/
def Ml (w w' : World) (u : At.Rq) (e : Ending) (ms : List At.Mv) : Prop :=
  ∃ a c, e = .returned (.slice a ms.length c) ∧ ((a = none ∧ c = 0 ∧ ms = []) ∨ ∃ g off, a = some ⟨g, off, none⟩ ∧ RowK w' w.heap.size 55 17 g off ms.length c (ms.flatMap (At.Mv.cells u)))
theorem Ml.nil (w w' : World) (u : At.Rq) : Ml w w' u (.returned (.slice none 0 0)) [] := ⟨none, 0, rfl, .inl ⟨rfl, rfl, rfl⟩⟩
theorem row_one {w : World} {B g : Nat} {t : TypeId} {cs : List Value} (hB : B ≤ g) (h : w.heap[g]? = some (.cells cs.toArray t (0, 0))) (hs : cs.length = 17) : RowK w B t 17 g 0 1 1 cs :=
  ⟨by omega, hB, Nat.le_refl _, by unfold maxLen; omega, cs.toArray, h, by simp [hs], fun j u hj => by simpa using hj⟩
theorem Ml.one {w w' : World} {u : At.Rq} {g : Nat} {m : At.Mv} (hB : w.heap.size ≤ g) (h : w'.heap[g]? = some (.cells (m.cells u).toArray 55 (0, 0))) : Ml w w' u (.returned (.slice (some ⟨g, 0, none⟩) 1 1)) [m] := by
  refine ⟨_, _, rfl, .inr ⟨g, 0, rfl, ?_⟩⟩
  rw [List.flatMap_singleton]
  exact row_one hB h (by cases m <;> rfl)

/-- One more is put behind a row of moves. -/
theorem run_append_move {w : World} {B g off n cap : Nat} {xs cs : List Value} (hr : RowK w B 55 17 g off n cap xs) (hn : n ≤ 1000) (hcs : cs.length = 17) (h1 : ∀ u ∈ cs, u.oneCell' = true) {b : Nat} (hb : w.heap[b]? = some (.cells cs.toArray 55 (0, 0))) (hB : B ≤ w.heap.size) :
    ∃ g' off' cap' w', (Builtin.append_ #[35, 35] 35 #[.slice (some ⟨g, off, none⟩) n cap, .slice (some ⟨b, 0, none⟩) 1 1]).run Try.prog w = .ok (.slice (some ⟨g', off', none⟩) (n + 1) cap') w' ∧ RowK w' B 55 17 g' off' (n + 1) cap' (xs ++ cs) ∧ w.grownBy w' (some g) := by
  have hi := Try.infoMove
  cases hq : Try.prog.info? 55 with
  | none => simp [hq] at hi
  | some i =>
    simp only [hq, Option.map_some, Option.some.injEq, Prod.mk.injEq, Option.map_eq_some_iff] at hi
    obtain ⟨⟨z, hz, hzs⟩, hs, hby⟩ := hi
    obtain ⟨g', off', cap', w', k1, k2, k3, -⟩ := run_append_rowK (P := Try.prog) w 35 35 B 17 55 i z 128 Try.underlying35 hq hz hs hby hzs (by decide) g off n cap xs hr ⟨b, 0, none⟩ 1 1 cs (by omega) (fun j u hu => by rw [Addr.add_lit, cell_of_row _ _ _ _ _ _ hb]; simpa using hu) h1 (by unfold maxLen; omega) (by omega) hB
    exact ⟨g', off', cap', w', k1, k2, k3⟩

/-- fail. -/
theorem tfail_any (u : At.Rq) (w : World) : Calls Try.prog 19 #[] w fun e w' => Ml w w' u e [.fail] ∧ Below w.heap.size w w' := by
  go_enter Try.func19, Try.ntmps19
  go_wp2
  go_ret
  exact ⟨Ml.one (m := .fail) (Nat.le_refl _) (heap_alloc_new _ _), below_box _ _⟩

/-- wait. -/
theorem twait_any (z c s g x : Int) (w : World) : Calls Try.prog 23 #[.agg #[.int .i64 z, .int .i64 c, .int .i64 s, .int .i64 g, .int .i64 x]] w fun e w' => e = .returned (.agg #[.int .i64 2, .int .i64 0, .int .i64 0, .int .i64 0, .int .i64 0, .int .i64 0, .int .u32 0, .int .i64 0, .bool false, .bool false, .int .i64 0, .int .u32 0, .int .i64 (z), .int .i64 (c), .int .i64 (s), .int .i64 (g), .int .i64 (x)]) ∧ Below w.heap.size w w' := by
  go_enter Try.func23, Try.ntmps23
  go_wp2
  exact bodyPost_ret (results_cell_row Try.results23 _ _ (w.heap.size + 1) 55 _ (0, 0) _ rfl (heap_alloc2_new _ _ _) Try.underlying55 rfl Try.sizeMove) rfl ⟨rfl, below_two _ _ _⟩

set_option maxHeartbeats 2000000 in
/-- sendAndWait. -/
theorem tsw_any {P : Nat} {u : At.Rq} {s : At.St} (hn : s.n < 16) (now : Int) (w : World) (h : w.heap[P]? = some (att u s)) : Calls Try.prog 16 #[.pointer (some ⟨P, 0, none⟩), .int .i64 now] w fun e w' =>
    Ml w w' u e (At.moves u s now) ∧ w'.heap[P]? = some (att u s.sent) ∧ Rest (fun i => i = P) w w' := by
  have hsend := fun w h => tsend_any (P := P) (u := u) hn w h
  have HM := Lib.hid (show At.moves u s now = .send s.n :: (if Hd.next u.hm u.A (s.h : Int) now u.E = 1099511627776 then [] else [.wait (Hd.next u.hm u.A (s.h : Int) now u.E) 3]) from rfl)
  have HS := Lib.hid (fun (h : Hd.next u.hm u.A (s.h : Int) now u.E ≠ 1099511627776) => At.next_soon h)
  have hnext := fun w => hnext_any u.M u.A u.k u.c u.s u.t u.g u.a u.r u.q u.v u.su u.st (s.h : Int) now u.E w
  rw [show Hd.most u.M u.A u.su u.st = u.hm from rfl] at hnext
  generalize At.moves u s now = ms at HM ⊢
  generalize Hd.next u.hm u.A (s.h : Int) now u.E = z at HM HS hnext
  go_enter Try.func16, Try.ntmps16
  go_wp2_with fail
  refine (hsend _ h).mono ?_
  rintro e w1 ⟨rfl, hp, hr⟩
  have H1 := Lib.hid (((Upon.one (own := fun i => i = P) h rfl).put hr hp).lay (.cells #[.int .i64 1, .int .i64 1, .int .i64 u.c, .int .i64 u.s, .int .i64 u.t, .int .i64 u.g, .int .u32 u.a, .int .i64 ((s.n : Int)), .bool u.su, .bool u.st, .int .i64 u.q, .int .u32 u.v, .int .i64 0, .int .i64 0, .int .i64 0, .int .i64 0, .int .i64 0] 55))
  have HG := Lib.hid hr.size
  clear hp hr h hsend
  go_upto_region 2 with fail
  generalize w1.alloc _ = w2 at H1 ⊢
  generalize w1.heap.size = G at H1 HG ⊢
  have hS := att_rq (H1.out.get 1 rfl)
  obtain ⟨-, -, h16, -⟩ := att_nums (H1.out.get 1 rfl)
  refine wp_region_held_drew (S := fun w' => Rqc u w' P ∧ w'.cell? ⟨P, 16, none⟩ = some (.int .i64 (s.h : Int))) (by kernel_rfl) ⟨hS, h16⟩ (fun hHeld => ?_)
  have H2 := Lib.hid H1.out.drew
  clear H1 hS h16
  generalize w2.drew = wd at H2 hHeld ⊢
  refine wpAnyH_yield 0 ((.pointer (some ⟨P, 0, none⟩))) rfl (by kernel_rfl) (by kernel_rfl) (by kernel_rfl) (fun d _ _ _ h => by cases d <;> exact h) (by rfl) (by assumption) (fun _ _ => by go_simp) ?_
  simp only [Act.put, List.setIfInBounds_toArray, List.set_cons_zero, List.set_cons_succ]
  refine wpAnyH_yield 1 ((.pointer (some ⟨P, 0, none⟩))) rfl (by kernel_rfl) (by kernel_rfl) (by kernel_rfl) (fun d _ _ _ h => by cases d <;> exact h) (by rfl) (by assumption) (fun _ _ => by go_simp) ?_
  simp only [Act.put, List.setIfInBounds_toArray, List.set_cons_zero, List.set_cons_succ]
  refine wpAnyH_yield 2 ((.pointer (some ⟨P, 12, none⟩))) rfl (by kernel_rfl) (by kernel_rfl) (by kernel_rfl) (fun d _ _ _ h => by cases d <;> exact h) (by rfl) (by assumption) (fun _ _ => by go_simp) ?_
  simp only [Act.put, List.setIfInBounds_toArray, List.set_cons_zero, List.set_cons_succ]
  refine wpAnyH_yield 3 ((.agg #[.int .i64 u.M, .int .i64 u.A])) rfl (by kernel_rfl) (by kernel_rfl) (by kernel_rfl) (fun d _ _ _ h => by cases d <;> exact h) (by rfl) (by assumption) (fun _ hSw => by (try dsimp only [Rqc] at hSw); go_simp) ?_
  simp only [Act.put, List.setIfInBounds_toArray, List.set_cons_zero, List.set_cons_succ]
  refine wpAnyH_yield 4 ((.pointer (some ⟨P, 0, none⟩))) rfl (by kernel_rfl) (by kernel_rfl) (by kernel_rfl) (fun d _ _ _ h => by cases d <;> exact h) (by rfl) (by assumption) (fun _ _ => by go_simp) ?_
  simp only [Act.put, List.setIfInBounds_toArray, List.set_cons_zero, List.set_cons_succ]
  refine wpAnyH_yield 5 ((.pointer (some ⟨P, 0, none⟩))) rfl (by kernel_rfl) (by kernel_rfl) (by kernel_rfl) (fun d _ _ _ h => by cases d <;> exact h) (by rfl) (by assumption) (fun _ _ => by go_simp) ?_
  simp only [Act.put, List.setIfInBounds_toArray, List.set_cons_zero, List.set_cons_succ]
  refine wpAnyH_yield 6 ((.pointer (some ⟨P, 0, none⟩))) rfl (by kernel_rfl) (by kernel_rfl) (by kernel_rfl) (fun d _ _ _ h => by cases d <;> exact h) (by rfl) (by assumption) (fun _ _ => by go_simp) ?_
  simp only [Act.put, List.setIfInBounds_toArray, List.set_cons_zero, List.set_cons_succ]
  refine wpAnyH_yield 7 ((.agg #[.int .i64 u.k, .int .i64 u.c, .int .i64 u.s, .int .i64 u.t, .int .i64 u.g, .int .u32 u.a, .int .i64 u.r, .bool u.su, .bool u.st, .int .i64 u.q, .int .u32 u.v])) rfl (by kernel_rfl) (by kernel_rfl) (by kernel_rfl) (fun d _ _ _ h => by cases d <;> exact h) (by rfl) (by assumption) (fun _ hSw => by (try dsimp only [Rqc] at hSw); go_simp) ?_
  simp only [Act.put, List.setIfInBounds_toArray, List.set_cons_zero, List.set_cons_succ]
  refine wpAnyH_yield 8 ((.pointer (some ⟨P, 0, none⟩))) rfl (by kernel_rfl) (by kernel_rfl) (by kernel_rfl) (fun d _ _ _ h => by cases d <;> exact h) (by rfl) (by assumption) (fun _ _ => by go_simp) ?_
  simp only [Act.put, List.setIfInBounds_toArray, List.set_cons_zero, List.set_cons_succ]
  refine wpAnyH_yield 9 ((.pointer (some ⟨P, 0, none⟩))) rfl (by kernel_rfl) (by kernel_rfl) (by kernel_rfl) (fun d _ _ _ h => by cases d <;> exact h) (by rfl) (by assumption) (fun _ _ => by go_simp) ?_
  simp only [Act.put, List.setIfInBounds_toArray, List.set_cons_zero, List.set_cons_succ]
  refine wpAnyH_yield 10 ((.pointer (some ⟨P, 16, none⟩))) rfl (by kernel_rfl) (by kernel_rfl) (by kernel_rfl) (fun d _ _ _ h => by cases d <;> exact h) (by rfl) (by assumption) (fun _ _ => by go_simp) ?_
  simp only [Act.put, List.setIfInBounds_toArray, List.set_cons_zero, List.set_cons_succ]
  refine wpAnyH_yield 11 ((.int .i64 (s.h : Int))) rfl (by kernel_rfl) (by kernel_rfl) (by kernel_rfl) (fun d _ _ _ h => by cases d <;> exact h) (by rfl) (by assumption) (fun _ hSw => by (try dsimp only [Rqc] at hSw); go_simp) ?_
  simp only [Act.put, List.setIfInBounds_toArray, List.set_cons_zero, List.set_cons_succ]
  refine wpAnyH_yield 12 ((.int .i64 now)) rfl (by kernel_rfl) (by kernel_rfl) (by kernel_rfl) (fun d _ _ _ h => by cases d <;> exact h) (by rfl) (by assumption) (fun _ _ => by go_simp) ?_
  simp only [Act.put, List.setIfInBounds_toArray, List.set_cons_zero, List.set_cons_succ]
  refine wpAnyH_yield 13 ((.pointer (some ⟨P, 0, none⟩))) rfl (by kernel_rfl) (by kernel_rfl) (by kernel_rfl) (fun d _ _ _ h => by cases d <;> exact h) (by rfl) (by assumption) (fun _ _ => by go_simp) ?_
  simp only [Act.put, List.setIfInBounds_toArray, List.set_cons_zero, List.set_cons_succ]
  refine wpAnyH_yield 14 ((.pointer (some ⟨P, 0, none⟩))) rfl (by kernel_rfl) (by kernel_rfl) (by kernel_rfl) (fun d _ _ _ h => by cases d <;> exact h) (by rfl) (by assumption) (fun _ _ => by go_simp) ?_
  simp only [Act.put, List.setIfInBounds_toArray, List.set_cons_zero, List.set_cons_succ]
  refine wpAnyH_yield 15 ((.pointer (some ⟨P, 11, none⟩))) rfl (by kernel_rfl) (by kernel_rfl) (by kernel_rfl) (fun d _ _ _ h => by cases d <;> exact h) (by rfl) (by assumption) (fun _ _ => by go_simp) ?_
  simp only [Act.put, List.setIfInBounds_toArray, List.set_cons_zero, List.set_cons_succ]
  refine wpAnyH_yield 16 ((.int .i64 u.E)) rfl (by kernel_rfl) (by kernel_rfl) (by kernel_rfl) (fun d _ _ _ h => by cases d <;> exact h) (by rfl) (by assumption) (fun _ hSw => by (try dsimp only [Rqc] at hSw); go_simp) ?_
  simp only [Act.put, List.setIfInBounds_toArray, List.set_cons_zero, List.set_cons_succ]
  refine wpAnyH_ready (rs := [17]) (by kernel_rfl) (by simp) (AllReadyH.cons rfl (fun K hK => ?_) AllReadyH.nil)
  go_simp
  go_at_call 27
  refine (hnext _).mono ?_
  rintro e w3 ⟨rfl, hb⟩
  have H3 := Lib.hid (H2.out.call hb)
  clear hb H2 hnext
  have hS := att_rq (H3.out.get 1 rfl)
  obtain ⟨-, -, h16, -⟩ := att_nums (H3.out.get 1 rfl)
  refine hK.out _ _ (⟨hS, h16⟩) (fun hHeld => ?_)
  clear hK K
  try simp only [Act.put, List.setIfInBounds_toArray, List.set_cons_zero, List.set_cons_succ]
  refine wpAnyH_yield 18 ((.int .i64 z)) rfl (by kernel_rfl) (by kernel_rfl) (by kernel_rfl) (fun d _ _ _ h => by cases d <;> exact h) (by rfl) (by assumption) (fun _ _ => by go_simp) ?_
  simp only [Act.put, List.setIfInBounds_toArray, List.set_cons_zero, List.set_cons_succ]
  refine wpAnyH_done (by kernel_rfl) ?_ _
  by_cases hz : z = 1099511627776
  · subst hz
    have HE := Lib.hid (HM.out.trans (by rw [if_pos rfl]))
    clear HM HS
    go_wp2_with fail
    go_ret
    rw [HE.out]
    exact ⟨Ml.one (m := .send s.n) HG.out (H3.out.get 0 rfl), H3.out.get 1 rfl, H3.out.rest⟩
  · have HE := Lib.hid (HM.out.trans (by rw [if_neg hz]))
    have hnz : (z != 1099511627776) = true := by simpa using hz
    have hs := HS.out hz
    clear HM HS hz
    go_wp2_with fail
    have hS := att_rq (H3.out.get 1 rfl)
    refine wp_region_held_drew (S := fun w' => Rqc u w' P) (by kernel_rfl) hS (fun hHeld => ?_)
    have H4 := Lib.hid H3.out.drew
    clear H3 hS h16
    generalize w3.drew = wd2 at H4 hHeld ⊢
    refine wpAnyH_yield 0 ((.slice (some ⟨G, 0, none⟩) 1 1)) rfl (by kernel_rfl) (by kernel_rfl) (by kernel_rfl) (fun d _ _ _ h => by cases d <;> exact h) (by rfl) (by assumption) (fun _ _ => by go_simp) ?_
    simp only [Act.put, List.setIfInBounds_toArray, List.set_cons_zero, List.set_cons_succ]
    refine wpAnyH_yield 1 ((.int .i64 z)) rfl (by kernel_rfl) (by kernel_rfl) (by kernel_rfl) (fun d _ _ _ h => by cases d <;> exact h) (by rfl) (by assumption) (fun _ _ => by go_simp) ?_
    simp only [Act.put, List.setIfInBounds_toArray, List.set_cons_zero, List.set_cons_succ]
    refine wpAnyH_yield 2 ((.pointer (some ⟨P, 0, none⟩))) rfl (by kernel_rfl) (by kernel_rfl) (by kernel_rfl) (fun d _ _ _ h => by cases d <;> exact h) (by rfl) (by assumption) (fun _ _ => by go_simp) ?_
    simp only [Act.put, List.setIfInBounds_toArray, List.set_cons_zero, List.set_cons_succ]
    refine wpAnyH_yield 3 ((.pointer (some ⟨P, 0, none⟩))) rfl (by kernel_rfl) (by kernel_rfl) (by kernel_rfl) (fun d _ _ _ h => by cases d <;> exact h) (by rfl) (by assumption) (fun _ _ => by go_simp) ?_
    simp only [Act.put, List.setIfInBounds_toArray, List.set_cons_zero, List.set_cons_succ]
    refine wpAnyH_yield 4 ((.pointer (some ⟨P, 11, none⟩))) rfl (by kernel_rfl) (by kernel_rfl) (by kernel_rfl) (fun d _ _ _ h => by cases d <;> exact h) (by rfl) (by assumption) (fun _ _ => by go_simp) ?_
    simp only [Act.put, List.setIfInBounds_toArray, List.set_cons_zero, List.set_cons_succ]
    refine wpAnyH_yield 5 ((.int .i64 u.E)) rfl (by kernel_rfl) (by kernel_rfl) (by kernel_rfl) (fun d _ _ _ h => by cases d <;> exact h) (by rfl) (by assumption) (fun _ hSw => by (try dsimp only [Rqc] at hSw); go_simp) ?_
    simp only [Act.put, List.setIfInBounds_toArray, List.set_cons_zero, List.set_cons_succ]
    refine wpAnyH_yield 6 ((.pointer (some ⟨P, 0, none⟩))) rfl (by kernel_rfl) (by kernel_rfl) (by kernel_rfl) (fun d _ _ _ h => by cases d <;> exact h) (by rfl) (by assumption) (fun _ _ => by go_simp) ?_
    simp only [Act.put, List.setIfInBounds_toArray, List.set_cons_zero, List.set_cons_succ]
    refine wpAnyH_yield 7 ((.pointer (some ⟨P, 0, none⟩))) rfl (by kernel_rfl) (by kernel_rfl) (by kernel_rfl) (fun d _ _ _ h => by cases d <;> exact h) (by rfl) (by assumption) (fun _ _ => by go_simp) ?_
    simp only [Act.put, List.setIfInBounds_toArray, List.set_cons_zero, List.set_cons_succ]
    refine wpAnyH_yield 8 ((.pointer (some ⟨P, 0, none⟩))) rfl (by kernel_rfl) (by kernel_rfl) (by kernel_rfl) (fun d _ _ _ h => by cases d <;> exact h) (by rfl) (by assumption) (fun _ _ => by go_simp) ?_
    simp only [Act.put, List.setIfInBounds_toArray, List.set_cons_zero, List.set_cons_succ]
    refine wpAnyH_yield 9 ((.agg #[.int .i64 u.k, .int .i64 u.c, .int .i64 u.s, .int .i64 u.t, .int .i64 u.g, .int .u32 u.a, .int .i64 u.r, .bool u.su, .bool u.st, .int .i64 u.q, .int .u32 u.v])) rfl (by kernel_rfl) (by kernel_rfl) (by kernel_rfl) (fun d _ _ _ h => by cases d <;> exact h) (by rfl) (by assumption) (fun _ hSw => by (try dsimp only [Rqc] at hSw); go_simp) ?_
    simp only [Act.put, List.setIfInBounds_toArray, List.set_cons_zero, List.set_cons_succ]
    refine wpAnyH_ready (rs := [10]) (by kernel_rfl) (by simp) (AllReadyH.cons rfl (fun K hK => ?_) AllReadyH.nil)
    go_simp
    go_at_call 20
    refine (soon_any z 0 u.E u.k u.c u.s u.t u.g u.a u.r u.q u.v 3 u.su u.st _).mono ?_
    rintro e w4 ⟨rfl, hb⟩
    have H5 := Lib.hid (H4.out.call hb)
    rw [hs]
    clear hb H4
    refine hK.out _ _ (att_rq (H5.out.get 1 rfl)) (fun hHeld => ?_)
    clear hK K
    try simp only [Act.put, List.setIfInBounds_toArray, List.set_cons_zero, List.set_cons_succ]
    refine wpAnyH_ready (rs := [11]) (by kernel_rfl) (by simp) (AllReadyH.cons rfl (fun K hK => ?_) AllReadyH.nil)
    go_simp
    go_at_call 23
    refine (twait_any z u.c u.t u.g 3 _).mono ?_
    rintro e w5 ⟨rfl, hb⟩
    have H6 := Lib.hid (H5.out.call hb)
    clear hb H5
    refine hK.out _ _ (att_rq (H6.out.get 1 rfl)) (fun hHeld => ?_)
    clear hK K
    try simp only [Act.put, List.setIfInBounds_toArray, List.set_cons_zero, List.set_cons_succ]
    refine wpAnyH_ready (rs := [12]) (by kernel_rfl) (by simp) (AllReadyH.cons rfl (fun K hK => ?_) AllReadyH.nil)
    go_simp
    have H7 := Lib.hid (H6.out.lay (.cells #[.int .i64 2, .int .i64 0, .int .i64 0, .int .i64 0, .int .i64 0, .int .i64 0, .int .u32 0, .int .i64 0, .bool false, .bool false, .int .i64 0, .int .u32 0, .int .i64 (z), .int .i64 (u.c), .int .i64 (u.t), .int .i64 (u.g), .int .i64 (3)] 55))
    clear H6
    refine hK.out _ _ (att_rq (H7.out.get 2 rfl)) (fun hHeld => ?_)
    clear hK K
    try simp only [Act.put, List.setIfInBounds_toArray, List.set_cons_zero, List.set_cons_succ]
    have HG5 := Lib.hid (H7.out.rest.size)
    generalize w5.heap.size = F at H7 ⊢
    generalize w5.alloc _ = w7 at H7 HG5 ⊢
    obtain ⟨g', off', cap', w8, hrun, hrow, hgr⟩ := run_append_move (row_one HG.out (H7.out.get 1 rfl) rfl) (by omega) (b := F) rfl (by intro v hv; simp only [List.mem_cons, List.not_mem_nil, or_false] at hv; rcases hv with rfl | rfl | rfl | rfl | rfl | rfl | rfl | rfl | rfl | rfl | rfl | rfl | rfl | rfl | rfl | rfl | rfl <;> rfl) (H7.out.get 0 rfl) HG5.out
    have hP := H7.out.get 2 rfl
    have hF := H7.out.of 1 rfl
    have hap := H7.out.apart
    have HP := Lib.hid ((hgr.block P (heap_lt hP) (fun e => by
      have e' : P = G := by simpa using e
      simp [e'] at hap)).trans hP)
    have HR := Lib.hid (H7.out.rest.trans (o3 := fun i => i = P) (Rest.grown (own := fun k => k = G) hgr (fun k e => by cases e; rfl)) (fun _ _ => id) (fun i hi e => by have := HG.out; omega))
    clear hP hF hap
    refine wpAnyH_ready (rs := [13]) (by kernel_rfl) (by simp) (AllReadyH.cons rfl (fun K hK => ?_) AllReadyH.nil)
    refine step_append_run rfl _ _ 35 rfl rfl rfl hrun ?_
    refine hK.out _ _ (att_rq HP.out) (fun hHeld => ?_)
    clear hK K
    try simp only [Act.put, List.setIfInBounds_toArray]
    refine wpAnyH_yield 14 ((.slice (some ⟨g', off', none⟩) (1 + 1) cap')) rfl (by kernel_rfl) (by kernel_rfl) (by kernel_rfl) (fun d _ _ _ h => by cases d <;> exact h) (by rfl) (by assumption) (fun _ _ => by go_simp) ?_
    simp only [Act.put]
    refine wpAnyH_done (by kernel_rfl) ?_ _
    go_wp2_with fail
    go_ret
    rw [HE.out]
    exact ⟨⟨_, _, rfl, .inr ⟨g', off', rfl, hrow⟩⟩, HP.out, HR.out⟩
end Go.Proofs.Ytihgohadihjalaa
