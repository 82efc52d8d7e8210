/- The first try; no call has no tries, what was not begun does nothing. -/
import Derived.Test.YtihgohadihjalaaAtD
import Derived.Test.YtihgohadihjalaaAtF
namespace Go.Proofs.Ytihgohadihjalaa
open Go.RowKit

theorem At.hedges_none {u : At.Rq} (s : At.St) (now : Int) (h : u.hm = 0) : At.hedges u s now = [] := by
  unfold At.hedges
  rw [if_pos (Hd.next_few (.inr (by rw [h]; omega)))]
theorem At.begin_new {u : At.Rq} (now : Int) : At.begin_ u At.St.new now = (At.St.new.sent, At.moves u At.St.new now) := by
  unfold At.begin_
  rw [if_neg (show ¬0 < At.St.new.n from Nat.lt_irrefl _)]

set_option maxHeartbeats 1000000 in
set_option maxRecDepth 100000 in
theorem awake20_any (w : World) : Calls Try.prog 7 #[] w fun e w' => e = .returned (.bool true) ∧ Below w.heap.size w w' := by
  have hnew := fun w => tnew_any ⟨0, 0, 0, 2, 3, 0, 0, false, false, 0, 0, 100, 0, 0⟩ w
  have hm : At.Rq.hm ⟨0, 0, 0, 2, 3, 0, 0, false, false, 0, 0, 100, 0, 0⟩ = 0 := Hd.most_zero 0 (Tk.clamp_in (by decide) (by decide))
  dsimp only at hnew
  generalize (⟨0, 0, 0, 2, 3, 0, 0, false, false, 0, 0, 100, 0, 0⟩ : At.Rq) = u at hnew hm
  have hbeg := fun w P h => tbegin_any (P := P) (u := u) (s := .new) 0 w h
  rw [At.begin_new, show At.moves u At.St.new 0 = [.send 0] by unfold At.moves; rw [At.hedges_none _ _ hm]; rfl] at hbeg
  have HB := Lib.hid hbeg
  have HB2 := Lib.hid (fun w P h => tbegin_any (P := P) (u := u) (s := At.St.new.sent) 0 w h)
  have HO := Lib.hid (fun w P h => tout_any (P := P) (u := u) (s := At.St.new.sent) (by show (0 + 1 : Nat) ≤ 16; omega) w h)
  clear hm hbeg
  go_enter Try.func7, Try.ntmps7
  go_wp2_with fail
  refine (hnew _).mono ?_
  rintro e w1 ⟨rfl, hp, hb⟩
  have H1 := Lib.hid ((Upon.start (fun _ => False) w).made hb hp (by omega))
  clear hp hb hnew
  generalize w.heap.size + 1 + 1 = P at H1 ⊢
  go_wp2_with fail
  refine (HB.out _ _ (H1.out.get 0 rfl)).mono ?_
  rintro e w2 ⟨⟨a, c, rfl, hml⟩, hp, hr⟩
  have H2 := Lib.hid (H1.out.put hr hp)
  obtain ⟨g, o, rfl, hrow⟩ : ∃ g o, a = some ⟨g, o, none⟩ ∧ RowK w2 w1.heap.size 55 17 g o 1 c (At.Mv.cells u (.send 0)) := by
    rcases hml with ⟨-, -, h⟩ | ⟨g, o, rfl, h⟩
    · cases h
    · exact ⟨g, o, rfl, by rw [List.flatMap_singleton] at h; exact h⟩
  have c0 : w2.cell? ⟨g, o, none⟩ = some (.int .i64 1) := hrow.cell (j := 0) rfl
  have c1 : w2.cell? ⟨g, o + 1, none⟩ = some (.int .i64 1) := hrow.cell (j := 1) rfl
  clear hp hr H1 hml hrow HB
  dsimp only [List.length_cons, List.length_nil]
  go_wp2_with fail
  refine (HO.out _ _ (H2.out.get 0 rfl)).mono ?_
  rintro e w3 ⟨rfl, rfl⟩
  rw [show At.St.new.sent.many = 1 from rfl]
  go_wp2_with fail
  refine (HB2.out _ _ (H2.out.get 0 rfl)).mono ?_
  rintro e w3 ⟨⟨a, c, rfl, -⟩, hp, hr⟩
  have H3 := Lib.hid (H2.out.put hr hp)
  rw [show (At.begin_ u At.St.new.sent 0).2.length = 0 from rfl]
  clear hp hr H2
  go_wp2_with fail
  go_ret
  exact ⟨rfl, H3.out.below (fun _ => id)⟩

set_option maxHeartbeats 4000000 in
set_option maxRecDepth 100000 in
/-- The law on none. -/
theorem atnone_any (k c s t g a r q v : Int) (su st : Bool) (x now : Int) (w : World) : Calls Try.prog 3 #[.agg #[.int .i64 k, .int .i64 c, .int .i64 s, .int .i64 t, .int .i64 g, .int .u32 a, .int .i64 r, .bool su, .bool st, .int .i64 q, .int .u32 v], .int .i64 x, .int .i64 now] w fun e w' => e = .returned (.bool true) ∧ Below w.heap.size w w' := by
  have hnew := fun w => tnew_any ⟨k, c, s, t, g, a, r, su, st, q, v, now, 2, 1⟩ w
  dsimp only at hnew
  generalize (⟨k, c, s, t, g, a, r, su, st, q, v, now, 2, 1⟩ : At.Rq) = u at hnew
  have HF := Lib.hid (fun w P b h => tfailed_not (P := P) (u := u) (s := .new) (Nat.zero_le _) x now b (fun h => Bool.false_ne_true h.2.2) w h)
  have HD := Lib.hid (fun w P h => tdue_any (P := P) (u := u) (s := .new) ⟨Nat.zero_le _, Nat.zero_le _, Nat.zero_le _⟩ 3 now w h)
  have HS := Lib.hid (fun w P h => tsent_any (P := P) (u := u) (s := .new) w h)
  have HB := Lib.hid (fun w => bnew_any 3 0 0 5 0 0 w)
  go_enter Try.func3, Try.ntmps3
  go_wp2_with fail
  have H0 := Lib.hid ((Upon.start (fun _ => False) w).lay (.cells #[.int .i64 k, .int .i64 c, .int .i64 s, .int .i64 t, .int .i64 g, .int .u32 a, .int .i64 r, .bool su, .bool st, .int .i64 q, .int .u32 v] 24))
  generalize w.alloc _ = w0 at H0 ⊢
  refine (hnew _).mono ?_
  rintro e w1 ⟨rfl, hp, hb⟩
  have H1 := Lib.hid (H0.out.made hb hp (by omega))
  clear hp hb hnew H0
  generalize w0.heap.size + 1 + 1 = P at H1 ⊢
  go_wp2_with fail
  refine (HB.out _).mono ?_
  rintro e w2 ⟨rfl, -, hb⟩
  have H2 := Lib.hid (H1.out.call hb)
  clear hb H1 HB
  generalize w1.heap.size + 1 = Q
  go_wp2_with fail
  refine (awake20_any _).mono ?_
  rintro e w3 ⟨rfl, hb⟩
  have H3 := Lib.hid (H2.out.call hb)
  clear hb H2
  go_wp2_with fail
  refine (tbegin_nil now _).mono ?_
  rintro e w4 ⟨rfl, rfl⟩
  go_wp2_with fail
  refine (tfailed_nil x now _ _).mono ?_
  rintro e w4 ⟨rfl, rfl⟩
  go_wp2_with fail
  refine (tdue_nil x now _).mono ?_
  rintro e w4 ⟨rfl, rfl⟩
  go_wp2_with fail
  refine (tsent_nil _).mono ?_
  rintro e w4 ⟨rfl, rfl⟩
  go_wp2_with fail
  refine (tretries_nil _).mono ?_
  rintro e w4 ⟨rfl, rfl⟩
  go_wp2_with fail
  refine (thedges_nil _).mono ?_
  rintro e w4 ⟨rfl, rfl⟩
  go_wp2_with fail
  refine (tout_nil _).mono ?_
  rintro e w4 ⟨rfl, rfl⟩
  go_wp2_with fail
  refine (HF.out _ _ _ (H3.out.get 0 rfl)).mono ?_
  rintro e w4 ⟨rfl, rfl⟩
  go_wp2_with fail
  refine (HD.out _ _ (H3.out.get 0 rfl)).mono ?_
  rintro e w5 ⟨⟨a, c, rfl, -⟩, hp, hr⟩
  have H5 := Lib.hid (H3.out.put hr hp)
  rw [show (At.due u At.St.new 3 now).2.length = 0 from rfl]
  clear hp hr H3
  go_wp2_with fail
  refine (HS.out _ _ (H5.out.get 0 rfl)).mono ?_
  rintro e w6 ⟨rfl, rfl⟩
  go_wp2_with fail
  go_ret
  exact ⟨rfl, H5.out.below (fun _ => id)⟩
end Go.Proofs.Ytihgohadihjalaa
