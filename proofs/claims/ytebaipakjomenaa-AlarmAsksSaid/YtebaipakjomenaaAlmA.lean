/- The contracts of all of alarm's calls, with any numbers: whether an alarm may be, the frame that asks for it, the alarm of a frame, who is told, the one that is to come soon. -/
import Derived.Test.YtebaipakjomenaaKeep
import Derived.Test.YtebaipakjomenaaFrmT
import Derived.Test.YtebaipakjomenaaTkA
import Derived.Test.YtebaipakjomenaaSkip
namespace Go.Proofs.Ytebaipakjomenaa
open Go.RowKit

namespace Al
/-- An alarm of these numbers may be: its time, client, slot, turn, and what it is for. -/
def May (a c s g x : Int) : Prop := (0 ≤ a ∧ a < 1099511627776) ∧ (1 ≤ x ∧ x ≤ 3) ∧ (0 ≤ c ∧ c ≤ 3) ∧ (0 ≤ s ∧ s ≤ 15) ∧ (1 ≤ g ∧ g ≤ 16777215)
instance (a c s g x : Int) : Decidable (May a c s g x) := by unfold May; infer_instance
end Al

theorem Try.sizeAlarm14 : (Try.prog.info? 24).map (·.size) = some 5 := by kernel_rfl

theorem awithin_yes (n l m : Int) (h : l ≤ n ∧ n ≤ m) (w : World) :
    Calls Try.prog 18 #[.int .i64 n, .int .i64 l, .int .i64 m] w fun e w' => e = .returned (.bool true) ∧ w = w' := by
  obtain ⟨h1, h2⟩ := h
  go_enter Try.func18, Try.ntmps18
  go_wp2
  go_ret
  exact ⟨rfl, rfl⟩

theorem awithin_no (n l m : Int) (h : ¬ (l ≤ n ∧ n ≤ m)) (w : World) :
    Calls Try.prog 18 #[.int .i64 n, .int .i64 l, .int .i64 m] w fun e w' => e = .returned (.bool false) ∧ w = w' := by
  by_cases h1 : l ≤ n
  · have h2 : m < n := by omega
    clear h
    go_enter Try.func18, Try.ntmps18
    go_wp2
    go_ret
    exact ⟨ret_bool (by simp; omega), rfl⟩
  · clear h
    go_enter Try.func18, Try.ntmps18
    go_wp2
    go_ret
    exact ⟨ret_bool (by simp), rfl⟩

set_option maxHeartbeats 1000000 in
/-- May: it may be. -/
theorem amay_yes (a c s g x : Int) (h : Al.May a c s g x) (w : World) :
    Calls Try.prog 8 #[.agg #[.int .i64 a, .int .i64 c, .int .i64 s, .int .i64 g, .int .i64 x]] w fun e w' => e = .returned (.bool true) ∧ Below w.heap.size w w' := by
  obtain ⟨⟨h0, h1⟩, h2, h3, h4, h5⟩ := h
  go_enter Try.func8, Try.ntmps8
  go_wp2_with fail
  refine (awithin_yes _ _ _ h2 _).mono ?_
  rintro e w1 ⟨rfl, rfl⟩
  go_wp2_with fail
  refine (awithin_yes _ _ _ h3 _).mono ?_
  rintro e w1 ⟨rfl, rfl⟩
  go_wp2_with fail
  refine (awithin_yes _ _ _ h4 _).mono ?_
  rintro e w1 ⟨rfl, rfl⟩
  go_wp2_with fail
  refine (awithin_yes _ _ _ h5 _).mono ?_
  rintro e w1 ⟨rfl, rfl⟩
  go_wp2_with fail
  go_ret
  exact ⟨rfl, below_box _ _⟩

set_option maxHeartbeats 2000000 in
/-- .. it may not. -/
theorem amay_no (a c s g x : Int) (h : ¬ Al.May a c s g x) (w : World) :
    Calls Try.prog 8 #[.agg #[.int .i64 a, .int .i64 c, .int .i64 s, .int .i64 g, .int .i64 x]] w fun e w' => e = .returned (.bool false) ∧ Below w.heap.size w w' := by
  unfold Al.May at h
  by_cases h0 : 0 ≤ a
  rotate_left
  · clear h
    go_enter Try.func8, Try.ntmps8
    go_wp2_with fail
    go_ret
    exact ⟨ret_bool (by simp), below_box _ _⟩
  by_cases h1 : a < 1099511627776
  rotate_left
  · clear h
    go_enter Try.func8, Try.ntmps8
    go_wp2_with fail
    go_ret
    exact ⟨ret_bool (by simp), below_box _ _⟩
  by_cases h2 : 1 ≤ x ∧ x ≤ 3
  rotate_left
  · clear h
    go_enter Try.func8, Try.ntmps8
    go_wp2_with fail
    refine (awithin_no _ _ _ h2 _).mono ?_
    rintro e w1 ⟨rfl, rfl⟩
    go_wp2_with fail
    go_ret
    exact ⟨rfl, below_box _ _⟩
  by_cases h3 : 0 ≤ c ∧ c ≤ 3
  rotate_left
  · clear h
    go_enter Try.func8, Try.ntmps8
    go_wp2_with fail
    refine (awithin_yes _ _ _ h2 _).mono ?_
    rintro e w1 ⟨rfl, rfl⟩
    go_wp2_with fail
    refine (awithin_no _ _ _ h3 _).mono ?_
    rintro e w1 ⟨rfl, rfl⟩
    go_wp2_with fail
    go_ret
    exact ⟨rfl, below_box _ _⟩
  by_cases h4 : 0 ≤ s ∧ s ≤ 15
  rotate_left
  · clear h
    go_enter Try.func8, Try.ntmps8
    go_wp2_with fail
    refine (awithin_yes _ _ _ h2 _).mono ?_
    rintro e w1 ⟨rfl, rfl⟩
    go_wp2_with fail
    refine (awithin_yes _ _ _ h3 _).mono ?_
    rintro e w1 ⟨rfl, rfl⟩
    go_wp2_with fail
    refine (awithin_no _ _ _ h4 _).mono ?_
    rintro e w1 ⟨rfl, rfl⟩
    go_wp2_with fail
    go_ret
    exact ⟨rfl, below_box _ _⟩
  have h5 : ¬ (1 ≤ g ∧ g ≤ 16777215) := fun h5 => h ⟨⟨h0, h1⟩, h2, h3, h4, h5⟩
  clear h
  go_enter Try.func8, Try.ntmps8
  go_wp2_with fail
  refine (awithin_yes _ _ _ h2 _).mono ?_
  rintro e w1 ⟨rfl, rfl⟩
  go_wp2_with fail
  refine (awithin_yes _ _ _ h3 _).mono ?_
  rintro e w1 ⟨rfl, rfl⟩
  go_wp2_with fail
  refine (awithin_yes _ _ _ h4 _).mono ?_
  rintro e w1 ⟨rfl, rfl⟩
  go_wp2_with fail
  refine (awithin_no _ _ _ h5 _).mono ?_
  rintro e w1 ⟨rfl, rfl⟩
  go_wp2_with fail
  go_ret
  exact ⟨rfl, below_box _ _⟩

/-- .. in one. -/
theorem amay_any (a c s g x : Int) (w : World) :
    Calls Try.prog 8 #[.agg #[.int .i64 a, .int .i64 c, .int .i64 s, .int .i64 g, .int .i64 x]] w fun e w' => e = .returned (.bool (decide (Al.May a c s g x))) ∧ Below w.heap.size w w' := by
  by_cases h : Al.May a c s g x
  · rw [decide_eq_true h]; exact amay_yes a c s g x h w
  · rw [decide_eq_false h]; exact amay_no a c s g x h w

/-- A frame that is about an alarm. -/
theorem about_any (k a c s g x : Int) (w : World) :
    Calls Try.prog 15 #[.int .i64 k, .agg #[.int .i64 a, .int .i64 c, .int .i64 s, .int .i64 g, .int .i64 x]] w fun e w' => e = .returned (.agg #[.int .i64 k, .int .i64 c, .int .i64 0, .int .i64 s, .int .i64 g, .int .u32 0, .int .i64 x, .bool false, .bool false, .int .i64 0, .int .u32 0]) ∧ Below w.heap.size w w' := by
  go_enter Try.func15, Try.ntmps15
  go_wp2
  refine bodyPost_ret (results_cell_row Try.results15 _ _ (w.heap.size + 1) 27 _ (0, 0) _ rfl (heap_alloc2_new _ _ _) Try.underlying27 rfl Try.sizeFrame) rfl ⟨rfl, below_two _ _ _⟩

/-- Tell. -/
theorem atell_any (a c s g x : Int) (w : World) :
    Calls Try.prog 9 #[.agg #[.int .i64 a, .int .i64 c, .int .i64 s, .int .i64 g, .int .i64 x]] w fun e w' => e = .returned (.agg #[.int .i64 10, .int .i64 c, .int .i64 0, .int .i64 s, .int .i64 g, .int .u32 0, .int .i64 x, .bool false, .bool false, .int .i64 0, .int .u32 0]) ∧ Below w.heap.size w w' := by
  go_enter Try.func9, Try.ntmps9
  go_wp2_with fail
  refine (about_any 10 a c s g x _).mono ?_
  rintro e w1 ⟨rfl, hb⟩
  have hr := keep (heap_alloc2_new w _ _) hb
  have HB := Lib.hid (on (below_two w _ _) hb)
  have HR := Lib.hid hr
  obtain ⟨c0, c1, c2, c3, c4, c5, c6, c7, c8, c9, c10⟩ := frame_cells hr
  obtain ⟨f0, f1, f2, f3, f4, f5, f6, f7, f8, f9, f10⟩ := frame_free hr
  clear hb hr
  go_wp2_with fail
  refine bodyPost_ret (results_cell_row Try.results9 _ _ (w.heap.size + 1) 27 _ (0, 0) _ rfl (frame_laid rfl HR.out) Try.underlying27 rfl Try.sizeFrame) rfl ⟨rfl, frame_below HB.out (by simp)⟩

/-- The alarm of the turn that a frame is of. -/
theorem aturn_any (k c s t g a r q v n x : Int) (su st : Bool) (w : World) :
    Calls Try.prog 16 #[.agg #[.int .i64 k, .int .i64 c, .int .i64 s, .int .i64 t, .int .i64 g, .int .u32 a, .int .i64 r, .bool su, .bool st, .int .i64 q, .int .u32 v], .int .i64 n, .int .i64 x] w fun e w' => e = .returned (.agg #[.int .i64 n, .int .i64 c, .int .i64 t, .int .i64 g, .int .i64 x]) ∧ Below w.heap.size w w' := by
  go_enter Try.func16, Try.ntmps16
  go_wp2
  refine bodyPost_ret (results_cell_row Try.results16 _ _ (w.heap.size + 1) 24 _ (0, 0) _ rfl (heap_alloc2_new _ _ _) Try.underlying24 rfl Try.sizeAlarm14) rfl ⟨rfl, below_two _ _ _⟩
end Go.Proofs.Ytebaipakjomenaa
