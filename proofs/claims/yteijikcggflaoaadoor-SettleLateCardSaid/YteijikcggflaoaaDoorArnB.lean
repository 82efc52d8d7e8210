/- What the arena's calls that only look come to: of an arena, and of none. -/
import Derived.Test.YteijikcggflaoaaDoorArnA
import Derived.WalkSpells
import Derived.WalkLawsBesides
namespace Go.Proofs.YteijikcggflaoaaDoor
open Go.RowKit


/-- Of none. -/
theorem len_nil (w : World) : Calls Tryd.prog 28 #[.pointer none] w fun e w' => e = .returned (.int .i64 0) ∧ w = w' := by
  go_enter Tryd.func28, Tryd.ntmps28
  go_wp2
  go_ret
  exact ⟨rfl, rfl⟩
theorem touch_nil (i : Int) (w : World) : Calls Tryd.prog 15 #[.pointer none, .int .i64 i] w fun e w' => e = .returned (.bool false) ∧ w = w' := by
  go_enter Tryd.func15, Tryd.ntmps15
  go_wp2
  go_ret
  exact ⟨rfl, rfl⟩
theorem has_nil (i : Int) (w : World) : Calls Tryd.prog 23 #[.pointer none, .int .i64 i] w fun e w' => e = .returned (.bool false) ∧ w = w' := by
  by_cases h : 0 ≤ i
  · go_enter Tryd.func23, Tryd.ntmps23
    go_wp2_with (go_at_call 28; refine (len_nil _).mono ?_; rintro e w1 ⟨rfl, rfl⟩)
    go_ret
    exact ⟨retb (by simp; omega), rfl⟩
  · go_enter Tryd.func23, Tryd.ntmps23
    go_wp2
    go_ret
    exact ⟨retb (by simp), rfl⟩
theorem read_nil (i : Int) (w : World) : Calls Tryd.prog 17 #[.pointer none, .int .i64 i] w fun e w' => e = .returned (.int .u64 0) ∧ w = w' := by
  go_enter Tryd.func17, Tryd.ntmps17
  go_wp2_with (go_at_call 15; refine (touch_nil _ _).mono ?_; rintro e w1 ⟨rfl, rfl⟩)
  go_ret
  exact ⟨rfl, rfl⟩
theorem write_nil (i x : Int) (w : World) : Calls Tryd.prog 6 #[.pointer none, .int .i64 i, .int .u64 x] w fun e w' => e = .returned (.tuple #[]) ∧ w = w' := by
  go_enter Tryd.func6, Tryd.ntmps6
  go_wp2_with (go_at_call 15; refine (touch_nil _ _).mono ?_; rintro e w1 ⟨rfl, rfl⟩)
  go_end0
  exact ⟨rfl, rfl⟩
theorem swap_nil (i u x : Int) (w : World) : Calls Tryd.prog 19 #[.pointer none, .int .i64 i, .int .u64 u, .int .u64 x] w fun e w' => e = .returned (.bool false) ∧ w = w' := by
  go_enter Tryd.func19, Tryd.ntmps19
  go_wp2_with (go_at_call 15; refine (touch_nil _ _).mono ?_; rintro e w1 ⟨rfl, rfl⟩)
  go_ret
  exact ⟨rfl, rfl⟩
theorem look_nil (i : Int) (w : World) : Calls Tryd.prog 12 #[.pointer none, .int .i64 i] w fun e w' => e = .returned (.int .u64 0) ∧ w = w' := by
  go_enter Tryd.func12, Tryd.ntmps12
  go_wp2_with (go_at_call 23; refine (has_nil _ _).mono ?_; rintro e w1 ⟨rfl, rfl⟩)
  go_ret
  exact ⟨rfl, rfl⟩

/-! Of an arena. -/

theorem len_any {B : Nat} {s : Spot} {a : Ar} (w : World) (h : Arena w B s a) : Calls Tryd.prog 28 #[.pointer (some ⟨s.P, 0, none⟩)] w fun e w' => e = .returned (.int .i64 (a.cs.length : Nat)) ∧ w = w' := by
  obtain ⟨tv, h⟩ := h
  obtain ⟨h0, -⟩ := h.cells
  have hn := h.n1
  clear h
  go_enter Tryd.func28, Tryd.ntmps28
  go_wp2
  go_ret
  exact ⟨rfl, rfl⟩
theorem has_any {B : Nat} {s : Spot} {a : Ar} (i : Int) (w : World) (h : Arena w B s a) : Calls Tryd.prog 23 #[.pointer (some ⟨s.P, 0, none⟩), .int .i64 i] w fun e w' => e = .returned (.bool (decide (0 ≤ i ∧ i < a.cs.length))) ∧ w = w' := by
  by_cases h0 : 0 ≤ i
  · have H := Lib.hid h
    clear h
    go_enter Tryd.func23, Tryd.ntmps23
    go_wp2_with (go_at_call 28; refine (len_any _ H.out).mono ?_; rintro e w1 ⟨rfl, rfl⟩)
    go_ret
    exact ⟨retb (by simp [h0]), rfl⟩
  · clear h
    go_enter Tryd.func23, Tryd.ntmps23
    go_wp2
    go_ret
    exact ⟨retb (by simp; omega), rfl⟩
theorem look_any {B : Nat} {s : Spot} {a : Ar} (i : Nat) (w : World) (h : Arena w B s a) (hi : i < a.cs.length) : Calls Tryd.prog 12 #[.pointer (some ⟨s.P, 0, none⟩), .int .i64 i] w fun e w' => e = .returned (.int .u64 (a.cs.getD i 0 : Nat)) ∧ w = w' := by
  have H := Lib.hid h
  obtain ⟨tv, h⟩ := h
  obtain ⟨h0, -, -, -, h4, -⟩ := h.cells
  have hn := h.n1
  have hb := h.wb i hi
  have hc := h4 i hi
  have hd : decide (0 ≤ (i : Int) ∧ (i : Int) < a.cs.length) = true := by simp; omega
  have HD := Lib.hid hd
  clear h h4 hd
  go_enter Tryd.func12, Tryd.ntmps12
  go_wp2_with (go_at_call 23; refine (has_any _ _ H.out).mono ?_; rintro e w1 ⟨rfl, rfl⟩; rw [HD.out])
  go_ret
  exact ⟨reti (by simp [List.getD, hi]), rfl⟩
theorem look_out {B : Nat} {s : Spot} {a : Ar} (i : Int) (w : World) (h : Arena w B s a) (hi : ¬ (0 ≤ i ∧ i < a.cs.length)) :
    Calls Tryd.prog 12 #[.pointer (some ⟨s.P, 0, none⟩), .int .i64 i] w fun e w' => e = .returned (.int .u64 0) ∧ w = w' := by
  have H := Lib.hid h
  have HD := Lib.hid (decide_eq_false hi)
  clear h hi
  go_enter Tryd.func12, Tryd.ntmps12
  go_wp2_with (go_at_call 23; refine (has_any _ _ H.out).mono ?_; rintro e w1 ⟨rfl, rfl⟩; rw [HD.out])
  go_ret
  exact ⟨rfl, rfl⟩

end Go.Proofs.YteijikcggflaoaaDoor
