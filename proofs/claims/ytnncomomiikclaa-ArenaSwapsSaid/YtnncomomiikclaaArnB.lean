/- What the arena's calls that only look come to: of an arena, and of none. -/
import Derived.Test.YtnncomomiikclaaArnA
import Derived.WalkSpells
import Derived.WalkLawsBesides
namespace Go.Proofs.Ytnncomomiikclaa
open Go.RowKit

theorem retb {a b : Bool} (h : a = b) : Ending.returned (.bool a) = .returned (.bool b) := by rw [h]
theorem reti {k : IntKind} {a b : Int} (h : a = b) : Ending.returned (.int k a) = .returned (.int k b) := by rw [h]

/-- Of none. -/
theorem len_nil (w : World) : Calls Try.prog 12 #[.pointer none] w fun e w' => e = .returned (.int .i64 0) ∧ w = w' := by
  go_enter Try.func12, Try.ntmps12
  go_wp2
  go_ret
  exact ⟨rfl, rfl⟩
theorem stray_nil (w : World) : Calls Try.prog 14 #[.pointer none] w fun e w' => e = .returned (.int .i64 0) ∧ w = w' := by
  go_enter Try.func14, Try.ntmps14
  go_wp2
  go_ret
  exact ⟨rfl, rfl⟩
theorem touched_nil (w : World) : Calls Try.prog 13 #[.pointer none] w fun e w' => e = .returned (.slice none 0 0) ∧ w = w' := by
  go_enter Try.func13, Try.ntmps13
  go_wp2
  go_ret
  exact ⟨rfl, rfl⟩
theorem begin_nil (w : World) : Calls Try.prog 6 #[.pointer none] w fun e w' => e = .returned (.tuple #[]) ∧ w = w' := by
  go_enter Try.func6, Try.ntmps6
  go_wp2
  refine bodyPost_ret (results_none rfl _ _ _) rfl ?_
  exact ⟨rfl, rfl⟩
theorem touch_nil (i : Int) (w : World) : Calls Try.prog 15 #[.pointer none, .int .i64 i] w fun e w' => e = .returned (.bool false) ∧ w = w' := by
  go_enter Try.func15, Try.ntmps15
  go_wp2
  go_ret
  exact ⟨rfl, rfl⟩
theorem has_nil (i : Int) (w : World) : Calls Try.prog 16 #[.pointer none, .int .i64 i] w fun e w' => e = .returned (.bool false) ∧ w = w' := by
  by_cases h : 0 ≤ i
  · go_enter Try.func16, Try.ntmps16
    go_wp2_with (go_at_call 12; refine (len_nil _).mono ?_; rintro e w1 ⟨rfl, rfl⟩)
    go_ret
    exact ⟨retb (by simp; omega), rfl⟩
  · go_enter Try.func16, Try.ntmps16
    go_wp2
    go_ret
    exact ⟨retb (by simp), rfl⟩
theorem read_nil (i : Int) (w : World) : Calls Try.prog 9 #[.pointer none, .int .i64 i] w fun e w' => e = .returned (.int .u64 0) ∧ w = w' := by
  go_enter Try.func9, Try.ntmps9
  go_wp2_with (go_at_call 15; refine (touch_nil _ _).mono ?_; rintro e w1 ⟨rfl, rfl⟩)
  go_ret
  exact ⟨rfl, rfl⟩
theorem write_nil (i x : Int) (w : World) : Calls Try.prog 5 #[.pointer none, .int .i64 i, .int .u64 x] w fun e w' => e = .returned (.tuple #[]) ∧ w = w' := by
  go_enter Try.func5, Try.ntmps5
  go_wp2_with (go_at_call 15; refine (touch_nil _ _).mono ?_; rintro e w1 ⟨rfl, rfl⟩)
  go_end0
  exact ⟨rfl, rfl⟩
theorem swap_nil (i u x : Int) (w : World) : Calls Try.prog 10 #[.pointer none, .int .i64 i, .int .u64 u, .int .u64 x] w fun e w' => e = .returned (.bool false) ∧ w = w' := by
  go_enter Try.func10, Try.ntmps10
  go_wp2_with (go_at_call 15; refine (touch_nil _ _).mono ?_; rintro e w1 ⟨rfl, rfl⟩)
  go_ret
  exact ⟨rfl, rfl⟩
theorem look_nil (i : Int) (w : World) : Calls Try.prog 11 #[.pointer none, .int .i64 i] w fun e w' => e = .returned (.int .u64 0) ∧ w = w' := by
  go_enter Try.func11, Try.ntmps11
  go_wp2_with (go_at_call 16; refine (has_nil _ _).mono ?_; rintro e w1 ⟨rfl, rfl⟩)
  go_ret
  exact ⟨rfl, rfl⟩

/-! Of an arena. -/

theorem len_any {B : Nat} {s : Spot} {a : Ar} (w : World) (h : Arena w B s a) : Calls Try.prog 12 #[.pointer (some ⟨s.P, 0, none⟩)] w fun e w' => e = .returned (.int .i64 (a.cs.length : Nat)) ∧ w = w' := by
  obtain ⟨tv, h⟩ := h
  obtain ⟨h0, -⟩ := h.cells
  have hn := h.n1
  clear h
  go_enter Try.func12, Try.ntmps12
  go_wp2
  go_ret
  exact ⟨rfl, rfl⟩
theorem stray_any {B : Nat} {s : Spot} {a : Ar} (w : World) (h : Arena w B s a) : Calls Try.prog 14 #[.pointer (some ⟨s.P, 0, none⟩)] w fun e w' => e = .returned (.int .i64 (a.st : Nat)) ∧ w = w' := by
  obtain ⟨tv, h⟩ := h
  obtain ⟨-, -, -, h3, -⟩ := h.cells
  clear h
  go_enter Try.func14, Try.ntmps14
  go_wp2
  go_ret
  exact ⟨rfl, rfl⟩
theorem has_any {B : Nat} {s : Spot} {a : Ar} (i : Int) (w : World) (h : Arena w B s a) : Calls Try.prog 16 #[.pointer (some ⟨s.P, 0, none⟩), .int .i64 i] w fun e w' => e = .returned (.bool (decide (0 ≤ i ∧ i < a.cs.length))) ∧ w = w' := by
  by_cases h0 : 0 ≤ i
  · have H := Lib.hid h
    clear h
    go_enter Try.func16, Try.ntmps16
    go_wp2_with (go_at_call 12; refine (len_any _ H.out).mono ?_; rintro e w1 ⟨rfl, rfl⟩)
    go_ret
    exact ⟨retb (by simp [h0]), rfl⟩
  · clear h
    go_enter Try.func16, Try.ntmps16
    go_wp2
    go_ret
    exact ⟨retb (by simp; omega), rfl⟩
theorem look_any {B : Nat} {s : Spot} {a : Ar} (i : Nat) (w : World) (h : Arena w B s a) (hi : i < a.cs.length) : Calls Try.prog 11 #[.pointer (some ⟨s.P, 0, none⟩), .int .i64 i] w fun e w' => e = .returned (.int .u64 (a.cs.getD i 0 : Nat)) ∧ w = w' := by
  have H := Lib.hid h
  obtain ⟨tv, h⟩ := h
  obtain ⟨h0, -, -, -, h4, -⟩ := h.cells
  have hn := h.n1
  have hb := h.wb i hi
  have hc := h4 i hi
  have hd : decide (0 ≤ (i : Int) ∧ (i : Int) < a.cs.length) = true := by simp; omega
  have HD := Lib.hid hd
  clear h h4 hd
  go_enter Try.func11, Try.ntmps11
  go_wp2_with (go_at_call 16; refine (has_any _ _ H.out).mono ?_; rintro e w1 ⟨rfl, rfl⟩; rw [HD.out])
  go_ret
  exact ⟨reti (by simp [List.getD, hi]), rfl⟩

end Go.Proofs.Ytnncomomiikclaa
