/- What the arena's calls that only look come to: of an arena, and of none. -/
import Derived.Test.YtgnodijblleipaaDoorArnA
import Derived.WalkSpells
import Derived.WalkLawsBesides
namespace Go.Proofs.YtgnodijblleipaaDoor
open Go.RowKit


/-- Of none. -/
theorem len_nil (w : World) : Calls Tryd.prog 41 #[.pointer none] w fun e w' => e = .returned (.int .i64 0) ∧ w = w' := by
  go_enter Tryd.func41, Tryd.ntmps41
  go_wp2
  go_ret
  exact ⟨rfl, rfl⟩
theorem touch_nil (i : Int) (w : World) : Calls Tryd.prog 27 #[.pointer none, .int .i64 i] w fun e w' => e = .returned (.bool false) ∧ w = w' := by
  go_enter Tryd.func27, Tryd.ntmps27
  go_wp2
  go_ret
  exact ⟨rfl, rfl⟩
theorem has_nil (i : Int) (w : World) : Calls Tryd.prog 39 #[.pointer none, .int .i64 i] w fun e w' => e = .returned (.bool false) ∧ w = w' := by
  by_cases h : 0 ≤ i
  · go_enter Tryd.func39, Tryd.ntmps39
    go_wp2_with (go_at_call 41; refine (len_nil _).mono ?_; rintro e w1 ⟨rfl, rfl⟩)
    go_ret
    exact ⟨retb (by simp; omega), rfl⟩
  · go_enter Tryd.func39, Tryd.ntmps39
    go_wp2
    go_ret
    exact ⟨retb (by simp), rfl⟩
theorem write_nil (i x : Int) (w : World) : Calls Tryd.prog 14 #[.pointer none, .int .i64 i, .int .u64 x] w fun e w' => e = .returned (.tuple #[]) ∧ w = w' := by
  go_enter Tryd.func14, Tryd.ntmps14
  go_wp2_with (go_at_call 27; refine (touch_nil _ _).mono ?_; rintro e w1 ⟨rfl, rfl⟩)
  go_end0
  exact ⟨rfl, rfl⟩
theorem look_nil (i : Int) (w : World) : Calls Tryd.prog 29 #[.pointer none, .int .i64 i] w fun e w' => e = .returned (.int .u64 0) ∧ w = w' := by
  go_enter Tryd.func29, Tryd.ntmps29
  go_wp2_with (go_at_call 39; refine (has_nil _ _).mono ?_; rintro e w1 ⟨rfl, rfl⟩)
  go_ret
  exact ⟨rfl, rfl⟩

/-! Of an arena. -/

theorem len_any {B : Nat} {s : Spot} {a : Ar} (w : World) (h : Arena w B s a) : Calls Tryd.prog 41 #[.pointer (some ⟨s.P, 0, none⟩)] w fun e w' => e = .returned (.int .i64 (a.cs.length : Nat)) ∧ w = w' := by
  obtain ⟨tv, h⟩ := h
  obtain ⟨h0, -⟩ := h.cells
  have hn := h.n1
  clear h
  go_enter Tryd.func41, Tryd.ntmps41
  go_wp2
  go_ret
  exact ⟨rfl, rfl⟩
theorem has_any {B : Nat} {s : Spot} {a : Ar} (i : Int) (w : World) (h : Arena w B s a) : Calls Tryd.prog 39 #[.pointer (some ⟨s.P, 0, none⟩), .int .i64 i] w fun e w' => e = .returned (.bool (decide (0 ≤ i ∧ i < a.cs.length))) ∧ w = w' := by
  by_cases h0 : 0 ≤ i
  · have H := Lib.hid h
    clear h
    go_enter Tryd.func39, Tryd.ntmps39
    go_wp2_with (go_at_call 41; refine (len_any _ H.out).mono ?_; rintro e w1 ⟨rfl, rfl⟩)
    go_ret
    exact ⟨retb (by simp [h0]), rfl⟩
  · clear h
    go_enter Tryd.func39, Tryd.ntmps39
    go_wp2
    go_ret
    exact ⟨retb (by simp; omega), rfl⟩
theorem look_any {B : Nat} {s : Spot} {a : Ar} (i : Nat) (w : World) (h : Arena w B s a) (hi : i < a.cs.length) : Calls Tryd.prog 29 #[.pointer (some ⟨s.P, 0, none⟩), .int .i64 i] w fun e w' => e = .returned (.int .u64 (a.cs.getD i 0 : Nat)) ∧ w = w' := by
  have H := Lib.hid h
  obtain ⟨tv, h⟩ := h
  obtain ⟨h0, -, -, -, h4, -⟩ := h.cells
  have hn := h.n1
  have hb := h.wb i hi
  have hc := h4 i hi
  have hd : decide (0 ≤ (i : Int) ∧ (i : Int) < a.cs.length) = true := by simp; omega
  have HD := Lib.hid hd
  clear h h4 hd
  go_enter Tryd.func29, Tryd.ntmps29
  go_wp2_with (go_at_call 39; refine (has_any _ _ H.out).mono ?_; rintro e w1 ⟨rfl, rfl⟩; rw [HD.out])
  go_ret
  exact ⟨reti (by simp [List.getD, hi]), rfl⟩
theorem look_out {B : Nat} {s : Spot} {a : Ar} (i : Int) (w : World) (h : Arena w B s a) (hi : ¬ (0 ≤ i ∧ i < a.cs.length)) :
    Calls Tryd.prog 29 #[.pointer (some ⟨s.P, 0, none⟩), .int .i64 i] w fun e w' => e = .returned (.int .u64 0) ∧ w = w' := by
  have H := Lib.hid h
  have HD := Lib.hid (decide_eq_false hi)
  clear h hi
  go_enter Tryd.func29, Tryd.ntmps29
  go_wp2_with (go_at_call 39; refine (has_any _ _ H.out).mono ?_; rintro e w1 ⟨rfl, rfl⟩; rw [HD.out])
  go_ret
  exact ⟨rfl, rfl⟩

end Go.Proofs.YtgnodijblleipaaDoor
