/- A wheel's small calls: New, Now, Come, a time's slot. -/
import Derived.Test.YtcjidobdbdfjlaaWhMem
import Derived.RegionTactic
import Derived.BigRegion
namespace Go.Proofs.Ytcjidobdbdfjlaa
open Go.RowKit Go.Sort

/-- A time's slot among sixteen. -/
theorem slot_any (t d : Int) (hd : 0 < d) (hd2 : d ≤ 4096) (w : World) : Calls Try.prog 29 #[.int .i64 t, .int .i64 d, .int .i64 16] w fun e w' => e = .returned (.int .i64 (Tk.clamp t / d % 16)) ∧ w = w' := by
  have hcl := fun w => clamp_any t w
  have h1 := Tk.clamp_lo t
  have h2 := Tk.clamp_hi t
  generalize Tk.clamp t = c at hcl h1 h2 ⊢
  have hq : c.tdiv d = c / d := Int.tdiv_eq_ediv_of_nonneg h1
  have hq0 : 0 ≤ c / d := Int.ediv_nonneg h1 (by omega)
  have hq1 : c / d ≤ c := Int.ediv_le_self _ h1
  have hm : (c / d).tmod 16 = c / d % 16 := Int.tmod_eq_emod_of_nonneg hq0
  have hwq : IntKind.i64.wrap (c / d) = c / d := by rw [IntKind.wrap_i64]; omega
  have hwm : IntKind.i64.wrap (c / d % 16) = c / d % 16 := by rw [IntKind.wrap_i64]; omega
  have hd0 : d ≠ 0 := by omega
  generalize c / d = q at hq hq0 hq1 hm hwq hwm ⊢
  go_enter Try.func29, Try.ntmps29
  go_wp2_with (go_at_call 18; refine (hcl _).mono ?_; rintro e w' ⟨rfl, rfl⟩)
  go_ret
  exact ⟨rfl, rfl⟩

set_option maxRecDepth 100000 in
/-- New. -/
theorem wnew_any (t : Int) (w0 w : World) (hr : Rest (fun _ => False) w0 w) : Calls Try.prog 6 #[.int .i64 t] w fun e w' => e = .returned (.pointer (some ⟨w.heap.size, 0, none⟩)) ∧ Whl w0.heap.size w' w.heap.size (Tk.clamp t) (fun _ => []) (fun _ => .slice none 0 0) [] ∧ Rest (fun _ => False) w w' := by
  have hcl := fun w => clamp_any t w
  generalize Tk.clamp t = c at hcl ⊢
  have HS := Lib.hid hr.size
  clear hr
  go_enter Try.func6, Try.ntmps6
  go_wp2_with (go_at_call 18; refine (hcl _).mono ?_; rintro e w' ⟨rfl, rfl⟩)
  go_ret
  refine ⟨rfl, ⟨HS.out, heap_alloc_new _ _, fun q _ => Az.nil _ _, fun q r _ _ _ k e => by simp [Value.ownBlock] at e, fun q _ e => by simp [Value.ownBlock] at e, fun k hk => by simp at hk⟩, Rest.alloc _ _ _⟩

theorem wnow_any {B P : Nat} {w : World} {now : Int} {F : Nat → List En} {V : Nat → Value} {K : List Nat} (h : Whl B w P now F V K) : Calls Try.prog 16 #[.pointer (some ⟨P, 0, none⟩)] w fun e w' => e = .returned (.int .i64 now) ∧ w = w' := by
  have c0 := h.cell0
  go_enter Try.func16, Try.ntmps16
  go_wp2
  go_ret
  exact ⟨rfl, rfl⟩
theorem wnow_nil (w : World) : Calls Try.prog 16 #[.pointer none] w fun e w' => e = .returned (.int .i64 0) ∧ w = w' := by
  go_enter Try.func16, Try.ntmps16
  go_wp2
  go_ret
  exact ⟨rfl, rfl⟩
theorem wcome_any {B P : Nat} {w : World} {now : Int} {F : Nat → List En} {V : Nat → Value} {K : List Nat} (h : Whl B w P now F V K) : Calls Try.prog 14 #[.pointer (some ⟨P, 0, none⟩)] w fun e w' => e = .returned (.int .i64 ((F 0).length : Nat)) ∧ w = w' := by
  obtain ⟨a, c, hv⟩ := (h.rows 0 (by decide)).shape
  have c0 := h.cell (q := 0) (by decide)
  rw [hv] at c0
  clear hv
  go_enter Try.func14, Try.ntmps14
  go_wp2
  go_ret
  exact ⟨rfl, rfl⟩
theorem wcome_nil (w : World) : Calls Try.prog 14 #[.pointer none] w fun e w' => e = .returned (.int .i64 0) ∧ w = w' := by
  go_enter Try.func14, Try.ntmps14
  go_wp2
  go_ret
  exact ⟨rfl, rfl⟩
end Go.Proofs.Ytcjidobdbdfjlaa
