/- The laws' own first look: a sending into an empty ring of two places. -/
import Derived.Test.YtieehpajkidbcaaLaw7R
import Derived.Test.YtieehpajkidbcaaSndE
import Derived.Test.YtieehpajkidbcaaArnD
namespace Go.Proofs.Ytieehpajkidbcaa
open Go.RowKit
attribute [local go_sem ↓] Go.wp_at_zero Go.wp_at_succ

theorem run_awake {B : Nat} {s : Spot} {a : Ar} (hcs : a.cs = [0, 0, 0, 0, 0, 1, 0, 0, 0]) (w : World) (hA : Arena w B s a) :
    Calls Try.prog 9 #[.pointer (some ⟨s.P, 0, none⟩), .agg #[.int .i64 0, .int .i64 2, .int .u64 1, .int .u64 2, .int .u64 3, .bool false, .int .u64 0, .int .i64 0, .int .i64 0]] w fun e w' => e = .returned (.tuple #[.agg #[.int .i64 0, .int .i64 2, .int .u64 1, .int .u64 2, .int .u64 3, .bool false, .int .u64 0, .int .i64 5, .int .i64 3], .int .i64 7]) ∧ ∃ a', a'.cs = [1, 1, 1, 2, 3, 1, 0, 0, 0] ∧ Now w w' B s a' := by
  have hg : Snd.Good ⟨0, 2, 1, 2, 3, false, 0, 0, 0⟩ a := ⟨by unfold Rg.Ok; decide, by rw [hcs]; decide, by decide, by decide, by decide, by decide, fun _ => by decide⟩
  obtain ⟨a', hr, hc', hk⟩ := Snd.run_new 0 2 1 2 3 0 a (by rw [hcs]; rfl) (by rw [hcs]; rfl)
  refine (run_any ⟨0, 2, 1, 2, 3, false, 0, 0, 0⟩ hg 7 (by decide) hk (.inl (by rw [hr])) w hA).mono ?_
  rintro e w' ⟨rfl, hN⟩
  rw [hr] at hN ⊢
  refine ⟨rfl, a', ?_, hN⟩
  rw [hc', hcs]
  rfl

theorem cells_two (w : World) : Calls Try.prog 7 #[.int .i64 2] w fun e w' => e = .returned (.int .i64 9) ∧ w' = w := rcells_in 2 (by omega) w

/-- What a box that was laid ahead of all that is done to an arena holds. -/
theorem box_held {w1 wk : World} {B : Nat} {s : Spot} {a0 ak : Ar} {x y : Value} {t : TypeId} (h0 : Arena w1 B s a0) (h : Now (w1.alloc (.cells #[x, y] t)) wk B s ak) :
    wk.cell? ⟨w1.heap.size, 0, none⟩ = some x ∧ wk.cell? ⟨w1.heap.size, 1, none⟩ = some y := by
  have hn : ¬ s.has w1.heap.size := fun hk => Nat.lt_irrefl _ (h0.old _ hk)
  exact ⟨(h.cell (p := ⟨w1.heap.size, 0, none⟩) (by simp) hn).trans (cell_two_new w1 x y t 0 x rfl), (h.cell (p := ⟨w1.heap.size, 1, none⟩) (by simp) hn).trans (cell_two_new w1 x y t 1 y rfl)⟩


end Go.Proofs.Ytieehpajkidbcaa
