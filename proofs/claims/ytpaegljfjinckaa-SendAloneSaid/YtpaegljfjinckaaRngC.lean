/- What the program's calls on a ring in an arena come to: how a place stands, a ring that is begun, how many frames are there. -/
import Derived.Test.YtpaegljfjinckaaRngB
import Derived.Test.YtpaegljfjinckaaNows
import Derived.Deep.LoopGhost
import Derived.Deep.Light
namespace Go.Proofs.Ytpaegljfjinckaa
open Go.RowKit
attribute [local go_sem ↓] Go.wp_at_zero Go.wp_at_succ

theorem beq_cast (x y : Nat) : ((x : Int) == (y : Int)) = (x == y) := by
  by_cases h : x = y
  · simp [h]
  · rw [beq_eq_false_iff_ne.2 h, beq_eq_false_iff_ne]; omega

/-- How a place stands. -/
theorem stands_in {B : Nat} {s : Spot} {a : Ar} (b n t x : Nat) (hR : Rg.Ok b n) (ht : t < 18446744073709551616) (w : World) (h : Arena w B s a) (hl : b + 1 + 4 * n ≤ a.cs.length) :
    Calls Try.prog 26 #[.pointer (some ⟨s.P, 0, none⟩), .agg #[.int .i64 b, .int .i64 n], .int .u64 t, .int .u64 x] w fun e w' => e = .returned (.bool (a.cs.getD (Rg.stand b n t) 0 == x)) ∧ Below w.heap.size w w' := by
  have hs := Rg.stand_lt hR t
  have hlt : Rg.stand b n t < a.cs.length := by omega
  have H := Lib.hid h
  have HR := Lib.hid hR
  clear h hR
  generalize hx : Rg.stand b n t = y at *
  have HX := Lib.hid hx
  clear hx hs hl
  have hlt2 : (y : Int) < (a.cs.length : Int) := by omega
  go_enter Try.func26, Try.ntmps26
  go_wp2_with fail
  refine (stand_yes b n t HR.out ht _).mono ?_
  rintro e w1 ⟨rfl, hb1⟩
  rw [HX.out]
  obtain ⟨c0, c1, hb2⟩ := kept hb1
  have h1 := Lib.hid (H.out.kept (Rest.of_below hb2) (fun _ _ => id))
  clear hb1
  go_wp2_with fail
  refine (len_any _ h1.out).mono ?_
  rintro e w2 ⟨rfl, rfl⟩
  go_wp2_with fail
  refine (look_any y _ h1.out hlt).mono ?_
  rintro e w2 ⟨rfl, rfl⟩
  go_wp2
  go_ret
  exact ⟨retb (by rw [← beq_cast]; simp [List.getD, hlt]), hb2⟩


theorem ready_in {B : Nat} {s : Spot} {a : Ar} (b n t : Nat) (hR : Rg.Ok b n) (ht : t + 1 < 18446744073709551616) (w : World) (h : Arena w B s a) (hl : b + 1 + 4 * n ≤ a.cs.length) :
    Calls Try.prog 14 #[.pointer (some ⟨s.P, 0, none⟩), .agg #[.int .i64 b, .int .i64 n], .int .u64 t] w fun e w' => e = .returned (.bool (a.cs.getD (Rg.stand b n t) 0 == t + 1)) ∧ Below w.heap.size w w' := by
  have H := Lib.hid h
  have HR := Lib.hid hR
  clear h hR
  go_enter Try.func14, Try.ntmps14
  go_wp2_with fail
  refine (stands_in b n t (t + 1) HR.out (by omega) _ (H.out.alloc _) hl).mono ?_
  rintro e w1 ⟨rfl, hb1⟩
  obtain ⟨c0, c1, hb2⟩ := kept hb1
  clear hb1
  go_wp2
  go_ret
  exact ⟨rfl, hb2⟩


end Go.Proofs.Ytpaegljfjinckaa
