/- What the program's calls on a ring in an arena come to: how a place stands, a ring that is begun, how many frames are there. -/
import Derived.Test.YtieehpajkidbcaaRngB
import Derived.Test.YtieehpajkidbcaaNows
import Derived.Deep.LoopGhost
import Derived.Deep.Light
namespace Go.Proofs.Ytieehpajkidbcaa
open Go.RowKit
attribute [local go_sem ↓] Go.wp_at_zero Go.wp_at_succ

theorem beq_cast (x y : Nat) : ((x : Int) == (y : Int)) = (x == y) := by
  by_cases h : x = y
  · simp [h]
  · rw [beq_eq_false_iff_ne.2 h, beq_eq_false_iff_ne]; omega

/-- How a place stands. -/
theorem stands_in {B : Nat} {s : Spot} {a : Ar} (b n t x : Nat) (hR : Rg.Ok b n) (ht : t < 18446744073709551616) (w : World) (h : Arena w B s a) (hl : b + 1 + 4 * n ≤ a.cs.length) :
    Calls Try.prog 37 #[.pointer (some ⟨s.P, 0, none⟩), .agg #[.int .i64 b, .int .i64 n], .int .u64 t, .int .u64 x] w fun e w' => e = .returned (.bool (a.cs.getD (Rg.stand b n t) 0 == x)) ∧ Below w.heap.size w w' := by
  have hs := Rg.stand_lt hR t
  have hlt : Rg.stand b n t < a.cs.length := by omega
  have H := Lib.hid h
  have HR := Lib.hid hR
  clear h hR
  generalize hx : Rg.stand b n t = y at *
  have HX := Lib.hid hx
  clear hx hs hl
  have hlt2 : (y : Int) < (a.cs.length : Int) := by omega
  go_enter Try.func37, Try.ntmps37
  go_wp2_with fail
  refine (stand_yes b n t HR.out ht _).mono ?_
  rintro e w1 ⟨rfl, hb1⟩
  rw [HX.out]
  obtain ⟨c0, c1, hb2⟩ := kept hb1
  have h1 := Lib.hid (H.out.kept (Rest.of_below hb2) (fun _ _ => id))
  clear hb1
  go_wp2_with fail
  refine (len_any _ h1.out).mono ?_
  rintro e w2 ⟨rfl, rfl⟩
  go_wp2_with fail
  refine (look_any y _ h1.out hlt).mono ?_
  rintro e w2 ⟨rfl, rfl⟩
  go_wp2
  go_ret
  exact ⟨retb (by rw [← beq_cast]; simp [List.getD, hlt]), hb2⟩

theorem open_in {B : Nat} {s : Spot} {a : Ar} (b n t : Nat) (hR : Rg.Ok b n) (ht : t < 18446744073709551616) (w : World) (h : Arena w B s a) (hl : b + 1 + 4 * n ≤ a.cs.length) :
    Calls Try.prog 29 #[.pointer (some ⟨s.P, 0, none⟩), .agg #[.int .i64 b, .int .i64 n], .int .u64 t] w fun e w' => e = .returned (.bool (a.cs.getD (Rg.stand b n t) 0 == t)) ∧ Below w.heap.size w w' := by
  have H := Lib.hid h
  have HR := Lib.hid hR
  clear h hR
  go_enter Try.func29, Try.ntmps29
  go_wp2_with fail
  refine (stands_in b n t t HR.out ht _ (H.out.alloc _) hl).mono ?_
  rintro e w1 ⟨rfl, hb1⟩
  obtain ⟨c0, c1, hb2⟩ := kept hb1
  clear hb1
  go_wp2
  go_ret
  exact ⟨rfl, hb2⟩

theorem ready_in {B : Nat} {s : Spot} {a : Ar} (b n t : Nat) (hR : Rg.Ok b n) (ht : t + 1 < 18446744073709551616) (w : World) (h : Arena w B s a) (hl : b + 1 + 4 * n ≤ a.cs.length) :
    Calls Try.prog 28 #[.pointer (some ⟨s.P, 0, none⟩), .agg #[.int .i64 b, .int .i64 n], .int .u64 t] w fun e w' => e = .returned (.bool (a.cs.getD (Rg.stand b n t) 0 == t + 1)) ∧ Below w.heap.size w w' := by
  have H := Lib.hid h
  have HR := Lib.hid hR
  clear h hR
  go_enter Try.func28, Try.ntmps28
  go_wp2_with fail
  refine (stands_in b n t (t + 1) HR.out (by omega) _ (H.out.alloc _) hl).mono ?_
  rintro e w1 ⟨rfl, hb1⟩
  obtain ⟨c0, c1, hb2⟩ := kept hb1
  clear hb1
  go_wp2
  go_ret
  exact ⟨rfl, hb2⟩

/-- How many are there, one behind the other. -/
theorem held_in {B : Nat} {s : Spot} {a : Ar} (b n t k : Nat) (hR : Rg.Ok b n) (ht : t + k + 1 < 18446744073709551616) (hk : k < 9223372036854775807) (w : World) (h : Arena w B s a) (hl : b + 1 + 4 * n ≤ a.cs.length)
    (hyes : ∀ j, j < k → a.cs.getD (Rg.stand b n (t + j)) 0 = t + j + 1) (hno : a.cs.getD (Rg.stand b n (t + k)) 0 ≠ t + k + 1) :
    Calls Try.prog 17 #[.pointer (some ⟨s.P, 0, none⟩), .agg #[.int .i64 b, .int .i64 n], .int .u64 t] w fun e w' => e = .returned (.int .i64 (k : Nat)) ∧ Below w.heap.size w w' := by
  have H := Lib.hid h
  have HR := Lib.hid hR
  have HY := Lib.hid hyes
  have HN := Lib.hid hno
  clear h hR hyes hno
  go_enter Try.func17, Try.ntmps17
  go_wp2_with fail
  go_loopg [7] k (fun g s7 wr => ∃ j : Nat, j ≤ k ∧ g = k - j ∧ s7 = .int .i64 j ∧ Hid (wr.cell? ⟨w.heap.size, 0, none⟩ = some (.int .i64 b) ∧ wr.cell? ⟨w.heap.size, 1, none⟩ = some (.int .i64 n) ∧ Below w.heap.size w wr))
  case atStart => exact ⟨0, Nat.zero_le _, rfl, rfl, kept (Below.refl _ _)⟩
  case round =>
    obtain ⟨j, hj, rfl, rfl, hk3⟩ := hrel
    obtain ⟨c0, c1, hb⟩ := hk3.out
    have h1 := Lib.hid (H.out.kept (Rest.of_below hb) (fun _ _ => id))
    clear hb
    go_wp2_with fail
    refine (ready_in b n (t + j) HR.out (by omega) _ h1.out hl).mono ?_
    rintro e w2 ⟨rfl, hb2⟩
    have hn := kept2 hk3.out hb2
    clear hb2 hk3 c0 c1
    obtain ⟨c0, c1, hb⟩ := hn
    by_cases hjk : j < k
    · rw [show (a.cs.getD (Rg.stand b n (t + j)) 0 == t + j + 1) = true by rw [HY.out j hjk]; simp]
      go_wp2_with fail
      go_roundg (k - (j + 1))
      case measure => go_light; omega
      case rel => exact ⟨j + 1, by omega, rfl, by go_num, c0, c1, hb⟩
    · obtain rfl : j = k := by omega
      rw [show (a.cs.getD (Rg.stand b n (t + j)) 0 == t + j + 1) = false by rw [beq_eq_false_iff_ne]; exact HN.out]
      go_wp2
      go_ret
      exact ⟨rfl, hb⟩

end Go.Proofs.Ytieehpajkidbcaa
