/- What is left of a word without several fields' bits: the program's Rest, for any list of fields. -/
import Derived.Test.YtcpgigmnmlmpjaaDoorMathB
import Derived.Test.YtcpgigmnmlmpjaaDoorFldB
import Derived.Deep.LoopGhost
namespace Go.Proofs.YtcpgigmnmlmpjaaDoor
open Go.RowKit

def In64 (a : Int) : Prop := -9223372036854775808 ≤ a ∧ a ≤ 9223372036854775807

/-- A field's bits, where they stand; none, where there is no such field. -/
theorem mask_any (a b : Int) (ha : In64 a) (hb : In64 b) (w : World) :
    Calls Tryd.prog 26 #[.agg #[.int .i64 a, .int .i64 b]] w fun e w' => e = .returned (.int .u64 (Fld.mk a b : Nat)) ∧ Below w.heap.size w w' := by
  by_cases h : Fld.May a b
  · have h' := h
    obtain ⟨h1, h2, h3⟩ := h'
    unfold Fld.mk
    rw [if_pos h]
    obtain ⟨x, rfl⟩ := Int.eq_ofNat_of_zero_le h1
    obtain ⟨y, rfl⟩ := Int.eq_ofNat_of_zero_le (show 0 ≤ b by omega)
    exact mask_yes x y (by omega) (by omega) w
  · unfold Fld.mk
    rw [if_neg h]
    exact mask_no a b h ha hb w

theorem may_y (a b : Int) (h : Fld.May a b) (w : World) :
    Calls Tryd.prog 25 #[.agg #[.int .i64 a, .int .i64 b]] w fun e w' => e = .returned (.bool true) ∧ Below w.heap.size w w' := by
  obtain ⟨h1, h2, h3⟩ := h
  obtain ⟨x, rfl⟩ := Int.eq_ofNat_of_zero_le h1
  obtain ⟨y, rfl⟩ := Int.eq_ofNat_of_zero_le (show 0 ≤ b by omega)
  exact may_yes x y (by omega) (by omega) w

/-- Two cells of one element, in a world in which what was there is as it was. -/
theorem elem_in {w wr : World} {bk o : Nat} {x y : Value} (h : w.cell? ⟨bk, o, none⟩ = some x ∧ w.cell? ⟨bk, o + 1, none⟩ = some y) (hb : Below w.heap.size w wr) :
    wr.cell? ⟨bk, o, none⟩ = some x ∧ wr.cell? ⟨bk, o + 1, none⟩ = some y :=
  ⟨(hb.cell (cell_block h.1)).trans h.1, (hb.cell (cell_block h.1)).trans h.2⟩

theorem round_below {w wr w1 : World} {x y : Value} {t : TypeId} (h : Below w.heap.size w wr) (h1 : Below (wr.alloc (.cells #[x, y] t)).heap.size (wr.alloc (.cells #[x, y] t)) w1) : Below w.heap.size w w1 :=
  h.trans ((kept h1).2.2.mono h.size)

theorem andNot_rest (A B : Nat → Int) (x k : Nat) (hx : x < 18446744073709551616) :
    Value.int .u64 (bits .andNot .u64 ((Fld.rest A B x k : Nat) : Int) ((Fld.mk (A k) (B k) : Nat) : Int)) = .int .u64 ((Fld.rest A B x (k + 1) : Nat) : Int) := by
  rw [u64_andNot_nat _ _ (Fld.rest_lt A B hx k) (Fld.mk_lt _ _)]; rfl

set_option maxHeartbeats 2000000 in
/-- Rest: the word without the fields' bits. -/
theorem rest_any (A B : Nat → Int) (sa : Option Addr) (x L cap bk o : Nat) (hx : x < 18446744073709551616) (hL : L ≤ 1048576) (hsa : 0 < L → sa = some ⟨bk, o, none⟩) (w : World)
    (hc : ∀ i, i < L → w.cell? ⟨bk, o + i * 2, none⟩ = some (.int .i64 (A i)) ∧ w.cell? ⟨bk, o + i * 2 + 1, none⟩ = some (.int .i64 (B i))) (hbd : ∀ i, i < L → In64 (A i) ∧ In64 (B i)) :
    Calls Tryd.prog 21 #[.int .u64 x, .slice sa L cap] w fun e w' => e = .returned (.int .u64 (Fld.rest A B x L : Nat)) ∧ Below w.heap.size w w' := by
  have HC := Lib.hid hc
  have HB := Lib.hid hbd
  have HS := Lib.hid hsa
  clear hc hbd hsa
  go_enter Tryd.func21, Tryd.ntmps21
  go_wp2_with fail
  go_loopg [0, 9] L (fun g s0 s9 wr => ∃ k : Nat, k ≤ L ∧ g = L - k ∧ s9 = .int .i64 k ∧ s0 = .int .u64 (Fld.rest A B x k : Nat) ∧ Below w.heap.size w wr)
  case atStart => exact ⟨0, Nat.zero_le _, rfl, rfl, rfl, Below.refl _ _⟩
  case round =>
    obtain ⟨k, hk, rfl, rfl, rfl, hbel⟩ := hrel
    by_cases hlt : k < L
    · obtain rfl := HS.out (by omega)
      obtain ⟨c0, c1⟩ := elem_in (HC.out k hlt) hbel
      go_wp2_with fail
      refine (mask_any (A k) (B k) (HB.out k hlt).1 (HB.out k hlt).2 _).mono ?_
      rintro e w1 ⟨rfl, hb1⟩
      have hb2 := round_below hbel hb1
      clear hb1
      go_wp2_with fail
      go_roundg (L - (k + 1))
      case measure => omega
      case rel => exact ⟨k + 1, by omega, rfl, by go_num, andNot_rest A B x k hx, hb2⟩
    · obtain rfl : k = L := by omega
      go_wp2_with fail
      go_ret
      exact ⟨rfl, hbel⟩

end Go.Proofs.YtcpgigmnmlmpjaaDoor
