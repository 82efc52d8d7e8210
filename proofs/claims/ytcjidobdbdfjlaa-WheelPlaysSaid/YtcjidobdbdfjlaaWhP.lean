/- A wheel's iterator over its places. -/
import Derived.Test.YtcjidobdbdfjlaaWhF
import Derived.Test.YtcjidobdbdfjlaaRfun
import Derived.Shelf.Abstract
import Derived.WalkKit
import Derived.OwnWalkIn
import Derived.TacticsInMore
import Derived.LoopNIn
import Derived.LoopIn
namespace Go.Proofs.Ytcjidobdbdfjlaa
open Go.RowKit Go.Sort Go.Shelf

attribute [local go_sem] Oper.semAt_some

namespace Wh
/-- The places in the order in which they are gone over: what has come, what is far, then round by round. -/
def nth (k : Nat) : Fin 50 := ⟨(if k = 0 then 0 else if k = 1 then 49 else k - 1) % 50, Nat.mod_lt _ (by decide)⟩
def upto (k : Nat) : List (Fin 50) := (List.range k).map nth
theorem upto_succ (k : Nat) : upto (k + 1) = upto k ++ [nth k] := by simp [upto, List.range_succ]
theorem upto_length (k : Nat) : (upto k).length = k := by simp [upto]
theorem nth_round {L i : Nat} (hL : L < 3) (hi : i < 16) : (nth (2 + L * 16 + i)).val + 1 = 2 + L * 16 + i := by
  unfold nth
  simp only
  rw [if_neg (by omega), if_neg (by omega), Nat.mod_eq_of_lt (by omega)]
  omega
end Wh
def placeAt (P : Nat) (x : Fin 50) : Array Value := #[.pointer (some ⟨P, x.val + 1, none⟩)]

set_option maxRecDepth 100000 in
set_option maxHeartbeats 2000000 in
theorem places_iter (F : Fence) (n : Nat) (hf : F.fn 28) (hro : F.round = none) (hn : 1 ≤ n) (P : Nat) :
    Iter F n Try.prog 28 #[.pointer (some ⟨P, 0, none⟩)] (placeAt P) (fun ys => ys = Wh.upto 50) 50 := by
  intro l J Jx W hY h0
  refine callsIn_of_wp Try.func28 rfl hf ?_ hro
  simp only [Try.ntmps28, List.size_toArray, List.length_cons, List.length_nil, Nat.reduceAdd, Nat.reduceSub, Array.replicate_succ, Array.replicate_zero, List.push_toArray, List.append_toArray, List.nil_append, List.cons_append]
  obtain ⟨fn, tmps, assign, body, hy, hR⟩ := hY [] (Wh.nth 0) W h0 (by decide)
  have hy' : (Instr.yield l #[.pointer (some ⟨P, 1, none⟩)]).run Try.prog W = .ok (.round l fn tmps assign body) W := hy
  clear hy
  gi_wp2
  refine hR.mono ?_
  rintro e W1 (⟨rfl, hJ1⟩ | ⟨rfl, hJx⟩)
  · have HJ1 : J (Wh.upto 1) W1 := hJ1
    obtain ⟨fn, tmps, assign, body, hy, hR⟩ := hY (Wh.upto 1) (Wh.nth 1) W1 HJ1 (by decide)
    have hy' : (Instr.yield l #[.pointer (some ⟨P, 50, none⟩)]).run Try.prog W1 = .ok (.round l fn tmps assign body) W1 := hy
    clear hy
    gi_wp2
    refine hR.mono ?_
    rintro e W2 (⟨rfl, hJ2⟩ | ⟨rfl, hJx⟩)
    · have HJ2 : J (Wh.upto (2 + 0 * 16 + 0)) W2 := by
        rw [show 2 + 0 * 16 + 0 = 1 + 1 from rfl, Wh.upto_succ]; exact hJ2
      clear hJ2 HJ1 hJ1 h0 hy' hR
      gi_wp2
      gi_loopw [20] (fun v wr => ∃ L : Nat, L ≤ 3 ∧ v = .int .i64 L ∧ J (Wh.upto (2 + L * 16 + 0)) wr) (fun v _ => 3 - (intOf v).toNat)
      case atStart => exact ⟨0, by decide, rfl, HJ2⟩
      case round =>
        obtain ⟨L, hL, rfl, HJ⟩ := hrel
        clear HJ2
        by_cases hl3 : L < 3
        · have hl3' : (L : Int) < 3 := by omega
          have hwL : IntKind.i64.wrap ((L : Int) + 1) = (L : Int) + 1 := by rw [IntKind.wrap_i64]; omega
          gi_wp2
          gi_loopw [23] (fun v wr => ∃ i : Nat, i ≤ 16 ∧ v = .int .i64 i ∧ J (Wh.upto (2 + L * 16 + i)) wr) (fun v _ => 16 - (intOf v).toNat)
          case atStart => exact ⟨0, by decide, rfl, HJ⟩
          case round =>
            obtain ⟨i, hi, rfl, HJi⟩ := hrel
            clear HJ
            by_cases hi16 : i < 16
            · have hi16' : (i : Int) < 16 := by omega
              have hwi : IntKind.i64.wrap ((i : Int) + 1) = (i : Int) + 1 := by rw [IntKind.wrap_i64]; omega
              obtain ⟨fn, tmps, assign, body, hy, hR⟩ := hY (Wh.upto (2 + L * 16 + i)) (Wh.nth (2 + L * 16 + i)) wr HJi (by rw [Wh.upto_length]; omega)
              have hy' : (Instr.yield l #[.pointer (some ⟨P, 2 + L * 16 + i, none⟩)]).run Try.prog wr = .ok (.round l fn tmps assign body) wr := by
                rw [← Wh.nth_round hl3 hi16]; exact hy
              clear hy
              gi_wp2
              refine hR.mono ?_
              rintro e W3 (⟨rfl, hJ3⟩ | ⟨rfl, hJx3⟩)
              · gi_wp2
                go_roundw
                case rel => exact ⟨i + 1, by omega, by go_num, by rw [← Nat.add_assoc, Wh.upto_succ]; exact hJ3⟩
                case measure => simp [intOf]; omega
              · gi_wp2
                refine bodyPost_ret (results_none rfl _ _ _) rfl ?_
                exact ⟨⟨_, rfl⟩, .inr ⟨_, hJx3⟩⟩
            · obtain rfl : i = 16 := by omega
              gi_wp2
              go_roundw
              case rel => exact ⟨L + 1, by omega, by go_num, by rw [show 2 + (L + 1) * 16 + 0 = 2 + L * 16 + 16 by omega]; exact HJi⟩
              case measure => simp [intOf]; omega
        · obtain rfl : L = 3 := by omega
          gi_wp2
          go_end0
          exact ⟨⟨_, rfl⟩, .inl ⟨_, rfl, HJ⟩⟩
    · gi_wp2
      refine bodyPost_ret (results_none rfl _ _ _) rfl ?_
      exact ⟨⟨_, rfl⟩, .inr ⟨_, hJx⟩⟩
  · gi_wp2
    refine ⟨fun _ h => (by cases h), ?_⟩
    gi_wp2
    refine bodyPost_ret (results_none rfl _ _ _) rfl ?_
    exact ⟨⟨_, rfl⟩, .inr ⟨_, hJx⟩⟩
end Go.Proofs.Ytcjidobdbdfjlaa
