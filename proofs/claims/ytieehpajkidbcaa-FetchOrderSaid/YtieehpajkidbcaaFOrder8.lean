/- With every number of places, every list of frames' words and every plan, the law on frames that are sent and fetched one behind the other returns true, and its arguments read as they did. -/
import Derived.Test.YtieehpajkidbcaaLaw8D
import Derived.Test.YtieehpajkidbcaaOpnL
import Derived.Test.YtieehpajkidbcaaOpnB
import Derived.ProofKit
namespace Go.Proofs.Ytieehpajkidbcaa
open Go.ChangeShapes Go.WideShapes Go.ChangeAt Go.RowKit

theorem For.own : ownKnob Try.prog.godebug = none := by kernel_rfl
theorem For.laidOut : laidOutB Try.prog = true := by kernel_rfl

/-- Lists that are nil, or not. -/
theorem order_lists (X : Nat → Nat → Nat) (Y : Nat → Bool) (len plen : Nat) (places : Int) (sa sp : Option Addr) (cap cap2 bk o bp op : Nat) (hX : ∀ i, i < len → X i 0 < 18446744073709551616 ∧ X i 1 < 18446744073709551616 ∧ X i 2 < 18446744073709551616) (hsa : 0 < len → sa = some ⟨bk, o, none⟩) (hsp : 0 < plen → sp = some ⟨bp, op, none⟩) (w : World)
    (hc : ∀ i, i < len → w.cell? ⟨bk, o + i * 3, none⟩ = some (.int .u64 (X i 0 : Nat)) ∧ w.cell? ⟨bk, o + i * 3 + 1, none⟩ = some (.int .u64 (X i 1 : Nat)) ∧ w.cell? ⟨bk, o + i * 3 + 2, none⟩ = some (.int .u64 (X i 2 : Nat)))
    (hp : ∀ i, i < plen → w.cell? ⟨bp, op + i, none⟩ = some (.bool (Y i))) :
    Calls Try.prog 3 #[.int .i64 places, .slice sa len cap, .slice sp plen cap2] w fun e w' => e = .returned (.bool true) ∧ Below w.heap.size w w' :=
  order_law X Y len plen hX places sa sp cap cap2 bk o bp op hsa hsp w ⟨hc, hp⟩

set_option maxRecDepth 100000 in
theorem liftedOrder (os : Os) (started : os.Started) (H : Type) (enc : TypeId × Value → H) :
    ReturnsInHanded {} Try.checked os 3 .any (Rows.fetchOrderSpec.pre6 enc Try.prog Try.f3 Rows.fetchOrderRow.domain false) (Rows.fetchOrderSpec.post enc Try.prog Try.f3 false true false false) := by
  refine returnsInHanded_of_change (C := Try.checked) For.own started (by kernel_rfl) Try.func3
    (ChangeSpec.witness6 (enc := enc) (C := Try.checked) false ⟨#[], #[.int .i64 0, .slice none 0 0, .slice none 0 0], []⟩ 8 (by kernel_rfl) (by kernel_rfl) (by kernel_rfl) (by kernel_rfl)) ?_
  intro W base args ds gs before hval0 hW _ _
  have hval : ∀ (j : Nat) t v, Try.f3.params[j]? = some t → args[j]? = some v → Value.okWide Try.prog W .any base t v := hval0
  have hW' := hW
  obtain ⟨p, q, hA0, hV, rfl, hfz, hnd⟩ := hW
  have hA : DataW.TrodAll enc Try.prog W 0 (fun _ => true) true Try.f3.params.toList args.toList ds p := hA0
  rw [Try.params3] at hA hval
  obtain ⟨v0, v1, v2, d0, d1, d2, p0, p1, p2, rfl, rfl, rfl, h0, h1, h2⟩ := trodAll_three hA
  obtain ⟨rfl, rfl⟩ := trodVars_none hV
  obtain ⟨n, rfl, rfl, rfl, wn⟩ := open_int Try.underlying3 (hval 0 3 v0 rfl rfl) h0
  have h1k := h1
  have h2k := h2
  obtain ⟨fuel1, hf1⟩ := h1
  obtain ⟨fuel2, hf2⟩ := h2
  clear hA0 hval0
  simp only [List.append_nil, List.nil_append] at hW'
  have hlt : ∀ y ∈ p1 ++ p2, y.block < W.heap.size := fun y hy => by simpa using hW'.lt y hy
  have hargs1 : ∀ W', Below W.heap.size W W' → DataW.Trod enc Try.prog W' 0 (fun b => decide (b < W.heap.size)) true 22 v1 d1 p1 := fun W' hb =>
    Below.trod For.laidOut (by kernel_rfl) (of_decide_eq_true (by kernel_rfl)) h1k hb (fun y hy => hlt y (List.mem_append_left _ hy))
  have hargs2 : ∀ W', Below W.heap.size W W' → DataW.Trod enc Try.prog W' 0 (fun b => decide (b < W.heap.size)) true 23 v2 d2 p2 := fun W' hb =>
    Below.trod For.laidOut (by kernel_rfl) (of_decide_eq_true (by kernel_rfl)) h2k hb (fun y hy => hlt y (List.mem_append_right _ hy))
  obtain ⟨a1, len, cap, rfl⟩ := okWide_slice Try.underlying22 (hval 1 22 v1 rfl rfl)
  obtain ⟨a2, plen, cap2, rfl⟩ := okWide_slice Try.underlying23 (hval 2 23 v2 rfl rfl)
  have hno : ∀ {P : Nat → Prop}, ∀ i, i < 0 → P i := fun i hi => absurd hi (Nat.not_lt_zero _)
  have hno2 : ∀ {P : Prop}, (0 : Nat) < 0 → P := fun h => absurd h (Nat.lt_irrefl _)
  have hwalk : Calls Try.prog 3 #[.int .i64 n, .slice a1 len cap, .slice a2 plen cap2] W fun e w' => e = .returned (.bool true) ∧ Below W.heap.size W w' := by
    rcases open_words_list hf1 with hcs | ⟨bk, o, sp, len', cap', X, hcs, hs, hX, hc⟩
    · simp [Value.cells] at hcs
      obtain ⟨rfl, rfl, rfl⟩ := hcs
      rcases open_bools_list hf2 with hcs | ⟨bp, op, sp2, plen', cap2', Y, hcs, hs2, hY⟩
      · simp [Value.cells] at hcs
        obtain ⟨rfl, rfl, rfl⟩ := hcs
        exact order_lists (fun _ _ => 0) (fun _ => false) 0 0 n none none 0 0 0 0 0 0 hno hno2 hno2 W hno hno
      · simp [Value.cells] at hcs
        obtain ⟨rfl, rfl, rfl⟩ := hcs
        exact order_lists (fun _ _ => 0) Y 0 plen n none a2 0 cap2 0 0 bp op hno hno2 hs2 W hno hY
    · simp [Value.cells] at hcs
      obtain ⟨rfl, rfl, rfl⟩ := hcs
      rcases open_bools_list hf2 with hcs | ⟨bp, op, sp2, plen', cap2', Y, hcs, hs2, hY⟩
      · simp [Value.cells] at hcs
        obtain ⟨rfl, rfl, rfl⟩ := hcs
        exact order_lists X (fun _ => false) len 0 n a1 none cap 0 bk o 0 0 hX hs hno2 W hc hno
      · simp [Value.cells] at hcs
        obtain ⟨rfl, rfl, rfl⟩ := hcs
        exact order_lists X Y len plen n a1 a2 cap cap2 bk o bp op hX hs hs2 W hc hY
  refine hwalk.mono fun e W' ⟨he, hb⟩ => ?_
  subst he
  exact ⟨_, rfl, _, _, _, [], p1 ++ p2, [], hW', trodAll_mk1 (shut_bool Try.underlying4 _), by have k := trodAll_mk3 (shut_int (enc := enc) Try.underlying3 wn) (hargs1 W' hb) (hargs2 W' hb); rw [List.nil_append] at k; exact k, rfl, hb.frame _, fun h => by cases h⟩

/-- THE LAW. -/
theorem fetch_order_holds : Rows.FetchOrderSaid :=
  OpenClaim.holds_of_wide 3 Try.f3 rfl rfl rfl rfl rfl rfl rfl ⟨rfl, rfl, rfl, rfl, rfl⟩ rfl rfl rfl rfl rfl (by kernel_rfl) Try.func3 (by kernel_rfl)
    (of_decide_eq_true (by kernel_rfl)) (by unfold Func.isWrapper; rw [if_neg (of_decide_eq_false (by kernel_rfl))]; exact ⟨rfl, rfl⟩)
    (fun os started H enc _ => liftedOrder os started H enc)

#print axioms fetch_order_holds
end Go.Proofs.Ytieehpajkidbcaa
