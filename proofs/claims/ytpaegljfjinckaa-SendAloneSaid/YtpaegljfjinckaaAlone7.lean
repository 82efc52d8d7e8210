/- With every number of places, every list of frames' words, alone or not, the law on frames that are sent one behind the other returns true, and its arguments read as they did. -/
import Derived.Test.YtpaegljfjinckaaLaw7D
import Derived.Test.YtpaegljfjinckaaOpnW
import Derived.Deep.Slices
namespace Go.Proofs.Ytpaegljfjinckaa
open Go.ChangeShapes Go.WideShapes Go.ChangeAt Go.RowKit

theorem Sal.own : ownKnob Try.prog.godebug = none := by kernel_rfl
theorem Sal.laidOut : laidOutB Try.prog = true := by kernel_rfl

theorem alone_law (X : Nat → Nat → Nat) (len : Nat) (hX : ∀ i, i < len → X i 0 < 18446744073709551616 ∧ X i 1 < 18446744073709551616 ∧ X i 2 < 18446744073709551616) (places : Int) (sa : Option Addr) (cap bk o : Nat) (lone : Bool) (hsa : 0 < len → sa = some ⟨bk, o, none⟩) (w : World)
    (hc : ∀ i, i < len → w.cell? ⟨bk, o + i * 3, none⟩ = some (.int .u64 (X i 0 : Nat)) ∧ w.cell? ⟨bk, o + i * 3 + 1, none⟩ = some (.int .u64 (X i 1 : Nat)) ∧ w.cell? ⟨bk, o + i * 3 + 2, none⟩ = some (.int .u64 (X i 2 : Nat))) :
    Calls Try.prog 3 #[.int .i64 places, .slice sa len cap, .bool lone] w fun e w' => e = .returned (.bool true) ∧ Below w.heap.size w w' := by
  cases lone
  · exact alone_many X len hX places sa cap bk o hsa w hc
  · exact alone_lone X len hX places sa cap bk o hsa w hc

/-- A list of words, by its cells. -/
theorem open_words_list {H : Type} {enc : TypeId × Value → H} {w : World} {base : Nat} {spare : Nat → Bool} {held : Bool} {fuel : Nat} {cs : List Value} {x : DataW H × List MemPlace} (h : DataW.trod enc Try.prog w base spare held fuel 22 cs = some x) :
    cs = [.slice none 0 0] ∨ ∃ (bk o : Nat) (sp : Option Addr) (len cap : Nat) (X : Nat → Nat → Nat), cs = [.slice sp len cap] ∧ (0 < len → sp = some ⟨bk, o, none⟩) ∧
      (∀ i, i < len → X i 0 < 18446744073709551616 ∧ X i 1 < 18446744073709551616 ∧ X i 2 < 18446744073709551616) ∧
      ∀ i, i < len → w.cell? ⟨bk, o + i * 3, none⟩ = some (.int .u64 (X i 0 : Nat)) ∧ w.cell? ⟨bk, o + i * 3 + 1, none⟩ = some (.int .u64 (X i 1 : Nat)) ∧ w.cell? ⟨bk, o + i * 3 + 2, none⟩ = some (.int .u64 (X i 2 : Nat)) := by
  rcases Go.Deep.open_slice Try.underlying22 h with ⟨h0, _⟩ | ⟨a, len, cap, m, n, D, Pl, rfl, _, hl, _, hmm, _, hx⟩
  · exact .inl h0
  have hlm : len ≤ m := by rw [hmm]; split <;> omega
  have each : ∀ i, i < len → ∃ q : Nat × Nat × Nat, w.cell? (a.add (i * 3)) = some (.int .u64 (q.1 : Int)) ∧ w.cell? (a.add (i * 3 + 1)) = some (.int .u64 (q.2.1 : Int)) ∧ w.cell? (a.add (i * 3 + 2)) = some (.int .u64 (q.2.2 : Int)) ∧
      q.1 < 18446744073709551616 ∧ q.2.1 < 18446744073709551616 ∧ q.2.2 < 18446744073709551616 := by
    intro i hi
    obtain ⟨cs', g1, g2⟩ := hx i (by omega)
    rw [Try.cellsWords] at g1
    obtain ⟨_, hlen, hcell⟩ := World.cells?_some g1
    match cs', hlen with
    | [e0, e1, e2], _ =>
      obtain ⟨y0, y1, y2, k, _, t0, t1, t2⟩ := trod_array3 Try.underlying33 Try.cellsUint64 g2
      obtain ⟨n0, rfl, w0⟩ := one_int Try.underlying31 t0
      obtain ⟨n1, rfl, w1⟩ := one_int Try.underlying31 t1
      obtain ⟨n2, rfl, w2⟩ := one_int Try.underlying31 t2
      obtain ⟨m0, rfl⟩ := Int.eq_ofNat_of_zero_le (bounds_u64 w0).1
      obtain ⟨m1, rfl⟩ := Int.eq_ofNat_of_zero_le (bounds_u64 w1).1
      obtain ⟨m2, rfl⟩ := Int.eq_ofNat_of_zero_le (bounds_u64 w2).1
      have b0 := (bounds_u64 w0).2
      have b1 := (bounds_u64 w1).2
      have b2 := (bounds_u64 w2).2
      have c0 := hcell 0 (by omega)
      have c1 := hcell 1 (by omega)
      have c2 := hcell 2 (by omega)
      rw [Go.Deep.add_add] at c0 c1 c2
      exact ⟨(m0, m1, m2), by simpa using c0, by simpa using c1, by simpa using c2, by show m0 < _; omega, by show m1 < _; omega, by show m2 < _; omega⟩
  obtain ⟨q, hq⟩ := Go.Deep.choose_lt each
  obtain ⟨bk, o, spot⟩ := a
  have hs : 0 < len → (some ⟨bk, o, spot⟩ : Option Addr) = some ⟨bk, o, none⟩ := fun h0 => by
    have hspot : spot = none := by simpa [Addr.add] using World.cell?_spot (hq 0 h0).1
    rw [hspot]
  refine .inr ⟨bk, o, some ⟨bk, o, spot⟩, len, cap, fun i j => if j = 0 then (q i).1 else if j = 1 then (q i).2.1 else (q i).2.2, rfl, hs, fun i hi => ?_, fun i hi => ?_⟩
  · obtain ⟨_, _, _, g0, g1, g2⟩ := hq i hi
    exact ⟨g0, g1, g2⟩
  · obtain ⟨g0, g1, g2, _⟩ := hq i hi
    have e := hs (by omega)
    simp only [Option.some.injEq, Addr.mk.injEq, true_and] at e
    subst e
    rw [Addr.add_lit] at g0 g1 g2
    exact ⟨g0, by rw [Nat.add_assoc]; exact g1, by rw [Nat.add_assoc]; exact g2⟩

set_option maxRecDepth 100000 in
theorem liftedAlone (os : Os) (started : os.Started) (H : Type) (enc : TypeId × Value → H) :
    ReturnsInHanded {} Try.checked os 3 .any (Rows.sendAloneSpec.pre6 enc Try.prog Try.f3 Rows.sendAloneRow.domain false) (Rows.sendAloneSpec.post enc Try.prog Try.f3 false true false false) := by
  refine returnsInHanded_of_change (C := Try.checked) Sal.own started (by kernel_rfl) Try.func3
    (ChangeSpec.witness6 (enc := enc) (C := Try.checked) false ⟨#[], #[.int .i64 0, .slice none 0 0, .bool false], []⟩ 8 (by kernel_rfl) (by kernel_rfl) (by kernel_rfl) (by kernel_rfl)) ?_
  intro W base args ds gs before hval0 hW _ _
  have hval : ∀ (j : Nat) t v, Try.f3.params[j]? = some t → args[j]? = some v → Value.okWide Try.prog W .any base t v := hval0
  have hW' := hW
  obtain ⟨p, q, hA0, hV, rfl, hfz, hnd⟩ := hW
  have hA : DataW.TrodAll enc Try.prog W 0 (fun _ => true) true Try.f3.params.toList args.toList ds p := hA0
  rw [Try.params3] at hA hval
  obtain ⟨v0, v1, v2, d0, d1, d2, p0, p1, p2, rfl, rfl, rfl, h0, h1, h2⟩ := trodAll_three hA
  obtain ⟨rfl, rfl⟩ := trodVars_none hV
  obtain ⟨n, rfl, rfl, rfl, wn⟩ := open_int Try.underlying3 (hval 0 3 v0 rfl rfl) h0
  obtain ⟨lone, rfl, rfl, rfl⟩ := open_bool Try.underlying4 (hval 2 4 v2 rfl rfl) h2
  have h1k := h1
  obtain ⟨fuel, hf⟩ := h1
  clear hA0 hval0
  simp only [List.append_nil, List.nil_append] at hW'
  have hlt : ∀ y ∈ p1, y.block < W.heap.size := fun y hy => by simpa using hW'.lt y hy
  have hargs : ∀ W', Below W.heap.size W W' → DataW.Trod enc Try.prog W' 0 (fun b => decide (b < W.heap.size)) true 22 v1 d1 p1 := fun W' hb =>
    Below.trod Sal.laidOut (by kernel_rfl) (of_decide_eq_true (by kernel_rfl)) h1k hb hlt
  obtain ⟨a0, len, cap, rfl⟩ := okWide_slice Try.underlying22 (hval 1 22 v1 rfl rfl)
  have hwalk : Calls Try.prog 3 #[.int .i64 n, .slice a0 len cap, .bool lone] W fun e w' => e = .returned (.bool true) ∧ Below W.heap.size W w' := by
    rcases open_words_list hf with hcs | ⟨bk, o, sp, len', cap', X, hcs, hs, hX, hc⟩
    · simp [Value.cells] at hcs
      obtain ⟨rfl, rfl, rfl⟩ := hcs
      exact alone_law (fun _ _ => 0) 0 (fun i hi => absurd hi (Nat.not_lt_zero _)) n none 0 0 0 lone (fun h => absurd h (Nat.lt_irrefl _)) W (fun i hi => absurd hi (Nat.not_lt_zero _))
    · simp [Value.cells] at hcs
      obtain ⟨rfl, rfl, rfl⟩ := hcs
      exact alone_law X len hX n a0 cap bk o lone hs W hc
  refine hwalk.mono fun e W' ⟨he, hb⟩ => ?_
  subst he
  exact ⟨_, rfl, _, _, _, [], p1, [], hW', trodAll_mk1 (shut_bool Try.underlying4 _), by have k := trodAll_mk3 (shut_int (enc := enc) Try.underlying3 wn) (hargs W' hb) (shut_bool Try.underlying4 lone); rw [List.nil_append, List.append_nil] at k; exact k, rfl, hb.frame _, fun h => by cases h⟩

/-- THE LAW. -/
theorem send_alone_holds : Rows.SendAloneSaid :=
  OpenClaim.holds_of_wide 3 Try.f3 rfl rfl rfl rfl rfl rfl rfl ⟨rfl, rfl, rfl, rfl, rfl⟩ rfl rfl rfl rfl rfl (by kernel_rfl) Try.func3 (by kernel_rfl)
    (of_decide_eq_true (by kernel_rfl)) (by unfold Func.isWrapper; rw [if_neg (of_decide_eq_false (by kernel_rfl))]; exact ⟨rfl, rfl⟩)
    (fun os started H enc _ => liftedAlone os started H enc)

#print axioms send_alone_holds
end Go.Proofs.Ytpaegljfjinckaa
