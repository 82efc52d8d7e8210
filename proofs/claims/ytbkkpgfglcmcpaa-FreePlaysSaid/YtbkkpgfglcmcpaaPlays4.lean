/- With every number and every list of acts, the law on what is taken and given back returns true, and its arguments read as they did. -/
import Derived.Test.YtbkkpgfglcmcpaaRows
import Derived.Test.YtbkkpgfglcmcpaaLaw4C
import Derived.ProofKit
import Derived.OpenShut
import Derived.Deep.SlicePairs
namespace Go.Proofs.Ytbkkpgfglcmcpaa
open Go.ChangeShapes Go.WideShapes Go.ChangeAt Go.RowKit

theorem Fpl.own : ownKnob Try.prog.godebug = none := by kernel_rfl
theorem Fpl.laidOut : laidOutB Try.prog = true := by kernel_rfl
theorem Fpl.cellsAct : Try.prog.cellsOf 27 = 2 := by kernel_rfl
theorem Fpl.cellsBool : Try.prog.cellsOf 4 = 1 := by kernel_rfl
theorem Fpl.cellsInt : Try.prog.cellsOf 3 = 1 := by kernel_rfl

/-- The law's walk, whatever the slice is. -/
theorem plays_all (G : Nat → Bool) (X : Nat → Int) (n : Int) (a : Addr) (len cap : Nat) (w : World)
    (hc : ∀ i, i < len → w.cell? (a.add (i * 2)) = some (.bool (G i)) ∧ w.cell? (a.add (i * 2 + 1)) = some (.int .i64 (X i)) ∧ -9223372036854775808 ≤ X i ∧ X i ≤ 9223372036854775807) :
    Calls Try.prog 3 #[.int .i64 n, .slice (some a) len cap] w fun e w' => e = .returned (.bool true) ∧ Below w.heap.size w w' := by
  obtain ⟨bk, o, spot⟩ := a
  have hs : 0 < len → (some ⟨bk, o, spot⟩ : Option Addr) = some ⟨bk, o, none⟩ := fun h => by
    have hspot : spot = none := by simpa [Addr.add] using World.cell?_spot (hc 0 h).1
    rw [hspot]
  refine plays_any G X n _ len cap bk o hs w (fun i hi => ?_) (fun i hi => (hc i hi).2.2)
  have e := hs (by omega)
  simp only [Option.some.injEq, Addr.mk.injEq, true_and] at e
  subst e
  have h := hc i hi
  rw [Addr.add_lit, Addr.add_lit] at h
  exact ⟨h.1, by rw [Nat.add_assoc]; exact h.2.1⟩

set_option maxRecDepth 100000 in
theorem liftedPlays (os : Os) (started : os.Started) (H : Type) (enc : TypeId × Value → H) :
    ReturnsInHanded {} Try.checked os 3 .any (Rows.freePlaysSpec.pre6 enc Try.prog Try.f3 Rows.freePlaysRow.domain false) (Rows.freePlaysSpec.post enc Try.prog Try.f3 false true false false) := by
  refine returnsInHanded_of_change (C := Try.checked) Fpl.own started (by kernel_rfl) Try.func3
    (ChangeSpec.witness6 (enc := enc) (C := Try.checked) false ⟨#[], #[.int .i64 0, .slice none 0 0], []⟩ 8 (by kernel_rfl) (by kernel_rfl) (by kernel_rfl) (by kernel_rfl)) ?_
  intro W base args ds gs before hval0 hW _ _
  have hval : ∀ (j : Nat) t v, Try.f3.params[j]? = some t → args[j]? = some v → Value.okWide Try.prog W .any base t v := hval0
  have hW' := hW
  obtain ⟨p, q, hA0, hV, rfl, hfz, hnd⟩ := hW
  have hA : DataW.TrodAll enc Try.prog W 0 (fun _ => true) true Try.f3.params.toList args.toList ds p := hA0
  rw [Try.params3] at hA hval
  obtain ⟨v0, v1, d0, d1, p0, p1, rfl, rfl, rfl, h0, h1⟩ := trodAll_two hA
  obtain ⟨rfl, rfl⟩ := trodVars_none hV
  obtain ⟨n, rfl, rfl, rfl, wn⟩ := open_int Try.underlying3 (hval 0 3 v0 rfl rfl) h0
  have h1k := h1
  obtain ⟨fuel, hf⟩ := h1
  clear hA0 hval0
  simp only [List.append_nil, List.nil_append] at hW'
  have hlt : ∀ y ∈ p1, y.block < W.heap.size := fun y hy => by simpa using hW'.lt y hy
  have hargs : ∀ W', Below W.heap.size W W' → DataW.Trod enc Try.prog W' 0 (fun b => decide (b < W.heap.size)) true 22 v1 d1 p1 := fun W' hb =>
    Below.trod Fpl.laidOut (by kernel_rfl) (of_decide_eq_true (by kernel_rfl)) h1k hb hlt
  obtain ⟨a0, len, cap, rfl⟩ := okWide_slice Try.underlying22 (hval 1 22 v1 rfl rfl)
  have hwalk : Calls Try.prog 3 #[.int .i64 n, .slice a0 len cap] W fun e w' => e = .returned (.bool true) ∧ Below W.heap.size W w' := by
    rcases Go.Deep.open_slice_pairs Try.underlying22 Try.underlying27 Fpl.cellsAct rfl rfl Fpl.cellsBool Fpl.cellsInt hf with ⟨hcs, _⟩ | ⟨a, len', cap', m, k, V0, V1, D0, D1, P0, P1, hcs, _, hl, hm, hmm, _, hi⟩
    · simp [Value.cells] at hcs
      obtain ⟨rfl, rfl, rfl⟩ := hcs
      exact plays_any (fun _ => false) (fun _ => 0) n none 0 0 0 0 (fun h => absurd h (Nat.lt_irrefl _)) W (fun i hi => absurd hi (Nat.not_lt_zero _)) (fun i hi => absurd hi (Nat.not_lt_zero _))
    · simp [Value.cells] at hcs
      obtain ⟨rfl, rfl, rfl⟩ := hcs
      have hlm : len ≤ m := by rw [hmm]; split <;> omega
      have each : ∀ i, i < len → ∃ y : Bool × Int, W.cell? (a.add (i * 2)) = some (.bool y.1) ∧ W.cell? (a.add (i * 2 + 1)) = some (.int .i64 y.2) ∧ -9223372036854775808 ≤ y.2 ∧ y.2 ≤ 9223372036854775807 := fun i hil => by
        obtain ⟨g0, g1, t0, t1⟩ := hi i (by omega)
        obtain ⟨y, e0, _⟩ := DataW.trod_bool Try.underlying4 t0
        obtain ⟨z, e1, _, wz⟩ := DataW.trod_int Try.underlying3 t1
        simp at e0 e1
        rw [e0] at g0
        rw [e1] at g1
        exact ⟨(y, z), g0, g1, bounds_i64 wz⟩
      obtain ⟨F, hF⟩ := Go.Deep.choose_lt each
      exact plays_all (fun i => (F i).1) (fun i => (F i).2) n a len cap W hF
  refine hwalk.mono fun e W' ⟨he, hb⟩ => ?_
  subst he
  exact ⟨_, rfl, _, _, _, [], [] ++ p1, [], hW', trodAll_mk1 (shut_bool Try.underlying4 _), trodAll_mk2 (shut_int Try.underlying3 wn) (hargs W' hb), rfl, hb.frame _, fun h => by cases h⟩

/-- THE LAW ON WHAT IS TAKEN AND GIVEN BACK. -/
theorem free_plays_holds : Rows.FreePlaysSaid :=
  OpenClaim.holds_of_wide 3 Try.f3 rfl rfl rfl rfl rfl rfl rfl ⟨rfl, rfl, rfl, rfl, rfl⟩ rfl rfl rfl rfl rfl (by kernel_rfl) Try.func3 (by kernel_rfl)
    (of_decide_eq_true (by kernel_rfl)) (by unfold Func.isWrapper; rw [if_neg (of_decide_eq_false (by kernel_rfl))]; exact ⟨rfl, rfl⟩)
    (fun os started H enc _ => liftedPlays os started H enc)

#print axioms free_plays_holds
end Go.Proofs.Ytbkkpgfglcmcpaa
