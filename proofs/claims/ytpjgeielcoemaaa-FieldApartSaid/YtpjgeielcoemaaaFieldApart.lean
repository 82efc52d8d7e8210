/- With every word and every list of fields, the law on several fields returns true, and its arguments read as they did. -/
import Derived.Test.YtpjgeielcoemaaaRows
import Derived.Test.YtpjgeielcoemaaaWalkF
import Derived.ProofKit
import Derived.OpenShut
import Derived.Deep.SlicePairs
namespace Go.Proofs.Ytpjgeielcoemaaa
open Go.ChangeShapes Go.WideShapes Go.ChangeAt Go.RowKit

theorem Fap.own : ownKnob Try.prog.godebug = none := by kernel_rfl
theorem Fap.laidOut : laidOutB Try.prog = true := by kernel_rfl
theorem Fap.cells24 : Try.prog.cellsOf 24 = 2 := by kernel_rfl
theorem Fap.cells3 : Try.prog.cellsOf 3 = 1 := by kernel_rfl


/-- The law's walk, whatever the slice is: so many pairs of numbers, or nil. -/
theorem law2_all (A B : Nat → Int) (a : Addr) (x : Int) (len cap : Nat) (hx : 0 ≤ x ∧ x ≤ 18446744073709551615) (hlen : len ≤ cap) (hcap : cap ≤ 9223372036854775807) (w : World)
    (hc : ∀ i, i < len → w.cell? (a.add (i * 2)) = some (.int .i64 (A i)) ∧ w.cell? (a.add (i * 2 + 1)) = some (.int .i64 (B i)) ∧ In64 (A i) ∧ In64 (B i)) :
    Calls Try.prog 4 #[.int .u64 x, .slice (some a) len cap] w fun e w' => e = .returned (.bool true) ∧ Below w.heap.size w w' := by
  obtain ⟨x, rfl⟩ := Int.eq_ofNat_of_zero_le hx.1
  obtain ⟨bk, o, spot⟩ := a
  have hs : 0 < len → (some ⟨bk, o, spot⟩ : Option Addr) = some ⟨bk, o, none⟩ := fun h => by
    have hspot : spot = none := by simpa [Addr.add] using World.cell?_spot (hc 0 h).1
    rw [hspot]
  refine law2_any A B _ x len cap bk o (min len 6) (by omega) hlen hcap (fun h => by cases h) rfl (fun h => hs (by omega)) w (fun i hi => ?_) (fun i hi => (hc i (by omega)).2.2)
  have e := hs (by omega)
  simp only [Option.some.injEq, Addr.mk.injEq, true_and] at e
  subst e
  have h := hc i (by omega)
  rw [add_plain, add_plain] at h
  exact ⟨h.1, by rw [Nat.add_assoc]; exact h.2.1⟩

set_option maxRecDepth 100000 in
theorem lifted2 (os : Os) (started : os.Started) (H : Type) (enc : TypeId × Value → H) :
    ReturnsInHanded {} Try.checked os 4 .any (Rows.fieldApartSpec.pre6 enc Try.prog Try.f4 Rows.fieldApartRow.domain false) (Rows.fieldApartSpec.post enc Try.prog Try.f4 false true false false) := by
  refine returnsInHanded_of_change (C := Try.checked) Fap.own started (by kernel_rfl) Try.func4
    (ChangeSpec.witness6 (enc := enc) (C := Try.checked) false ⟨#[], #[.int .u64 0, .slice none 0 0], []⟩ 8 (by kernel_rfl) (by kernel_rfl) (by kernel_rfl) (by kernel_rfl)) ?_
  intro W base args ds gs before hval0 hW _ _
  have hval : ∀ (j : Nat) t v, Try.f4.params[j]? = some t → args[j]? = some v → Value.okWide Try.prog W .any base t v := hval0
  have hW' := hW
  obtain ⟨p, q, hA0, hV, rfl, hfz, hnd⟩ := hW
  have hA : DataW.TrodAll enc Try.prog W 0 (fun _ => true) true Try.f4.params.toList args.toList ds p := hA0
  rw [Try.params4] at hA hval
  obtain ⟨v0, v1, d0, d1, p0, p1, rfl, rfl, rfl, h0, h1⟩ := trodAll_two hA
  obtain ⟨rfl, rfl⟩ := trodVars_none hV
  obtain ⟨x, rfl, rfl, rfl, wx⟩ := open_int Try.underlying22 (hval 0 22 v0 rfl rfl) h0
  have h1k := h1
  obtain ⟨fuel, hf⟩ := h1
  clear hA0 hval0
  simp only [List.append_nil, List.nil_append] at hW'
  have hlt : ∀ y ∈ p1, y.block < W.heap.size := fun y hy => by simpa using hW'.lt y hy
  have hargs : ∀ W', Below W.heap.size W W' → DataW.Trod enc Try.prog W' 0 (fun b => decide (b < W.heap.size)) true 35 v1 d1 p1 := fun W' hb =>
    Below.trod Fap.laidOut (by kernel_rfl) (of_decide_eq_true (by kernel_rfl)) h1k hb hlt
  obtain ⟨a0, len, cap, rfl⟩ := okWide_slice Try.underlying35 (hval 1 35 v1 rfl rfl)
  have hwalk : Calls Try.prog 4 #[.int .u64 x, .slice a0 len cap] W fun e w' => e = .returned (.bool true) ∧ Below W.heap.size W w' := by
    rcases Go.Deep.open_slice_pairs Try.underlying35 Try.underlying24 Fap.cells24 rfl rfl Fap.cells3 Fap.cells3 hf with ⟨hcs, _⟩ | ⟨a, len', cap', m, n, V0, V1, D0, D1, P0, P1, hcs, _, hl, hm, hmm, _, hi⟩
    · simp [Value.cells] at hcs
      obtain ⟨rfl, rfl, rfl⟩ := hcs
      obtain ⟨x, rfl⟩ := Int.eq_ofNat_of_zero_le (bounds_u64 wx).1
      exact law2_any (fun _ => 0) (fun _ => 0) none x 0 0 0 0 0 (by have := (bounds_u64 wx).2; omega) (by omega) (by omega) (fun _ => ⟨rfl, rfl⟩) rfl (fun h => absurd h (Nat.lt_irrefl _)) W (fun i hi => absurd hi (Nat.not_lt_zero _)) (fun i hi => absurd hi (Nat.not_lt_zero _))
    · simp [Value.cells] at hcs
      obtain ⟨rfl, rfl, rfl⟩ := hcs
      have hlm : len ≤ m := by rw [hmm]; split <;> omega
      have each : ∀ i, i < len → ∃ y : Int × Int, W.cell? (a.add (i * 2)) = some (.int .i64 y.1) ∧ W.cell? (a.add (i * 2 + 1)) = some (.int .i64 y.2) ∧ In64 y.1 ∧ In64 y.2 := fun i hil => by
        obtain ⟨g0, g1, t0, t1⟩ := hi i (by omega)
        obtain ⟨y, e0, _, wy⟩ := DataW.trod_int Try.underlying3 t0
        obtain ⟨z, e1, _, wz⟩ := DataW.trod_int Try.underlying3 t1
        simp at e0 e1
        rw [e0] at g0
        rw [e1] at g1
        exact ⟨(y, z), g0, g1, bounds_i64 wy, bounds_i64 wz⟩
      obtain ⟨F, hF⟩ := Go.Deep.choose_lt each
      unfold maxLen at hm
      exact law2_all (fun i => (F i).1) (fun i => (F i).2) a x len cap (bounds_u64 wx) hl hm W hF
  refine hwalk.mono fun e W' ⟨he, hb⟩ => ?_
  subst he
  exact ⟨_, rfl, _, _, _, [], [] ++ p1, [], hW', trodAll_mk1 (shut_bool Try.underlying4 _), trodAll_mk2 (shut_int Try.underlying22 wx) (hargs W' hb), rfl, hb.frame _, fun h => by cases h⟩

/-- THE LAW ON SEVERAL FIELDS. -/
theorem field_apart_holds : Rows.FieldApartSaid :=
  OpenClaim.holds_of_wide 4 Try.f4 rfl rfl rfl rfl rfl rfl rfl ⟨rfl, rfl, rfl, rfl, rfl⟩ rfl rfl rfl rfl rfl (by kernel_rfl) Try.func4 (by kernel_rfl)
    (of_decide_eq_true (by kernel_rfl)) (by unfold Func.isWrapper; rw [if_neg (of_decide_eq_false (by kernel_rfl))]; exact ⟨rfl, rfl⟩)
    (fun os started H enc _ => lifted2 os started H enc)

#print axioms field_apart_holds
end Go.Proofs.Ytpjgeielcoemaaa
