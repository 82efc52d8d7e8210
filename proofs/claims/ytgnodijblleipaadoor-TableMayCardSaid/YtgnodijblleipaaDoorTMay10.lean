/- With every table and every list of numbers, the law on which tables may be, cells of slots, and live words returns true, and its arguments read as they did, where slot's two fields lie in the package's variables as the program's own text lays them. -/
import Derived.Test.YtgnodijblleipaaDoorRows
import Derived.Test.YtgnodijblleipaaDoorCards
import Derived.Test.YtgnodijblleipaaDoorTie
import Derived.Test.YtgnodijblleipaaDoorLaw10F
import Derived.Test.YtgnodijblleipaaDoorSltDoor
import Derived.Test.YtgnodijblleipaaDoorOpnP
import Derived.SevenTiedAt
namespace Go.Proofs.YtgnodijblleipaaDoor
open Go.ChangeShapes Go.WideShapes Go.ChangeAt Go.RowKit

theorem Tryd.cellsTable : Tryd.prog.cellsOf 26 = 3 := by kernel_rfl
/-- A table's numbers, by value. -/
theorem open_table {r : Reach} {b0 : Nat} {H : Type} {enc : TypeId × Value → H} {w : World} {base : Nat} {spare : Nat → Bool} {held : Bool} {v : Value} {d : DataW H} {p : List MemPlace}
    (hv : Value.okWide Tryd.prog w r b0 26 v) (h : DataW.Trod enc Tryd.prog w base spare held 26 v d p) :
    ∃ b n g : Int, v = .agg #[.int .i64 b, .int .i64 n, .int .i64 g] ∧ -9223372036854775808 ≤ b ∧ b ≤ 9223372036854775807 := by
  obtain ⟨cs, rfl, hsz⟩ := okWide_struct Tryd.underlying26 hv
  obtain ⟨fuel, hf⟩ := h
  obtain ⟨xs, m, _, _, _, hlen, hx⟩ := DataW.trod_struct Tryd.underlying26 hf
  obtain ⟨l⟩ := cs
  have hl : l.length = 3 := hsz.trans Tryd.cellsTable
  match l, hl, xs, hlen with
  | [e0, e1, e2], _, [x0, x1, x2], _ =>
    have h0 := hx 0 _ rfl
    simp only [Value.cells] at h0
    obtain ⟨n0, rfl, w0⟩ := one_int Tryd.underlying3 h0
    have h1 := hx 1 _ rfl
    simp only [Value.cells] at h1
    obtain ⟨n1, rfl, -⟩ := one_int Tryd.underlying3 h1
    have h2 := hx 2 _ rfl
    simp only [Value.cells] at h2
    obtain ⟨n2, rfl, -⟩ := one_int Tryd.underlying3 h2
    exact ⟨n0, n1, n2, rfl, bounds_i64 w0⟩

set_option maxRecDepth 100000 in
theorem lifted_tmay (os : Os) (started : os.Started) (H : Type) (enc : TypeId × Value → H) :
    ReturnsInHanded {} Tryd.checked os 4 .any (fun w args => (Rows.tableMaySpec.pre enc Tryd.prog Tryd.f4 [] false w args ∧ laidMetH Tryd.prog laidSlot w) ∧ sizedMet enc Tryd.prog Tryd.f4 (OpenSpec.ofChange Rows.tableMaySpec) false w args)
      (Rows.tableMaySpec.post enc Tryd.prog Tryd.f4 false true false false) := by
  refine returnsInHanded_of_change_and (C := Tryd.checked) (X := fun w _ => laidMetH Tryd.prog laidSlot w) (fun _ _ _ hh h => h.of_heap hh) Tryd.ownS started (by kernel_rfl) Tryd.func4
    (ChangeSpec.witness_shaped (enc := enc) (C := Tryd.checked) (os := os) (X := fun w _ => laidMetH Tryd.prog laidSlot w) false (World.doorLaid Tryd.prog 64 os) #[.agg #[.int .i64 0, .int .i64 0, .int .i64 0], .slice none 0 0] 8 rfl (World.shaped_of_RefB (by kernel_rfl) (by kernel_rfl)) (by kernel_rfl) (by kernel_rfl) (by kernel_rfl) (door_slot os _)) ?_
  intro W base args ds gs before hval0 hW _ _ hL _
  have hval : ∀ (j : Nat) t v, Tryd.f4.params[j]? = some t → args[j]? = some v → Value.okWide Tryd.prog W .any base t v := hval0
  have hW' := hW
  obtain ⟨p, q, hA0, hV, rfl, hfz, hnd⟩ := hW
  have hA : DataW.TrodAll enc Tryd.prog W 0 (fun _ => true) true Tryd.f4.params.toList args.toList ds p := hA0
  rw [Tryd.params4] at hA hval
  obtain ⟨v0, v1, d0, d1, p0, p1, rfl, rfl, rfl, h0, h1⟩ := trodAll_two hA
  obtain ⟨rfl, rfl⟩ := trodVars_none hV
  have h0k := h0
  obtain ⟨b, n, g, rfl, wb⟩ := open_table (hval 0 26 v0 rfl rfl) h0
  clear h0
  have h1k := h1
  obtain ⟨fuel1, hf1⟩ := h1
  clear hA0 hval0
  simp only [List.append_nil] at hW'
  have hlt0 : ∀ y ∈ p0, y.block < W.heap.size := fun y hy => hW'.lt y (List.mem_append.2 (.inl hy))
  have hargs0 : ∀ W', Below W.heap.size W W' → DataW.Trod enc Tryd.prog W' 0 (fun b => decide (b < W.heap.size)) true 26 (.agg #[.int .i64 b, .int .i64 n, .int .i64 g]) d0 p0 := fun W' hb =>
    Below.trod Tryd.laidOutS (by kernel_rfl) (of_decide_eq_true (by kernel_rfl)) h0k hb hlt0
  have hlt : ∀ y ∈ p1, y.block < W.heap.size := fun y hy => hW'.lt y (List.mem_append.2 (.inr hy))
  have hargs1 : ∀ W', Below W.heap.size W W' → DataW.Trod enc Tryd.prog W' 0 (fun b => decide (b < W.heap.size)) true 27 v1 d1 p1 := fun W' hb =>
    Below.trod Tryd.laidOutS (by kernel_rfl) (of_decide_eq_true (by kernel_rfl)) h1k hb hlt
  obtain ⟨a1, len, cap, rfl⟩ := okWide_slice Tryd.underlying27 (hval 1 27 v1 rfl rfl)
  have hwalk : Calls Tryd.prog 4 #[.agg #[.int .i64 b, .int .i64 n, .int .i64 g], .slice a1 len cap] W fun e w' => e = .returned (.bool true) ∧ Below W.heap.size W w' := by
    rcases open_ints_list Tryd.underlying27 hf1 with hcs | ⟨bk, o, sp, len', cap', X, hcs, hs, hc⟩
    · simp [Value.cells] at hcs
      obtain ⟨rfl, rfl, rfl⟩ := hcs
      exact tmayLaw_any b n g wb (fun _ => 0) none 0 0 0 0 (fun h => absurd h (Nat.lt_irrefl _)) W (fun i hi => absurd hi (Nat.not_lt_zero _)) (slay_of_met hL)
    · simp [Value.cells] at hcs
      obtain ⟨rfl, rfl, rfl⟩ := hcs
      exact tmayLaw_any b n g wb X a1 len cap bk o hs W (fun i hi => (hc i hi).1) (slay_of_met hL)
  refine hwalk.mono fun e W' ⟨he, hb⟩ => ?_
  subst he
  exact ⟨_, rfl, _, _, _, [], p0 ++ p1, [], hW', trodAll_mk1 (shut_bool Tryd.underlying4 _), trodAll_mk2 (hargs0 W' hb) (hargs1 W' hb), rfl, hb.frame _, fun h => by cases h⟩

theorem tableMay_row_holds : Rows.TableMaySaid :=
  OpenClaim.holds_of_wide 4 Tryd.f4 rfl rfl rfl rfl rfl rfl rfl ⟨rfl, rfl, rfl, rfl, rfl⟩ rfl rfl rfl rfl rfl (by kernel_rfl) Tryd.func4 (by kernel_rfl)
    (of_decide_eq_true (by kernel_rfl)) (by unfold Func.isWrapper; rw [if_neg (of_decide_eq_false (by kernel_rfl))]; exact ⟨rfl, rfl⟩)
    (fun os started H enc _ => lifted_tmay os started H enc)

/-- THE TIED CARD. -/
theorem tableMay_card_holds : Rows.TableMayCardSaid :=
  Claim7.holds_tied_plain_at .later [] [.wider, .wider] true Rows.tableMayCard.stood.harness false
    tableMay_row_holds (fun _ h => by cases h) (by kernel_rfl) (fun _ h => by cases h) tableMay_row_tie rfl ⟨rfl, rfl⟩ (by kernel_rfl) rfl
    (fun f fn hf hfn => by
      obtain rfl : f = 4 := Option.some.inj ((show Tryd.prog.funcNamed "cableway/cablewaylaw10.TableMay" = some 4 by kernel_rfl).symm.trans hf) |>.symm
      obtain rfl : fn = Tryd.f4 := (Option.some.inj (Tryd.func4.symm.trans hfn)).symm
      exact ⟨by kernel_rfl, fun j t ht => by
        rw [Tryd.params4] at ht
        have hm : t ∈ [26, 27] := by simpa using Array.mem_of_getElem? ht
        have hall : ([26, 27].all fun u => !Tryd.prog.wantsStandIn u) = true := by kernel_rfl
        exact (show Tryd.prog.wantsStandIn t = false by simpa using List.all_eq_true.1 hall t hm)⟩)
    (by kernel_rfl)

#print axioms tableMay_card_holds
end Go.Proofs.YtgnodijblleipaaDoor
