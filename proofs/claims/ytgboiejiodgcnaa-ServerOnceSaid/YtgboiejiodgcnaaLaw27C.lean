/- ServerOnce: however often one call that is sure comes, it is begun once, and all that is told of its end is the same. -/
import Derived.Test.YtgboiejiodgcnaaLaw27A
import Derived.Test.YtgboiejiodgcnaaSvO
import Derived.Deep.CutBlock
namespace Go.Proofs.Ytgboiejiodgcnaa
open Go.RowKit Go.Sort

namespace So
/-- What comes: an act's fourteen cells. -/
structure Ac where
  W : Int
  f : Wk.Fr
  N : Int
  O : Int
def Ac.cells (a : Ac) : List Value := .int .i64 a.W :: (a.f.cells ++ [.int .i64 a.N, .int .i64 a.O])
/-- The acts as they came in. -/
def Acts (w : World) (bk o len : Nat) (X : Nat → Ac) : Prop := ∀ i, i < len → w.rangeAt bk (o + i * 14) (X i).cells
theorem Acts.at_ {w w' : World} {bk o len i : Nat} {X : Nat → Ac} (h : Acts w bk o len X) (hr : Rest (fun _ => False) w w') (hi : i < len) :
    w'.cell? ⟨bk, o + i * 14, none⟩ = some (.int .i64 (X i).W) ∧ w'.cell? ⟨bk, o + i * 14 + 7, none⟩ = some (.int .i64 (X i).f.r) ∧ w'.cell? ⟨bk, o + i * 14 + 12, none⟩ = some (.int .i64 (X i).N) ∧ w'.cell? ⟨bk, o + i * 14 + 13, none⟩ = some (.int .i64 (X i).O) := by
  have hc : ∀ (j : Nat) (u : Value), (X i).cells[j]? = some u → w'.cell? ⟨bk, o + i * 14 + j, none⟩ = some u := fun j u hu => by
    have := h i hi j u hu
    rw [World.cell?_of_block (hr.block _ (block_lt_of_cell this) (fun x => x))]
    exact this
  exact ⟨hc 0 _ rfl, hc 7 _ rfl, hc 12 _ rfl, hc 13 _ rfl⟩
theorem low (p : Int) (k : Nat) (hk : k ≤ 62) : ∃ j : Nat, j < 2 ^ k ∧ bits .and .i64 p ((2 ^ k - 1 : Nat) : Int) = (j : Int) := by
  have hp : (0 : Int) < ((2 ^ k : Nat) : Int) := by have := Nat.two_pow_pos k; omega
  have h1 := Int.emod_nonneg p (Int.ne_of_gt hp)
  have h2 := Int.emod_lt_of_pos p hp
  refine ⟨(p % ((2 ^ k : Nat) : Int)).toNat, by omega, ?_⟩
  rw [i64_low p k hk]
  omega
end So

set_option maxHeartbeats 8000000 in
set_option maxRecDepth 100000 in
/-- The law. -/
theorem serveronce_any (sp : Option Addr) (len cap bk off : Nat) (X : Nat → So.Ac) (w : World) (hs : 0 < len → sp = some ⟨bk, off, none⟩) (hc : So.Acts w bk off len X) :
    Calls Try.prog 3 #[.slice sp len cap] w fun e w' => e = .returned (.bool true) ∧ Below w.heap.size w w' := by
  have HA := Lib.hid hc
  have HS := Lib.hid hs
  clear hc hs
  go_enter Try.func3, Try.ntmps3
  go_wp2_with fail
  refine (svnew_any 2 1 4 2 w).mono ?_
  rintro e w1 ⟨S, ps, rfl, h1⟩
  rw [So.new_is] at h1
  have H1 := Lib.hid h1
  clear h1
  go_wp2_with fail
  go_loopg [4, 5, 6] (81 : Nat) (fun gh s4 s5 s6 wx => ∃ (i : Nat) (v : Int) (known : Bool) (o : Sv.Ob), s4 = .int .u32 v ∧ s5 = .bool known ∧ s6 = .int .i64 (i : Int) ∧ i ≤ 80 ∧ 81 - i ≤ gh ∧ Hid (known = true → v = 7) ∧ Hid (So.Gm o) ∧ Hid (Own (fun _ => False) w wx [Sv.part S ps o]))
  case atStart => exact ⟨0, 0, false, So.o0, rfl, rfl, rfl, by omega, by omega, Lib.hid (fun e => by cases e), Lib.hid .none_, H1⟩
  case round =>
    obtain ⟨i, v, known, o, rfl, rfl, rfl, hi, hg, HV, HG, H⟩ := hrel
    clear H1
    have hw1 : IntKind.i64.wrap ((i : Int) + 1) = (i : Int) + 1 := by rw [IntKind.wrap_i64]; omega
    by_cases hil : i < len ∧ i < 80
    · obtain ⟨hil, hi80⟩ := hil
      have hil' : (i : Int) < (len : Int) := by omega
      have hi80' : (i : Int) < 80 := by omega
      have hd1 : decide ((i : Int) < (len : Int)) = true := decide_eq_true hil'
      have hd2 : decide ((i : Int) < 80) = true := decide_eq_true hi80'
      obtain rfl := HS.out (by omega)
      obtain ⟨a0, a7, a12, a13⟩ := HA.out.at_ H.out.rest hil
      obtain ⟨T, hT, he⟩ := So.low (X i).f.r 4 (by decide)
      rw [show ((2 ^ 4 - 1 : Nat) : Int) = 15 from rfl] at he
      obtain ⟨V, hV, hv⟩ := So.low (X i).W 3 (by decide)
      rw [show ((2 ^ 3 - 1 : Nat) : Int) = 7 from rfl] at hv
      have H1 := Lib.hid (H.out.lay (.cells #[.int .i64 1, .int .i64 1, .int .i64 0, .int .i64 0, .int .i64 0, .int .u32 9, .int .i64 (T : Int), .bool true, .bool false, .int .i64 1, .int .u32 7] 29))
      clear H
      go_upto_region 7 with fail
      generalize wr.alloc _ = w2 at H1 ⊢
      generalize wr.heap.size = bF at H1 ⊢
      clear a0 a7 a12 a13
      obtain ⟨a0, a7, a12, a13⟩ := HA.out.at_ H1.out.rest hil
      have HT := Lib.hid hT
      clear hT he
      go_upto_block 2 with fail
      go_cut [4, 5] (fun s4 s5 wx => ∃ (v : Int) (known : Bool) (o : Sv.Ob), s4 = .int .u32 v ∧ s5 = .bool known ∧ Hid (known = true → v = 7) ∧ Hid (So.Gm o) ∧ Hid (Own (fun _ => False) w wx [Sv.part S ps o]))
      case first =>
        obtain ⟨hok, hwl, hrl, hst⟩ := HG.out.asks
        have HO := Lib.hid hok
        have HWL := Lib.hid hwl
        have HRL := Lib.hid hrl
        clear hok hwl hrl hst
        rcases (show V = 4 ∨ V = 5 ∨ V = 6 ∨ V = 7 ∨ V < 4 by omega) with rfl | rfl | rfl | rfl | hV4
        · have H1' := Lib.hid H1.out
          obtain ⟨j, hj, hjb⟩ := So.low (X i).N 1 (by decide)
          rw [show ((2 ^ 1 - 1 : Nat) : Int) = 1 from rfl] at hjb
          obtain ⟨u, hu, hub⟩ := So.low (X i).O 2 (by decide)
          rw [show ((2 ^ 2 - 1 : Nat) : Int) = 3 from rfl] at hub
          have HJ := Lib.hid hj
          clear hj hu
          go_upto_region 11 with fail
          refine wp_region_Z_drew 13 (S := fun w' => w'.cell? ⟨bk, off + i * 14 + 12, none⟩ = some (.int .i64 (X i).N) ∧ w'.cell? ⟨bk, off + i * 14 + 13, none⟩ = some (.int .i64 (X i).O)) (by kernel_rfl) ⟨a12, a13⟩ (fun hHeld => ?_)
          have H5 := Lib.hid H1.out.drew
          clear H1 H1' a0 a7 a12 a13
          generalize w2.drew = w5 at H5 hHeld ⊢
          refine wpAnyZ_yield 0 (.pointer (some ⟨S, 0, none⟩)) rfl (by kernel_rfl) (by kernel_rfl) (by kernel_rfl) (fun d _ _ _ h => by cases d <;> exact h) (by rfl) (by assumption) (fun _ _ => by go_simp) ?_
          simp only [Act.put, List.setIfInBounds_toArray, List.set_cons_zero, List.set_cons_succ]
          refine wpAnyZ_yieldc [6,5,4,3] 1 (.slice (some ⟨bk, off, none⟩) len cap) rfl (by kernel_rfl) (by kernel_rfl) (by kernel_rfl) (fun d _ _ _ h => by cases d <;> exact h) (by rfl) (by assumption) (fun _ _ => by go_simp) ?_
          simp only [Act.put, List.setIfInBounds_toArray, List.set_cons_zero, List.set_cons_succ]
          refine wpAnyZ_yieldc [6,5,4,3] 2 (.int .i64 (i : Int)) rfl (by kernel_rfl) (by kernel_rfl) (by kernel_rfl) (fun d _ _ _ h => by cases d <;> exact h) (by rfl) (by assumption) (fun _ _ => by go_simp) ?_
          simp only [Act.put, List.setIfInBounds_toArray, List.set_cons_zero, List.set_cons_succ]
          refine wpAnyZ_yieldc [6,5,4] 3 (.pointer (some ⟨bk, off + i * 14, none⟩)) rfl (by kernel_rfl) (by kernel_rfl) (by kernel_rfl) (fun d _ _ _ h => by cases d <;> exact h) (by rfl) (by assumption) (fun _ _ => by go_simp) ?_
          simp only [Act.put, List.setIfInBounds_toArray, List.set_cons_zero, List.set_cons_succ]
          refine wpAnyZ_yieldc [6,5] 4 (.pointer (some ⟨bk, off + i * 14 + 12, none⟩)) rfl (by kernel_rfl) (by kernel_rfl) (by kernel_rfl) (fun d _ _ _ h => by cases d <;> exact h) (by rfl) (by assumption) (fun _ _ => by go_simp) ?_
          simp only [Act.put, List.setIfInBounds_toArray, List.set_cons_zero, List.set_cons_succ]
          refine wpAnyZ_yieldc [6] 5 (.int .i64 (X i).N) rfl (by kernel_rfl) (by kernel_rfl) (by kernel_rfl) (fun d _ _ _ h => by cases d <;> exact h) (by rfl) (by assumption) (fun _ hSw => by have hcs := hSw.1; go_simp) ?_
          simp only [Act.put, List.setIfInBounds_toArray, List.set_cons_zero, List.set_cons_succ]
          refine wpAnyZ_yield 6 (.int .i64 (j : Int)) rfl (by kernel_rfl) (by kernel_rfl) (by kernel_rfl) (fun d _ _ _ h => by cases d <;> exact h) (by rfl) (by assumption) (fun _ _ => by go_simp) ?_
          simp only [Act.put, List.setIfInBounds_toArray, List.set_cons_zero, List.set_cons_succ]
          refine wpAnyZ_yieldc [12,11,10,9] 7 (.slice (some ⟨bk, off, none⟩) len cap) rfl (by kernel_rfl) (by kernel_rfl) (by kernel_rfl) (fun d _ _ _ h => by cases d <;> exact h) (by rfl) (by assumption) (fun _ _ => by go_simp) ?_
          simp only [Act.put, List.setIfInBounds_toArray, List.set_cons_zero, List.set_cons_succ]
          refine wpAnyZ_yieldc [12,11,10,9] 8 (.int .i64 (i : Int)) rfl (by kernel_rfl) (by kernel_rfl) (by kernel_rfl) (fun d _ _ _ h => by cases d <;> exact h) (by rfl) (by assumption) (fun _ _ => by go_simp) ?_
          simp only [Act.put, List.setIfInBounds_toArray, List.set_cons_zero, List.set_cons_succ]
          refine wpAnyZ_yieldc [12,11,10] 9 (.pointer (some ⟨bk, off + i * 14, none⟩)) rfl (by kernel_rfl) (by kernel_rfl) (by kernel_rfl) (fun d _ _ _ h => by cases d <;> exact h) (by rfl) (by assumption) (fun _ _ => by go_simp) ?_
          simp only [Act.put, List.setIfInBounds_toArray, List.set_cons_zero, List.set_cons_succ]
          refine wpAnyZ_yieldc [12,11] 10 (.pointer (some ⟨bk, off + i * 14 + 13, none⟩)) rfl (by kernel_rfl) (by kernel_rfl) (by kernel_rfl) (fun d _ _ _ h => by cases d <;> exact h) (by rfl) (by assumption) (fun _ _ => by go_simp) ?_
          simp only [Act.put, List.setIfInBounds_toArray, List.set_cons_zero, List.set_cons_succ]
          refine wpAnyZ_yieldc [12] 11 (.int .i64 (X i).O) rfl (by kernel_rfl) (by kernel_rfl) (by kernel_rfl) (fun d _ _ _ h => by cases d <;> exact h) (by rfl) (by assumption) (fun _ hSw => by have hcs := hSw.2; go_simp) ?_
          simp only [Act.put, List.setIfInBounds_toArray, List.set_cons_zero, List.set_cons_succ]
          refine wpAnyZ_yield 12 (.int .i64 (u : Int)) rfl (by kernel_rfl) (by kernel_rfl) (by kernel_rfl) (fun d _ _ _ h => by cases d <;> exact h) (by rfl) (by assumption) (fun _ _ => by go_simp) ?_
          simp only [Act.put, List.setIfInBounds_toArray, List.set_cons_zero, List.set_cons_succ]
          refine wpAnyZ_ready (rs := [13]) (by kernel_rfl) (by simp) (AllReadyZ.cons rfl (fun K hK => ?_) AllReadyZ.nil)
          go_simp
          go_at_call 6
          refine (svwork_yes (i := 1) (k := j) (List.getElem?_eq_getElem (by rw [HWL.out]; exact HJ.out)) HO.out (by have := HRL.out; omega) (u : Int) w5 H5.out rfl).mono ?_
          rintro e w3 ⟨rfl, h3⟩
          have H3 := Lib.hid h3.tail
          clear h3 H5
          have HG2 := Lib.hid (HG.out.work HJ.out (u : Int))
          refine hK.out _ _ (fun h => absurd rfl h) (fun _ => ?_)
          clear hK K
          try simp only [Act.put, List.setIfInBounds_toArray, List.set_cons_zero, List.set_cons_succ]
          refine wpAnyZ_done (by kernel_rfl) ?_ _
          clear hHeld
          go_wp2_with fail
          go_meet
          case rel => exact ⟨v, known, _, rfl, rfl, HV, HG2, H3⟩
        · have H1' := Lib.hid H1.out
          obtain ⟨j, hj, hjb⟩ := So.low (X i).N 1 (by decide)
          rw [show ((2 ^ 1 - 1 : Nat) : Int) = 1 from rfl] at hjb
          obtain ⟨u, hu, hub⟩ := So.low (X i).O 2 (by decide)
          rw [show ((2 ^ 2 - 1 : Nat) : Int) = 3 from rfl] at hub
          have HJ := Lib.hid hj
          clear hj hu
          go_upto_region 11 with fail
          refine wp_region_Z_drew 13 (S := fun w' => w'.cell? ⟨bk, off + i * 14 + 12, none⟩ = some (.int .i64 (X i).N) ∧ w'.cell? ⟨bk, off + i * 14 + 13, none⟩ = some (.int .i64 (X i).O)) (by kernel_rfl) ⟨a12, a13⟩ (fun hHeld => ?_)
          have H5 := Lib.hid H1.out.drew
          clear H1 H1' a0 a7 a12 a13
          generalize w2.drew = w5 at H5 hHeld ⊢
          refine wpAnyZ_yield 0 (.pointer (some ⟨S, 0, none⟩)) rfl (by kernel_rfl) (by kernel_rfl) (by kernel_rfl) (fun d _ _ _ h => by cases d <;> exact h) (by rfl) (by assumption) (fun _ _ => by go_simp) ?_
          simp only [Act.put, List.setIfInBounds_toArray, List.set_cons_zero, List.set_cons_succ]
          refine wpAnyZ_yieldc [6,5,4,3] 1 (.slice (some ⟨bk, off, none⟩) len cap) rfl (by kernel_rfl) (by kernel_rfl) (by kernel_rfl) (fun d _ _ _ h => by cases d <;> exact h) (by rfl) (by assumption) (fun _ _ => by go_simp) ?_
          simp only [Act.put, List.setIfInBounds_toArray, List.set_cons_zero, List.set_cons_succ]
          refine wpAnyZ_yieldc [6,5,4,3] 2 (.int .i64 (i : Int)) rfl (by kernel_rfl) (by kernel_rfl) (by kernel_rfl) (fun d _ _ _ h => by cases d <;> exact h) (by rfl) (by assumption) (fun _ _ => by go_simp) ?_
          simp only [Act.put, List.setIfInBounds_toArray, List.set_cons_zero, List.set_cons_succ]
          refine wpAnyZ_yieldc [6,5,4] 3 (.pointer (some ⟨bk, off + i * 14, none⟩)) rfl (by kernel_rfl) (by kernel_rfl) (by kernel_rfl) (fun d _ _ _ h => by cases d <;> exact h) (by rfl) (by assumption) (fun _ _ => by go_simp) ?_
          simp only [Act.put, List.setIfInBounds_toArray, List.set_cons_zero, List.set_cons_succ]
          refine wpAnyZ_yieldc [6,5] 4 (.pointer (some ⟨bk, off + i * 14 + 12, none⟩)) rfl (by kernel_rfl) (by kernel_rfl) (by kernel_rfl) (fun d _ _ _ h => by cases d <;> exact h) (by rfl) (by assumption) (fun _ _ => by go_simp) ?_
          simp only [Act.put, List.setIfInBounds_toArray, List.set_cons_zero, List.set_cons_succ]
          refine wpAnyZ_yieldc [6] 5 (.int .i64 (X i).N) rfl (by kernel_rfl) (by kernel_rfl) (by kernel_rfl) (fun d _ _ _ h => by cases d <;> exact h) (by rfl) (by assumption) (fun _ hSw => by have hcs := hSw.1; go_simp) ?_
          simp only [Act.put, List.setIfInBounds_toArray, List.set_cons_zero, List.set_cons_succ]
          refine wpAnyZ_yield 6 (.int .i64 (j : Int)) rfl (by kernel_rfl) (by kernel_rfl) (by kernel_rfl) (fun d _ _ _ h => by cases d <;> exact h) (by rfl) (by assumption) (fun _ _ => by go_simp) ?_
          simp only [Act.put, List.setIfInBounds_toArray, List.set_cons_zero, List.set_cons_succ]
          refine wpAnyZ_yieldc [12,11,10,9] 7 (.slice (some ⟨bk, off, none⟩) len cap) rfl (by kernel_rfl) (by kernel_rfl) (by kernel_rfl) (fun d _ _ _ h => by cases d <;> exact h) (by rfl) (by assumption) (fun _ _ => by go_simp) ?_
          simp only [Act.put, List.setIfInBounds_toArray, List.set_cons_zero, List.set_cons_succ]
          refine wpAnyZ_yieldc [12,11,10,9] 8 (.int .i64 (i : Int)) rfl (by kernel_rfl) (by kernel_rfl) (by kernel_rfl) (fun d _ _ _ h => by cases d <;> exact h) (by rfl) (by assumption) (fun _ _ => by go_simp) ?_
          simp only [Act.put, List.setIfInBounds_toArray, List.set_cons_zero, List.set_cons_succ]
          refine wpAnyZ_yieldc [12,11,10] 9 (.pointer (some ⟨bk, off + i * 14, none⟩)) rfl (by kernel_rfl) (by kernel_rfl) (by kernel_rfl) (fun d _ _ _ h => by cases d <;> exact h) (by rfl) (by assumption) (fun _ _ => by go_simp) ?_
          simp only [Act.put, List.setIfInBounds_toArray, List.set_cons_zero, List.set_cons_succ]
          refine wpAnyZ_yieldc [12,11] 10 (.pointer (some ⟨bk, off + i * 14 + 13, none⟩)) rfl (by kernel_rfl) (by kernel_rfl) (by kernel_rfl) (fun d _ _ _ h => by cases d <;> exact h) (by rfl) (by assumption) (fun _ _ => by go_simp) ?_
          simp only [Act.put, List.setIfInBounds_toArray, List.set_cons_zero, List.set_cons_succ]
          refine wpAnyZ_yieldc [12] 11 (.int .i64 (X i).O) rfl (by kernel_rfl) (by kernel_rfl) (by kernel_rfl) (fun d _ _ _ h => by cases d <;> exact h) (by rfl) (by assumption) (fun _ hSw => by have hcs := hSw.2; go_simp) ?_
          simp only [Act.put, List.setIfInBounds_toArray, List.set_cons_zero, List.set_cons_succ]
          refine wpAnyZ_yield 12 (.int .i64 (u : Int)) rfl (by kernel_rfl) (by kernel_rfl) (by kernel_rfl) (fun d _ _ _ h => by cases d <;> exact h) (by rfl) (by assumption) (fun _ _ => by go_simp) ?_
          simp only [Act.put, List.setIfInBounds_toArray, List.set_cons_zero, List.set_cons_succ]
          refine wpAnyZ_ready (rs := [13]) (by kernel_rfl) (by simp) (AllReadyZ.cons rfl (fun K hK => ?_) AllReadyZ.nil)
          go_simp
          go_at_call 6
          refine (svwork_yes (i := 1) (k := j) (List.getElem?_eq_getElem (by rw [HWL.out]; exact HJ.out)) HO.out (by have := HRL.out; omega) (u : Int) w5 H5.out rfl).mono ?_
          rintro e w3 ⟨rfl, h3⟩
          have H3 := Lib.hid h3.tail
          clear h3 H5
          have HG2 := Lib.hid (HG.out.work HJ.out (u : Int))
          refine hK.out _ _ (fun h => absurd rfl h) (fun _ => ?_)
          clear hK K
          try simp only [Act.put, List.setIfInBounds_toArray, List.set_cons_zero, List.set_cons_succ]
          refine wpAnyZ_done (by kernel_rfl) ?_ _
          clear hHeld
          go_wp2_with fail
          go_meet
          case rel => exact ⟨v, known, _, rfl, rfl, HV, HG2, H3⟩
        · cases hq : o.out 1 with
          | nil =>
            have hw0 : o.waits 1 = 0 := by unfold Sv.Ob.waits; rw [if_pos (by decide)]; exact congrArg List.length hq
            clear hq
            go_wp2_with fail
            refine (svnext_no (i := 1) hw0 w2 H1.out rfl).mono ?_
            rintro e w3 ⟨rfl, hb⟩
            have H3 := Lib.hid ((H1.out.past hb).tail.lay (.cells #[.int .i64 0, .int .i64 0, .int .i64 0, .int .i64 0, .int .i64 0, .int .u32 0, .int .i64 0, .bool false, .bool false, .int .i64 0, .int .u32 0] 29)).tail
            clear hb H1 a0 a7 a12 a13
            dsimp only
            go_wp2_with fail
            go_meet
            case rel => exact ⟨v, known, o, rfl, rfl, HV, HG, H3⟩
          | cons y q =>
            obtain ⟨hgs, hyv, hql⟩ := HG.out.sent hq
            have HQ := Lib.hid (And.intro hq hql)
            have HG2 := Lib.hid hgs
            clear hq hql hgs
            go_wp2_with fail
            refine (svnext_yes (i := 1) (c := 1) (by decide) HQ.out.1 w2 H1.out rfl).mono ?_
            rintro e w3 ⟨rfl, hb⟩
            have H3 := Lib.hid ((H1.out.past hb).lay (.cells #[.int .i64 y.k, .int .i64 y.c, .int .i64 y.s, .int .i64 y.t, .int .i64 y.g, .int .u32 y.a, .int .i64 y.r, .bool y.su, .bool y.st, .int .i64 y.q, .int .u32 y.v] 29))
            clear hb H1 a0 a7 a12 a13
            dsimp only
            go_upto_region 15 with fail
            generalize w3.alloc _ = w4 at H3 ⊢
            generalize w3.heap.size = bY at H3 ⊢
            obtain ⟨g0, g1, g2, g3, g4, g5, g6, g7, g8, g9, g10⟩ := frame_cells (H3.out.box 0 rfl)
            by_cases hy : y.k = 2
            · have hv7 := hyv hy
              rw [hy] at g0
              rw [hv7] at g10
              clear hyv hy hv7
              cases known with
              | false =>
                go_wp2_with fail
                refine (svsent_yes (i := 2) (c := 1) (by decide) HQ.out.1 HQ.out.2 w4 H3.out rfl).mono ?_
                rintro e w5 ⟨rfl, h5⟩
                have H5 := Lib.hid h5.tail.tail
                clear h5 H3 g0 g1 g2 g3 g4 g5 g6 g7 g8 g9 g10
                go_wp2_with fail
                go_meet
                case rel => exact ⟨7, true, _, rfl, rfl, Lib.hid (fun _ => rfl), HG2, H5⟩
              | true =>
                obtain rfl := HV.out rfl
                go_wp2_with fail
                refine (svsent_yes (i := 2) (c := 1) (by decide) HQ.out.1 HQ.out.2 w4 H3.out rfl).mono ?_
                rintro e w5 ⟨rfl, h5⟩
                have H5 := Lib.hid h5.tail.tail
                clear h5 H3 g0 g1 g2 g3 g4 g5 g6 g7 g8 g9 g10
                go_wp2_with fail
                go_meet
                case rel => exact ⟨7, true, _, rfl, rfl, Lib.hid (fun _ => rfl), HG2, H5⟩
            · have hdy : decide (y.k = 2) = false := decide_eq_false hy
              have hdy2 : (y.k == 2) = false := by simpa using hy
              clear hyv
              go_wp2_with fail
              refine (svsent_yes (i := 2) (c := 1) (by decide) HQ.out.1 HQ.out.2 w4 H3.out rfl).mono ?_
              rintro e w5 ⟨rfl, h5⟩
              have H5 := Lib.hid h5.tail.tail
              clear h5 H3 g0 g1 g2 g3 g4 g5 g6 g7 g8 g9 g10
              go_wp2_with fail
              go_meet
              case rel => exact ⟨v, known, _, rfl, rfl, HV, HG2, H5⟩
        · cases hq : o.out 1 with
          | nil =>
            have hw0 : o.waits 1 = 0 := by unfold Sv.Ob.waits; rw [if_pos (by decide)]; exact congrArg List.length hq
            clear hq
            go_wp2_with fail
            refine (svnext_no (i := 1) hw0 w2 H1.out rfl).mono ?_
            rintro e w3 ⟨rfl, hb⟩
            have H3 := Lib.hid ((H1.out.past hb).tail.lay (.cells #[.int .i64 0, .int .i64 0, .int .i64 0, .int .i64 0, .int .i64 0, .int .u32 0, .int .i64 0, .bool false, .bool false, .int .i64 0, .int .u32 0] 29)).tail
            clear hb H1 a0 a7 a12 a13
            dsimp only
            go_wp2_with fail
            go_meet
            case rel => exact ⟨v, known, o, rfl, rfl, HV, HG, H3⟩
          | cons y q =>
            obtain ⟨hgs, hyv, hql⟩ := HG.out.sent hq
            have HQ := Lib.hid (And.intro hq hql)
            have HG2 := Lib.hid hgs
            clear hq hql hgs
            go_wp2_with fail
            refine (svnext_yes (i := 1) (c := 1) (by decide) HQ.out.1 w2 H1.out rfl).mono ?_
            rintro e w3 ⟨rfl, hb⟩
            have H3 := Lib.hid ((H1.out.past hb).lay (.cells #[.int .i64 y.k, .int .i64 y.c, .int .i64 y.s, .int .i64 y.t, .int .i64 y.g, .int .u32 y.a, .int .i64 y.r, .bool y.su, .bool y.st, .int .i64 y.q, .int .u32 y.v] 29))
            clear hb H1 a0 a7 a12 a13
            dsimp only
            go_upto_region 15 with fail
            generalize w3.alloc _ = w4 at H3 ⊢
            generalize w3.heap.size = bY at H3 ⊢
            obtain ⟨g0, g1, g2, g3, g4, g5, g6, g7, g8, g9, g10⟩ := frame_cells (H3.out.box 0 rfl)
            by_cases hy : y.k = 2
            · have hv7 := hyv hy
              rw [hy] at g0
              rw [hv7] at g10
              clear hyv hy hv7
              cases known with
              | false =>
                go_wp2_with fail
                refine (svsent_yes (i := 2) (c := 1) (by decide) HQ.out.1 HQ.out.2 w4 H3.out rfl).mono ?_
                rintro e w5 ⟨rfl, h5⟩
                have H5 := Lib.hid h5.tail.tail
                clear h5 H3 g0 g1 g2 g3 g4 g5 g6 g7 g8 g9 g10
                go_wp2_with fail
                go_meet
                case rel => exact ⟨7, true, _, rfl, rfl, Lib.hid (fun _ => rfl), HG2, H5⟩
              | true =>
                obtain rfl := HV.out rfl
                go_wp2_with fail
                refine (svsent_yes (i := 2) (c := 1) (by decide) HQ.out.1 HQ.out.2 w4 H3.out rfl).mono ?_
                rintro e w5 ⟨rfl, h5⟩
                have H5 := Lib.hid h5.tail.tail
                clear h5 H3 g0 g1 g2 g3 g4 g5 g6 g7 g8 g9 g10
                go_wp2_with fail
                go_meet
                case rel => exact ⟨7, true, _, rfl, rfl, Lib.hid (fun _ => rfl), HG2, H5⟩
            · have hdy : decide (y.k = 2) = false := decide_eq_false hy
              have hdy2 : (y.k == 2) = false := by simpa using hy
              clear hyv
              go_wp2_with fail
              refine (svsent_yes (i := 2) (c := 1) (by decide) HQ.out.1 HQ.out.2 w4 H3.out rfl).mono ?_
              rintro e w5 ⟨rfl, h5⟩
              have H5 := Lib.hid h5.tail.tail
              clear h5 H3 g0 g1 g2 g3 g4 g5 g6 g7 g8 g9 g10
              go_wp2_with fail
              go_meet
              case rel => exact ⟨v, known, _, rfl, rfl, HV, HG2, H5⟩
        · have hd4 : decide ((V : Int) = 4) = false := decide_eq_false (by omega)
          have hd5 : decide ((V : Int) = 5) = false := decide_eq_false (by omega)
          have hd6 : decide ((V : Int) = 6) = false := decide_eq_false (by omega)
          have hd7 : decide ((V : Int) = 7) = false := decide_eq_false (by omega)
          obtain ⟨g0, g1, g2, g3, g4, g5, g6, g7, g8, g9, g10⟩ := frame_cells (H1.out.box 0 rfl)
          go_wp2_with fail
          refine (svhandle_request (f := So.F (T : Int)) (i := 1) rfl HO.out w2 H1.out rfl).mono ?_
          rintro e w3 ⟨rfl, h3⟩
          have H3 := Lib.hid h3.tail
          clear h3 H1 g0 g1 g2 g3 g4 g5 g6 g7 g8 g9 g10 a0 a7 a12 a13
          have HG2 := Lib.hid (HG.out.request (t := (T : Int)) (by omega) (by have := HT.out; omega))
          go_wp2_with fail
          go_meet
          case rel => exact ⟨v, known, _, rfl, rfl, HV, HG2, H3⟩
      case rest =>
      obtain ⟨v2, known2, o2, rfl, rfl, HV2, HG2, H2⟩ := hcut
      clear HV HG H1 a0 a7 a12 a13 hv hV hd1 hd2
      obtain ⟨hok, hwl, hrl, hst⟩ := HG2.out.asks
      obtain ⟨n, hn⟩ : ∃ n, n = o2.runs.length := ⟨_, rfl⟩
      rw [← hn] at hrl
      have HN := Lib.hid hn
      have hn1 : ¬(1 : Int) < (n : Int) := by omega
      have hn2 : decide ((1 : Int) < (n : Int)) = false := decide_eq_false hn1
      have hn3 : ¬1 < n := by omega
      have hn4 : decide (1 < n) = false := decide_eq_false hn3
      clear hok hwl hn
      go_wp2_with fail
      refine (svruns_any (i := 0) (by rw [← HN.out]; omega) _ H2.out rfl).mono ?_
      rintro e w3 ⟨a, c, L, rfl, -, -, hb⟩
      rw [← HN.out]
      have H3 := Lib.hid (H2.out.past hb)
      clear hb H2
      go_wp2_with fail
      refine (svstate_any (i := 0) w3 H3.out rfl).mono ?_
      rintro e w4 ⟨rfl, rfl⟩
      rcases hst with hst | hst
      · rw [hst]
        go_wp2_with fail
        go_roundg (81 - (i + 1))
        case measure => omega
        case rel => exact ⟨i + 1, v2, known2, o2, rfl, rfl, by go_num, by omega, by omega, HV2, HG2, H3⟩
      · rw [hst]
        have HST := Lib.hid hst
        clear hst
        go_wp2_with fail
        refine (svstate_any (i := 0) w3 H3.out rfl).mono ?_
        rintro e w4 ⟨rfl, rfl⟩
        rw [HST.out]
        go_wp2_with fail
        go_roundg (81 - (i + 1))
        case measure => omega
        case rel => exact ⟨i + 1, v2, known2, o2, rfl, rfl, by go_num, by omega, by omega, HV2, HG2, H3⟩
    · have hout : (i : Int) < (len : Int) → ¬(i : Int) < 80 := by omega
      by_cases hil : (i : Int) < (len : Int)
      · have h80 := hout hil
        have hd1 : decide ((i : Int) < (len : Int)) = true := decide_eq_true hil
        have hd2 : decide ((i : Int) < 80) = false := decide_eq_false h80
        clear hout
        go_wp2_with fail
        refine (awake27_any _).mono ?_
        rintro e w3 ⟨rfl, hb⟩
        have H3 := Lib.hid (H.out.past hb)
        clear hb H
        cases known with
        | false =>
          go_wp2_with fail
          go_ret
          exact ⟨rfl, H3.out.below (fun _ => id)⟩
        | true =>
          obtain rfl := HV.out rfl
          go_wp2_with fail
          go_ret
          exact ⟨rfl, H3.out.below (fun _ => id)⟩
      · have hd1 : decide ((i : Int) < (len : Int)) = false := decide_eq_false hil
        clear hout
        go_wp2_with fail
        refine (awake27_any _).mono ?_
        rintro e w3 ⟨rfl, hb⟩
        have H3 := Lib.hid (H.out.past hb)
        clear hb H
        cases known with
        | false =>
          go_wp2_with fail
          go_ret
          exact ⟨rfl, H3.out.below (fun _ => id)⟩
        | true =>
          obtain rfl := HV.out rfl
          go_wp2_with fail
          go_ret
          exact ⟨rfl, H3.out.below (fun _ => id)⟩
end Go.Proofs.Ytgboiejiodgcnaa
