/- The time goes on. -/
import Derived.Test.YtcjidobdbdfjlaaWhE
namespace Go.Proofs.Ytcjidobdbdfjlaa
open Go.RowKit Go.Sort

namespace Wh
/-- The places that are passed by, level by level. -/
def Vis (now was d : Int) (b : Nat) (r : Nat) : Prop := ∃ k : Nat, (k : Int) < min (now / d - was / d) 16 ∧ r = b + ((now - k * d) / d % 16).toNat
/-- Behind all, each lies where it belongs. -/
theorem all_moved {now was : Int} {M : List En} {loc : Int → Nat} (h0 : 0 ≤ was) (hn : was ≤ now) (ht : ∀ a ∈ M, 0 ≤ a.t) (h : Moves now (fun r => ((Vis now was 1 1 r ∨ Vis now was 16 17 r) ∨ Vis now was 256 33 r) ∨ (now / 4096 ≠ was / 4096 ∧ r = 49)) (home was) loc) : spread M loc = spread M (home now) :=
  part_end' (fun t ⟨a, ha, e⟩ => by
    rcases h t with h | ⟨h1, h2⟩
    · exact h
    · rw [h1]
      by_cases hm : home was t = home now t
      · exact hm
      · refine absurd ?_ h2
        rcases moved h0 hn (e ▸ ht a ha) hm with ⟨k, hk, hr⟩ | ⟨k, hk, hr⟩ | ⟨k, hk, hr⟩ | ⟨h3, h4⟩
        · exact .inl (.inl (.inl ⟨k, hk, hr⟩))
        · exact .inl (.inl (.inr ⟨k, hk, hr⟩))
        · exact .inl (.inr ⟨k, hk, hr⟩)
        · exact .inr ⟨h3, h4⟩)
end Wh

theorem adv_nil (t : Int) (w : World) : Calls Try.prog 7 #[.pointer none, .int .i64 t] w fun e w' => e = .returned (.tuple #[]) ∧ w = w' := by
  have hcl := fun w => clamp_any t w
  generalize Tk.clamp t = c at hcl
  go_enter Try.func7, Try.ntmps7
  go_wp2_with (go_at_call 18; refine (hcl _).mono ?_; rintro e w' ⟨rfl, rfl⟩)
  refine bodyPost_ret (results_none rfl _ _ _) rfl ?_
  exact ⟨rfl, rfl⟩
/-- An earlier time changes nothing. -/
theorem adv_no {B P : Nat} {w : World} {now : Int} {F : Nat → List En} {V : Nat → Value} {K : List Nat} (t : Int) (h : Whl B w P now F V K) (ht : Tk.clamp t ≤ now) : Calls Try.prog 7 #[.pointer (some ⟨P, 0, none⟩), .int .i64 t] w fun e w' => e = .returned (.tuple #[]) ∧ w = w' := by
  have hcl := fun w => clamp_any t w
  have c0 := h.cell0
  generalize Tk.clamp t = c at hcl ht
  go_enter Try.func7, Try.ntmps7
  go_wp2_with (go_at_call 18; refine (hcl _).mono ?_; rintro e w' ⟨rfl, rfl⟩)
  refine bodyPost_ret (results_none rfl _ _ _) rfl ?_
  exact ⟨rfl, rfl⟩

set_option maxHeartbeats 2000000 in
set_option maxRecDepth 100000 in
/-- A later one is it from then on. -/
theorem adv_yes {B P : Nat} {w : World} {was : Int} {M : List En} {V : Nat → Value} {K : List Nat} (t : Int) (h : Whl B w P was (Wh.spread M (Wh.home was)) V K) (w0 : 0 ≤ was) (hlt : was < Tk.clamp t) (n1 : Tk.clamp t < 1099511627776) (ha : Wh.Asc M) (hl : M.length ≤ 300) (ht : ∀ a ∈ M, 0 ≤ a.t ∧ a.t < 1099511627776) :
    Calls Try.prog 7 #[.pointer (some ⟨P, 0, none⟩), .int .i64 t] w fun e w' => e = .returned (.tuple #[]) ∧ ∃ V', Whl B w' P (Tk.clamp t) (Wh.spread M (Wh.home (Tk.clamp t))) V' K ∧ Rest (fun k => B ≤ k ∧ k ∉ K) w w' := by
  have mixed : Try.prog.follows .mixedOrders = true := by kernel_rfl
  have hcl := fun w => clamp_any t w
  generalize Tk.clamp t = now at hcl hlt n1 ⊢
  have c0 := h.cell0
  have f0 := h.frozen 0
  have hr0 := Rest.setCell (own := fun k => k = P) w ⟨P, 0, none⟩ (.int .i64 now) rfl
  have h1 : Whl B (w.setCell ⟨P, 0, none⟩ (.int .i64 now)) P now (Wh.spread M (Wh.home was)) V K := by
    refine ⟨h.from_, ?_, fun q hq => (h.rows q hq).past hr0 (fun k hk e => h.off q hq (by rw [hk, e])), h.apart, h.off, fun k hk => ⟨Nat.lt_of_lt_of_le (h.own k hk).1 hr0.size, (h.own k hk).2⟩⟩
    have := heap_setCell_same w P 0 _ _ (.int .i64 now) h.block
    rwa [cellsW_now] at this
  have HW := Lib.hid h1
  have HR0 : Hid (Rest (fun k => B ≤ k ∧ k ∉ K) w (w.setCell ⟨P, 0, none⟩ (.int .i64 now))) := Lib.hid (hr0.mono (fun k _ e => ⟨by rw [e]; exact h.from_, fun hk => (h.own _ hk).2.1 e⟩))
  have HA := Lib.hid ha
  have HL := Lib.hid hl
  have HT := Lib.hid ht
  have H0 := Lib.hid (⟨w0, Int.le_of_lt hlt, n1⟩ : 0 ≤ was ∧ was ≤ now ∧ now < 1099511627776)
  have q1 : now.tdiv 4096 = now / 4096 := Int.tdiv_eq_ediv_of_nonneg (by omega)
  have q2 : was.tdiv 4096 = was / 4096 := Int.tdiv_eq_ediv_of_nonneg w0
  have u1 : IntKind.i64.wrap (now / 4096) = now / 4096 := by rw [IntKind.wrap_i64]; omega
  have u2 : IntKind.i64.wrap (was / 4096) = was / 4096 := by rw [IntKind.wrap_i64]; omega
  have hnle : ¬ now ≤ was := by omega
  clear h h1 hr0 ha hl ht w0 hlt n1
  go_enter Try.func7, Try.ntmps7
  go_wp2_with (go_at_call 18; refine (hcl _).mono ?_; rintro e w' ⟨rfl, rfl⟩)
  clear c0 f0 hnle hcl
  generalize w.setCell ⟨P, 0, none⟩ (.int .i64 now) = w1 at HW HR0 ⊢
  go_loopg [5, 27] (3 : Nat) (fun g1 s5 s27 wr => ∃ (k : Nat) (V' : Nat → Value) (loc : Int → Nat), ((k = 0 ∧ s27 = .int .i64 0 ∧ s5 = .int .i64 1 ∧ Hid (Wh.Moves now (fun _ => False) (Wh.home was) loc)) ∨ (k = 1 ∧ s27 = .int .i64 1 ∧ s5 = .int .i64 16 ∧ Hid (Wh.Moves now (Wh.Vis now was 1 1) (Wh.home was) loc)) ∨ (k = 2 ∧ s27 = .int .i64 2 ∧ s5 = .int .i64 256 ∧ Hid (Wh.Moves now (fun r => Wh.Vis now was 1 1 r ∨ Wh.Vis now was 16 17 r) (Wh.home was) loc)) ∨ (k = 3 ∧ s27 = .int .i64 3 ∧ s5 = .int .i64 4096 ∧ Hid (Wh.Moves now (fun r => (Wh.Vis now was 1 1 r ∨ Wh.Vis now was 16 17 r) ∨ Wh.Vis now was 256 33 r) (Wh.home was) loc))) ∧ 3 - k ≤ g1 ∧ Hid (Whl B wr P now (Wh.spread M loc) V' K ∧ Rest (fun k => B ≤ k ∧ k ∉ K) w wr))
  case atStart => exact ⟨0, _, Wh.home was, .inl ⟨rfl, rfl, rfl, Wh.Moves.refl _ _⟩, by omega, ⟨HW.out, HR0.out⟩⟩
  case round =>
    obtain ⟨k, V', loc, hk, hg, HI⟩ := hrel
    clear HW HR0
    rcases hk with ⟨rfl, rfl, rfl, HM⟩ | ⟨rfl, rfl, rfl, HM⟩ | ⟨rfl, rfl, rfl, HM⟩ | ⟨rfl, rfl, rfl, HM⟩
    · go_wp2_with fail
      go_at_call 19
      refine (pass0_any HI.out.1 H0.out.1 H0.out.2.1 H0.out.2.2 HA.out HL.out HT.out).mono ?_
      rintro e w3 ⟨rfl, V2, loc2, hm, hW, hR⟩
      have HE := Lib.hid (⟨hW, HI.out.2.trans (o3 := fun k => B ≤ k ∧ k ∉ K) hR (fun _ _ => id) (fun _ _ => id)⟩ : Whl B w3 P now (Wh.spread M loc2) V2 K ∧ Rest (fun k => B ≤ k ∧ k ∉ K) w w3)
      have HM2 := Lib.hid ((HM.out.trans hm).mono (fun _ => .inr))
      clear hm hW hR HI HM
      go_wp2_with fail
      go_roundg (3 - (0 + 1))
      case measure => omega
      case rel => exact ⟨0 + 1, V2, loc2, .inr (.inl ⟨rfl, rfl, rfl, HM2⟩), by omega, HE⟩
    · go_wp2_with fail
      go_at_call 19
      refine (pass1_any HI.out.1 H0.out.1 H0.out.2.1 H0.out.2.2 HA.out HL.out HT.out).mono ?_
      rintro e w3 ⟨rfl, V2, loc2, hm, hW, hR⟩
      have HE := Lib.hid (⟨hW, HI.out.2.trans (o3 := fun k => B ≤ k ∧ k ∉ K) hR (fun _ _ => id) (fun _ _ => id)⟩ : Whl B w3 P now (Wh.spread M loc2) V2 K ∧ Rest (fun k => B ≤ k ∧ k ∉ K) w w3)
      have HM2 := Lib.hid (HM.out.trans hm)
      clear hm hW hR HI HM
      go_wp2_with fail
      go_roundg (3 - (1 + 1))
      case measure => omega
      case rel => exact ⟨1 + 1, V2, loc2, .inr (.inr (.inl ⟨rfl, rfl, rfl, HM2⟩)), by omega, HE⟩
    · go_wp2_with fail
      go_at_call 19
      refine (pass2_any HI.out.1 H0.out.1 H0.out.2.1 H0.out.2.2 HA.out HL.out HT.out).mono ?_
      rintro e w3 ⟨rfl, V2, loc2, hm, hW, hR⟩
      have HE := Lib.hid (⟨hW, HI.out.2.trans (o3 := fun k => B ≤ k ∧ k ∉ K) hR (fun _ _ => id) (fun _ _ => id)⟩ : Whl B w3 P now (Wh.spread M loc2) V2 K ∧ Rest (fun k => B ≤ k ∧ k ∉ K) w w3)
      have HM2 := Lib.hid (HM.out.trans hm)
      clear hm hW hR HI HM
      go_wp2_with fail
      go_roundg (3 - (2 + 1))
      case measure => omega
      case rel => exact ⟨2 + 1, V2, loc2, .inr (.inr (.inr ⟨rfl, rfl, rfl, HM2⟩)), by omega, HE⟩
    · have c0 := HI.out.1.cell0
      have HM3 := HM
      clear HM
      by_cases e : now / 4096 = was / 4096
      · have eb : (now / 4096 != was / 4096) = false := by simpa using e
        have HE := Lib.hid e
        clear e
        go_wp2_with fail
        go_quiet (fail)
        go_wp2_with fail
        go_end0
        refine ⟨rfl, V', ?_, HI.out.2.trans (o3 := fun k => B ≤ k ∧ k ∉ K) (Rest.drewN (fun _ => False) _ _) (fun _ _ => id) (fun _ _ => False.elim)⟩
        rw [← Wh.all_moved H0.out.1 H0.out.2.1 (fun a ha => (HT.out a ha).1) (HM3.out.mono (fun r hr => by
          rcases hr with hr | hr
          · exact hr
          · exact absurd HE.out hr.1))]
        exact HI.out.1.past (Rest.drewN (fun _ => False) _ _)
      · have eb : (now / 4096 != was / 4096) = true := by simpa using e
        have HE := Lib.hid e
        clear e
        go_wp2_with fail
        go_quiet (fail)
        go_wp2_with fail
        go_at_call 20
        refine (again_any (HI.out.1.past (Rest.drewN (fun _ => False) _ _)) (q := 49) (by decide) (by have := H0.out; omega) H0.out.2.2 (fun r => Wh.asc_spread HA.out _ _) (fun r => Nat.le_trans (Wh.spread_le _ _ _) HL.out) (fun a ha => HT.out a (Wh.spread_mem.1 ha).1)).mono ?_
        rintro e w4 ⟨rfl, V2, hW4, hR4⟩
        rw [Wh.spread_again HA.out, Wh.all_moved H0.out.1 H0.out.2.1 (fun a ha => (HT.out a ha).1) ((HM3.out.trans (Wh.Moves.again now 49 loc)).mono (fun r hr => by
          rcases hr with hr | hr
          · exact .inl hr
          · exact .inr hr.2))] at hW4
        have HF := Lib.hid (⟨hW4, (HI.out.2.trans (o3 := fun k => B ≤ k ∧ k ∉ K) (Rest.drewN (fun _ => False) _ _) (fun _ _ => id) (fun _ _ => False.elim)).trans (o3 := fun k => B ≤ k ∧ k ∉ K) hR4 (fun _ _ => id) (fun _ _ => id)⟩ : Whl B w4 P now (Wh.spread M (Wh.home now)) V2 K ∧ Rest (fun k => B ≤ k ∧ k ∉ K) w w4)
        clear hW4 hR4 HI
        go_wp2_with fail
        go_end0
        exact ⟨rfl, V2, HF.out⟩
end Go.Proofs.Ytcjidobdbdfjlaa
