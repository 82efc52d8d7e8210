/- The alarm for the same of one slot: same, the closure over it, slices.IndexFunc over a place. -/
import Derived.Test.YtcjidobdbdfjlaaWhQ
namespace Go.Proofs.Ytcjidobdbdfjlaa
open Go.RowKit Go.Sort

theorem wsame_any (a b : En) (w : World) : Calls Try.prog 32 #[.agg (Hp.alarm a).toArray, .agg (Hp.alarm b).toArray] w fun e w' => e = .returned (.bool (Rf.same a b)) ∧ Rest (fun _ => False) w w' := by
  obtain ⟨a1, a2, a3, a4, a5, a6⟩ := a
  obtain ⟨b1, b2, b3, b4, b5, b6⟩ := b
  simp only [Hp.alarm]
  have hr : Rf.same ⟨a1, a2, a3, a4, a5, a6⟩ ⟨b1, b2, b3, b4, b5, b6⟩ = (decide (a2 = b2) && decide (a3 = b3) && decide (a5 = b5)) := rfl
  rw [hr]
  clear hr
  by_cases h1 : a2 = b2 <;> by_cases h2 : a3 = b3 <;> by_cases h3 : a5 = b5
  all_goals
    go_enter Try.func32, Try.ntmps32
    go_wp2
    go_ret
    exact ⟨by simp [h1, h2, h3], (Rest.alloc (fun _ => False) w _).trans (o3 := fun _ => False) (Rest.alloc (fun _ => False) _ _) (fun _ _ => id) (fun _ _ => id)⟩

/-- Is it for the same as the one that is looked for? -/
theorem isSame_any {W : World} {bx : Nat} {x : En} (b : En) (hb : W.heap[bx]? = some (.cells (Hp.alarm x).toArray 30 (0, 0))) :
    Calls Try.prog 31 #[.agg #[.int .i64 b.t, .int .i64 b.c, .int .i64 b.s, .int .i64 b.g, .int .i64 b.x], .pointer (some ⟨bx, 0, none⟩)] W fun e w' => e = .returned (.bool (Rf.same x b)) ∧ Rest (fun _ => False) W w' := by
  have hs := Rest.alloc (fun _ => False) W (.cells #[.int .i64 b.t, .int .i64 b.c, .int .i64 b.s, .int .i64 b.g, .int .i64 b.x] 30)
  have h9 := heap_alloc_new W (.cells #[.int .i64 b.t, .int .i64 b.c, .int .i64 b.s, .int .i64 b.g, .int .i64 b.x] 30)
  obtain ⟨x0, x1, x2, x3, x4⟩ := five_cells13 ((hs.block _ (lt_of_block hb) (fun x => x)).trans hb)
  obtain ⟨y0, y1, y2, y3, y4⟩ := five_cells13 h9
  have hsm := wsame_any x b
  simp only [Hp.alarm] at hsm
  generalize Rf.same x b = r at hsm ⊢
  have HR := Lib.hid hs
  clear hb hs h9
  go_enter Try.func31, Try.ntmps31
  go_wp2_with fail
  refine (hsm _).mono ?_
  rintro e w2 ⟨rfl, hr⟩
  have HR2 := Lib.hid hr
  clear hr x0 x1 x2 x3 x4 y0 y1 y2 y3 y4
  go_wp2_with fail
  go_ret
  exact ⟨rfl, HR.out.trans (o3 := fun _ => False) HR2.out (fun _ _ => id) (fun _ _ => id)⟩

/-- slices.IndexFunc over a place. -/
theorem index_any {W : World} {B bx : Nat} {v : Value} {l : List En} {x : En} (h : Az W B v l) (hl : l.length ≤ 1000) (hb : W.heap[bx]? = some (.cells (Hp.alarm x).toArray 30 (0, 0))) :
    Calls Try.prog 30 #[v, .func (.func 31) #[] #[.pointer (some ⟨bx, 0, none⟩)]] W fun e w' =>
      ((∃ i : Nat, i < l.length ∧ e = .returned (.int .i64 (i : Nat)) ∧ Rf.same x (Hp.e l i) = true) ∨ (e = .returned (.int .i64 (-1)) ∧ ∀ j, j < l.length → Rf.same x (Hp.e l j) = false)) ∧ Rest (fun _ => False) W w' := by
  obtain ⟨a0, c, hv⟩ := h.shape
  subst hv
  have HA := Lib.hid h
  have HB := Lib.hid hb
  have HL : Hid (∀ j, j < l.length → ∃ g off, a0 = some ⟨g, off, none⟩ ∧ RowK W B 30 5 g off l.length c (flatA l)) := by
    intro j hj
    obtain ⟨g, off, c', hv', hrow⟩ := h.some_ (by omega)
    simp only [Value.slice.injEq] at hv'
    obtain ⟨rfl, -, rfl⟩ := hv'
    exact ⟨g, off, rfl, hrow⟩
  clear h hb
  generalize hn : l.length = n at *
  have HN := Lib.hid hn
  clear hn
  go_enter Try.func30, Try.ntmps30
  go_wp2
  go_loopg [8] (1000 : Nat) (fun g1 s8 wr => ∃ k : Nat, k ≤ n ∧ 1000 - k ≤ g1 ∧ s8 = .int .i64 k ∧ Hid (Rest (fun _ => False) W wr ∧ ∀ j, j < k → Rf.same x (Hp.e l j) = false))
  case atStart => exact ⟨0, Nat.zero_le _, by omega, rfl, ⟨Rest.refl _ _, fun j hj => absurd hj (Nat.not_lt_zero _)⟩⟩
  case round =>
    obtain ⟨k, hk, hg, rfl, HI⟩ := hrel
    by_cases hlt : k < n
    · have hlt' : (k : Int) < (n : Int) := by omega
      have hwk : IntKind.i64.wrap ((k : Int) + 1) = (k : Int) + 1 := by rw [IntKind.wrap_i64]; omega
      obtain ⟨g, off, rfl, hrow⟩ := HL.out k hlt
      have hrow' := hrow.kept (HI.out.1.block _ hrow.lt (fun x => x))
      rw [← HN.out] at hrow'
      obtain ⟨a0, a1, a2, a3, a4⟩ := hrow'.al (i := k) (by rw [HN.out]; exact hlt)
      have hcl := isSame_any (Hp.e l k) ((HI.out.1.block _ (lt_of_block HB.out) (fun x => x)).trans HB.out)
      clear hrow hrow' HL
      cases hs : Rf.same x (Hp.e l k) with
      | true =>
        rw [hs] at hcl
        have HS := Lib.hid hs
        clear hs
        go_wp2_with (go_at_call 31; refine hcl.mono ?_; rintro e w' ⟨rfl, hr⟩; clear a0 a1 a2 a3 a4)
        go_ret
        exact ⟨.inl ⟨k, hlt, rfl, HS.out⟩, HI.out.1.trans (o3 := fun _ => False) hr (fun _ _ => id) (fun _ _ => id)⟩
      | false =>
        rw [hs] at hcl
        have HS := Lib.hid hs
        clear hs
        go_wp2_with (go_at_call 31; refine hcl.mono ?_; rintro e w' ⟨rfl, hr⟩; clear a0 a1 a2 a3 a4)
        go_roundg (1000 - (k + 1))
        case measure => omega
        case rel =>
          refine ⟨k + 1, by omega, by omega, by go_num, ⟨HI.out.1.trans (o3 := fun _ => False) hr (fun _ _ => id) (fun _ _ => id), fun j hj => ?_⟩⟩
          by_cases e : j = k
          · subst e; exact HS.out
          · exact HI.out.2 j (by omega)
    · obtain rfl : k = n := by omega
      go_wp2
      go_ret
      exact ⟨.inr ⟨rfl, HI.out.2⟩, HI.out.1⟩
end Go.Proofs.Ytcjidobdbdfjlaa
