/- Contracts of route's calls: Even, Least. -/
import Derived.Test.YtgboiejiodgcnaaRtA
import Derived.Test.YtgboiejiodgcnaaBaseB
namespace Go.Proofs.Ytgboiejiodgcnaa
open Go.RowKit Go.Sort

theorem Rt.grow_below (w : World) (q : Nat) (os : Array Obj) : Below w.heap.size w (grow (w.drewN q) os) := by
  refine ⟨rfl, rfl, rfl, by simp [Go.Sort.grow], fun k hk => ?_⟩
  simp only [Go.Sort.grow]
  rw [Array.getElem?_append_left (by simpa using hk)]
  rfl


set_option maxHeartbeats 2000000 in
/-- The first of the least of those below room, or -1. -/
theorem rtleast_any {X : Nat → Int} {a : Option Addr} {n c : Nat} (room : Int) (w : World) (h : Nums w a n X) (hn : n ≤ 1000000) :
    Calls Try.prog 36 #[.slice a n c, .int .i64 room] w fun e w' => e = .returned (.int .i64 (Rt.ans (Rt.best X room n))) ∧ Below w.heap.size w w' := by
  have HU := Lib.hid ((Upon.start (fun _ => False) w).lay (.cells #[.slice a n c] 42))
  have HN := Lib.hid (h.below (below_box w (.cells #[.slice a n c] 42)))
  clear h
  go_enter Try.func36, Try.ntmps36
  go_wp2_with fail
  refine (rtahead_any a n c w).mono ?_
  rintro e w1 ⟨rfl, rfl⟩
  generalize w.alloc (.cells #[.slice a n c] 42) = w1 at HU HN ⊢
  go_wp2_with fail
  go_loopg [6, 13] (1000000 : Nat) (fun g1 s6 s13 wx => ∃ k : Nat, k ≤ n ∧ 1000000 - k ≤ g1 ∧ s6 = .int .i64 (Rt.ans (Rt.best X room k)) ∧ s13 = .int .i64 k ∧ Hid (Upon (fun _ => False) w wx [(w.heap.size, .cells #[.slice a n c] 42 (0, 0))]) ∧ Hid (Nums wx a n X))
  case atStart => exact ⟨0, by omega, by omega, rfl, rfl, HU, HN⟩
  case round =>
    clear HU HN
    obtain ⟨k, hkn, hg, rfl, rfl, HU, HN⟩ := hrel
    by_cases hk : k < n
    · have hk' : (k : Int) < (n : Int) := by omega
      have hwk : IntKind.i64.wrap ((k : Int) + 1) = (k : Int) + 1 := by rw [IntKind.wrap_i64]; omega
      obtain ⟨g, o, rfl, hc⟩ := HN.out.at_ (by omega)
      have ck := hc k hk
      by_cases hr : X k < room
      · cases hb : Rt.best X room k with
        | none =>
          have hl : Rt.best X room (k + 1) = some k := by rw [Rt.best, hb]; simp [hr]
          have HL := Lib.hid hl
          clear hl hb hc
          simp only [Rt.ans]
          go_wp2_with fail
          go_roundg (1000000 - (k + 1))
          case measure => omega
          case rel => exact ⟨k + 1, by omega, by omega, by rw [HL.out]; rfl, by go_num, HU, HN⟩
        | some b =>
          obtain ⟨hbk, -, -⟩ := Rt.best_some hb
          have hnb : ¬(b : Int) < 0 := by omega
          have hwho := rtwho_any (c := c) (x := k) (y := b) (X := X) (n := n) wr (cell_of_row _ _ _ _ _ _ (HU.out.get 0 rfl)) ck (hc b (by omega)) hk (by omega)
          have hcl := Rt.cmp_lt X k b
          have hlt : Rt.lt X k b ↔ X k < X b := by unfold Rt.lt; omega
          rw [hlt] at hcl
          have hl : Rt.best X room (k + 1) = if X k < X b then some k else some b := by rw [Rt.best, hb]; simp [hr]
          generalize Rt.cmp X k b = cm at hwho hcl
          simp only [Rt.ans]
          by_cases hx : X k < X b
          · rw [if_pos hx] at hl
            have hcm := hcl.2 hx
            have HL := Lib.hid hl
            clear hl hb hc hcl hlt hx
            go_wp2_with fail
            refine hwho.mono ?_
            rintro e w2 ⟨rfl, q, os, rfl⟩
            have hb2 := Rt.grow_below wr q os
            generalize grow (wr.drewN q) os = w2 at hb2 ⊢
            have HU2 := Lib.hid (HU.out.call hb2)
            have HN2 := Lib.hid (HN.out.below hb2)
            clear hb2 HU HN ck hwho
            go_wp2_with fail
            go_roundg (1000000 - (k + 1))
            case measure => omega
            case rel => exact ⟨k + 1, by omega, by omega, by rw [HL.out]; rfl, by go_num, HU2, HN2⟩
          · rw [if_neg hx] at hl
            have hcm : ¬cm < 0 := fun h => hx (hcl.1 h)
            have HL := Lib.hid hl
            clear hl hb hc hcl hlt hx
            go_wp2_with fail
            refine hwho.mono ?_
            rintro e w2 ⟨rfl, q, os, rfl⟩
            have hb2 := Rt.grow_below wr q os
            generalize grow (wr.drewN q) os = w2 at hb2 ⊢
            have HU2 := Lib.hid (HU.out.call hb2)
            have HN2 := Lib.hid (HN.out.below hb2)
            clear hb2 HU HN ck hwho
            go_wp2_with fail
            go_roundg (1000000 - (k + 1))
            case measure => omega
            case rel => exact ⟨k + 1, by omega, by omega, by rw [HL.out]; rfl, by go_num, HU2, HN2⟩
      · have hl : Rt.best X room (k + 1) = Rt.best X room k := by rw [Rt.best]; split <;> simp [*]
        have HL := Lib.hid hl
        clear hl hc
        generalize Rt.best X room k = bk at *
        generalize X k = xk at *
        go_wp2_with fail
        go_roundg (1000000 - (k + 1))
        case measure => omega
        case rel => exact ⟨k + 1, by omega, by omega, by rw [HL.out], by go_num, HU, HN⟩
    · have hk' : ¬(k : Int) < (n : Int) := by omega
      obtain rfl : k = n := by omega
      have HB := Lib.hid (HU.out.below (fun _ h => h))
      clear HU HN
      go_wp2_with fail
      go_ret
      exact ⟨rfl, HB.out⟩
end Go.Proofs.Ytgboiejiodgcnaa
