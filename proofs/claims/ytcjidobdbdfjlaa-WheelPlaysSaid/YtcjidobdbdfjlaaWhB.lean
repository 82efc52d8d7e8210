/- Where an alarm of a time belongs. -/
import Derived.Test.YtcjidobdbdfjlaaWhA
import Derived.BigQuiet
import Derived.Deep.LoopGhost
namespace Go.Proofs.Ytcjidobdbdfjlaa
open Go.RowKit Go.Sort

theorem ret_ptr {P a b : Nat} (h : a = b) : Ending.returned (.pointer (some ⟨P, a, none⟩)) = .returned (.pointer (some ⟨P, b, none⟩)) := by rw [h]
theorem past_in {now t : Int} (n0 : 0 ≤ now) (n1 : now < 1099511627776) (t0 : 0 ≤ t) (t1 : t < 1099511627776) : Tk.past now t = decide (t ≤ now) := by
  unfold Tk.past
  rw [Tk.clamp_in t0 (by omega), Tk.clamp_in n0 (by omega)]
  have : t ≠ 1099511627776 := by omega
  simp [this]

set_option maxHeartbeats 2000000 in
set_option maxRecDepth 100000 in
theorem home_any {B P : Nat} {w : World} {now : Int} {F : Nat → List En} {V : Nat → Value} {K : List Nat} (t : Int) (h : Whl B w P now F V K) (n0 : 0 ≤ now) (n1 : now < 1099511627776) (t0 : 0 ≤ t) (t1 : t < 1099511627776) :
    Calls Try.prog 26 #[.pointer (some ⟨P, 0, none⟩), .int .i64 t] w fun e w' => e = .returned (.pointer (some ⟨P, Wh.home now t + 1, none⟩)) ∧ ∃ q, w' = w.drewN q := by
  have hpa := fun w => past_any now t w
  rw [past_in n0 n1 t0 t1] at hpa
  have c0 := h.cell0
  clear h
  by_cases ht : t ≤ now
  · rw [decide_eq_true ht] at hpa
    have HH := Lib.hid ((Wh.home_zero now t).2 ht)
    clear ht
    go_enter Try.func26, Try.ntmps26
    go_wp2_with (go_at_call 33; refine (hpa _).mono ?_; rintro e w' ⟨rfl, rfl⟩)
    go_ret
    exact ⟨by rw [HH.out]; rfl, 0, rfl⟩
  · rw [decide_eq_false ht] at hpa
    have HH : Hid (Wh.home now t = if t / 16 = now / 16 then 1 + (t % 16).toNat else if t / 256 = now / 256 then 17 + (t / 16 % 16).toNat else if t / 4096 = now / 4096 then 33 + (t / 256 % 16).toNat else 49) := by
      show _ = _
      unfold Wh.home
      rw [if_neg ht]
    clear ht
    have hs := fun d hd hd2 w => (slot_any t d hd hd2 w).mono (fun e w2 (x : _ ∧ _) => (⟨x.1, x.2.symm⟩ : e = _ ∧ w2 = w))
    rw [Tk.clamp_in t0 (by omega)] at hs
    have q1 : t.tdiv 16 = t / 16 := Int.tdiv_eq_ediv_of_nonneg t0
    have q2 : t.tdiv 256 = t / 256 := Int.tdiv_eq_ediv_of_nonneg t0
    have q3 : t.tdiv 4096 = t / 4096 := Int.tdiv_eq_ediv_of_nonneg t0
    have p1 : now.tdiv 16 = now / 16 := Int.tdiv_eq_ediv_of_nonneg n0
    have p2 : now.tdiv 256 = now / 256 := Int.tdiv_eq_ediv_of_nonneg n0
    have p3 : now.tdiv 4096 = now / 4096 := Int.tdiv_eq_ediv_of_nonneg n0
    have u1 : IntKind.i64.wrap (t / 16) = t / 16 := by rw [IntKind.wrap_i64]; omega
    have u2 : IntKind.i64.wrap (t / 256) = t / 256 := by rw [IntKind.wrap_i64]; omega
    have u3 : IntKind.i64.wrap (t / 4096) = t / 4096 := by rw [IntKind.wrap_i64]; omega
    have v1 : IntKind.i64.wrap (now / 16) = now / 16 := by rw [IntKind.wrap_i64]; omega
    have v2 : IntKind.i64.wrap (now / 256) = now / 256 := by rw [IntKind.wrap_i64]; omega
    have v3 : IntKind.i64.wrap (now / 4096) = now / 4096 := by rw [IntKind.wrap_i64]; omega
    have HN := Lib.hid (show 0 ≤ t / 1 % 16 ∧ t / 1 % 16 < 16 by omega)
    have HN2 := Lib.hid (show 0 ≤ t / 16 % 16 ∧ t / 16 % 16 < 16 by omega)
    have HN3 := Lib.hid (show 0 ≤ t / 256 % 16 ∧ t / 256 % 16 < 16 by omega)
    have mixed : Try.prog.follows .mixedOrders = true := by kernel_rfl
    clear t0 t1 n0 n1
    go_enter Try.func26, Try.ntmps26
    go_wp2_with (go_at_call 33; refine (hpa _).mono ?_; rintro e w' ⟨rfl, rfl⟩)
    clear hpa
    go_loopg [5, 17] (3 : Nat) (fun g1 s5 s17 wx => ∃ k q : Nat, wx = w.drewN q ∧ ((k = 0 ∧ s17 = .int .i64 0 ∧ s5 = .int .i64 1) ∨ (k = 1 ∧ s17 = .int .i64 1 ∧ s5 = .int .i64 16 ∧ t / 16 ≠ now / 16) ∨ (k = 2 ∧ s17 = .int .i64 2 ∧ s5 = .int .i64 256 ∧ t / 16 ≠ now / 16 ∧ t / 256 ≠ now / 256) ∨ (k = 3 ∧ s17 = .int .i64 3 ∧ s5 = .int .i64 4096 ∧ t / 16 ≠ now / 16 ∧ t / 256 ≠ now / 256 ∧ t / 4096 ≠ now / 4096)) ∧ 3 - k ≤ g1)
    case atStart => exact ⟨0, 0, rfl, .inl ⟨rfl, rfl, rfl⟩, by omega⟩
    case round =>
      obtain ⟨k, q, rfl, hk, hg⟩ := hrel
      have c0' : ∀ m, ((w.drewN q).drewN m).cell? ⟨P, 0, none⟩ = some (.int .i64 now) := fun m => c0
      have c0q : (w.drewN q).cell? ⟨P, 0, none⟩ = some (.int .i64 now) := c0
      rcases hk with ⟨rfl, rfl, rfl⟩ | ⟨rfl, rfl, rfl, e1⟩ | ⟨rfl, rfl, rfl, e1, e2⟩ | ⟨rfl, rfl, rfl, e1, e2, e3⟩
      · have HS := Lib.hid (hs 1 (by decide) (by decide))
        clear hs
        obtain ⟨y0, y1⟩ := HN.out
        by_cases e : t / 16 = now / 16
        · have eb : (t / 16 == now / 16) = true := by simpa using e
          have HE := Lib.hid e
          have hx : Wh.home now t = 1 + (t / 1 % 16).toNat := by rw [HH.out]; rw [if_pos (by assumption)]; simp
          have HX := Lib.hid hx
          clear e hx HH
          generalize t / 1 % 16 = y at HS HX y0 y1
          go_wp2_with fail
          go_quiet (fail)
          go_wp2_with fail
          go_quiet ((go_at_call 29; refine (HS.out _).mono ?_; rintro e w2 ⟨rfl, rfl⟩; exact ⟨rfl, _, rfl⟩))
          go_wp2_with fail
          go_ret
          exact ⟨ret_ptr (by rw [HX.out]; omega), _, by rw [World.drewN_drewN, World.drewN_drewN]⟩
        · have eb : (t / 16 == now / 16) = false := by simpa using e
          have HE := Lib.hid e
          clear e
          go_wp2_with fail
          go_quiet (fail)
          go_wp2_with fail
          go_roundg (3 - (0 + 1))
          case measure => omega
          case rel => exact ⟨0 + 1, _, rfl, by simpa using HE.out, by omega⟩
      · have HS := Lib.hid (hs 16 (by decide) (by decide))
        clear hs
        obtain ⟨y0, y1⟩ := HN2.out
        by_cases e : t / 256 = now / 256
        · have eb : (t / 256 == now / 256) = true := by simpa using e
          have HE := Lib.hid e
          have hx : Wh.home now t = 17 + (t / 16 % 16).toNat := by rw [HH.out]; rw [if_neg e1, if_pos (by assumption)]
          have HX := Lib.hid hx
          clear e hx HH
          generalize t / 16 % 16 = y at HS HX y0 y1
          go_wp2_with fail
          go_quiet (fail)
          go_wp2_with fail
          go_quiet ((go_at_call 29; refine (HS.out _).mono ?_; rintro e w2 ⟨rfl, rfl⟩; exact ⟨rfl, _, rfl⟩))
          go_wp2_with fail
          go_ret
          exact ⟨ret_ptr (by rw [HX.out]; omega), _, by rw [World.drewN_drewN, World.drewN_drewN]⟩
        · have eb : (t / 256 == now / 256) = false := by simpa using e
          have HE := Lib.hid e
          clear e
          go_wp2_with fail
          go_quiet (fail)
          go_wp2_with fail
          go_roundg (3 - (1 + 1))
          case measure => omega
          case rel => exact ⟨1 + 1, _, rfl, by simpa using ⟨e1, HE.out⟩, by omega⟩
      · have HS := Lib.hid (hs 256 (by decide) (by decide))
        clear hs
        obtain ⟨y0, y1⟩ := HN3.out
        by_cases e : t / 4096 = now / 4096
        · have eb : (t / 4096 == now / 4096) = true := by simpa using e
          have HE := Lib.hid e
          have hx : Wh.home now t = 33 + (t / 256 % 16).toNat := by rw [HH.out]; rw [if_neg e1, if_neg e2, if_pos (by assumption)]
          have HX := Lib.hid hx
          clear e hx HH
          generalize t / 256 % 16 = y at HS HX y0 y1
          go_wp2_with fail
          go_quiet (fail)
          go_wp2_with fail
          go_quiet ((go_at_call 29; refine (HS.out _).mono ?_; rintro e w2 ⟨rfl, rfl⟩; exact ⟨rfl, _, rfl⟩))
          go_wp2_with fail
          go_ret
          exact ⟨ret_ptr (by rw [HX.out]; omega), _, by rw [World.drewN_drewN, World.drewN_drewN]⟩
        · have eb : (t / 4096 == now / 4096) = false := by simpa using e
          have HE := Lib.hid e
          clear e
          go_wp2_with fail
          go_quiet (fail)
          go_wp2_with fail
          go_roundg (3 - (2 + 1))
          case measure => omega
          case rel => exact ⟨2 + 1, _, rfl, by simpa using ⟨e1, e2, HE.out⟩, by omega⟩
      · have hx : Wh.home now t = 49 := by rw [HH.out, if_neg e1, if_neg e2, if_neg e3]
        have HX := Lib.hid hx
        clear hx e1 e2 e3 HH hs
        go_wp2_with fail
        go_ret
        exact ⟨by rw [HX.out]; rfl, _, rfl⟩
end Go.Proofs.Ytcjidobdbdfjlaa
