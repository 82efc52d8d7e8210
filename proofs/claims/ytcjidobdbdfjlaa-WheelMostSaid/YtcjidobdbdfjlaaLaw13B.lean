/- WheelMost: so many there are, and no more. -/
import Derived.Test.YtcjidobdbdfjlaaLaw13A
namespace Go.Proofs.Ytcjidobdbdfjlaa
open Go.RowKit Go.Sort

namespace Wh
/-- The alarms that the law lays. -/
def al (j : Nat) : En := ⟨101 + j, 0, j, 0, 0, 0⟩
def row (k : Nat) : List En := (List.range k).map al
theorem row_length (k : Nat) : (row k).length = k := by simp [row]
theorem row_succ (k : Nat) : row (k + 1) = row k ++ [al k] := by simp [row, List.range_succ]
theorem row_mem {k : Nat} {a : En} : a ∈ row k ↔ ∃ j, j < k ∧ al j = a := by simp [row]
theorem row_without {k j : Nat} (h : k ≤ j) (t n : Int) : Rf.without ⟨t, 0, j, 0, 0, n⟩ (row k) = row k := without_none (fun a ha => by
  obtain ⟨i, hi, rfl⟩ := row_mem.1 ha
  cases hc : Rf.same (al i) ⟨t, 0, j, 0, 0, n⟩
  · rfl
  · have hs : ((i : Nat) : Int) = (j : Nat) := (same_iff.1 hc).2.1
    omega)
theorem put_last {x : En} : ∀ {l : List En}, (∀ a ∈ l, a.t ≤ x.t) → Rf.put x l = l ++ [x]
  | [], _ => rfl
  | b :: r, h => by
    have hb := h b List.mem_cons_self
    unfold Rf.put
    rw [if_neg (by omega), put_last (fun a ha => h a (List.mem_cons_of_mem _ ha))]
    rfl
theorem row_put (k : Nat) : Rf.put (al k) (Rf.without (al k) (row k)) = row (k + 1) := by
  have : Rf.without (al k) (row k) = row k := row_without (Nat.le_refl k) _ _
  rw [this, row_succ]
  exact put_last (fun a ha => by
    obtain ⟨i, hi, rfl⟩ := row_mem.1 ha
    show (101 : Int) + i ≤ 101 + k
    omega)
/-- Behind the loop, and one more for one of these slots. -/
def full (n : Int) : List En := Rf.put ⟨5000, 0, 7, 0, 0, n⟩ (Rf.without ⟨5000, 0, 7, 0, 0, n⟩ (row 256))
theorem row_alone (k : Nat) : Alone (row k) := by
  unfold row Alone
  rw [List.pairwise_map]
  exact List.pairwise_lt_range.imp (fun {i j} h => by
    cases hc : Rf.same (al i) (al j)
    · rfl
    · have : ((i : Nat) : Int) = (j : Nat) := (same_iff.1 hc).2.1
      omega)
theorem row_e {k i : Nat} (h : i < k) : Hp.e (row k) i = al i := by
  rw [Hp.e_in (by rw [row_length]; exact h)]
  simp [row]
theorem full_less (n : Int) : (Rf.without ⟨5000, 0, 7, 0, 0, n⟩ (row 256)).length = 255 := by
  rw [without_at (i := 7) (row_alone 256) (by rw [row_length]; omega) (by rw [row_e (by omega), same_iff]; exact ⟨rfl, rfl, rfl⟩), List.length_append, List.length_take, List.length_drop, row_length]
  omega
theorem full_length (n : Int) : (full n).length = 256 := by unfold full; rw [Rf.put_length, full_less]
theorem come_none {now : Int} : ∀ {l : List En}, (∀ a ∈ l, now < a.t) → Rf.come now l = 0
  | [], _ => rfl
  | b :: r, h => by
    have hb := h b List.mem_cons_self
    simp only [Rf.come]
    rw [if_neg (by omega), come_none (fun a ha => h a (List.mem_cons_of_mem _ ha))]
theorem full_come (n : Int) : Rf.come 100 (full n) = 0 := come_none (fun a ha => by
  rcases put_mem.1 ha with rfl | ha
  · show (100 : Int) < 5000
    omega
  · obtain ⟨i, hi, rfl⟩ := row_mem.1 (List.mem_filter.1 ha).1
    show (100 : Int) < 101 + i
    omega)
end Wh

set_option maxHeartbeats 4000000 in
set_option maxRecDepth 100000 in
theorem wmost_any (back a0 a1 a2 a3 a4 : Int) (w : World) : Calls Try.prog 5 #[.int .i64 back, .agg #[.int .i64 a0, .int .i64 a1, .int .i64 a2, .int .i64 a3, .int .i64 a4]] w fun e w' => e = .returned (.bool true) ∧ Rest (fun _ => False) w w' := by
  have hs := Rest.alloc (fun _ => False) w (.cells #[.int .i64 a0, .int .i64 a1, .int .i64 a2, .int .i64 a3, .int .i64 a4] 30)
  have h9 := heap_alloc_new w (.cells #[.int .i64 a0, .int .i64 a1, .int .i64 a2, .int .i64 a3, .int .i64 a4] 30)
  have hz : (w.alloc (.cells #[.int .i64 a0, .int .i64 a1, .int .i64 a2, .int .i64 a3, .int .i64 a4] 30)).heap.size = w.heap.size + 1 := by simp
  have HB := Lib.hid (⟨hs, h9, hz⟩ : Rest (fun _ => False) w (w.alloc (.cells #[.int .i64 a0, .int .i64 a1, .int .i64 a2, .int .i64 a3, .int .i64 a4] 30)) ∧ _ ∧ _)
  clear hs h9 hz
  go_enter Try.func5, Try.ntmps5
  go_wp2_with fail
  generalize w.alloc (.cells #[.int .i64 a0, .int .i64 a1, .int .i64 a2, .int .i64 a3, .int .i64 a4] 30) = w1 at HB ⊢
  refine (wl_new 100 (by decide) w w1 HB.out.1 [w.heap.size] (fun k hk => by
    obtain rfl : k = w.heap.size := by simpa using hk
    have := HB.out.2.2
    omega)).mono ?_
  rintro e w2 ⟨rfl, h2, hr2⟩
  have HW : Hid (Wl w w2 w1.heap.size 100 (Wh.row 0) [w.heap.size] ∧ w2.heap[w.heap.size]? = some (.cells #[.int .i64 a0, .int .i64 a1, .int .i64 a2, .int .i64 a3, .int .i64 a4] 30 (0, 0))) := ⟨h2, (hr2.block _ (lt_of_block HB.out.2.1) (fun x => x)).trans HB.out.2.1⟩
  clear h2 hr2 HB
  generalize w1.heap.size = P at HW ⊢
  go_wp2_with fail
  go_loopg [6] (260 : Nat) (fun g1 s6 wr => ∃ k : Nat, s6 = .int .i64 k ∧ k ≤ 259 ∧ 260 - k ≤ g1 ∧ Hid (Wl w wr P 100 (Wh.row (min k 256)) [w.heap.size] ∧ wr.heap[w.heap.size]? = some (.cells #[.int .i64 a0, .int .i64 a1, .int .i64 a2, .int .i64 a3, .int .i64 a4] 30 (0, 0))))
  case atStart => exact ⟨0, rfl, by omega, by omega, HW⟩
  case round =>
    obtain ⟨k, rfl, hk, hg, HI⟩ := hrel
    clear HW
    by_cases hlt : k < 259
    · have hlt' : (k : Int) < 259 := by omega
      have hwk : IntKind.i64.wrap ((k : Int) + 1) = (k : Int) + 1 := by rw [IntKind.wrap_i64]; omega
      have hwk2 : IntKind.i64.wrap (101 + (k : Int)) = 101 + (k : Int) := by rw [IntKind.wrap_i64]; omega
      have hcl : Tk.clamp (101 + (k : Int)) = 101 + (k : Int) := Tk.clamp_in (by omega) (by omega)
      have hn : Tk.clamp (101 + (k : Int)) ≠ 1099511627776 := by rw [hcl]; omega
      by_cases h256 : k < 256
      · have h256' : (k : Int) < 256 := by omega
        have hp := wl_put (Wh.al k) 0 HI.out.1 hn (by rw [show min k 256 = k by omega, show Rf.without (Wh.al k) (Wh.row k) = Wh.row k from Wh.row_without (Nat.le_refl k) _ _, Wh.row_length]; exact h256)
        simp only [Wh.al] at hp
        rw [hcl] at hp
        have he : (⟨101 + (k : Int), 0, (k : Int), 0, 0, 0⟩ : En) = Wh.al k := rfl
        rw [he, show min k 256 = k by omega, Wh.row_put] at hp
        have HP := Lib.hid hp
        clear hp he
        go_wp2_with fail
        refine HP.out.mono ?_
        rintro e w3 ⟨rfl, h3, hs3⟩
        have HE := Lib.hid (⟨h3, (hs3.2 _ List.mem_cons_self).trans HI.out.2⟩ : Wl w w3 P 100 (Wh.row (k + 1)) [w.heap.size] ∧ _)
        clear h3 hs3 HP HI
        go_wp2_with fail
        go_roundg (260 - (k + 1))
        case measure => omega
        case rel => exact ⟨k + 1, by go_num, by omega, by omega, by rw [show min (k + 1) 256 = k + 1 by omega]; exact HE⟩
      · have h256' : ¬ (k : Int) < 256 := by omega
        have hp := wl_full (Wh.al k) HI.out.1 hn (by rw [show min k 256 = 256 by omega, show Rf.without (Wh.al k) (Wh.row 256) = Wh.row 256 from Wh.row_without (by omega) _ _, Wh.row_length]; exact Nat.le_refl _)
        simp only [Wh.al] at hp
        have HP := Lib.hid hp
        clear hp
        go_wp2_with fail
        refine HP.out.mono ?_
        rintro e w3 ⟨rfl, hr3⟩
        have HE := Lib.hid (⟨HI.out.1.past hr3, (hr3.block _ (lt_of_block HI.out.2) (fun x => x)).trans HI.out.2⟩ : Wl w w3 P 100 (Wh.row (min k 256)) [w.heap.size] ∧ _)
        clear hr3 HP HI
        go_wp2_with fail
        go_roundg (260 - (k + 1))
        case measure => omega
        case rel => exact ⟨k + 1, by go_num, by omega, by omega, by rw [show min (k + 1) 256 = min k 256 by omega]; exact HE⟩
    · obtain rfl : k = 259 := by omega
      go_wp2_with fail
      have hp := wl_put (⟨5000, 0, 7, 0, 0, 0⟩ : En) 0 HI.out.1 (by decide) (by rw [show min 259 256 = 256 from rfl, Wh.full_less]; decide)
      rw [show Tk.clamp 5000 = 5000 by decide] at hp
      refine hp.mono ?_
      rintro e w3 ⟨rfl, h3, hs3⟩
      have H3 := Lib.hid (⟨h3, (hs3.2 _ List.mem_cons_self).trans HI.out.2⟩ : Wl w w3 P 100 (Wh.full 0) [w.heap.size] ∧ _)
      clear h3 hs3 HI hp
      go_wp2_with fail
      have hc : ¬ (100 : Int) < Tk.clamp (min back 100) := by rcases Tk.clamp_ways (min back 100) with ⟨h1, h2, h3⟩ | ⟨h1, h2, h3⟩ | ⟨h1, h2, h3⟩ <;> omega
      have hadv := wl_adv (min back 100) H3.out.1 (by omega)
      rw [if_neg hc] at hadv
      have HAdv := Lib.hid hadv
      clear hadv hc
      refine HAdv.out.mono ?_
      rintro e w4 ⟨rfl, h4, hs4⟩
      have H4 := Lib.hid (⟨h4, (hs4.2 _ List.mem_cons_self).trans H3.out.2⟩ : Wl w w4 P 100 (Wh.full 0) [w.heap.size] ∧ _)
      clear h4 hs4 H3 HAdv
      go_wp2_with fail
      refine (adv_nil back w4).mono ?_
      rintro e w5 ⟨rfl, rfl⟩
      go_wp2_with fail
      refine (wtake_nil w4).mono ?_
      rintro e w5 ⟨rfl, hr5⟩
      have hr6 := hr5.trans (o3 := fun _ => False) (Rest.alloc (fun _ => False) w5 (.cells #[.int .i64 0, .int .i64 0, .int .i64 0, .int .i64 0, .int .i64 0] 30)) (fun _ _ => id) (fun _ _ => id)
      have H6 := Lib.hid (⟨H4.out.1.past hr6, (hr6.block _ (lt_of_block H4.out.2) (fun x => x)).trans H4.out.2⟩ : Wl w (w5.alloc (.cells #[.int .i64 0, .int .i64 0, .int .i64 0, .int .i64 0, .int .i64 0] 30)) P 100 (Wh.full 0) [w.heap.size] ∧ _)
      clear hr5 hr6 H4
      go_wp2_with fail
      generalize w5.alloc (.cells #[.int .i64 0, .int .i64 0, .int .i64 0, .int .i64 0, .int .i64 0] 30) = w6 at H6 ⊢
      refine (awake13_any w6).mono ?_
      rintro e w7 ⟨rfl, hr7⟩
      have H7 := Lib.hid (⟨H6.out.1.past hr7, (hr7.block _ (lt_of_block H6.out.2) (fun x => x)).trans H6.out.2⟩ : Wl w w7 P 100 (Wh.full 0) [w.heap.size] ∧ _)
      clear hr7 H6
      go_wp2_with fail
      have hlen := wl_len H7.out.1
      rw [Wh.full_length] at hlen
      refine hlen.mono ?_
      rintro e w8 ⟨rfl, hr8⟩
      have H8 := Lib.hid (⟨H7.out.1.past hr8, (hr8.block _ (lt_of_block H7.out.2) (fun x => x)).trans H7.out.2⟩ : Wl w w8 P 100 (Wh.full 0) [w.heap.size] ∧ _)
      clear hr8 H7 hlen
      go_wp2_with fail
      refine (wl_now H8.out.1).mono ?_
      rintro e w9 ⟨rfl, rfl⟩
      go_wp2_with fail
      have hcome := wl_come H8.out.1
      rw [Wh.full_come] at hcome
      refine hcome.mono ?_
      rintro e w9 ⟨rfl, rfl⟩
      clear hcome
      obtain ⟨x0, x1, x2, x3, x4⟩ := five_cells13 H8.out.2
      go_wp2_with fail
      clear x0 x1 x2 x3 x4
      refine (wput_nil (⟨a0, a1, a2, a3, a4, 0⟩ : En) w8).mono ?_
      rintro e w9 ⟨rfl, hr9⟩
      have H9 := Lib.hid (H8.out.1.past hr9)
      clear hr9 H8
      go_wp2_with fail
      refine (wlen_nil w9).mono ?_
      rintro e w10 ⟨rfl, rfl⟩
      go_wp2_with fail
      refine (wnow_nil w9).mono ?_
      rintro e w10 ⟨rfl, rfl⟩
      go_wp2_with fail
      refine (wcome_nil w9).mono ?_
      rintro e w10 ⟨rfl, rfl⟩
      go_wp2_with fail
      refine (wl_never (⟨1099511627776, 0, 0, 0, 0, 0⟩ : En) H9.out (by decide)).mono ?_
      rintro e w10 ⟨rfl, hr10⟩
      have H10 := Lib.hid (H9.out.past hr10)
      clear hr10 H9
      go_wp2
      go_ret
      exact ⟨rfl, H10.out.rest⟩
end Go.Proofs.Ytcjidobdbdfjlaa
