/- The contracts of hedge's calls, with any numbers and any frame. -/
import Derived.Test.YtcmpnkpjcegadaaHdM
import Derived.Test.YtcmpnkpjcegadaaRw2
import Derived.Test.YtcmpnkpjcegadaaHeldB
import Derived.Test.YtcmpnkpjcegadaaTkA
import Derived.BigQuiet
import Derived.Deep.DeepCutAuto
namespace Go.Proofs.Ytcmpnkpjcegadaa
open Go.RowKit

namespace Hd
/-- What Next asks of the times, in its own words. -/
theorem next_few {m : Nat} {A s l e : Int} (h : s < 0 ∨ (m : Int) ≤ s) : next m A s l e = 1099511627776 := by unfold next; rw [if_pos (by omega)]
theorem next_past {m : Nat} {A s l e : Int} (h0 : ¬s < 0) (h1 : ¬(m : Int) ≤ s) : next m A s l e = if Tk.past (Tk.after l A) e = true then 1099511627776 else Tk.after l A := by
  have hc : Tk.clamp (Tk.after l A) = Tk.after l A := Tk.clamp_in (Tk.after_lo _ _) (Tk.after_hi _ _)
  have h2 := Tk.after_hi l A
  have h3 := Tk.clamp_hi e
  unfold next Tk.past
  rw [hc]
  simp only [decide_eq_true_eq]
  by_cases g1 : Tk.clamp e ≤ Tk.after l A
  · rw [if_pos (by omega)]
    split <;> omega
  · rw [if_neg (by omega), if_neg (by omega)]
/-- The boxes of a call with hedges and a frame. -/
theorem boxes (w : World) (o o' : Obj) : Held w ((w.alloc o).alloc o') [(w.heap.size + 1, o'), (w.heap.size, o)] := by
  have := ((Held.start w).lay o).lay o'
  simpa using this
end Hd

set_option maxHeartbeats 2000000 in
/-- Most. -/
theorem hmost_any (M A : Int) (k c s t g a r q v : Int) (su st : Bool) (w : World) :
    Calls Try.prog 8 #[.agg #[.int .i64 M, .int .i64 A], .agg #[.int .i64 k, .int .i64 c, .int .i64 s, .int .i64 t, .int .i64 g, .int .u32 a, .int .i64 r, .bool su, .bool st, .int .i64 q, .int .u32 v]] w fun e w' => e = .returned (.int .i64 ((Hd.most M A su st : Nat) : Int)) ∧ Below w.heap.size w w' := by
  cases su
  rotate_left
  · rw [Hd.most_sure]
    go_enter Try.func8, Try.ntmps8
    go_wp2_with fail
    go_ret
    exact ⟨rfl, (Hd.boxes w _ _).below⟩
  cases st
  rotate_left
  · rw [Hd.most_stream]
    go_enter Try.func8, Try.ntmps8
    go_wp2_with fail
    go_ret
    exact ⟨rfl, (Hd.boxes w _ _).below⟩
  by_cases hz : Tk.clamp A = 0
  · rw [Hd.most_zero M hz]
    have hcl := fun w => clamp_any A w
    rw [hz] at hcl
    clear hz
    go_enter Try.func8, Try.ntmps8
    go_wp2_with fail
    refine (hcl _).mono ?_
    rintro e w1 ⟨rfl, rfl⟩
    go_wp2_with fail
    go_ret
    exact ⟨rfl, (Hd.boxes w _ _).below⟩
  · have hcl := fun w => clamp_any A w
    have HM := Lib.hid (Hd.most_some M hz)
    generalize Tk.clamp A = z at hcl hz
    generalize Hd.most M A false false = m at HM ⊢
    have hzb : (z == 0) = false := by simpa using hz
    rcases (show M ≤ 0 ∨ (0 < M ∧ M ≤ 14) ∨ 14 < M by omega) with h1 | ⟨h1, h2⟩ | h1
    all_goals
      go_enter Try.func8, Try.ntmps8
      go_wp2_with fail
      refine (hcl _).mono ?_
      rintro e w1 ⟨rfl, rfl⟩
      go_wp2_with fail
      all_goals (go_ret; exact ⟨ret_i64 (by have := HM.out; omega), (Hd.boxes w _ _).below⟩)

set_option maxHeartbeats 2000000 in
/-- Next. -/
theorem hnext_any (M A : Int) (k c s t g a r q v : Int) (su st : Bool) (n l e : Int) (w : World) :
    Calls Try.prog 9 #[.agg #[.int .i64 M, .int .i64 A], .agg #[.int .i64 k, .int .i64 c, .int .i64 s, .int .i64 t, .int .i64 g, .int .u32 a, .int .i64 r, .bool su, .bool st, .int .i64 q, .int .u32 v], .int .i64 n, .int .i64 l, .int .i64 e] w fun x w' => x = .returned (.int .i64 (Hd.next (Hd.most M A su st) A n l e)) ∧ Below w.heap.size w w' := by
  have hm := fun w => hmost_any M A k c s t g a r q v su st w
  have hmh := Hd.most_hi M A su st
  generalize Hd.most M A su st = m at hm hmh ⊢
  by_cases h0 : n < 0
  · rw [Hd.next_few (.inl h0)]
    go_enter Try.func9, Try.ntmps9
    go_wp2_with fail
    go_ret
    exact ⟨rfl, (Hd.boxes w _ _).below⟩
  by_cases h1 : (m : Int) ≤ n
  · rw [Hd.next_few (.inr h1)]
    go_enter Try.func9, Try.ntmps9
    go_wp2_with fail
    have H := Lib.hid (Hd.boxes w (.cells #[.int .i64 M, .int .i64 A] 24) (.cells #[.int .i64 k, .int .i64 c, .int .i64 s, .int .i64 t, .int .i64 g, .int .u32 a, .int .i64 r, .bool su, .bool st, .int .i64 q, .int .u32 v] 27))
    refine (hm _).mono ?_
    rintro x w1 ⟨rfl, hb⟩
    have H1 := Lib.hid (H.out.call hb)
    clear hb H hm
    go_wp2_with fail
    go_ret
    exact ⟨rfl, H1.out.below⟩
  · rw [Hd.next_past h0 h1]
    have hp := fun w => past_any (Tk.after l A) e w
    generalize Tk.past (Tk.after l A) e = p at hp ⊢
    have ha := fun w => after_any l A w
    generalize Tk.after l A = z at hp ha ⊢
    cases p
    all_goals
      first | rw [if_pos rfl] | rw [if_neg Bool.false_ne_true]
      go_enter Try.func9, Try.ntmps9
      go_wp2_with fail
      have H := Lib.hid (Hd.boxes w (.cells #[.int .i64 M, .int .i64 A] 24) (.cells #[.int .i64 k, .int .i64 c, .int .i64 s, .int .i64 t, .int .i64 g, .int .u32 a, .int .i64 r, .bool su, .bool st, .int .i64 q, .int .u32 v] 27))
      refine (hm _).mono ?_
      rintro x w1 ⟨rfl, hb⟩
      have H1 := Lib.hid (H.out.call hb)
      clear hb H hm
      obtain ⟨c0, c1⟩ := two_cells (H1.out.get 1 rfl)
      go_wp2_with fail
      refine (ha _).mono ?_
      rintro x w2 ⟨rfl, rfl⟩
      go_wp2_with fail
      refine (hp _).mono ?_
      rintro x w2 ⟨rfl, rfl⟩
      go_wp2_with fail
      go_ret
      exact ⟨rfl, H1.out.below⟩

namespace Hd
/-- The first times of a plan. -/
def items (A b : Int) (n : Nat) : List Value := (List.range n).map fun i => .int .i64 (it A b (i + 1))
theorem items_length (A b : Int) (n : Nat) : (items A b n).length = n := by simp [items]
theorem items_more (A b : Int) (n : Nat) : items A b (n + 1) = items A b n ++ [.int .i64 (it A b (n + 1))] := by simp [items, List.range_succ]
theorem items_at (A b : Int) {n i : Nat} (h : i < n) : (items A b n)[i]? = some (.int .i64 (it A b (i + 1))) := by simp [items, h]
end Hd
theorem Try.itemsTick : Item1 Try.prog 36 22 := .of (z := .int .i64 0) (b := 8) Try.underlying36 (by kernel_rfl) (by decide) rfl

set_option maxHeartbeats 4000000 in
/-- Plan. -/
theorem hplan_any (M A : Int) (k c s t g a r q v : Int) (su st : Bool) (b e : Int) (w : World) :
    Calls Try.prog 10 #[.agg #[.int .i64 M, .int .i64 A], .agg #[.int .i64 k, .int .i64 c, .int .i64 s, .int .i64 t, .int .i64 g, .int .u32 a, .int .i64 r, .bool su, .bool st, .int .i64 q, .int .u32 v], .int .i64 b, .int .i64 e] w fun x w' => ∃ sp cp, x = .returned (.slice sp (Hd.num (Hd.most M A su st) A b e) cp) ∧ Nl w' 22 sp cp (Hd.items A b (Hd.num (Hd.most M A su st) A b e)) ∧ Below w.heap.size w w' := by
  have hm := fun n l w => hnext_any M A k c s t g a r q v su st n l e w
  have hmh := Hd.most_hi M A su st
  generalize Hd.most M A su st = m at hm hmh ⊢
  have HN := Lib.hid hm
  have HA := Lib.hid (Hd.At.start m A b e)
  clear hm
  go_enter Try.func10, Try.ntmps10
  go_wp2_with fail
  have H := Lib.hid (Hd.boxes w (.cells #[.int .i64 M, .int .i64 A] 24) (.cells #[.int .i64 k, .int .i64 c, .int .i64 s, .int .i64 t, .int .i64 g, .int .u32 a, .int .i64 r, .bool su, .bool st, .int .i64 q, .int .u32 v] 27))
  have hn0 := fun w => HN.out 0 b w
  rw [Hd.next_begin] at hn0
  refine (hn0 _).mono ?_
  rintro x w1 ⟨rfl, hb⟩
  have H1 := Lib.hid (H.out.call hb)
  clear hb H hn0
  go_wp2_with fail
  go_loopg [9, 10] (15 : Nat) (fun gh s9 s10 wx => ∃ (n : Nat) (sp : Option Addr) (cp : Nat), s9 = .slice sp n cp ∧ s10 = .int .i64 (Hd.next m A (n : Int) (Hd.it A b n) e) ∧ 15 - n ≤ gh ∧ Hid (Hd.At m A b e n) ∧ Hid (Mk w1 wx 22 sp cp (Hd.items A b n)))
  case atStart => exact ⟨0, none, 0, rfl, rfl, by omega, HA, Lib.hid (Mk.start (Rest.refl _ _) _)⟩
  case round =>
    obtain ⟨n, sp, cp, rfl, rfl, hg, HI, HK⟩ := hrel
    clear HA
    have HW := Lib.hid (H1.out.past HK.out.1 (fun _ _ => id) (fun _ h => h.elim))
    by_cases hs : Hd.next m A (n : Int) (Hd.it A b n) e = 1099511627776
    · have HE := Lib.hid (HI.out.stop hs)
      rw [hs]
      clear hs
      go_wp2_with fail
      go_ret
      refine ⟨sp, cp, ?_, ?_, HW.out.below⟩
      · rw [HE.out]; rfl
      · rw [HE.out]; exact HK.out.nl
    · obtain ⟨he, hat⟩ := HI.out.go hs
      have HI2 := Lib.hid hat
      rw [he] at hs ⊢
      have hsb : (Hd.it A b (n + 1) != 1099511627776) = true := by simpa using hs
      have hn14 := hat.le
      clear he hat hs HI
      obtain ⟨sp', cp', w3, hrun, hk3⟩ := (HK.out.more (Rest.alloc (fun _ => False) wr (.cells #[.int .i64 (Hd.it A b (n + 1))] 22))).one (P := Try.prog) Try.itemsTick (by rw [Hd.items_length]; omega) (v := .int .i64 (Hd.it A b (n + 1))) rfl (heap_alloc_new wr _) 36
      rw [Hd.items_length] at hrun
      rw [← Hd.items_more] at hk3
      have HK3 := Lib.hid hk3
      have HW3 := Lib.hid (H1.out.past hk3.1 (fun _ _ => id) (fun _ h => h.elim))
      obtain ⟨c0, c1⟩ := two_cells (HW3.out.get 1 rfl)
      obtain ⟨d0, d1, d2, d3, d4, d5, d6, d7, d8, d9, d10⟩ := frame_cells (HW3.out.get 0 rfl)
      clear hk3 HK HW
      go_wp2_with (at_builtin; refine wpList_append_run rfl _ _ 36 rfl rfl rfl hrun ?_)
      refine (HN.out _ _ _).mono ?_
      rintro x w4 ⟨rfl, hb⟩
      have HK4 := Lib.hid (HK3.out.more (Rest.of_below (own := fun _ => False) hb))
      clear hb HK3 HW3 c0 c1 d0 d1 d2 d3 d4 d5 d6 d7 d8 d9 d10
      go_wp2_with fail
      go_roundg (15 - (n + 1))
      case measure => omega
      case rel => exact ⟨n + 1, sp', cp', rfl, by push_cast; rfl, by omega, HI2, HK4⟩
end Go.Proofs.Ytcmpnkpjcegadaa
