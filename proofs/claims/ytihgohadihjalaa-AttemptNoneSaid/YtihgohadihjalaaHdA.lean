/- The contracts of hedge's calls, with any numbers and any frame. -/
import Derived.Test.YtihgohadihjalaaHdM
import Derived.Test.YtihgohadihjalaaHeldB
import Derived.Test.YtihgohadihjalaaTkA
import Derived.BigQuiet
import Derived.Deep.DeepCutAuto
namespace Go.Proofs.Ytihgohadihjalaa
open Go.RowKit

namespace Hd
/-- What Next asks of the times, in its own words. -/
theorem next_few {m : Nat} {A s l e : Int} (h : s < 0 ∨ (m : Int) ≤ s) : next m A s l e = 1099511627776 := by unfold next; rw [if_pos (by omega)]
theorem next_past {m : Nat} {A s l e : Int} (h0 : ¬s < 0) (h1 : ¬(m : Int) ≤ s) : next m A s l e = if Tk.past (Tk.after l A) e = true then 1099511627776 else Tk.after l A := by
  have hc : Tk.clamp (Tk.after l A) = Tk.after l A := Tk.clamp_in (Tk.after_lo _ _) (Tk.after_hi _ _)
  have h2 := Tk.after_hi l A
  have h3 := Tk.clamp_hi e
  unfold next Tk.past
  rw [hc]
  simp only [decide_eq_true_eq]
  by_cases g1 : Tk.clamp e ≤ Tk.after l A
  · rw [if_pos (by omega)]
    split <;> omega
  · rw [if_neg (by omega), if_neg (by omega)]
/-- The boxes of a call with hedges and a frame. -/
theorem boxes (w : World) (o o' : Obj) : Held w ((w.alloc o).alloc o') [(w.heap.size + 1, o'), (w.heap.size, o)] := by
  have := ((Held.start w).lay o).lay o'
  simpa using this
end Hd

set_option maxHeartbeats 2000000 in
/-- Most. -/
theorem hmost_any (M A : Int) (k c s t g a r q v : Int) (su st : Bool) (w : World) :
    Calls Try.prog 35 #[.agg #[.int .i64 M, .int .i64 A], .agg #[.int .i64 k, .int .i64 c, .int .i64 s, .int .i64 t, .int .i64 g, .int .u32 a, .int .i64 r, .bool su, .bool st, .int .i64 q, .int .u32 v]] w fun e w' => e = .returned (.int .i64 ((Hd.most M A su st : Nat) : Int)) ∧ Below w.heap.size w w' := by
  cases su
  rotate_left
  · rw [Hd.most_sure]
    go_enter Try.func35, Try.ntmps35
    go_wp2_with fail
    go_ret
    exact ⟨rfl, (Hd.boxes w _ _).below⟩
  cases st
  rotate_left
  · rw [Hd.most_stream]
    go_enter Try.func35, Try.ntmps35
    go_wp2_with fail
    go_ret
    exact ⟨rfl, (Hd.boxes w _ _).below⟩
  by_cases hz : Tk.clamp A = 0
  · rw [Hd.most_zero M hz]
    have hcl := fun w => clamp_any A w
    rw [hz] at hcl
    clear hz
    go_enter Try.func35, Try.ntmps35
    go_wp2_with fail
    refine (hcl _).mono ?_
    rintro e w1 ⟨rfl, rfl⟩
    go_wp2_with fail
    go_ret
    exact ⟨rfl, (Hd.boxes w _ _).below⟩
  · have hcl := fun w => clamp_any A w
    have HM := Lib.hid (Hd.most_some M hz)
    generalize Tk.clamp A = z at hcl hz
    generalize Hd.most M A false false = m at HM ⊢
    have hzb : (z == 0) = false := by simpa using hz
    rcases (show M ≤ 0 ∨ (0 < M ∧ M ≤ 14) ∨ 14 < M by omega) with h1 | ⟨h1, h2⟩ | h1
    all_goals
      go_enter Try.func35, Try.ntmps35
      go_wp2_with fail
      refine (hcl _).mono ?_
      rintro e w1 ⟨rfl, rfl⟩
      go_wp2_with fail
      all_goals (go_ret; exact ⟨ret_i64 (by have := HM.out; omega), (Hd.boxes w _ _).below⟩)

set_option maxHeartbeats 2000000 in
/-- Next. -/
theorem hnext_any (M A : Int) (k c s t g a r q v : Int) (su st : Bool) (n l e : Int) (w : World) :
    Calls Try.prog 27 #[.agg #[.int .i64 M, .int .i64 A], .agg #[.int .i64 k, .int .i64 c, .int .i64 s, .int .i64 t, .int .i64 g, .int .u32 a, .int .i64 r, .bool su, .bool st, .int .i64 q, .int .u32 v], .int .i64 n, .int .i64 l, .int .i64 e] w fun x w' => x = .returned (.int .i64 (Hd.next (Hd.most M A su st) A n l e)) ∧ Below w.heap.size w w' := by
  have hm := fun w => hmost_any M A k c s t g a r q v su st w
  have hmh := Hd.most_hi M A su st
  generalize Hd.most M A su st = m at hm hmh ⊢
  by_cases h0 : n < 0
  · rw [Hd.next_few (.inl h0)]
    go_enter Try.func27, Try.ntmps27
    go_wp2_with fail
    go_ret
    exact ⟨rfl, (Hd.boxes w _ _).below⟩
  by_cases h1 : (m : Int) ≤ n
  · rw [Hd.next_few (.inr h1)]
    go_enter Try.func27, Try.ntmps27
    go_wp2_with fail
    have H := Lib.hid (Hd.boxes w (.cells #[.int .i64 M, .int .i64 A] 29) (.cells #[.int .i64 k, .int .i64 c, .int .i64 s, .int .i64 t, .int .i64 g, .int .u32 a, .int .i64 r, .bool su, .bool st, .int .i64 q, .int .u32 v] 24))
    refine (hm _).mono ?_
    rintro x w1 ⟨rfl, hb⟩
    have H1 := Lib.hid (H.out.call hb)
    clear hb H hm
    go_wp2_with fail
    go_ret
    exact ⟨rfl, H1.out.below⟩
  · rw [Hd.next_past h0 h1]
    have hp := fun w => past_any (Tk.after l A) e w
    generalize Tk.past (Tk.after l A) e = p at hp ⊢
    have ha := fun w => after_any l A w
    generalize Tk.after l A = z at hp ha ⊢
    cases p
    all_goals
      first | rw [if_pos rfl] | rw [if_neg Bool.false_ne_true]
      go_enter Try.func27, Try.ntmps27
      go_wp2_with fail
      have H := Lib.hid (Hd.boxes w (.cells #[.int .i64 M, .int .i64 A] 29) (.cells #[.int .i64 k, .int .i64 c, .int .i64 s, .int .i64 t, .int .i64 g, .int .u32 a, .int .i64 r, .bool su, .bool st, .int .i64 q, .int .u32 v] 24))
      refine (hm _).mono ?_
      rintro x w1 ⟨rfl, hb⟩
      have H1 := Lib.hid (H.out.call hb)
      clear hb H hm
      obtain ⟨c0, c1⟩ := two_cells (H1.out.get 1 rfl)
      go_wp2_with fail
      refine (ha _).mono ?_
      rintro x w2 ⟨rfl, rfl⟩
      go_wp2_with fail
      refine (hp _).mono ?_
      rintro x w2 ⟨rfl, rfl⟩
      go_wp2_with fail
      go_ret
      exact ⟨rfl, H1.out.below⟩
end Go.Proofs.Ytihgohadihjalaa
