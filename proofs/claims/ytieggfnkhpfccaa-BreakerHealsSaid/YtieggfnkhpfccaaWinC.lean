/- The contracts of window's calls: a window that holds what happened, by buckets. -/
import Derived.Test.YtieggfnkhpfccaaWinB
import Derived.Deep.LoopGhost
import Derived.Deep.DeepCutAuto
namespace Go.Proofs.Ytieggfnkhpfccaa
open Go.RowKit

/-- A window that holds what happened. -/
structure Wv (w : World) (P R n : Nat) (wd last : Int) (ev : List (Int × Bool)) : Prop where
  win : Win w P R n wd last (fun i => Wn.cnt ev (last - i) true) (fun i => Wn.cnt ev (last - i) false)
  old : ∀ e ∈ ev, e.1 ≤ last
  most : last ≤ 1099511627776
  few : ev.length ≤ 1000000
theorem Wv.past {w w' : World} {P R n : Nat} {wd last : Int} {ev : List (Int × Bool)} {own : Nat → Prop} (h : Wv w P R n wd last ev) (hr : Rest own w w') (h1 : ¬own P) (h2 : ¬own R) : Wv w' P R n wd last ev :=
  { h with win := h.win.past hr h1 h2 }
theorem Wv.below {w w' : World} {P R n : Nat} {wd last : Int} {ev : List (Int × Bool)} (h : Wv w P R n wd last ev) (hb : Below w.heap.size w w') : Wv w' P R n wd last ev :=
  { h with win := h.win.below hb }

/-- A time is met. -/
theorem wmeet_ev {P R n : Nat} {wd last : Int} {ev : List (Int × Bool)} (t : Int) (w : World) (h : Wv w P R n wd last ev) :
    Calls Try.prog 21 #[.pointer (some ⟨P, 0, none⟩), .int .i64 t] w fun e w' => e = .returned (.tuple #[]) ∧ Wv w' P R n wd (max last (Tk.clamp t / wd)) ev ∧ Rest (fun k => k = P ∨ k = R) w w' := by
  refine (wmeet_any t w h.win h.most).mono ?_
  rintro e w' ⟨rfl, hw, hr⟩
  have h0 := Tk.clamp_lo t
  have h1 := Tk.clamp_hi t
  have h2 := Int.ediv_le_self wd h0
  have h3 := h.most
  exact ⟨rfl, ⟨hw.congr (fun i hi => Wn.shift_cnt true h.old _ hi) (fun i hi => Wn.shift_cnt false h.old _ hi), Wn.max_le h.old _, by omega, h.few⟩, hr⟩

set_option maxHeartbeats 1000000 in
/-- Note. -/
theorem wnote_any {P R n : Nat} {wd last : Int} {ev : List (Int × Bool)} (t : Int) (v : Bool) (w : World) (h : Wv w P R n wd last ev) (hf : ev.length < 1000000) :
    Calls Try.prog 14 #[.pointer (some ⟨P, 0, none⟩), .int .i64 t, .bool v] w fun e w' => e = .returned (.tuple #[]) ∧ Wv w' P R n wd (max last (Tk.clamp t / wd)) (ev ++ [(max last (Tk.clamp t / wd), v)]) ∧ Rest (fun k => k = P ∨ k = R) w w' := by
  have H := Lib.hid h
  have HL := Lib.hid (Wn.more_le h.old (Tk.clamp t / wd) v)
  have hmt := fun w h => wmeet_ev (P := P) (R := R) (n := n) (wd := wd) (last := last) (ev := ev) t w h
  generalize max last (Tk.clamp t / wd) = m at hmt HL ⊢
  clear h
  go_enter Try.func14, Try.ntmps14
  go_wp2_with fail
  refine (wnone_any w H.out.win).mono ?_
  rintro e w1 ⟨rfl, rfl⟩
  go_wp2_with fail
  refine (hmt w H.out).mono ?_
  rintro e w1 ⟨rfl, hw, hr⟩
  have H1 := Lib.hid hw
  have HR := Lib.hid hr
  clear hw hr H hmt
  obtain ⟨-, -, c2⟩ := H1.out.win.cells
  have x0 := H1.out.win.well H1.out.win.some_
  have y0 := H1.out.win.ill H1.out.win.some_
  have f0 : w1.frozen? ⟨R, 0, none⟩ = false := frozen_of_row _ _ _ _ _ H1.out.win.row
  have f1 : w1.frozen? ⟨R, 1, none⟩ = false := frozen_of_row _ _ _ _ _ H1.out.win.row
  have hn0 := H1.out.win.some_
  have HM := Lib.hid H1.out.win.more
  have HM1 := Lib.hid H1.out.win.more1
  rw [show 0 * 2 = 0 from rfl] at x0
  rw [show 0 * 2 + 1 = 1 from rfl] at y0
  have hx0 := Wn.cnt_lo true (m - ((0 : Nat) : Int)) ev
  have hx1 := Wn.cnt_hi true (m - ((0 : Nat) : Int)) ev
  have hy0 := Wn.cnt_lo false (m - ((0 : Nat) : Int)) ev
  have hy1 := Wn.cnt_hi false (m - ((0 : Nat) : Int)) ev
  generalize hgx : Wn.cnt ev (m - ((0 : Nat) : Int)) true = x at x0 HM hx0 hx1
  generalize hgy : Wn.cnt ev (m - ((0 : Nat) : Int)) false = y at y0 HM1 hy0 hy1
  have hwx : IntKind.i64.wrap (x + 1) = x + 1 := by rw [IntKind.wrap_i64]; omega
  have hwy : IntKind.i64.wrap (y + 1) = y + 1 := by rw [IntKind.wrap_i64]; omega
  clear hx0 hx1 hy0 hy1 hgx hgy
  have HF := Lib.hid hf
  clear hf
  cases v
  · clear x0 hwx f0
    go_wp2_with fail
    go_end0
    obtain ⟨hw, hr⟩ := HM1.out
    refine ⟨rfl, ⟨hw.congr (fun i _ => Wn.bump_other ev m (by decide) i) (fun i _ => Wn.bump_same ev m false i), HL.out, H1.out.most, ?_⟩, HR.out.trans (o3 := fun k => k = P ∨ k = R) hr (fun _ _ => id) (fun _ _ => id)⟩
    have := HF.out
    rw [List.length_append]
    simp
    omega
  · clear y0 hwy f1
    go_wp2_with fail
    go_end0
    obtain ⟨hw, hr⟩ := HM.out
    refine ⟨rfl, ⟨hw.congr (fun i _ => Wn.bump_same ev m true i) (fun i _ => Wn.bump_other ev m (by decide) i), HL.out, H1.out.most, ?_⟩, HR.out.trans (o3 := fun k => k = P ∨ k = R) hr (fun _ _ => id) (fun _ _ => id)⟩
    have := HF.out
    rw [List.length_append]
    simp
    omega
theorem wnote_nil (t : Int) (v : Bool) (w : World) : Calls Try.prog 14 #[.pointer none, .int .i64 t, .bool v] w fun e w' => e = .returned (.tuple #[]) ∧ w = w' := by
  go_enter Try.func14, Try.ntmps14
  go_wp2_with fail
  refine (wnone_nil w).mono ?_
  rintro e w1 ⟨rfl, rfl⟩
  go_wp2
  refine bodyPost_ret (results_none rfl _ _ _) rfl ?_
  exact ⟨rfl, rfl⟩

/-- Clear. -/
theorem wclear_any {P R n : Nat} {wd last : Int} {ev : List (Int × Bool)} (w : World) (h : Wv w P R n wd last ev) :
    Calls Try.prog 23 #[.pointer (some ⟨P, 0, none⟩)] w fun e w' => e = .returned (.tuple #[]) ∧ Wv w' P R n wd last [] ∧ Rest (fun k => k = P ∨ k = R) w w' := by
  have H := Lib.hid h
  obtain ⟨-, -, c2⟩ := h.win.cells
  obtain ⟨w1, hcr, hr, hrow⟩ := win_cleared (w := w) (R := R) (n := n) (g := n) (F := Wn.mix _ _) h.win.row (Nat.le_refl _)
  have HF := Lib.hid (show Wv w1 P R n wd last [] ∧ Rest (fun k => k = P ∨ k = R) w w1 from by
    refine ⟨⟨⟨(hr.block P (heap_lt h.win.win) h.win.apart).trans h.win.win, ?_, h.win.apart, h.win.some_, h.win.few, h.win.wide, h.win.from_⟩, fun _ h => (by cases h), h.most, Nat.zero_le _⟩, hr.mono (fun _ _ => .inr)⟩
    rw [hrow]
    unfold Wn.arr
    rw [Wn.flat_congr (G := Wn.mix (fun i => Wn.cnt [] (last - i) true) (fun i => Wn.cnt [] (last - i) false)) fun k hk => ?_]
    rw [if_pos hk]
    simp [Wn.mix, Wn.cnt])
  clear h hr hrow
  go_enter Try.func23, Try.ntmps23
  go_wp2_with fail
  refine (wnone_any w H.out.win).mono ?_
  rintro e w1 ⟨rfl, rfl⟩
  go_wp2_with fail
  go_end0
  exact ⟨rfl, HF.out⟩
theorem wclear_nil (w : World) : Calls Try.prog 23 #[.pointer none] w fun e w' => e = .returned (.tuple #[]) ∧ w = w' := by
  go_enter Try.func23, Try.ntmps23
  go_wp2_with fail
  refine (wnone_nil w).mono ?_
  rintro e w1 ⟨rfl, rfl⟩
  go_wp2
  refine bodyPost_ret (results_none rfl _ _ _) rfl ?_
  exact ⟨rfl, rfl⟩

theorem make_counts (n : Nat) (hn : n ≤ 16) (w : World) : (Instr.makeSlice 43 (.int .i64 (n : Int)) (.int .i64 (n : Int))).run Try.prog w = .ok (.slice (some ⟨w.heap.size, 0, none⟩) n n) (w.alloc (.cells (Wn.arr n (fun _ => 0) (fun _ => 0)) 33)) := by
  obtain ⟨i0, hinf, hz0, hz1, hz2⟩ := infoC_parts
  have h := run_make (P := Try.prog) w 43 33 i0 _ Try.underlying43 hinf hz0 .i64 .i64 n n (by omega) (by omega) (by rw [hz2]; omega) (by omega)
  rw [h]
  have e : (n : Int).toNat = n := by omega
  simp only [Value.cells, e, hz1]
  rw [Wn.arr_zero]

/-- How many buckets. -/
def Wn.many (n : Int) : Nat := (max 1 (min n 16)).toNat
theorem Wn.many_some (n : Int) : 0 < Wn.many n ∧ Wn.many n ≤ 16 ∧ ((Wn.many n : Nat) : Int) = max 1 (min n 16) := by unfold Wn.many; omega

set_option maxHeartbeats 1000000 in
/-- New. -/
theorem wdnew_any (n wd : Int) (w : World) :
    Calls Try.prog 12 #[.int .i64 n, .int .i64 wd] w fun e w' => e = .returned (.pointer (some ⟨w.heap.size + 1, 0, none⟩)) ∧ Wv w' (w.heap.size + 1) w.heap.size (Wn.many n) (max 1 wd) 0 [] ∧ Below w.heap.size w w' := by
  obtain ⟨hm0, hm1, hm2⟩ := Wn.many_some n
  generalize Wn.many n = m at hm0 hm1 hm2 ⊢
  have hmk := make_counts m hm1
  have hn1 : (if n < 16 then n else 16) = min n 16 := by omega
  have hn2 : (if (16 : Int) < n then 16 else n) = min n 16 := by omega
  have hn3 : (if 1 < min n 16 then min n 16 else 1) = (m : Int) := by omega
  have hn4 : (if min n 16 < 1 then 1 else min n 16) = (m : Int) := by omega
  have hw1 : (if 1 < wd then wd else 1) = max 1 wd := by omega
  have hw2 : (if wd < 1 then 1 else wd) = max 1 wd := by omega
  have HW0 := Lib.hid (show 1 ≤ max 1 wd by omega)
  have HZ := Lib.hid (show Wn.arr m (fun _ => 0) (fun _ => 0) = Wn.arr m (fun i => Wn.cnt [] (0 - i) true) (fun i => Wn.cnt [] (0 - i) false) from rfl)
  generalize max 1 wd = d at hw1 hw2 HW0 ⊢
  generalize min n 16 = q at hn1 hn2 hn3 hn4
  generalize Wn.arr m (fun _ => 0) (fun _ => 0) = A at hmk HZ
  clear hm2
  go_enter Try.func12, Try.ntmps12
  go_wp2_with fail
  go_ret
  exact ⟨rfl, ⟨⟨heap_alloc2_new _ _ _, by rw [keep1 (heap_alloc_new w _) _, HZ.out], by omega, hm0, hm1, HW0.out, Int.le_refl _⟩, (fun _ h => by cases h), by omega, Nat.zero_le _⟩, ((Below.refl _ _).alloc (Nat.le_refl _) _).alloc (by simp) _⟩
end Go.Proofs.Ytieggfnkhpfccaa
