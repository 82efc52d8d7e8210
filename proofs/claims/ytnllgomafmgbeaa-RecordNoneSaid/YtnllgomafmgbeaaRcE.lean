/- The contract of All. -/
import Derived.Test.YtnllgomafmgbeaaRcD
namespace Go.Proofs.Ytnllgomafmgbeaa
open Go.RowKit Go.Sort

set_option maxRecDepth 10000 in
theorem Try.itemU32 : Item1 Try.prog 40 22 := Item1.of (z := .int .u32 0) (b := 4) Try.underlying40 (by kernel_rfl) (by decide) rfl
namespace Rc
/-- The calls that there are records of. -/
def calls (q : List (Nat × Rec)) : List Value := q.map fun x => .int .u32 x.2.f.a
end Rc
section
variable {G : Nat → Prop} {w0 w w' : World} {l : List Part} {B i : Nat} {n : Int} {q : List (Nat × Rc.Rec)} {a : Option Addr} {c : Nat}
/-- All. -/
theorem rcall_nil (w : World) : Calls Try.prog 11 #[.pointer none] w fun e w' => e = .returned (.slice none 0 0) ∧ w = w' := by
  go_enter Try.func11, Try.ntmps11
  go_wp2_with fail
  refine (rclen_nil w).mono ?_
  rintro e w' ⟨rfl, rfl⟩
  go_wp2_with fail
  go_loopg [3, 7] (1 : Nat) (fun gh s3 s7 wx => s3 = .slice none 0 0 ∧ s7 = .int .i64 0 ∧ w = wx)
  case atStart => exact ⟨rfl, rfl, rfl⟩
  case round =>
    obtain ⟨rfl, rfl, rfl⟩ := hrel
    go_wp2_with fail
    go_ret
    exact ⟨rfl, rfl⟩
theorem rcall_in (w : World) (h : Rc.In w B n q a c) : Calls Try.prog 11 #[.pointer (some ⟨B, 0, none⟩)] w fun e w' => ∃ a' c', e = .returned (.slice a' q.length c') ∧ Own (fun _ => False) w w' [.nl 22 a' c' (Rc.calls q)] := by
  have hq : q.length ≤ 32 := by have := h.few; omega
  have HI := Lib.hid h
  have hL := Lib.hid (rclen_in w h)
  clear h
  generalize hm : q.length = m at *
  have HM := Lib.hid hm
  clear hm
  go_enter Try.func11, Try.ntmps11
  go_wp2_with fail
  refine hL.out.mono ?_
  rintro e w' ⟨rfl, rfl⟩
  clear hL
  go_wp2_with fail
  go_loopg [3, 7] (32 : Nat) (fun gh s3 s7 wx => ∃ (k : Nat) (a' : Option Addr) (c' : Nat), k ≤ m ∧ 32 - k ≤ gh ∧ s3 = .slice a' k c' ∧ s7 = .int .i64 k ∧ Hid (Own (fun _ => False) w wx [.nl 22 a' c' (Rc.calls (q.take k))]))
  case atStart => exact ⟨0, none, 0, Nat.zero_le _, by omega, rfl, rfl, Lib.hid ((Own.start _ w).nil_nl _)⟩
  case round =>
    obtain ⟨k, a', c', hk, hg, rfl, rfl, HO⟩ := hrel
    by_cases hlt : k < m
    · have hlt' : (k : Int) < (m : Int) := by omega
      have hwk : IntKind.i64.wrap ((k : Int) + 1) = (k : Int) + 1 := by rw [IntKind.wrap_i64]; omega
      obtain ⟨x, hx⟩ : ∃ x, q[k]? = some x := ⟨q[k]'(by rw [HM.out]; exact hlt), List.getElem?_eq_getElem _⟩
      have hI2 := HI.out.call (HO.out.below (fun _ => id))
      obtain ⟨p0, p1⟩ := hI2.cells
      rw [HM.out] at p1
      obtain ⟨g, off, rfl, p2⟩ := hI2.ptr_at hx
      obtain ⟨-, -, q5, -⟩ := rc_cells (hI2.recs x (List.mem_of_getElem? hx))
      have HO3 := Lib.hid (HO.out.lay (.cells #[.int .u32 x.2.f.a] 22 (0, 0)))
      have hlen : k = (Rc.calls (q.take k)).length := by simp [Rc.calls, HM.out]; omega
      obtain ⟨g', off', c2, w4, hrun, h4⟩ := HO3.out.nl_add Try.itemU32 1 rfl (n := k) hlen (by omega) (v := .int .u32 x.2.f.a) rfl (HO3.out.box 0 rfl) 40
      have htk : Rc.calls (q.take k) ++ [.int .u32 x.2.f.a] = Rc.calls (q.take (k + 1)) := by
        rw [List.take_add_one, hx]; simp [Rc.calls]
      rw [htk] at h4
      have HO4 := Lib.hid h4.tail
      clear h4 hI2 HO3 HO hx hlen htk
      go_wp2_with (at_builtin; refine wpList_append_run rfl _ _ 40 rfl rfl rfl hrun ?_)
      go_roundg (32 - (k + 1))
      case measure => omega
      case rel => exact ⟨k + 1, _, _, by omega, by omega, rfl, by go_num, HO4⟩
    · obtain rfl : k = m := by omega
      go_wp2
      go_ret
      have := HO.out
      rw [List.take_of_length_le (by rw [HM.out]; exact Nat.le_refl _)] at this
      exact ⟨_, _, rfl, this⟩
theorem rcall_any (w : World) (h : Own G w0 w l) (e : l[i]? = some (Rc.part B n q)) : Calls Try.prog 11 #[.pointer (some ⟨B, 0, none⟩)] w fun e w' => ∃ a' c', e = .returned (.slice a' q.length c') ∧ Own (fun _ => False) w w' [.nl 22 a' c' (Rc.calls q)] := by
  obtain ⟨a, c, k⟩ := Rc.seen h i e
  exact rcall_in w k
end
end Go.Proofs.Ytnllgomafmgbeaa
