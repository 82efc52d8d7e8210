/- awake: two calls at most, one to each. -/
import Derived.Test.YtpknonfiiegnnaaAdA
namespace Go.Proofs.Ytpknonfiiegnnaa
open Go.RowKit

/-- So many calls may go on since the world w, so many do; one's own blocks beside it. -/
structure Adv (w wx : World) (P : Nat) (x y : Int) (f : Nat → Int) (l : List (Nat × Obj)) : Prop where
  held : Held w wx ((P, adm x y f) :: l)
  ok : Ad.Ok f
  most : y ≤ 64

theorem adv_new {w wx : World} {l : List (Nat × Obj)} (h : Held w wx l) (x y : Int) :
    Calls Try.prog 5 #[.int .i64 x, .int .i64 y] wx fun e w' => e = .returned (.pointer (some ⟨wx.heap.size, 0, none⟩)) ∧ Adv w w' wx.heap.size (Ad.cut x) (Ad.cut y) Ad.zero l := by
  refine (anew_any x y wx).mono ?_
  rintro e w' ⟨rfl, rfl⟩
  exact ⟨rfl, h.lay _, Ad.Ok.zero, Ad.cut_hi y⟩
theorem Adv.call {w wx wy : World} {P : Nat} {x y : Int} {f : Nat → Int} {l : List (Nat × Obj)} (h : Adv w wx P x y f l) (hb : Below wx.heap.size wx wy) : Adv w wy P x y f l := ⟨h.held.call hb, h.ok, h.most⟩

/-- May one more go on to a service? How many go on then. -/
def Ad.may (x y : Int) (f : Nat → Int) (k : Nat) : Bool := decide (Ad.sum f < x ∧ f k < y)
def Ad.took (x y : Int) (f : Nat → Int) (k : Nat) : Nat → Int := if Ad.may x y f k = true then Ad.put f k (f k + 1) else f
theorem adv_take {w wx : World} {P : Nat} {x y : Int} {f : Nat → Int} {l : List (Nat × Obj)} (h : Adv w wx P x y f l) {k : Nat} (hk : k < 4) :
    Calls Try.prog 7 #[.pointer (some ⟨P, 0, none⟩), .int .i64 k] wx fun e w' => e = .returned (.bool (Ad.may x y f k)) ∧ Adv w w' P x y (Ad.took x y f k) l := by
  by_cases hm : Ad.sum f < x ∧ f k < y
  · have h1 : Ad.may x y f k = true := by simp [Ad.may, hm]
    rw [Ad.took, h1, if_pos rfl]
    refine (atake_yes hk h.ok hm.1 hm.2 h.most wx (h.held.get 0 rfl)).mono ?_
    rintro e w' ⟨rfl, hn, hr⟩
    have := h.ok k
    have := h.most
    exact ⟨rfl, h.held.rest hr hn, h.ok.put k (by omega) (by omega), h.most⟩
  · have h1 : Ad.may x y f k = false := by simp [Ad.may]; omega
    rw [Ad.took, h1, if_neg Bool.false_ne_true]
    by_cases hs : x ≤ Ad.sum f
    · refine (atake_full hk h.ok hs wx (h.held.get 0 rfl)).mono ?_
      rintro e w' ⟨rfl, hb⟩
      exact ⟨rfl, h.call hb⟩
    · refine (atake_many hk h.ok (by omega) (by omega) wx (h.held.get 0 rfl)).mono ?_
      rintro e w' ⟨rfl, hb⟩
      exact ⟨rfl, h.call hb⟩

set_option maxHeartbeats 2000000 in
set_option maxRecDepth 100000 in
theorem awake19_any (w : World) : Calls Try.prog 10 #[] w fun e w' => e = .returned (.bool true) ∧ Below w.heap.size w w' := by
  have HT := Lib.hid (fun wx P x y f l k (hk : k < 4) (h : Adv w wx P x y f l) => adv_take h hk)
  go_enter Try.func10, Try.ntmps10
  go_wp2_with fail
  refine (adv_new (Held.start w) 2 1).mono ?_
  rintro e w1 ⟨rfl, h1⟩
  generalize w.heap.size = P at h1 ⊢
  have H1 := Lib.hid (show Adv w w1 P 2 1 Ad.zero [] from h1)
  clear h1
  go_wp2_with fail
  refine (HT.out _ _ _ _ _ _ 0 (by decide) H1.out).mono ?_
  rintro e w2 ⟨rfl, h2⟩
  have H2 := Lib.hid h2
  clear h2 H1
  rw [show Ad.may 2 1 Ad.zero 0 = true by decide]
  go_wp2_with fail
  refine (HT.out _ _ _ _ _ _ 0 (by decide) H2.out).mono ?_
  rintro e w3 ⟨rfl, h2⟩
  have H3 := Lib.hid h2
  clear h2 H2
  rw [show Ad.may 2 1 (Ad.took 2 1 Ad.zero 0) 0 = false by decide]
  go_wp2_with fail
  refine (HT.out _ _ _ _ _ _ 1 (by decide) H3.out).mono ?_
  rintro e w4 ⟨rfl, h2⟩
  have H4 := Lib.hid h2
  clear h2 H3
  rw [show Ad.may 2 1 (Ad.took 2 1 (Ad.took 2 1 Ad.zero 0) 0) 1 = true by decide]
  go_wp2_with fail
  refine (HT.out _ _ _ _ _ _ 2 (by decide) H4.out).mono ?_
  rintro e w5 ⟨rfl, h2⟩
  have H5 := Lib.hid h2
  clear h2 H4
  rw [show Ad.may 2 1 (Ad.took 2 1 (Ad.took 2 1 (Ad.took 2 1 Ad.zero 0) 0) 1) 2 = false by decide]
  go_wp2_with fail
  refine (alen_any H5.out.ok w5 (H5.out.held.get 0 rfl)).mono ?_
  rintro e w6 ⟨rfl, rfl⟩
  rw [show Ad.sum (Ad.took 2 1 (Ad.took 2 1 (Ad.took 2 1 (Ad.took 2 1 Ad.zero 0) 0) 1) 2) = 2 by decide]
  go_wp2_with fail
  refine (ato_yes (k := 0) (by decide) w5 (H5.out.held.get 0 rfl)).mono ?_
  rintro e w6 ⟨rfl, rfl⟩
  rw [show Ad.took 2 1 (Ad.took 2 1 (Ad.took 2 1 (Ad.took 2 1 Ad.zero 0) 0) 1) 2 0 = 1 by decide]
  go_wp2_with fail
  go_ret
  exact ⟨rfl, H5.out.held.below⟩
end Go.Proofs.Ytpknonfiiegnnaa
