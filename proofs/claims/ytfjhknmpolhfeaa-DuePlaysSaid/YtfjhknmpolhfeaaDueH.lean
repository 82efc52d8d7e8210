/- container/heap's Push; Due's Len, First, Put, Take. -/
import Derived.Test.YtfjhknmpolhfeaaDueG
import Derived.Test.YtfjhknmpolhfeaaTkA
import Derived.Test.YtfjhknmpolhfeaaTkMath
import Derived.Test.YtfjhknmpolhfeaaSkip
namespace Go.Proofs.Ytfjhknmpolhfeaa
open Go.RowKit Go.Sort

set_option maxHeartbeats 2000000 in
/-- An entry is laid into the heap. -/
theorem hpush_any {B P : Nat} {n : Int} {q : List En} {L : Option Nat} (x : En) (w : World) (h : Dz w B P n q L) (hB : B ≤ w.heap.size) (hm : q.length ≤ 999999) (hh : Hp.Heap q q.length) :
    Calls Try.prog 16 #[.iface 49 (.pointer (some ⟨P, 0, none⟩)), .iface 47 (.agg (Hp.enc x).toArray)] w fun e w' => e = .returned (.tuple #[]) ∧ ∃ g off cap q', Dq w' B P g off cap n q' ∧ q'.Perm (q ++ [x]) ∧ Hp.Heap q' q'.length ∧ (L = some g ∨ w.heap.size ≤ g) ∧ Rest (fun k => k = P ∨ L = some k) w w' := by
  have hp := qpush_any x w h hB (by omega)
  have mP := push_met w P
  simp only [Try.types_size, Nat.reduceAdd] at mP
  have HP := Lib.hid hh
  clear h hh
  generalize (Hp.enc x).toArray = xs at hp ⊢
  go_enter Try.func16, Try.ntmps16
  go_wp2_with fail
  refine hp.mono ?_
  rintro e w1 ⟨rfl, g, off, cap, hd, hg, hr⟩
  have mN := len_met w1 P _ hd.cell
  simp only [Try.types_size, Nat.reduceAdd, List.length_append, List.length_cons, List.length_nil, Nat.zero_add] at mN
  have hu := up_any w1 hd (by simp; omega) (Hp.Up.start (a := x) HP.out)
  have HR := Lib.hid hr
  have HG := Lib.hid hg
  clear hp mP hd hr hg HP
  go_wp2_with fail
  refine (qlen_any _ _ _ _).mono ?_
  rintro e w2 ⟨rfl, rfl⟩
  go_wp2_with fail
  refine hu.mono ?_
  rintro e w3 ⟨rfl, q', hd3, hp3, hh3, hr3⟩
  have HE := Lib.hid (show ∃ g off cap q', Dq w3 B P g off cap n q' ∧ q'.Perm (q ++ [x]) ∧ Hp.Heap q' q'.length ∧ (L = some g ∨ w.heap.size ≤ g) ∧ Rest (fun k => k = P ∨ L = some k) w w3 from
    ⟨g, off, cap, q', hd3, hp3, hh3, HG.out, HR.out.trans (o3 := fun k => k = P ∨ L = some k) hr3 (fun _ _ => id) (fun i hi e => .inr (by
      rcases HG.out with h | h
      · rw [h, e]
      · omega))⟩)
  clear hu hd3 hp3 hh3 hr3 HR HG mN
  go_wp2
  go_end0
  exact ⟨rfl, HE.out⟩

/-! Of none. -/
theorem dlen_nil (w : World) : Calls Try.prog 9 #[.pointer none] w fun e w' => e = .returned (.int .i64 0) ∧ w = w' := by
  go_enter Try.func9, Try.ntmps9
  go_wp2
  go_ret
  exact ⟨rfl, rfl⟩
theorem dfirst_nil (w : World) : Calls Try.prog 10 #[.pointer none] w fun e w' => e = .returned (.int .i64 1099511627776) ∧ w = w' := by
  go_enter Try.func10, Try.ntmps10
  go_wp2_with (go_at_call 9; refine (dlen_nil _).mono ?_; rintro e w1 ⟨rfl, rfl⟩)
  go_ret
  exact ⟨rfl, rfl⟩
theorem dall_nil (w : World) : Calls Try.prog 11 #[.pointer none] w fun e w' => e = .returned (.slice none 0 0) ∧ w = w' := by
  go_enter Try.func11, Try.ntmps11
  go_wp2
  go_ret
  exact ⟨rfl, rfl⟩

/-! Of some. -/
theorem dlen_any {B P : Nat} {n : Int} {q : List En} {L : Option Nat} (w : World) (h : Dz w B P n q L) : Calls Try.prog 9 #[.pointer (some ⟨P, 0, none⟩)] w fun e w' => e = .returned (.int .i64 (q.length : Nat)) ∧ w = w' := by
  obtain ⟨a, c, hP⟩ := h.shape
  have c0 : w.cell? ⟨P, 0, none⟩ = some (.slice a q.length c) := by rw [cell_of_row _ _ _ _ _ _ hP]; rfl
  clear h hP
  go_enter Try.func9, Try.ntmps9
  go_wp2
  go_ret
  exact ⟨rfl, rfl⟩
/-- The first one's time; of none, Never. -/
def Hp.first (q : List En) : Int := if q.length = 0 then 1099511627776 else (Hp.e q 0).t
theorem dfirst_any {B P : Nat} {n : Int} {q : List En} {L : Option Nat} (w : World) (h : Dz w B P n q L) : Calls Try.prog 10 #[.pointer (some ⟨P, 0, none⟩)] w fun e w' => e = .returned (.int .i64 (Hp.first q)) ∧ w = w' := by
  have hl := dlen_any w h
  rcases h with ⟨rfl, h1, rfl, h3⟩ | ⟨g, off, cap, rfl, h⟩
  · go_enter Try.func10, Try.ntmps10
    go_wp2_with (go_at_call 9; refine hl.mono ?_; rintro e w1 ⟨rfl, rfl⟩)
    go_ret
    exact ⟨rfl, rfl⟩
  · by_cases h0 : q.length = 0
    · have hf : Hp.first q = 1099511627776 := if_pos h0
      rw [hf]
      rw [h0] at hl
      clear h hf
      go_enter Try.func10, Try.ntmps10
      go_wp2_with (go_at_call 9; refine hl.mono ?_; rintro e w1 ⟨rfl, rfl⟩)
      go_ret
      exact ⟨rfl, rfl⟩
    · have hf : Hp.first q = (Hp.e q 0).t := if_neg h0
      rw [hf]
      obtain ⟨a0, -⟩ := h.row.en (i := 0) (by omega)
      simp only [Nat.zero_mul, Nat.add_zero] at a0
      have c0 := h.cell
      have h1 : 0 < q.length := by omega
      clear h hf
      go_enter Try.func10, Try.ntmps10
      go_wp2_with (go_at_call 9; refine hl.mono ?_; rintro e w1 ⟨rfl, rfl⟩)
      go_ret
      exact ⟨rfl, rfl⟩
end Go.Proofs.Ytfjhknmpolhfeaa
