/- The document's own list of alarms (chapters 12 and 13): Same, Come, Without. -/
import Derived.Test.YtcjidobdbdfjlaaEnRow
import Derived.Test.YtcjidobdbdfjlaaTkA
import Derived.Test.YtcjidobdbdfjlaaTkMath
import Derived.BigQuiet
import Derived.Deep.LoopGhost
import Derived.Shelf.SlSortCmp.QuietGrown
import Derived.Laws.ResultCell
import Derived.Laws.Rows
namespace Go.Proofs.Ytcjidobdbdfjlaa
open Go.RowKit Go.Sort

namespace Rf
/-- For the same of the same slot. -/
def same (a b : En) : Bool := decide (a.c = b.c) && decide (a.s = b.s) && decide (a.x = b.x)
/-- Those that are for others. -/
def without (a : En) (l : List En) : List En := l.filter fun b => !same b a
/-- How many have come. -/
def come (now : Int) : List En → Nat
  | [] => 0
  | b :: r => (if b.t ≤ now then 1 else 0) + come now r
theorem come_append (now : Int) (b : En) : ∀ l, come now (l ++ [b]) = come now l + if b.t ≤ now then 1 else 0
  | [] => by simp [come]
  | a :: r => by simp only [List.cons_append, come, come_append now b r]; omega
theorem come_le (now : Int) : ∀ l, come now l ≤ l.length
  | [] => Nat.le_refl _
  | b :: r => by have := come_le now r; simp only [come, List.length_cons]; split <;> omega
theorem take_next {l : List En} {k : Nat} (h : k < l.length) : l.take (k + 1) = l.take k ++ [Hp.e l k] := by rw [Hp.e_in h]; exact (List.take_append_getElem h).symm
end Rf

/-- A list of entries behind a slice that may be nil. -/
def Lz (w : World) (B : Nat) (a : Option Addr) (c : Nat) (l : List En) : Prop := (a = none ∧ c = 0 ∧ l = []) ∨ ∃ g off, a = some ⟨g, off, none⟩ ∧ RowK w B 63 6 g off l.length c (flat l)
namespace Lz
variable {w w' : World} {B c : Nat} {a : Option Addr} {l : List En}
theorem past (h : Lz w B a c l) (hr : Rest (fun _ => False) w w') : Lz w' B a c l := by
  rcases h with h | ⟨g, off, rfl, h⟩
  · exact .inl h
  · exact .inr ⟨g, off, rfl, h.kept (hr.block _ h.lt (fun x => x))⟩
theorem lower {B' : Nat} (h : Lz w B a c l) (hB : B' ≤ B) : Lz w B' a c l := by
  rcases h with h | ⟨g, off, rfl, h⟩
  · exact .inl h
  · exact .inr ⟨g, off, rfl, h.lower hB⟩
theorem some_ (h : Lz w B a c l) (h0 : 0 < l.length) : ∃ g off, a = some ⟨g, off, none⟩ ∧ RowK w B 63 6 g off l.length c (flat l) := by
  rcases h with ⟨-, -, rfl⟩ | h
  · exact absurd h0 (Nat.lt_irrefl _)
  · exact h
end Lz

/-- Two boxes of five cells, laid one behind the other. -/
theorem box5 {w : World} {x y : Array Value} {t u : TypeId} : ((w.alloc (.cells x t)).alloc (.cells y u)).heap[w.heap.size]? = some (.cells x t (0, 0)) ∧ ((w.alloc (.cells x t)).alloc (.cells y u)).heap[w.heap.size + 1]? = some (.cells y u (0, 0)) := by
  refine ⟨(Below.heap_alloc _ _ _ (by simp)).trans (heap_alloc_new _ _), ?_⟩
  have := heap_alloc_new (w.alloc (.cells x t)) (.cells y u)
  simpa using this

theorem grown_two (w : World) (a b : Obj) : (w.alloc a).alloc b = grow (w.drewN 0) #[a, b] := by
  rw [alloc_eq_grow, alloc_eq_grow, grow_grow]; rfl
theorem same_any (a b : En) (w : World) : Calls Try.prog 23 #[.agg (Hp.alarm a).toArray, .agg (Hp.alarm b).toArray] w fun e w' => e = .returned (.bool (Rf.same a b)) ∧ ∃ q os, w' = grow (w.drewN q) os := by
  obtain ⟨a1, a2, a3, a4, a5, a6⟩ := a
  obtain ⟨b1, b2, b3, b4, b5, b6⟩ := b
  simp only [Hp.alarm]
  have hr : Rf.same ⟨a1, a2, a3, a4, a5, a6⟩ ⟨b1, b2, b3, b4, b5, b6⟩ = (decide (a2 = b2) && decide (a3 = b3) && decide (a5 = b5)) := rfl
  rw [hr]
  clear hr
  by_cases h1 : a2 = b2 <;> by_cases h2 : a3 = b3 <;> by_cases h3 : a5 = b5
  all_goals
    go_enter Try.func23, Try.ntmps23
    go_wp2
    go_ret
    exact ⟨by simp [h1, h2, h3], 0, _, grown_two _ _ _⟩

set_option maxHeartbeats 1000000 in
/-- How many have come. -/
theorem come_any {B : Nat} {a : Option Addr} {c : Nat} {l : List En} (n now : Int) (w : World) (h : Lz w B a c l) (hm : l.length ≤ 1000) :
    Calls Try.prog 15 #[.agg #[.slice a l.length c, .int .i64 n], .int .i64 now] w fun e w' => e = .returned (.int .i64 (Rf.come now l : Nat)) ∧ Rest (fun _ => False) w w' := by
  have HH := Lib.hid (h.past (Rest.alloc (fun _ => False) w (.cells #[.slice a l.length c, .int .i64 n] 28)))
  have hb := heap_alloc_new w (.cells #[.slice a l.length c, .int .i64 n] 28)
  have HR := Lib.hid (Rest.alloc (fun _ => False) w (.cells #[.slice a l.length c, .int .i64 n] 28))
  clear h
  go_enter Try.func15, Try.ntmps15
  go_wp2_with fail
  have c0 : (w.alloc (.cells #[.slice a l.length c, .int .i64 n] 28)).cell? ⟨w.heap.size, 0, none⟩ = some (.slice a l.length c) := by rw [cell_of_row _ _ _ _ _ _ hb]; rfl
  clear hb
  generalize w.alloc (.cells #[.slice a l.length c, .int .i64 n] 28) = wa at HH HR c0 ⊢
  go_loopg [5, 6] (1000 : Nat) (fun g1 s5 s6 wx => ∃ k : Nat, wa = wx ∧ s6 = .int .i64 k ∧ s5 = .int .i64 (Rf.come now (l.take k) : Nat) ∧ k ≤ l.length ∧ 1000 - k ≤ g1)
  case atStart => exact ⟨0, rfl, rfl, rfl, by omega, by omega⟩
  case round =>
    obtain ⟨k, rfl, rfl, rfl, hkl, hk1⟩ := hrel
    by_cases hk : k < l.length
    · have hk' : (k : Int) < ((l.length : Nat) : Int) := by omega
      have hwk : IntKind.i64.wrap ((k : Int) + 1) = (k : Int) + 1 := by rw [IntKind.wrap_i64]; omega
      obtain ⟨g, off, rfl, hrow⟩ := HH.out.some_ (by omega)
      obtain ⟨a0, -⟩ := hrow.en hk
      have hle := Rf.come_le now (l.take k)
      have htl : (l.take k).length ≤ l.length := by rw [List.length_take]; omega
      have HN : Hid (Rf.come now (l.take (k + 1)) = Rf.come now (l.take k) + if (Hp.e l k).t ≤ now then 1 else 0) := by show _ = _; rw [Rf.take_next hk, Rf.come_append]
      generalize Rf.come now (l.take k) = m at hle HN
      have hwm : IntKind.i64.wrap ((m : Int) + 1) = (m : Int) + 1 := by rw [IntKind.wrap_i64]; omega
      clear hrow
      by_cases ht : (Hp.e l k).t ≤ now
      · have HN2 : Hid (Rf.come now (l.take (k + 1)) = m + 1) := by show _ = _; rw [HN.out, if_pos ht]
        generalize (Hp.e l k).t = t at a0 ht
        go_wp2_with fail
        go_roundg (1000 - (k + 1))
        case measure => omega
        case rel => exact ⟨k + 1, rfl, by go_num, by rw [HN2.out]; go_num, by omega, by omega⟩
      · have HN2 : Hid (Rf.come now (l.take (k + 1)) = m) := by show _ = _; rw [HN.out, if_neg ht]; rfl
        generalize (Hp.e l k).t = t at a0 ht
        go_wp2_with fail
        go_roundg (1000 - (k + 1))
        case measure => omega
        case rel => exact ⟨k + 1, rfl, by go_num, by rw [HN2.out], by omega, by omega⟩
    · obtain rfl : k = l.length := by omega
      rw [List.take_length]
      go_wp2
      go_ret
      exact ⟨rfl, HR.out⟩
end Go.Proofs.Ytcjidobdbdfjlaa
