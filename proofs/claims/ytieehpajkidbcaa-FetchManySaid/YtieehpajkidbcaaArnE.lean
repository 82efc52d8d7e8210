/- What was touched, handed out in a slice of its own; a step that begins. -/
import Derived.Test.YtieehpajkidbcaaArnD
import Derived.Deep.LoopGhost
namespace Go.Proofs.Ytieehpajkidbcaa
open Go.RowKit

/-- A slice of its own that has these numbers; all that was there is as it was. -/
def Told (w w' : World) (l : List Nat) (e : Ending) : Prop :=
  ∃ ao cap, e = .returned (.slice ao l.length cap) ∧ w'.ownsRow w.heap.size 3 1 (.slice ao l.length cap) l.length (numCells l) ∧ Rest (fun _ => False) w w'

theorem Told.of {w w' : World} {l : List Nat} {v : Value} (h : w'.ownsRow w.heap.size 3 1 v l.length (numCells l)) (hr : Rest (fun _ => False) w w') : Told w w' l (.returned v) := by
  rcases h.2 with ⟨rfl, h0⟩ | ⟨g, cap, cur, rfl, r⟩
  · refine ⟨none, 0, by rw [h0], ?_, hr⟩
    rw [h0] at h ⊢
    exact h
  · exact ⟨_, _, rfl, h, hr⟩

theorem touched_any {B : Nat} {s : Spot} {a : Ar} (w : World) (h : Arena w B s a) :
    Calls Try.prog 22 #[.pointer (some ⟨s.P, 0, none⟩)] w fun e w' => Told w w' a.td e := by
  obtain ⟨tv, h⟩ := h
  obtain ⟨-, -, c2, -⟩ := h.cells
  have hT := h.hT
  have hl := few h.nd h.lt
  have hn := h.n1
  clear h
  obtain ⟨i0, hinf, hz0, hz1, hz2⟩ := info_parts Try.infoInt
  rcases hT.2 with ⟨rfl, h0⟩ | ⟨g, cap, cur, rfl, hbg, r⟩
  · have hx : a.td = [] := List.eq_nil_of_length_eq_zero h0
    have HX := Lib.hid hx
    clear hT h0 hx hl
    go_enter Try.func22, Try.ntmps22
    go_wp2
    go_ret
    exact ⟨none, 0, by rw [HX.out]; rfl, by rw [HX.out]; exact World.ownsRow_nil _ _ _ _, Rest.refl _ _⟩
  · have hcs := hT.cells (g := g) rfl
    have hlen := hT.1
    have HC := Lib.hid hcs
    have HLen := Lib.hid hlen
    have HR := Lib.hid r
    have hown0 := World.ownsRow_nil w w.heap.size 3 1
    clear hcs hlen hT r
    go_enter Try.func22, Try.ntmps22
    go_wp2_with (at_builtin; refine wpList_append_own _ rfl _ _ 51 rfl w.heap.size 3 i0 (.int .i64 0) 1 8 Try.underlying51 hinf hz0 hz1 hz2 rfl (by decide) _ _ _ rfl hown0 ⟨g, 0, none⟩ a.td.length cap (numCells a.td) rfl HLen.out HC.out ?c2 ?c3 ?c4 (Nat.le_refl _) ?_)
    case c2 => intro u hu; simp only [numCells, List.mem_map] at hu; obtain ⟨x, _, rfl⟩ := hu; rfl
    case c3 => unfold maxLen; omega
    case c4 => omega
    intro v' w1 hown' hgrow _
    have HO := Lib.hid hown'
    have HG := Lib.hid hgrow
    clear hown' hgrow hown0
    go_wp2
    go_ret
    exact Told.of (by simpa using HO.out) (Rest.grown HG.out (fun k hk => by simp [Value.ownBlock] at hk))

end Go.Proofs.Ytieehpajkidbcaa
