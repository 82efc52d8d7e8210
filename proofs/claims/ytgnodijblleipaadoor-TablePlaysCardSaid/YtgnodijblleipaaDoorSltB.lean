/- The program's own calls that step a slot's word: Live, Open, Close, with any word and any number of turns. -/
import Derived.Test.YtgnodijblleipaaDoorSltA
namespace Go.Proofs.YtgnodijblleipaaDoor
open Go.RowKit

/-- Live: of that turn, and it goes on. -/
theorem slive_any (x : Nat) (g : Int) (hx : x < 18446744073709551616) (w : World) (hL : SLay w) :
    Calls Tryd.prog 30 #[.int .u64 x, .int .i64 g] w fun e w' => e = .returned (.bool (decide (((Slt.gen x : Nat) : Int) = g ∧ Slt.Live x))) ∧ Below w.heap.size w w' := by
  by_cases hg : ((Slt.gen x : Nat) : Int) = g
  · go_enter Tryd.func30, Tryd.ntmps30
    go_wp2_with fail
    refine (sgen_any x hx _ hL).mono ?_
    rintro e w1 ⟨rfl, hb1⟩
    go_wp2_with fail
    refine (sgoes_any x hx _ (hL.kept hb1)).mono ?_
    rintro e w2 ⟨rfl, hb2⟩
    go_wp2_with fail
    go_ret
    exact ⟨ret_bool (by simp [hg]), below_on hb1 hb2⟩
  · go_enter Tryd.func30, Tryd.ntmps30
    go_wp2_with fail
    refine (sgen_any x hx _ hL).mono ?_
    rintro e w1 ⟨rfl, hb1⟩
    go_wp2_with fail
    go_ret
    exact ⟨ret_bool (by simp [hg]), hb1⟩

theorem ret_two {a b : Int} {c : Bool} (h : a = b) : Ending.returned (.tuple #[.int .u64 a, .bool c]) = .returned (.tuple #[.int .u64 b, .bool c]) := by rw [h]





end Go.Proofs.YtgnodijblleipaaDoor
