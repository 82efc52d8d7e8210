/- The world in which slot's two fields lie: by the row's condition, and as the variables' own initialisers leave it. -/
import Derived.Test.YteijikcggflaoaaDoorSltLaid
import Derived.ProofKit
import Derived.OpenShut
import Derived.LaidMore
import Derived.Stop.Joined
namespace Go.Proofs.YteijikcggflaoaaDoor
open Go.ChangeShapes Go.WideShapes Go.ChangeAt Go.RowKit

theorem Tryd.ownS : ownKnob Tryd.prog.godebug = none := by kernel_rfl
theorem Tryd.laidOutS : laidOutB Tryd.prog = true := by kernel_rfl

/-- The variables' list. -/
abbrev laidSlot : List (String × DataW Unit) := [("cableway/slot.gen", Rows.laid_cableway_slot_gen), ("cableway/slot.state", Rows.laid_cableway_slot_state)]

/-- What the row's condition gives. -/
theorem slay_of_met {W : World} (h : laidMetH Tryd.prog laidSlot W) : SLay W := by
  rw [MakeChecks.laidMetH_plain _ _ _ (by kernel_rfl)] at h
  exact ⟨laid_field h (g := 0) (by kernel_rfl) (by kernel_rfl), laid_field (laidMet.tail h) (g := 1) (by kernel_rfl) (by kernel_rfl)⟩

set_option maxRecDepth 100000 in
/-- The heap that the variables' own initialisers leave meets the condition. -/
theorem door_slot (os : Os) (args : Array Value) : laidMetH Tryd.prog laidSlot ((World.doorLaid Tryd.prog 64 os).forCall (fun _ _ => 0) ⟨#[], args, []⟩).memory :=
  laidMetH_of_parts3 (fuel := 8) (laidMet_of_run' 8 (by kernel_rfl) (by kernel_rfl)) (by kernel_rfl) (by kernel_rfl)

end Go.Proofs.YteijikcggflaoaaDoor
