/- A branch of a function's body, taken out of it: so that it is walked in a theorem of its own. -/
import Derived.Test.YthkcomnmihmccaaRows
import Derived.WalkKit
namespace Go.Proofs.Ythkcomnmihmccaa
open Go.RowKit

/-- The 'if' on a slot, taken out of a body. -/
def findIf (n : Nat) : Code → Option Code
  | .cond (.tmp k) a b => if k = n then some (.cond (.tmp k) a b) else (match findIf n a with
    | some c => some c
    | none => findIf n b)
  | .cond _ a b => match findIf n a with
    | some c => some c
    | none => findIf n b
  | .seq a b => match findIf n a with
    | some c => some c
    | none => findIf n b
  | .loop c => findIf n c
  | .block _ c => findIf n c
  | .scope c => findIf n c
  | _ => none

/-- A region, taken out of a body. -/
def findReg (n : Nat) : Code → Option Code
  | .region k o d => if k = n then some (.region k o d) else none
  | .cond _ a b => match findReg n a with
    | some c => some c
    | none => findReg n b
  | .seq a b => match findReg n a with
    | some c => some c
    | none => findReg n b
  | .loop c => findReg n c
  | .block _ c => findReg n c
  | .scope c => findReg n c
  | _ => none

end Go.Proofs.Ythkcomnmihmccaa
