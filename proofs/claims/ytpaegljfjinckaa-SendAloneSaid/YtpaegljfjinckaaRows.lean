/-
  No cell of these rows narrows 'for every input' (looked for: loops, veiled, ifaces, maps, wideKeys, modest, calm, conditions, laid).
  DERIVED. THE GIVEN ROWS OF THIS SEAT. 2 by the template 'for every input the law returns true; each argument reads behind the call as it read before'; 0 by the template 'total and deterministic' (their statements: YtpaegljfjinckaaTotals.lean).
  GIVEN WITH THE SEED: the statements are not yours to turn. If you find one false, say at which input.
  Laid BY PROGRAM, IN A SANDBOX (cutbox-rows.mjs): the forced cells as the released guide's own fill.sh prints them over the translation 176135c6fab7262a… (all of the seat's roots in one cut). By AI agents, Wed Nov 11 2026. No macro, syntax, notation, axiom, sorry.
-/
import Derived.Test.YtpaegljfjinckaaChecked
import GoSem.Claim
import GoSem.ClaimJoined
import GoSem.ClaimMapViews
import Derived.JoinedTies
import Derived.KernelRfl
namespace Go.Proofs.Ytpaegljfjinckaa
/- THE CELL 'sum', in the pinned program and in every row, IS THE sha256 OF THE DUMP (.gsa) THAT YtpaegljfjinckaaProg.lean LOADS. Nothing in Lean hashes anything: it is a label: what it is worth is what the hold of that sum in a sandbox is worth. -/
noncomputable def Try.pinned : Pinned := { name := "ytpaegljfjinckaa", sum := "176135c6fab7262a646324b7c5207c61990e296bf816f705688e29e8e512bff9", checked := Try.checked }
namespace Rows
def none {H : Type} : Left H := { results := [], args := [] }

/-- 'cablewaylaw07.SendAlone': WHATEVER THE INPUT: true; the input reads as it did. -/
def sendAloneSpec : ChangeSpec := { name := "sendAlone", fn := fun _ => fun
  | [d1, d2, d3] => { results := [.lit (.bool true)], args := [d1, d2, d3] }
  | _ => none }
def sendAloneRow : OpenClaim := { program := "ytpaegljfjinckaa", sum := "176135c6fab7262a646324b7c5207c61990e296bf816f705688e29e8e512bff9", func := "cableway/cablewaylaw07.SendAlone", spec := "sendAlone", apart := false }
def SendAloneSaid : Prop := sendAloneRow.holds Try.pinned (OpenSpec.ofChange sendAloneSpec)

/-- ITS FALSE NEIGHBOUR: 'it returns false'. Refute it at one input. -/
def sendAloneWrong : ChangeSpec := { name := "sendAlone", fn := fun _ => fun
  | [d1, d2, d3] => { results := [.lit (.bool false)], args := [d1, d2, d3] }
  | _ => none }
def SendAloneWrongFalsely : Prop := sendAloneRow.holds Try.pinned (OpenSpec.ofChange sendAloneWrong)

/-- 'cablewaylaw07.SendInput': WHATEVER THE INPUT: true; the input reads as it did. -/
def sendInputSpec : ChangeSpec := { name := "sendInput", fn := fun _ => fun
  | [d1, d2, d3] => { results := [.lit (.bool true)], args := [d1, d2, d3] }
  | _ => none }
def sendInputRow : OpenClaim := { program := "ytpaegljfjinckaa", sum := "176135c6fab7262a646324b7c5207c61990e296bf816f705688e29e8e512bff9", func := "cableway/cablewaylaw07.SendInput", spec := "sendInput", apart := false }
def SendInputSaid : Prop := sendInputRow.holds Try.pinned (OpenSpec.ofChange sendInputSpec)

/-- ITS FALSE NEIGHBOUR: 'it returns false'. Refute it at one input. -/
def sendInputWrong : ChangeSpec := { name := "sendInput", fn := fun _ => fun
  | [d1, d2, d3] => { results := [.lit (.bool false)], args := [d1, d2, d3] }
  | _ => none }
def SendInputWrongFalsely : Prop := sendInputRow.holds Try.pinned (OpenSpec.ofChange sendInputWrong)

/- THE SECOND FORM. 'bulk': how many values and letters a reading holds, each counted each time it is reached (what is shared counts as often as it is met; a slice's spare places count too). A statement '..UptoSaid' is the law's where the arguments, and the package variables that the reading takes, are together of bulk at most 1048576: NARROWER than '..Said'. Prove '..Said' where nothing that the law and all that it calls make is longer than what came in: it says more and counts as full. Else prove '..UptoSaid'. A law counts once. -/
mutual
def uptoBulk {H : Type} : DataW H → Nat
  | .lit (.string bytes) => bytes.length + 1
  | .lit _ => 1
  | .nil => 1
  | .ptr d => uptoBulk d + 1
  | .slice elems spare => uptoBulkAll elems + uptoBulkAll spare + 1
  | .agg parts => uptoBulkAll parts + 1
  | .iface _ d => uptoBulk d + 1
  | .map entries => uptoBulkEntries entries + 1
  | .held _ => 1
def uptoBulkAll {H : Type} : List (DataW H) → Nat
  | [] => 0
  | d :: r => uptoBulk d + uptoBulkAll r
def uptoBulkEntries {H : Type} : List (Lit × DataW H) → Nat
  | [] => 0
  | x :: r => uptoBulkEntry x + uptoBulkEntries r
def uptoBulkEntry {H : Type} : Lit × DataW H → Nat
  | (.string bytes, d) => bytes.length + uptoBulk d + 1
  | (_, d) => uptoBulk d + 1
 end
def uptoSmall : (H : Type) → List (DataW H) → Bool := fun _ ds => decide (uptoBulkAll ds ≤ 1048576)
def OpenSpec.upto (s : _root_.Go.ChangeSpec) : _root_.Go.OpenSpec := { _root_.Go.OpenSpec.ofChange s with cond := some uptoSmall }

/-- 'cablewaylaw07.SendAlone', WHERE WHAT IT READS IS OF BULK AT MOST 1048576: true; the input reads as it did. -/
def sendAloneUptoRow : OpenClaim := { program := "ytpaegljfjinckaa", sum := "176135c6fab7262a646324b7c5207c61990e296bf816f705688e29e8e512bff9", func := "cableway/cablewaylaw07.SendAlone", spec := "sendAlone", apart := false, narrowed := true }
def SendAloneUptoSaid : Prop := sendAloneUptoRow.holds Try.pinned (OpenSpec.upto sendAloneSpec)

/-- 'cablewaylaw07.SendInput', WHERE WHAT IT READS IS OF BULK AT MOST 1048576: true; the input reads as it did. -/
def sendInputUptoRow : OpenClaim := { program := "ytpaegljfjinckaa", sum := "176135c6fab7262a646324b7c5207c61990e296bf816f705688e29e8e512bff9", func := "cableway/cablewaylaw07.SendInput", spec := "sendInput", apart := false, narrowed := true }
def SendInputUptoSaid : Prop := sendInputUptoRow.holds Try.pinned (OpenSpec.upto sendInputSpec)

end Rows
end Go.Proofs.Ytpaegljfjinckaa
