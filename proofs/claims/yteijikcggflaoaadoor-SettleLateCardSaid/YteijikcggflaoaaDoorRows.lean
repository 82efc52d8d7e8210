/-
  NARROWER THAN 'FOR EVERY INPUT', by the rows' own cells (each row's printed sentence says how): SettleStale: laid · SettleLate: laid.
  DERIVED. THE GIVEN ROWS OF THIS SEAT. 2 by the template 'for every input the law returns true; each argument reads behind the call as it read before'; 0 by the template 'total and deterministic' (their statements: YteijikcggflaoaaDoorTotals.lean).
  GIVEN WITH THE SEED: the statements are not yours to turn. If you find one false, say at which input.
  Laid BY PROGRAM, IN A SANDBOX (cutbox-rows.mjs): the forced cells as the released guide's own fill.sh prints them over the translation 23fb9f5c710c49eb… (all of the seat's roots in one cut). By AI agents, Wed Nov 11 2026. No macro, syntax, notation, axiom, sorry.
-/
import Derived.Test.YteijikcggflaoaaDoorChecked
import GoSem.Claim
import GoSem.ClaimJoined
import GoSem.ClaimMapViews
import Derived.JoinedTies
import Derived.KernelRfl
namespace Go.Proofs.YteijikcggflaoaaDoor
/- THE CELL 'sum', in the pinned program and in every row, IS THE sha256 OF THE DUMP (.gsa) THAT YteijikcggflaoaaDoorProg.lean LOADS. Nothing in Lean hashes anything: it is a label: what it is worth is what the hold of that sum in a sandbox is worth. -/
noncomputable def Tryd.pinned : Pinned := { name := "yteijikcggflaoaadoor", sum := "23fb9f5c710c49ebbb43391dd489c9758aa2cd712782692ebd9a8061cab32699", checked := Tryd.checked }
namespace Rows
def none {H : Type} : Left H := { results := [], args := [] }

/- WHAT THE LISTED PACKAGE-LEVEL VARIABLES READ AS WHEN THE CALL BEGINS. Each datum BY PROGRAM (the guide's laid-datum.mjs) off the statement by which the dump's own 'gosem.cut.vars' lays the variable. In a bare row this is a premise. The card (YteijikcggflaoaaDoorCards.lean) ties it to the program's text. -/
def laid_cableway_slot_gen {H : Type} : DataW H := .agg [.lit (.int .i64 0), .lit (.int .i64 24)]
def laid_cableway_slot_state {H : Type} : DataW H := .agg [.lit (.int .i64 24), .lit (.int .i64 2)]

/-- 'cablewaylaw11.SettleStale': WHATEVER THE INPUT: true; the input reads as it did. -/
def settleStaleSpec : ChangeSpec := { name := "settleStale", fn := fun _ => fun
  | [d1, d2] => { results := [.lit (.bool true)], args := [d1, d2] }
  | _ => none }
def settleStaleRow : OpenClaim := { program := "yteijikcggflaoaadoor", sum := "23fb9f5c710c49ebbb43391dd489c9758aa2cd712782692ebd9a8061cab32699", func := "cableway/cablewaylaw11.SettleStale", spec := "settleStale", named := ["cableway/slot.gen", "cableway/slot.state"], apart := false, laid := [("cableway/slot.gen", laid_cableway_slot_gen), ("cableway/slot.state", laid_cableway_slot_state)] }
def SettleStaleSaid : Prop := settleStaleRow.holds Tryd.pinned (OpenSpec.ofChange settleStaleSpec)

/-- ITS FALSE NEIGHBOUR: 'it returns false'. Refute it at one input. -/
def settleStaleWrong : ChangeSpec := { name := "settleStale", fn := fun _ => fun
  | [d1, d2] => { results := [.lit (.bool false)], args := [d1, d2] }
  | _ => none }
def SettleStaleWrongFalsely : Prop := settleStaleRow.holds Tryd.pinned (OpenSpec.ofChange settleStaleWrong)

/-- 'cablewaylaw11.SettleLate': WHATEVER THE INPUT: true; the input reads as it did. -/
def settleLateSpec : ChangeSpec := { name := "settleLate", fn := fun _ => fun
  | [d1, d2] => { results := [.lit (.bool true)], args := [d1, d2] }
  | _ => none }
def settleLateRow : OpenClaim := { program := "yteijikcggflaoaadoor", sum := "23fb9f5c710c49ebbb43391dd489c9758aa2cd712782692ebd9a8061cab32699", func := "cableway/cablewaylaw11.SettleLate", spec := "settleLate", named := ["cableway/slot.gen", "cableway/slot.state"], apart := false, laid := [("cableway/slot.gen", laid_cableway_slot_gen), ("cableway/slot.state", laid_cableway_slot_state)] }
def SettleLateSaid : Prop := settleLateRow.holds Tryd.pinned (OpenSpec.ofChange settleLateSpec)

/-- ITS FALSE NEIGHBOUR: 'it returns false'. Refute it at one input. -/
def settleLateWrong : ChangeSpec := { name := "settleLate", fn := fun _ => fun
  | [d1, d2] => { results := [.lit (.bool false)], args := [d1, d2] }
  | _ => none }
def SettleLateWrongFalsely : Prop := settleLateRow.holds Tryd.pinned (OpenSpec.ofChange settleLateWrong)

/- THE SECOND FORM. 'bulk': how many values and letters a reading holds, each counted each time it is reached (what is shared counts as often as it is met; a slice's spare places count too). A statement '..UptoSaid' is the law's where the arguments, and the package variables that the reading takes, are together of bulk at most 1048576: NARROWER than '..Said'. Prove '..Said' where nothing that the law and all that it calls make is longer than what came in: it says more and counts as full. Else prove '..UptoSaid'. A law counts once. -/
mutual
def uptoBulk {H : Type} : DataW H → Nat
  | .lit (.string bytes) => bytes.length + 1
  | .lit _ => 1
  | .nil => 1
  | .ptr d => uptoBulk d + 1
  | .slice elems spare => uptoBulkAll elems + uptoBulkAll spare + 1
  | .agg parts => uptoBulkAll parts + 1
  | .iface _ d => uptoBulk d + 1
  | .map entries => uptoBulkEntries entries + 1
  | .held _ => 1
def uptoBulkAll {H : Type} : List (DataW H) → Nat
  | [] => 0
  | d :: r => uptoBulk d + uptoBulkAll r
def uptoBulkEntries {H : Type} : List (Lit × DataW H) → Nat
  | [] => 0
  | x :: r => uptoBulkEntry x + uptoBulkEntries r
def uptoBulkEntry {H : Type} : Lit × DataW H → Nat
  | (.string bytes, d) => bytes.length + uptoBulk d + 1
  | (_, d) => uptoBulk d + 1
 end
def uptoSmall : (H : Type) → List (DataW H) → Bool := fun _ ds => decide (uptoBulkAll ds ≤ 1048576)
def OpenSpec.upto (s : _root_.Go.ChangeSpec) : _root_.Go.OpenSpec := { _root_.Go.OpenSpec.ofChange s with cond := some uptoSmall }

/-- 'cablewaylaw11.SettleStale', WHERE WHAT IT READS IS OF BULK AT MOST 1048576: true; the input reads as it did. -/
def settleStaleUptoRow : OpenClaim := { program := "yteijikcggflaoaadoor", sum := "23fb9f5c710c49ebbb43391dd489c9758aa2cd712782692ebd9a8061cab32699", func := "cableway/cablewaylaw11.SettleStale", spec := "settleStale", named := ["cableway/slot.gen", "cableway/slot.state"], apart := false, laid := [("cableway/slot.gen", laid_cableway_slot_gen), ("cableway/slot.state", laid_cableway_slot_state)], narrowed := true }
def SettleStaleUptoSaid : Prop := settleStaleUptoRow.holds Tryd.pinned (OpenSpec.upto settleStaleSpec)

/-- 'cablewaylaw11.SettleLate', WHERE WHAT IT READS IS OF BULK AT MOST 1048576: true; the input reads as it did. -/
def settleLateUptoRow : OpenClaim := { program := "yteijikcggflaoaadoor", sum := "23fb9f5c710c49ebbb43391dd489c9758aa2cd712782692ebd9a8061cab32699", func := "cableway/cablewaylaw11.SettleLate", spec := "settleLate", named := ["cableway/slot.gen", "cableway/slot.state"], apart := false, laid := [("cableway/slot.gen", laid_cableway_slot_gen), ("cableway/slot.state", laid_cableway_slot_state)], narrowed := true }
def SettleLateUptoSaid : Prop := settleLateUptoRow.holds Tryd.pinned (OpenSpec.upto settleLateSpec)

end Rows
end Go.Proofs.YteijikcggflaoaaDoor
