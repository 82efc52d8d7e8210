/-
  NARROWER THAN 'FOR EVERY INPUT', by the rows' own cells (each row's printed sentence says how): SlotWords: laid · SlotTurns: laid · SlotStale: laid.
  DERIVED. THE GIVEN ROWS OF THIS SEAT. 3 by the template 'for every input the law returns true; each argument reads behind the call as it read before'; 0 by the template 'total and deterministic' (their statements: YtalkgehhmbipbaaDoorTotals.lean).
  GIVEN WITH THE SEED: the statements are not yours to turn. If you find one false, say at which input.
  Laid BY PROGRAM, IN A SANDBOX (cutbox-rows.mjs): the forced cells as the released guide's own fill.sh prints them over the translation 61501946e4b9ac09… (all of the seat's roots in one cut). By AI agents, Wed Nov 11 2026. No macro, syntax, notation, axiom, sorry.
-/
import Derived.Test.YtalkgehhmbipbaaDoorChecked
import GoSem.Claim
import GoSem.ClaimJoined
import GoSem.ClaimMapViews
import Derived.JoinedTies
import Derived.KernelRfl
namespace Go.Proofs.YtalkgehhmbipbaaDoor
/- THE CELL 'sum', in the pinned program and in every row, IS THE sha256 OF THE DUMP (.gsa) THAT YtalkgehhmbipbaaDoorProg.lean LOADS. Nothing in Lean hashes anything: it is a label: what it is worth is what the hold of that sum in a sandbox is worth. -/
noncomputable def Tryd.pinned : Pinned := { name := "ytalkgehhmbipbaadoor", sum := "61501946e4b9ac09007238a0c52a6298d17387e829bf4c84039525a144a4f270", checked := Tryd.checked }
namespace Rows
def none {H : Type} : Left H := { results := [], args := [] }

/- WHAT THE LISTED PACKAGE-LEVEL VARIABLES READ AS WHEN THE CALL BEGINS. Each datum BY PROGRAM (the guide's laid-datum.mjs) off the statement by which the dump's own 'gosem.cut.vars' lays the variable. In a bare row this is a premise. The card (YtalkgehhmbipbaaDoorCards.lean) ties it to the program's text. -/
def laid_cableway_slot_gen {H : Type} : DataW H := .agg [.lit (.int .i64 0), .lit (.int .i64 24)]
def laid_cableway_slot_state {H : Type} : DataW H := .agg [.lit (.int .i64 24), .lit (.int .i64 2)]

/-- 'cablewaylaw09.SlotWords': WHATEVER THE INPUT: true; the input reads as it did. -/
def slotWordsSpec : ChangeSpec := { name := "slotWords", fn := fun _ => fun
  | [d1, d2, d3] => { results := [.lit (.bool true)], args := [d1, d2, d3] }
  | _ => none }
def slotWordsRow : OpenClaim := { program := "ytalkgehhmbipbaadoor", sum := "61501946e4b9ac09007238a0c52a6298d17387e829bf4c84039525a144a4f270", func := "cableway/cablewaylaw09.SlotWords", spec := "slotWords", named := ["cableway/slot.gen", "cableway/slot.state"], apart := false, laid := [("cableway/slot.gen", laid_cableway_slot_gen), ("cableway/slot.state", laid_cableway_slot_state)] }
def SlotWordsSaid : Prop := slotWordsRow.holds Tryd.pinned (OpenSpec.ofChange slotWordsSpec)

/-- ITS FALSE NEIGHBOUR: 'it returns false'. Refute it at one input. -/
def slotWordsWrong : ChangeSpec := { name := "slotWords", fn := fun _ => fun
  | [d1, d2, d3] => { results := [.lit (.bool false)], args := [d1, d2, d3] }
  | _ => none }
def SlotWordsWrongFalsely : Prop := slotWordsRow.holds Tryd.pinned (OpenSpec.ofChange slotWordsWrong)

/-- 'cablewaylaw09.SlotTurns': WHATEVER THE INPUT: true; the input reads as it did. -/
def slotTurnsSpec : ChangeSpec := { name := "slotTurns", fn := fun _ => fun
  | [d1, d2] => { results := [.lit (.bool true)], args := [d1, d2] }
  | _ => none }
def slotTurnsRow : OpenClaim := { program := "ytalkgehhmbipbaadoor", sum := "61501946e4b9ac09007238a0c52a6298d17387e829bf4c84039525a144a4f270", func := "cableway/cablewaylaw09.SlotTurns", spec := "slotTurns", named := ["cableway/slot.gen", "cableway/slot.state"], apart := false, laid := [("cableway/slot.gen", laid_cableway_slot_gen), ("cableway/slot.state", laid_cableway_slot_state)] }
def SlotTurnsSaid : Prop := slotTurnsRow.holds Tryd.pinned (OpenSpec.ofChange slotTurnsSpec)

/-- ITS FALSE NEIGHBOUR: 'it returns false'. Refute it at one input. -/
def slotTurnsWrong : ChangeSpec := { name := "slotTurns", fn := fun _ => fun
  | [d1, d2] => { results := [.lit (.bool false)], args := [d1, d2] }
  | _ => none }
def SlotTurnsWrongFalsely : Prop := slotTurnsRow.holds Tryd.pinned (OpenSpec.ofChange slotTurnsWrong)

/-- 'cablewaylaw09.SlotStale': WHATEVER THE INPUT: true; the input reads as it did. -/
def slotStaleSpec : ChangeSpec := { name := "slotStale", fn := fun _ => fun
  | [d1, d2] => { results := [.lit (.bool true)], args := [d1, d2] }
  | _ => none }
def slotStaleRow : OpenClaim := { program := "ytalkgehhmbipbaadoor", sum := "61501946e4b9ac09007238a0c52a6298d17387e829bf4c84039525a144a4f270", func := "cableway/cablewaylaw09.SlotStale", spec := "slotStale", named := ["cableway/slot.gen", "cableway/slot.state"], apart := false, laid := [("cableway/slot.gen", laid_cableway_slot_gen), ("cableway/slot.state", laid_cableway_slot_state)] }
def SlotStaleSaid : Prop := slotStaleRow.holds Tryd.pinned (OpenSpec.ofChange slotStaleSpec)

/-- ITS FALSE NEIGHBOUR: 'it returns false'. Refute it at one input. -/
def slotStaleWrong : ChangeSpec := { name := "slotStale", fn := fun _ => fun
  | [d1, d2] => { results := [.lit (.bool false)], args := [d1, d2] }
  | _ => none }
def SlotStaleWrongFalsely : Prop := slotStaleRow.holds Tryd.pinned (OpenSpec.ofChange slotStaleWrong)

/- THE SECOND FORM. 'bulk': how many values and letters a reading holds, each counted each time it is reached (what is shared counts as often as it is met; a slice's spare places count too). A statement '..UptoSaid' is the law's where the arguments, and the package variables that the reading takes, are together of bulk at most 1048576: NARROWER than '..Said'. Prove '..Said' where nothing that the law and all that it calls make is longer than what came in: it says more and counts as full. Else prove '..UptoSaid'. A law counts once. -/
mutual
def uptoBulk {H : Type} : DataW H → Nat
  | .lit (.string bytes) => bytes.length + 1
  | .lit _ => 1
  | .nil => 1
  | .ptr d => uptoBulk d + 1
  | .slice elems spare => uptoBulkAll elems + uptoBulkAll spare + 1
  | .agg parts => uptoBulkAll parts + 1
  | .iface _ d => uptoBulk d + 1
  | .map entries => uptoBulkEntries entries + 1
  | .held _ => 1
def uptoBulkAll {H : Type} : List (DataW H) → Nat
  | [] => 0
  | d :: r => uptoBulk d + uptoBulkAll r
def uptoBulkEntries {H : Type} : List (Lit × DataW H) → Nat
  | [] => 0
  | x :: r => uptoBulkEntry x + uptoBulkEntries r
def uptoBulkEntry {H : Type} : Lit × DataW H → Nat
  | (.string bytes, d) => bytes.length + uptoBulk d + 1
  | (_, d) => uptoBulk d + 1
 end
def uptoSmall : (H : Type) → List (DataW H) → Bool := fun _ ds => decide (uptoBulkAll ds ≤ 1048576)
def OpenSpec.upto (s : _root_.Go.ChangeSpec) : _root_.Go.OpenSpec := { _root_.Go.OpenSpec.ofChange s with cond := some uptoSmall }

/-- 'cablewaylaw09.SlotWords', WHERE WHAT IT READS IS OF BULK AT MOST 1048576: true; the input reads as it did. -/
def slotWordsUptoRow : OpenClaim := { program := "ytalkgehhmbipbaadoor", sum := "61501946e4b9ac09007238a0c52a6298d17387e829bf4c84039525a144a4f270", func := "cableway/cablewaylaw09.SlotWords", spec := "slotWords", named := ["cableway/slot.gen", "cableway/slot.state"], apart := false, laid := [("cableway/slot.gen", laid_cableway_slot_gen), ("cableway/slot.state", laid_cableway_slot_state)], narrowed := true }
def SlotWordsUptoSaid : Prop := slotWordsUptoRow.holds Tryd.pinned (OpenSpec.upto slotWordsSpec)

/-- 'cablewaylaw09.SlotTurns', WHERE WHAT IT READS IS OF BULK AT MOST 1048576: true; the input reads as it did. -/
def slotTurnsUptoRow : OpenClaim := { program := "ytalkgehhmbipbaadoor", sum := "61501946e4b9ac09007238a0c52a6298d17387e829bf4c84039525a144a4f270", func := "cableway/cablewaylaw09.SlotTurns", spec := "slotTurns", named := ["cableway/slot.gen", "cableway/slot.state"], apart := false, laid := [("cableway/slot.gen", laid_cableway_slot_gen), ("cableway/slot.state", laid_cableway_slot_state)], narrowed := true }
def SlotTurnsUptoSaid : Prop := slotTurnsUptoRow.holds Tryd.pinned (OpenSpec.upto slotTurnsSpec)

/-- 'cablewaylaw09.SlotStale', WHERE WHAT IT READS IS OF BULK AT MOST 1048576: true; the input reads as it did. -/
def slotStaleUptoRow : OpenClaim := { program := "ytalkgehhmbipbaadoor", sum := "61501946e4b9ac09007238a0c52a6298d17387e829bf4c84039525a144a4f270", func := "cableway/cablewaylaw09.SlotStale", spec := "slotStale", named := ["cableway/slot.gen", "cableway/slot.state"], apart := false, laid := [("cableway/slot.gen", laid_cableway_slot_gen), ("cableway/slot.state", laid_cableway_slot_state)], narrowed := true }
def SlotStaleUptoSaid : Prop := slotStaleUptoRow.holds Tryd.pinned (OpenSpec.upto slotStaleSpec)

end Rows
end Go.Proofs.YtalkgehhmbipbaaDoor
