/-
  NARROWER THAN 'FOR EVERY INPUT', by the rows' own cells (each row's printed sentence says how): FramePuts: laid · FrameGets: laid · FrameTimes: laid.
  DERIVED. THE GIVEN ROWS OF THIS SEAT. 3 by the template 'for every input the law returns true; each argument reads behind the call as it read before'; 0 by the template 'total and deterministic' (their statements: YtcpgigmnmlmpjaaDoorTotals.lean).
  GIVEN WITH THE SEED: the statements are not yours to turn. If you find one false, say at which input.
  Laid BY PROGRAM, IN A SANDBOX (cutbox-rows.mjs): the forced cells as the released guide's own fill.sh prints them over the translation 3899e09d1087e6f7… (all of the seat's roots in one cut). By AI agents, Wed Nov 11 2026. No macro, syntax, notation, axiom, sorry.
-/
import Derived.Test.YtcpgigmnmlmpjaaDoorChecked
import GoSem.Claim
import GoSem.ClaimJoined
import GoSem.ClaimMapViews
import Derived.JoinedTies
import Derived.KernelRfl
namespace Go.Proofs.YtcpgigmnmlmpjaaDoor
/- THE CELL 'sum', in the pinned program and in every row, IS THE sha256 OF THE DUMP (.gsa) THAT YtcpgigmnmlmpjaaDoorProg.lean LOADS. Nothing in Lean hashes anything: it is a label: what it is worth is what the hold of that sum in a sandbox is worth. -/
noncomputable def Tryd.pinned : Pinned := { name := "ytcpgigmnmlmpjaadoor", sum := "3899e09d1087e6f75832063d4426ede4cc58b4e0bb57f2ccdd415cc1c571f77d", checked := Tryd.checked }
namespace Rows
def none {H : Type} : Left H := { results := [], args := [] }

/- WHAT THE LISTED PACKAGE-LEVEL VARIABLES READ AS WHEN THE CALL BEGINS. Each datum BY PROGRAM (the guide's laid-datum.mjs) off the statement by which the dump's own 'gosem.cut.vars' lays the variable. In a bare row this is a premise. The card (YtcpgigmnmlmpjaaDoorCards.lean) ties it to the program's text. -/
def laid_cableway_frame_kind {H : Type} : DataW H := .agg [.lit (.int .i64 0), .lit (.int .i64 4)]
def laid_cableway_frame_client {H : Type} : DataW H := .agg [.lit (.int .i64 4), .lit (.int .i64 4)]
def laid_cableway_frame_service {H : Type} : DataW H := .agg [.lit (.int .i64 8), .lit (.int .i64 4)]
def laid_cableway_frame_slot {H : Type} : DataW H := .agg [.lit (.int .i64 12), .lit (.int .i64 8)]
def laid_cableway_frame_try {H : Type} : DataW H := .agg [.lit (.int .i64 20), .lit (.int .i64 4)]
def laid_cableway_frame_sure {H : Type} : DataW H := .agg [.lit (.int .i64 24), .lit (.int .i64 1)]
def laid_cableway_frame_stream {H : Type} : DataW H := .agg [.lit (.int .i64 25), .lit (.int .i64 1)]
def laid_cableway_frame_gen {H : Type} : DataW H := .agg [.lit (.int .i64 26), .lit (.int .i64 24)]
def laid_cableway_frame_call {H : Type} : DataW H := .agg [.lit (.int .i64 0), .lit (.int .i64 32)]
def laid_cableway_frame_value {H : Type} : DataW H := .agg [.lit (.int .i64 32), .lit (.int .i64 32)]
def laid_cableway_frame_seq {H : Type} : DataW H := .agg [.lit (.int .i64 0), .lit (.int .i64 16)]

/-- 'cablewaylaw05.FramePuts': WHATEVER THE INPUT: true; the input reads as it did. -/
def framePutsSpec : ChangeSpec := { name := "framePuts", fn := fun _ => fun
  | [d1, d2] => { results := [.lit (.bool true)], args := [d1, d2] }
  | _ => none }
def framePutsRow : OpenClaim := { program := "ytcpgigmnmlmpjaadoor", sum := "3899e09d1087e6f75832063d4426ede4cc58b4e0bb57f2ccdd415cc1c571f77d", func := "cableway/cablewaylaw05.FramePuts", spec := "framePuts", unfollowed := true, recurses := true, named := ["cableway/frame.kind", "cableway/frame.client", "cableway/frame.service", "cableway/frame.slot", "cableway/frame.try", "cableway/frame.sure", "cableway/frame.stream", "cableway/frame.gen", "cableway/frame.call", "cableway/frame.value", "cableway/frame.seq"], apart := false, laid := [("cableway/frame.kind", laid_cableway_frame_kind), ("cableway/frame.client", laid_cableway_frame_client), ("cableway/frame.service", laid_cableway_frame_service), ("cableway/frame.slot", laid_cableway_frame_slot), ("cableway/frame.try", laid_cableway_frame_try), ("cableway/frame.sure", laid_cableway_frame_sure), ("cableway/frame.stream", laid_cableway_frame_stream), ("cableway/frame.gen", laid_cableway_frame_gen), ("cableway/frame.call", laid_cableway_frame_call), ("cableway/frame.value", laid_cableway_frame_value), ("cableway/frame.seq", laid_cableway_frame_seq)] }
def FramePutsSaid : Prop := framePutsRow.holds Tryd.pinned (OpenSpec.ofChange framePutsSpec)

/-- ITS FALSE NEIGHBOUR: 'it returns false'. Refute it at one input. -/
def framePutsWrong : ChangeSpec := { name := "framePuts", fn := fun _ => fun
  | [d1, d2] => { results := [.lit (.bool false)], args := [d1, d2] }
  | _ => none }
def FramePutsWrongFalsely : Prop := framePutsRow.holds Tryd.pinned (OpenSpec.ofChange framePutsWrong)

/-- 'cablewaylaw05.FrameGets': WHATEVER THE INPUT: true; the input reads as it did. -/
def frameGetsSpec : ChangeSpec := { name := "frameGets", fn := fun _ => fun
  | [d1, d2, d3] => { results := [.lit (.bool true)], args := [d1, d2, d3] }
  | _ => none }
def frameGetsRow : OpenClaim := { program := "ytcpgigmnmlmpjaadoor", sum := "3899e09d1087e6f75832063d4426ede4cc58b4e0bb57f2ccdd415cc1c571f77d", func := "cableway/cablewaylaw05.FrameGets", spec := "frameGets", unfollowed := true, recurses := true, named := ["cableway/frame.kind", "cableway/frame.client", "cableway/frame.service", "cableway/frame.slot", "cableway/frame.try", "cableway/frame.sure", "cableway/frame.stream", "cableway/frame.gen", "cableway/frame.call", "cableway/frame.value", "cableway/frame.seq"], apart := false, laid := [("cableway/frame.kind", laid_cableway_frame_kind), ("cableway/frame.client", laid_cableway_frame_client), ("cableway/frame.service", laid_cableway_frame_service), ("cableway/frame.slot", laid_cableway_frame_slot), ("cableway/frame.try", laid_cableway_frame_try), ("cableway/frame.sure", laid_cableway_frame_sure), ("cableway/frame.stream", laid_cableway_frame_stream), ("cableway/frame.gen", laid_cableway_frame_gen), ("cableway/frame.call", laid_cableway_frame_call), ("cableway/frame.value", laid_cableway_frame_value), ("cableway/frame.seq", laid_cableway_frame_seq)] }
def FrameGetsSaid : Prop := frameGetsRow.holds Tryd.pinned (OpenSpec.ofChange frameGetsSpec)

/-- ITS FALSE NEIGHBOUR: 'it returns false'. Refute it at one input. -/
def frameGetsWrong : ChangeSpec := { name := "frameGets", fn := fun _ => fun
  | [d1, d2, d3] => { results := [.lit (.bool false)], args := [d1, d2, d3] }
  | _ => none }
def FrameGetsWrongFalsely : Prop := frameGetsRow.holds Tryd.pinned (OpenSpec.ofChange frameGetsWrong)

/-- 'cablewaylaw05.FrameTimes': WHATEVER THE INPUT: true; the input reads as it did. -/
def frameTimesSpec : ChangeSpec := { name := "frameTimes", fn := fun _ => fun
  | [d1, d2] => { results := [.lit (.bool true)], args := [d1, d2] }
  | _ => none }
def frameTimesRow : OpenClaim := { program := "ytcpgigmnmlmpjaadoor", sum := "3899e09d1087e6f75832063d4426ede4cc58b4e0bb57f2ccdd415cc1c571f77d", func := "cableway/cablewaylaw05.FrameTimes", spec := "frameTimes", unfollowed := true, recurses := true, named := ["cableway/frame.kind", "cableway/frame.client", "cableway/frame.service", "cableway/frame.slot", "cableway/frame.try", "cableway/frame.sure", "cableway/frame.stream", "cableway/frame.gen", "cableway/frame.call", "cableway/frame.value", "cableway/frame.seq"], apart := false, laid := [("cableway/frame.kind", laid_cableway_frame_kind), ("cableway/frame.client", laid_cableway_frame_client), ("cableway/frame.service", laid_cableway_frame_service), ("cableway/frame.slot", laid_cableway_frame_slot), ("cableway/frame.try", laid_cableway_frame_try), ("cableway/frame.sure", laid_cableway_frame_sure), ("cableway/frame.stream", laid_cableway_frame_stream), ("cableway/frame.gen", laid_cableway_frame_gen), ("cableway/frame.call", laid_cableway_frame_call), ("cableway/frame.value", laid_cableway_frame_value), ("cableway/frame.seq", laid_cableway_frame_seq)] }
def FrameTimesSaid : Prop := frameTimesRow.holds Tryd.pinned (OpenSpec.ofChange frameTimesSpec)

/-- ITS FALSE NEIGHBOUR: 'it returns false'. Refute it at one input. -/
def frameTimesWrong : ChangeSpec := { name := "frameTimes", fn := fun _ => fun
  | [d1, d2] => { results := [.lit (.bool false)], args := [d1, d2] }
  | _ => none }
def FrameTimesWrongFalsely : Prop := frameTimesRow.holds Tryd.pinned (OpenSpec.ofChange frameTimesWrong)

/- THE SECOND FORM. 'bulk': how many values and letters a reading holds, each counted each time it is reached (what is shared counts as often as it is met; a slice's spare places count too). A statement '..UptoSaid' is the law's where the arguments, and the package variables that the reading takes, are together of bulk at most 1048576: NARROWER than '..Said'. Prove '..Said' where nothing that the law and all that it calls make is longer than what came in: it says more and counts as full. Else prove '..UptoSaid'. A law counts once. -/
mutual
def uptoBulk {H : Type} : DataW H → Nat
  | .lit (.string bytes) => bytes.length + 1
  | .lit _ => 1
  | .nil => 1
  | .ptr d => uptoBulk d + 1
  | .slice elems spare => uptoBulkAll elems + uptoBulkAll spare + 1
  | .agg parts => uptoBulkAll parts + 1
  | .iface _ d => uptoBulk d + 1
  | .map entries => uptoBulkEntries entries + 1
  | .held _ => 1
def uptoBulkAll {H : Type} : List (DataW H) → Nat
  | [] => 0
  | d :: r => uptoBulk d + uptoBulkAll r
def uptoBulkEntries {H : Type} : List (Lit × DataW H) → Nat
  | [] => 0
  | x :: r => uptoBulkEntry x + uptoBulkEntries r
def uptoBulkEntry {H : Type} : Lit × DataW H → Nat
  | (.string bytes, d) => bytes.length + uptoBulk d + 1
  | (_, d) => uptoBulk d + 1
 end
def uptoSmall : (H : Type) → List (DataW H) → Bool := fun _ ds => decide (uptoBulkAll ds ≤ 1048576)
def OpenSpec.upto (s : _root_.Go.ChangeSpec) : _root_.Go.OpenSpec := { _root_.Go.OpenSpec.ofChange s with cond := some uptoSmall }

/-- 'cablewaylaw05.FramePuts', WHERE WHAT IT READS IS OF BULK AT MOST 1048576: true; the input reads as it did. -/
def framePutsUptoRow : OpenClaim := { program := "ytcpgigmnmlmpjaadoor", sum := "3899e09d1087e6f75832063d4426ede4cc58b4e0bb57f2ccdd415cc1c571f77d", func := "cableway/cablewaylaw05.FramePuts", spec := "framePuts", unfollowed := true, recurses := true, named := ["cableway/frame.kind", "cableway/frame.client", "cableway/frame.service", "cableway/frame.slot", "cableway/frame.try", "cableway/frame.sure", "cableway/frame.stream", "cableway/frame.gen", "cableway/frame.call", "cableway/frame.value", "cableway/frame.seq"], apart := false, laid := [("cableway/frame.kind", laid_cableway_frame_kind), ("cableway/frame.client", laid_cableway_frame_client), ("cableway/frame.service", laid_cableway_frame_service), ("cableway/frame.slot", laid_cableway_frame_slot), ("cableway/frame.try", laid_cableway_frame_try), ("cableway/frame.sure", laid_cableway_frame_sure), ("cableway/frame.stream", laid_cableway_frame_stream), ("cableway/frame.gen", laid_cableway_frame_gen), ("cableway/frame.call", laid_cableway_frame_call), ("cableway/frame.value", laid_cableway_frame_value), ("cableway/frame.seq", laid_cableway_frame_seq)], narrowed := true }
def FramePutsUptoSaid : Prop := framePutsUptoRow.holds Tryd.pinned (OpenSpec.upto framePutsSpec)

/-- 'cablewaylaw05.FrameGets', WHERE WHAT IT READS IS OF BULK AT MOST 1048576: true; the input reads as it did. -/
def frameGetsUptoRow : OpenClaim := { program := "ytcpgigmnmlmpjaadoor", sum := "3899e09d1087e6f75832063d4426ede4cc58b4e0bb57f2ccdd415cc1c571f77d", func := "cableway/cablewaylaw05.FrameGets", spec := "frameGets", unfollowed := true, recurses := true, named := ["cableway/frame.kind", "cableway/frame.client", "cableway/frame.service", "cableway/frame.slot", "cableway/frame.try", "cableway/frame.sure", "cableway/frame.stream", "cableway/frame.gen", "cableway/frame.call", "cableway/frame.value", "cableway/frame.seq"], apart := false, laid := [("cableway/frame.kind", laid_cableway_frame_kind), ("cableway/frame.client", laid_cableway_frame_client), ("cableway/frame.service", laid_cableway_frame_service), ("cableway/frame.slot", laid_cableway_frame_slot), ("cableway/frame.try", laid_cableway_frame_try), ("cableway/frame.sure", laid_cableway_frame_sure), ("cableway/frame.stream", laid_cableway_frame_stream), ("cableway/frame.gen", laid_cableway_frame_gen), ("cableway/frame.call", laid_cableway_frame_call), ("cableway/frame.value", laid_cableway_frame_value), ("cableway/frame.seq", laid_cableway_frame_seq)], narrowed := true }
def FrameGetsUptoSaid : Prop := frameGetsUptoRow.holds Tryd.pinned (OpenSpec.upto frameGetsSpec)

/-- 'cablewaylaw05.FrameTimes', WHERE WHAT IT READS IS OF BULK AT MOST 1048576: true; the input reads as it did. -/
def frameTimesUptoRow : OpenClaim := { program := "ytcpgigmnmlmpjaadoor", sum := "3899e09d1087e6f75832063d4426ede4cc58b4e0bb57f2ccdd415cc1c571f77d", func := "cableway/cablewaylaw05.FrameTimes", spec := "frameTimes", unfollowed := true, recurses := true, named := ["cableway/frame.kind", "cableway/frame.client", "cableway/frame.service", "cableway/frame.slot", "cableway/frame.try", "cableway/frame.sure", "cableway/frame.stream", "cableway/frame.gen", "cableway/frame.call", "cableway/frame.value", "cableway/frame.seq"], apart := false, laid := [("cableway/frame.kind", laid_cableway_frame_kind), ("cableway/frame.client", laid_cableway_frame_client), ("cableway/frame.service", laid_cableway_frame_service), ("cableway/frame.slot", laid_cableway_frame_slot), ("cableway/frame.try", laid_cableway_frame_try), ("cableway/frame.sure", laid_cableway_frame_sure), ("cableway/frame.stream", laid_cableway_frame_stream), ("cableway/frame.gen", laid_cableway_frame_gen), ("cableway/frame.call", laid_cableway_frame_call), ("cableway/frame.value", laid_cableway_frame_value), ("cableway/frame.seq", laid_cableway_frame_seq)], narrowed := true }
def FrameTimesUptoSaid : Prop := frameTimesUptoRow.holds Tryd.pinned (OpenSpec.upto frameTimesSpec)

end Rows
end Go.Proofs.YtcpgigmnmlmpjaaDoor
