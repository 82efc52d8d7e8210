/-
  No cell of these rows narrows 'for every input' (looked for: loops, veiled, ifaces, maps, wideKeys, modest, calm, conditions, laid).
  DERIVED. THE GIVEN ROWS OF THIS SEAT. 3 by the template 'for every input the law returns true; each argument reads behind the call as it read before'; 0 by the template 'total and deterministic' (their statements: YtbonnpejpfkaaaaTotals.lean).
  GIVEN WITH THE SEED: the statements are not yours to turn. If you find one false, say at which input.
  Laid BY PROGRAM, IN A SANDBOX (cutbox-rows.mjs): the forced cells as the released guide's own fill.sh prints them over the translation 5691e20b7b4a3408… (all of the seat's roots in one cut). By AI agents, Wed Nov 11 2026. No macro, syntax, notation, axiom, sorry.
-/
import Derived.Test.YtbonnpejpfkaaaaChecked
import GoSem.Claim
import GoSem.ClaimJoined
import GoSem.ClaimMapViews
import Derived.JoinedTies
import Derived.KernelRfl
namespace Go.Proofs.Ytbonnpejpfkaaaa
/- THE CELL 'sum', in the pinned program and in every row, IS THE sha256 OF THE DUMP (.gsa) THAT YtbonnpejpfkaaaaProg.lean LOADS. Nothing in Lean hashes anything: it is a label: what it is worth is what the hold of that sum in a sandbox is worth. -/
noncomputable def Try.pinned : Pinned := { name := "ytbonnpejpfkaaaa", sum := "5691e20b7b4a3408e6c9ae43756e7f9cbfce8a2f2fc658b70365039cec2df6f0", checked := Try.checked }
namespace Rows
def none {H : Type} : Left H := { results := [], args := [] }

/-- 'cablewaylaw25.HandlerRuns': WHATEVER THE INPUT: true; the input reads as it did. -/
def handlerRunsSpec : ChangeSpec := { name := "handlerRuns", fn := fun _ => fun
  | [d1, d2, d3] => { results := [.lit (.bool true)], args := [d1, d2, d3] }
  | _ => none }
def handlerRunsRow : OpenClaim := { program := "ytbonnpejpfkaaaa", sum := "5691e20b7b4a3408e6c9ae43756e7f9cbfce8a2f2fc658b70365039cec2df6f0", func := "cableway/cablewaylaw25.HandlerRuns", spec := "handlerRuns", apart := false }
def HandlerRunsSaid : Prop := handlerRunsRow.holds Try.pinned (OpenSpec.ofChange handlerRunsSpec)

/-- ITS FALSE NEIGHBOUR: 'it returns false'. Refute it at one input. -/
def handlerRunsWrong : ChangeSpec := { name := "handlerRuns", fn := fun _ => fun
  | [d1, d2, d3] => { results := [.lit (.bool false)], args := [d1, d2, d3] }
  | _ => none }
def HandlerRunsWrongFalsely : Prop := handlerRunsRow.holds Try.pinned (OpenSpec.ofChange handlerRunsWrong)

/-- 'cablewaylaw25.HandlerChunks': WHATEVER THE INPUT: true; the input reads as it did. -/
def handlerChunksSpec : ChangeSpec := { name := "handlerChunks", fn := fun _ => fun
  | [d1, d2] => { results := [.lit (.bool true)], args := [d1, d2] }
  | _ => none }
def handlerChunksRow : OpenClaim := { program := "ytbonnpejpfkaaaa", sum := "5691e20b7b4a3408e6c9ae43756e7f9cbfce8a2f2fc658b70365039cec2df6f0", func := "cableway/cablewaylaw25.HandlerChunks", spec := "handlerChunks", apart := false }
def HandlerChunksSaid : Prop := handlerChunksRow.holds Try.pinned (OpenSpec.ofChange handlerChunksSpec)

/-- ITS FALSE NEIGHBOUR: 'it returns false'. Refute it at one input. -/
def handlerChunksWrong : ChangeSpec := { name := "handlerChunks", fn := fun _ => fun
  | [d1, d2] => { results := [.lit (.bool false)], args := [d1, d2] }
  | _ => none }
def HandlerChunksWrongFalsely : Prop := handlerChunksRow.holds Try.pinned (OpenSpec.ofChange handlerChunksWrong)

/-- 'cablewaylaw25.HandlerAdds': WHATEVER THE INPUT: true; the input reads as it did. -/
def handlerAddsSpec : ChangeSpec := { name := "handlerAdds", fn := fun _ => fun
  | [d1, d2] => { results := [.lit (.bool true)], args := [d1, d2] }
  | _ => none }
def handlerAddsRow : OpenClaim := { program := "ytbonnpejpfkaaaa", sum := "5691e20b7b4a3408e6c9ae43756e7f9cbfce8a2f2fc658b70365039cec2df6f0", func := "cableway/cablewaylaw25.HandlerAdds", spec := "handlerAdds", apart := false }
def HandlerAddsSaid : Prop := handlerAddsRow.holds Try.pinned (OpenSpec.ofChange handlerAddsSpec)

/-- ITS FALSE NEIGHBOUR: 'it returns false'. Refute it at one input. -/
def handlerAddsWrong : ChangeSpec := { name := "handlerAdds", fn := fun _ => fun
  | [d1, d2] => { results := [.lit (.bool false)], args := [d1, d2] }
  | _ => none }
def HandlerAddsWrongFalsely : Prop := handlerAddsRow.holds Try.pinned (OpenSpec.ofChange handlerAddsWrong)

/- THE SECOND FORM. 'bulk': how many values and letters a reading holds, each counted each time it is reached (what is shared counts as often as it is met; a slice's spare places count too). A statement '..UptoSaid' is the law's where the arguments, and the package variables that the reading takes, are together of bulk at most 1048576: NARROWER than '..Said'. Prove '..Said' where nothing that the law and all that it calls make is longer than what came in: it says more and counts as full. Else prove '..UptoSaid'. A law counts once. -/
mutual
def uptoBulk {H : Type} : DataW H → Nat
  | .lit (.string bytes) => bytes.length + 1
  | .lit _ => 1
  | .nil => 1
  | .ptr d => uptoBulk d + 1
  | .slice elems spare => uptoBulkAll elems + uptoBulkAll spare + 1
  | .agg parts => uptoBulkAll parts + 1
  | .iface _ d => uptoBulk d + 1
  | .map entries => uptoBulkEntries entries + 1
  | .held _ => 1
def uptoBulkAll {H : Type} : List (DataW H) → Nat
  | [] => 0
  | d :: r => uptoBulk d + uptoBulkAll r
def uptoBulkEntries {H : Type} : List (Lit × DataW H) → Nat
  | [] => 0
  | x :: r => uptoBulkEntry x + uptoBulkEntries r
def uptoBulkEntry {H : Type} : Lit × DataW H → Nat
  | (.string bytes, d) => bytes.length + uptoBulk d + 1
  | (_, d) => uptoBulk d + 1
 end
def uptoSmall : (H : Type) → List (DataW H) → Bool := fun _ ds => decide (uptoBulkAll ds ≤ 1048576)
def OpenSpec.upto (s : _root_.Go.ChangeSpec) : _root_.Go.OpenSpec := { _root_.Go.OpenSpec.ofChange s with cond := some uptoSmall }

/-- 'cablewaylaw25.HandlerRuns', WHERE WHAT IT READS IS OF BULK AT MOST 1048576: true; the input reads as it did. -/
def handlerRunsUptoRow : OpenClaim := { program := "ytbonnpejpfkaaaa", sum := "5691e20b7b4a3408e6c9ae43756e7f9cbfce8a2f2fc658b70365039cec2df6f0", func := "cableway/cablewaylaw25.HandlerRuns", spec := "handlerRuns", apart := false, narrowed := true }
def HandlerRunsUptoSaid : Prop := handlerRunsUptoRow.holds Try.pinned (OpenSpec.upto handlerRunsSpec)

/-- 'cablewaylaw25.HandlerChunks', WHERE WHAT IT READS IS OF BULK AT MOST 1048576: true; the input reads as it did. -/
def handlerChunksUptoRow : OpenClaim := { program := "ytbonnpejpfkaaaa", sum := "5691e20b7b4a3408e6c9ae43756e7f9cbfce8a2f2fc658b70365039cec2df6f0", func := "cableway/cablewaylaw25.HandlerChunks", spec := "handlerChunks", apart := false, narrowed := true }
def HandlerChunksUptoSaid : Prop := handlerChunksUptoRow.holds Try.pinned (OpenSpec.upto handlerChunksSpec)

/-- 'cablewaylaw25.HandlerAdds', WHERE WHAT IT READS IS OF BULK AT MOST 1048576: true; the input reads as it did. -/
def handlerAddsUptoRow : OpenClaim := { program := "ytbonnpejpfkaaaa", sum := "5691e20b7b4a3408e6c9ae43756e7f9cbfce8a2f2fc658b70365039cec2df6f0", func := "cableway/cablewaylaw25.HandlerAdds", spec := "handlerAdds", apart := false, narrowed := true }
def HandlerAddsUptoSaid : Prop := handlerAddsUptoRow.holds Try.pinned (OpenSpec.upto handlerAddsSpec)

end Rows
end Go.Proofs.Ytbonnpejpfkaaaa
