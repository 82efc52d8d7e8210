/-
  No cell of these rows narrows 'for every input' (looked for: loops, veiled, ifaces, maps, wideKeys, modest, calm, conditions, laid).
  DERIVED. THE GIVEN ROWS OF THIS SEAT. 3 by the template 'for every input the law returns true; each argument reads behind the call as it read before'; 0 by the template 'total and deterministic' (their statements: YtieehpajkidbcaaTotals.lean).
  GIVEN WITH THE SEED: the statements are not yours to turn. If you find one false, say at which input.
  Laid BY PROGRAM, IN A SANDBOX (cutbox-rows.mjs): the forced cells as the released guide's own fill.sh prints them over the translation bfb6257ad6d2f88d… (all of the seat's roots in one cut). By AI agents, Wed Nov 11 2026. No macro, syntax, notation, axiom, sorry.
-/
import Derived.Test.YtieehpajkidbcaaChecked
import GoSem.Claim
import GoSem.ClaimJoined
import GoSem.ClaimMapViews
import Derived.JoinedTies
import Derived.KernelRfl
namespace Go.Proofs.Ytieehpajkidbcaa
/- THE CELL 'sum', in the pinned program and in every row, IS THE sha256 OF THE DUMP (.gsa) THAT YtieehpajkidbcaaProg.lean LOADS. Nothing in Lean hashes anything: it is a label: what it is worth is what the hold of that sum in a sandbox is worth. -/
noncomputable def Try.pinned : Pinned := { name := "ytieehpajkidbcaa", sum := "bfb6257ad6d2f88de8f70af0b86a53515fa3ec206ddacf64519486bbd0a16260", checked := Try.checked }
namespace Rows
def none {H : Type} : Left H := { results := [], args := [] }

/-- 'cablewaylaw08.FetchOrder': WHATEVER THE INPUT: true; the input reads as it did. -/
def fetchOrderSpec : ChangeSpec := { name := "fetchOrder", fn := fun _ => fun
  | [d1, d2, d3] => { results := [.lit (.bool true)], args := [d1, d2, d3] }
  | _ => none }
def fetchOrderRow : OpenClaim := { program := "ytieehpajkidbcaa", sum := "bfb6257ad6d2f88de8f70af0b86a53515fa3ec206ddacf64519486bbd0a16260", func := "cableway/cablewaylaw08.FetchOrder", spec := "fetchOrder", apart := false }
def FetchOrderSaid : Prop := fetchOrderRow.holds Try.pinned (OpenSpec.ofChange fetchOrderSpec)

/-- ITS FALSE NEIGHBOUR: 'it returns false'. Refute it at one input. -/
def fetchOrderWrong : ChangeSpec := { name := "fetchOrder", fn := fun _ => fun
  | [d1, d2, d3] => { results := [.lit (.bool false)], args := [d1, d2, d3] }
  | _ => none }
def FetchOrderWrongFalsely : Prop := fetchOrderRow.holds Try.pinned (OpenSpec.ofChange fetchOrderWrong)

/-- 'cablewaylaw08.FetchMany': WHATEVER THE INPUT: true; the input reads as it did. -/
def fetchManySpec : ChangeSpec := { name := "fetchMany", fn := fun _ => fun
  | [d1, d2] => { results := [.lit (.bool true)], args := [d1, d2] }
  | _ => none }
def fetchManyRow : OpenClaim := { program := "ytieehpajkidbcaa", sum := "bfb6257ad6d2f88de8f70af0b86a53515fa3ec206ddacf64519486bbd0a16260", func := "cableway/cablewaylaw08.FetchMany", spec := "fetchMany", apart := false }
def FetchManySaid : Prop := fetchManyRow.holds Try.pinned (OpenSpec.ofChange fetchManySpec)

/-- ITS FALSE NEIGHBOUR: 'it returns false'. Refute it at one input. -/
def fetchManyWrong : ChangeSpec := { name := "fetchMany", fn := fun _ => fun
  | [d1, d2] => { results := [.lit (.bool false)], args := [d1, d2] }
  | _ => none }
def FetchManyWrongFalsely : Prop := fetchManyRow.holds Try.pinned (OpenSpec.ofChange fetchManyWrong)

/-- 'cablewaylaw08.FetchInput': WHATEVER THE INPUT: true; the input reads as it did. -/
def fetchInputSpec : ChangeSpec := { name := "fetchInput", fn := fun _ => fun
  | [d1, d2] => { results := [.lit (.bool true)], args := [d1, d2] }
  | _ => none }
def fetchInputRow : OpenClaim := { program := "ytieehpajkidbcaa", sum := "bfb6257ad6d2f88de8f70af0b86a53515fa3ec206ddacf64519486bbd0a16260", func := "cableway/cablewaylaw08.FetchInput", spec := "fetchInput", apart := false }
def FetchInputSaid : Prop := fetchInputRow.holds Try.pinned (OpenSpec.ofChange fetchInputSpec)

/-- ITS FALSE NEIGHBOUR: 'it returns false'. Refute it at one input. -/
def fetchInputWrong : ChangeSpec := { name := "fetchInput", fn := fun _ => fun
  | [d1, d2] => { results := [.lit (.bool false)], args := [d1, d2] }
  | _ => none }
def FetchInputWrongFalsely : Prop := fetchInputRow.holds Try.pinned (OpenSpec.ofChange fetchInputWrong)

/- THE SECOND FORM. 'bulk': how many values and letters a reading holds, each counted each time it is reached (what is shared counts as often as it is met; a slice's spare places count too). A statement '..UptoSaid' is the law's where the arguments, and the package variables that the reading takes, are together of bulk at most 1048576: NARROWER than '..Said'. Prove '..Said' where nothing that the law and all that it calls make is longer than what came in: it says more and counts as full. Else prove '..UptoSaid'. A law counts once. -/
mutual
def uptoBulk {H : Type} : DataW H → Nat
  | .lit (.string bytes) => bytes.length + 1
  | .lit _ => 1
  | .nil => 1
  | .ptr d => uptoBulk d + 1
  | .slice elems spare => uptoBulkAll elems + uptoBulkAll spare + 1
  | .agg parts => uptoBulkAll parts + 1
  | .iface _ d => uptoBulk d + 1
  | .map entries => uptoBulkEntries entries + 1
  | .held _ => 1
def uptoBulkAll {H : Type} : List (DataW H) → Nat
  | [] => 0
  | d :: r => uptoBulk d + uptoBulkAll r
def uptoBulkEntries {H : Type} : List (Lit × DataW H) → Nat
  | [] => 0
  | x :: r => uptoBulkEntry x + uptoBulkEntries r
def uptoBulkEntry {H : Type} : Lit × DataW H → Nat
  | (.string bytes, d) => bytes.length + uptoBulk d + 1
  | (_, d) => uptoBulk d + 1
 end
def uptoSmall : (H : Type) → List (DataW H) → Bool := fun _ ds => decide (uptoBulkAll ds ≤ 1048576)
def OpenSpec.upto (s : _root_.Go.ChangeSpec) : _root_.Go.OpenSpec := { _root_.Go.OpenSpec.ofChange s with cond := some uptoSmall }

/-- 'cablewaylaw08.FetchOrder', WHERE WHAT IT READS IS OF BULK AT MOST 1048576: true; the input reads as it did. -/
def fetchOrderUptoRow : OpenClaim := { program := "ytieehpajkidbcaa", sum := "bfb6257ad6d2f88de8f70af0b86a53515fa3ec206ddacf64519486bbd0a16260", func := "cableway/cablewaylaw08.FetchOrder", spec := "fetchOrder", apart := false, narrowed := true }
def FetchOrderUptoSaid : Prop := fetchOrderUptoRow.holds Try.pinned (OpenSpec.upto fetchOrderSpec)

/-- 'cablewaylaw08.FetchMany', WHERE WHAT IT READS IS OF BULK AT MOST 1048576: true; the input reads as it did. -/
def fetchManyUptoRow : OpenClaim := { program := "ytieehpajkidbcaa", sum := "bfb6257ad6d2f88de8f70af0b86a53515fa3ec206ddacf64519486bbd0a16260", func := "cableway/cablewaylaw08.FetchMany", spec := "fetchMany", apart := false, narrowed := true }
def FetchManyUptoSaid : Prop := fetchManyUptoRow.holds Try.pinned (OpenSpec.upto fetchManySpec)

/-- 'cablewaylaw08.FetchInput', WHERE WHAT IT READS IS OF BULK AT MOST 1048576: true; the input reads as it did. -/
def fetchInputUptoRow : OpenClaim := { program := "ytieehpajkidbcaa", sum := "bfb6257ad6d2f88de8f70af0b86a53515fa3ec206ddacf64519486bbd0a16260", func := "cableway/cablewaylaw08.FetchInput", spec := "fetchInput", apart := false, narrowed := true }
def FetchInputUptoSaid : Prop := fetchInputUptoRow.holds Try.pinned (OpenSpec.upto fetchInputSpec)

end Rows
end Go.Proofs.Ytieehpajkidbcaa
