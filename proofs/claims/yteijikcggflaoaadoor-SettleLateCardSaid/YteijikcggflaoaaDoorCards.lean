/-
  DERIVED. GIVEN WITH THE SEED: THE CARDS: each row of YteijikcggflaoaaDoorRows.lean that lists a variable, with what it lists TIED to the program's text (the seventh form; the later family's looks); each row that meets fmt, with fmt's text TOLD by the authors' own Lean function (tested against real Go, not proved from fmt's source: count such statements apart). THE CARD IS WHAT COUNTS. Prove the row's statement (the work); the ties are given (YteijikcggflaoaaDoorTie.lean); close each card by the builder's one call (the guide's Derived/Test/ToyasCard.lean, 'card_holds'). Laid BY PROGRAM, IN A SANDBOX (cutbox-door.mjs). By AI agents, Wed Nov 11 2026. No macro, syntax, notation, axiom, sorry.
-/
import Derived.Test.YteijikcggflaoaaDoorRows
import GoSem.ClaimSeven
namespace Go.Proofs.YteijikcggflaoaaDoor
namespace Rows

/-- THE TIED CARD OF 'cablewaylaw11.SettleStale'. -/
def settleStaleCard : Claim7 := { stood := { row := settleStaleRow, standIns := [], harness := (true, "b311095b919e0d858af52f1e7041a07f1f03c37ac2dffc6606a1e9579e4e4de8"), looks := false }, kinds := [], alts := [], laidByText := true, laidKinds := [.wider, .wider], laidTests := true, laidLooks := .later }
def SettleStaleCardSaid : Prop := Claim7.holds Tryd.pinned (.plain (OpenSpec.ofChange settleStaleSpec)) settleStaleCard

/-- THE TIED CARD OF 'cablewaylaw11.SettleLate'. -/
def settleLateCard : Claim7 := { stood := { row := settleLateRow, standIns := [], harness := (true, "b311095b919e0d858af52f1e7041a07f1f03c37ac2dffc6606a1e9579e4e4de8"), looks := false }, kinds := [], alts := [], laidByText := true, laidKinds := [.wider, .wider], laidTests := true, laidLooks := .later }
def SettleLateCardSaid : Prop := Claim7.holds Tryd.pinned (.plain (OpenSpec.ofChange settleLateSpec)) settleLateCard

/-- THE SECOND FORM's CARD OF 'cablewaylaw11.SettleStale'. -/
def settleStaleUptoCard : Claim7 := { stood := { row := settleStaleUptoRow, standIns := [], harness := (true, "b311095b919e0d858af52f1e7041a07f1f03c37ac2dffc6606a1e9579e4e4de8"), looks := false }, kinds := [], alts := [], laidByText := true, laidKinds := [.wider, .wider], laidTests := true, laidLooks := .later }
def SettleStaleUptoCardSaid : Prop := Claim7.holds Tryd.pinned (.plain (OpenSpec.upto settleStaleSpec)) settleStaleUptoCard

/-- THE SECOND FORM's CARD OF 'cablewaylaw11.SettleLate'. -/
def settleLateUptoCard : Claim7 := { stood := { row := settleLateUptoRow, standIns := [], harness := (true, "b311095b919e0d858af52f1e7041a07f1f03c37ac2dffc6606a1e9579e4e4de8"), looks := false }, kinds := [], alts := [], laidByText := true, laidKinds := [.wider, .wider], laidTests := true, laidLooks := .later }
def SettleLateUptoCardSaid : Prop := Claim7.holds Tryd.pinned (.plain (OpenSpec.upto settleLateSpec)) settleLateUptoCard
end Rows
end Go.Proofs.YteijikcggflaoaaDoor
