/-
  DERIVED. GIVEN WITH THE SEED: THE CARDS: each row of YtalkgehhmbipbaaDoorRows.lean that lists a variable, with what it lists TIED to the program's text (the seventh form; the later family's looks); each row that meets fmt, with fmt's text TOLD by the authors' own Lean function (tested against real Go, not proved from fmt's source: count such statements apart). THE CARD IS WHAT COUNTS. Prove the row's statement (the work); the ties are given (YtalkgehhmbipbaaDoorTie.lean); close each card by the builder's one call (the guide's Derived/Test/ToyasCard.lean, 'card_holds'). Laid BY PROGRAM, IN A SANDBOX (cutbox-door.mjs). By AI agents, Wed Nov 11 2026. No macro, syntax, notation, axiom, sorry.
-/
import Derived.Test.YtalkgehhmbipbaaDoorRows
import GoSem.ClaimSeven
namespace Go.Proofs.YtalkgehhmbipbaaDoor
namespace Rows

/-- THE TIED CARD OF 'cablewaylaw09.SlotWords'. -/
def slotWordsCard : Claim7 := { stood := { row := slotWordsRow, standIns := [], harness := (true, "786f264cd8db17219d7a96e8902772baf39e801af6a7e741d7f2541dd2dab730"), looks := false }, kinds := [], alts := [], laidByText := true, laidKinds := [.wider, .wider], laidTests := true, laidLooks := .later }
def SlotWordsCardSaid : Prop := Claim7.holds Tryd.pinned (.plain (OpenSpec.ofChange slotWordsSpec)) slotWordsCard

/-- THE TIED CARD OF 'cablewaylaw09.SlotTurns'. -/
def slotTurnsCard : Claim7 := { stood := { row := slotTurnsRow, standIns := [], harness := (true, "786f264cd8db17219d7a96e8902772baf39e801af6a7e741d7f2541dd2dab730"), looks := false }, kinds := [], alts := [], laidByText := true, laidKinds := [.wider, .wider], laidTests := true, laidLooks := .later }
def SlotTurnsCardSaid : Prop := Claim7.holds Tryd.pinned (.plain (OpenSpec.ofChange slotTurnsSpec)) slotTurnsCard

/-- THE TIED CARD OF 'cablewaylaw09.SlotStale'. -/
def slotStaleCard : Claim7 := { stood := { row := slotStaleRow, standIns := [], harness := (true, "786f264cd8db17219d7a96e8902772baf39e801af6a7e741d7f2541dd2dab730"), looks := false }, kinds := [], alts := [], laidByText := true, laidKinds := [.wider, .wider], laidTests := true, laidLooks := .later }
def SlotStaleCardSaid : Prop := Claim7.holds Tryd.pinned (.plain (OpenSpec.ofChange slotStaleSpec)) slotStaleCard

/-- THE SECOND FORM's CARD OF 'cablewaylaw09.SlotWords'. -/
def slotWordsUptoCard : Claim7 := { stood := { row := slotWordsUptoRow, standIns := [], harness := (true, "786f264cd8db17219d7a96e8902772baf39e801af6a7e741d7f2541dd2dab730"), looks := false }, kinds := [], alts := [], laidByText := true, laidKinds := [.wider, .wider], laidTests := true, laidLooks := .later }
def SlotWordsUptoCardSaid : Prop := Claim7.holds Tryd.pinned (.plain (OpenSpec.upto slotWordsSpec)) slotWordsUptoCard

/-- THE SECOND FORM's CARD OF 'cablewaylaw09.SlotTurns'. -/
def slotTurnsUptoCard : Claim7 := { stood := { row := slotTurnsUptoRow, standIns := [], harness := (true, "786f264cd8db17219d7a96e8902772baf39e801af6a7e741d7f2541dd2dab730"), looks := false }, kinds := [], alts := [], laidByText := true, laidKinds := [.wider, .wider], laidTests := true, laidLooks := .later }
def SlotTurnsUptoCardSaid : Prop := Claim7.holds Tryd.pinned (.plain (OpenSpec.upto slotTurnsSpec)) slotTurnsUptoCard

/-- THE SECOND FORM's CARD OF 'cablewaylaw09.SlotStale'. -/
def slotStaleUptoCard : Claim7 := { stood := { row := slotStaleUptoRow, standIns := [], harness := (true, "786f264cd8db17219d7a96e8902772baf39e801af6a7e741d7f2541dd2dab730"), looks := false }, kinds := [], alts := [], laidByText := true, laidKinds := [.wider, .wider], laidTests := true, laidLooks := .later }
def SlotStaleUptoCardSaid : Prop := Claim7.holds Tryd.pinned (.plain (OpenSpec.upto slotStaleSpec)) slotStaleUptoCard
end Rows
end Go.Proofs.YtalkgehhmbipbaaDoor
