/-
  DERIVED. GIVEN WITH THE SEED: THE CARDS: each row of YtgnodijblleipaaDoorRows.lean that lists a variable, with what it lists TIED to the program's text (the seventh form; the later family's looks); each row that meets fmt, with fmt's text TOLD by the authors' own Lean function (tested against real Go, not proved from fmt's source: count such statements apart). THE CARD IS WHAT COUNTS. Prove the row's statement (the work); the ties are given (YtgnodijblleipaaDoorTie.lean); close each card by the builder's one call (the guide's Derived/Test/ToyasCard.lean, 'card_holds'). Laid BY PROGRAM, IN A SANDBOX (cutbox-door.mjs). By AI agents, Wed Nov 11 2026. No macro, syntax, notation, axiom, sorry.
-/
import Derived.Test.YtgnodijblleipaaDoorRows
import GoSem.ClaimSeven
namespace Go.Proofs.YtgnodijblleipaaDoor
namespace Rows

/-- THE TIED CARD OF 'cablewaylaw10.TablePlays'. -/
def tablePlaysCard : Claim7 := { stood := { row := tablePlaysRow, standIns := [], harness := (true, "91c9bc18a3329e37316222aa1676ccdec3d749076882945a5475a8c62529aa68"), looks := false }, kinds := [], alts := [], laidByText := true, laidKinds := [.wider, .wider], laidTests := true, laidLooks := .later }
def TablePlaysCardSaid : Prop := Claim7.holds Tryd.pinned (.plain (OpenSpec.ofChange tablePlaysSpec)) tablePlaysCard

/-- THE TIED CARD OF 'cablewaylaw10.TableMay'. -/
def tableMayCard : Claim7 := { stood := { row := tableMayRow, standIns := [], harness := (true, "91c9bc18a3329e37316222aa1676ccdec3d749076882945a5475a8c62529aa68"), looks := false }, kinds := [], alts := [], laidByText := true, laidKinds := [.wider, .wider], laidTests := true, laidLooks := .later }
def TableMayCardSaid : Prop := Claim7.holds Tryd.pinned (.plain (OpenSpec.ofChange tableMaySpec)) tableMayCard

/-- THE SECOND FORM's CARD OF 'cablewaylaw10.TablePlays'. -/
def tablePlaysUptoCard : Claim7 := { stood := { row := tablePlaysUptoRow, standIns := [], harness := (true, "91c9bc18a3329e37316222aa1676ccdec3d749076882945a5475a8c62529aa68"), looks := false }, kinds := [], alts := [], laidByText := true, laidKinds := [.wider, .wider], laidTests := true, laidLooks := .later }
def TablePlaysUptoCardSaid : Prop := Claim7.holds Tryd.pinned (.plain (OpenSpec.upto tablePlaysSpec)) tablePlaysUptoCard

/-- THE SECOND FORM's CARD OF 'cablewaylaw10.TableMay'. -/
def tableMayUptoCard : Claim7 := { stood := { row := tableMayUptoRow, standIns := [], harness := (true, "91c9bc18a3329e37316222aa1676ccdec3d749076882945a5475a8c62529aa68"), looks := false }, kinds := [], alts := [], laidByText := true, laidKinds := [.wider, .wider], laidTests := true, laidLooks := .later }
def TableMayUptoCardSaid : Prop := Claim7.holds Tryd.pinned (.plain (OpenSpec.upto tableMaySpec)) tableMayUptoCard
end Rows
end Go.Proofs.YtgnodijblleipaaDoor
