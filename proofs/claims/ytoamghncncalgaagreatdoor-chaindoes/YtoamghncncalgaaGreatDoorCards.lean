/-
  DERIVED. GIVEN WITH THE SEED: THE CARDS: each row of YtoamghncncalgaaGreatDoorRows.lean that lists a variable, with what it lists TIED to the program's text (the seventh form; the later family's looks); each row that meets fmt, with fmt's text TOLD by the authors' own Lean function (tested against real Go, not proved from fmt's source: count such statements apart). THE CARD IS WHAT COUNTS. Prove the row's statement (the work); the ties are given (YtoamghncncalgaaGreatDoorTie.lean); close each card by the builder's one call (the guide's Derived/Test/ToyasCard.lean, 'card_holds'). Laid BY PROGRAM, IN A SANDBOX (cutbox-door.mjs). By AI agents, Wed Nov 11 2026. No macro, syntax, notation, axiom, sorry.
-/
import Derived.Test.YtoamghncncalgaaGreatDoorRows
import GoSem.ClaimSeven
namespace Go.Proofs.YtoamghncncalgaaGreatDoor
namespace Rows

/-- THE TIED CARD OF 'castellanlaw09.ChainDoes'. -/
def chainDoesCard : Claim7 := { stood := { row := chainDoesRow, standIns := [], harness := (true, "73f0d2e9ff208979c39cb7e2df78e79cccb493bd95b9746d8571b217be855794"), looks := true }, kinds := [], alts := [], laidByText := true, laidKinds := [.handle], laidTests := true, laidLooks := .later }
def ChainDoesCardSaid : Prop := Claim7.holds Tryz.pinned (.plain (OpenSpec.ofChange chainDoesSpec)) chainDoesCard

/-- THE TIED CARD OF 'castellanlaw09.ChainOpens'. -/
def chainOpensCard : Claim7 := { stood := { row := chainOpensRow, standIns := [], harness := (true, "73f0d2e9ff208979c39cb7e2df78e79cccb493bd95b9746d8571b217be855794"), looks := true }, kinds := [], alts := [], laidByText := true, laidKinds := [.handle], laidTests := true, laidLooks := .later }
def ChainOpensCardSaid : Prop := Claim7.holds Tryz.pinned (.plain (OpenSpec.ofChange chainOpensSpec)) chainOpensCard

/-- THE SECOND FORM's CARD OF 'castellanlaw09.ChainDoes'. -/
def chainDoesUptoCard : Claim7 := { stood := { row := chainDoesUptoRow, standIns := [], harness := (true, "73f0d2e9ff208979c39cb7e2df78e79cccb493bd95b9746d8571b217be855794"), looks := true }, kinds := [], alts := [], laidByText := true, laidKinds := [.handle], laidTests := true, laidLooks := .later }
def ChainDoesUptoCardSaid : Prop := Claim7.holds Tryz.pinned (.plain (OpenSpec.upto chainDoesSpec)) chainDoesUptoCard

/-- THE SECOND FORM's CARD OF 'castellanlaw09.ChainOpens'. -/
def chainOpensUptoCard : Claim7 := { stood := { row := chainOpensUptoRow, standIns := [], harness := (true, "73f0d2e9ff208979c39cb7e2df78e79cccb493bd95b9746d8571b217be855794"), looks := true }, kinds := [], alts := [], laidByText := true, laidKinds := [.handle], laidTests := true, laidLooks := .later }
def ChainOpensUptoCardSaid : Prop := Claim7.holds Tryz.pinned (.plain (OpenSpec.upto chainOpensSpec)) chainOpensUptoCard
end Rows
end Go.Proofs.YtoamghncncalgaaGreatDoor
