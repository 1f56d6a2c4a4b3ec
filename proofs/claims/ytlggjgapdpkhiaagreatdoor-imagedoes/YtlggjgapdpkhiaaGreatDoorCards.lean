/-
  DERIVED. GIVEN WITH THE SEED: THE CARDS: each row of YtlggjgapdpkhiaaGreatDoorRows.lean that lists a variable, with what it lists TIED to the program's text (the seventh form; the later family's looks); each row that meets fmt, with fmt's text TOLD by the authors' own Lean function (tested against real Go, not proved from fmt's source: count such statements apart). THE CARD IS WHAT COUNTS. Prove the row's statement (the work); the ties are given (YtlggjgapdpkhiaaGreatDoorTie.lean); close each card by the builder's one call (the guide's Derived/Test/ToyasCard.lean, 'card_holds'). Laid BY PROGRAM, IN A SANDBOX (cutbox-door.mjs). By AI agents, Wed Nov 11 2026. No macro, syntax, notation, axiom, sorry.
-/
import Derived.Test.YtlggjgapdpkhiaaGreatDoorRows
import GoSem.ClaimSeven
namespace Go.Proofs.YtlggjgapdpkhiaaGreatDoor
namespace Rows

/-- THE TIED CARD OF 'castellanlaw15.ImageDoes'. -/
def imageDoesCard : Claim7 := { stood := { row := imageDoesRow, standIns := [], harness := (true, "3b41c23fb02b43a58512d7b2a79fd7fead602708ab4b76f96e6f5b59528ea567"), looks := true }, kinds := [], alts := [], laidByText := true, laidKinds := [.handle], laidTests := true, laidLooks := .later }
def ImageDoesCardSaid : Prop := Claim7.holds Tryz.pinned (.plain (OpenSpec.ofChange imageDoesSpec)) imageDoesCard

/-- THE TIED CARD OF 'castellanlaw15.ImageAll'. -/
def imageAllCard : Claim7 := { stood := { row := imageAllRow, standIns := [], harness := (true, "3b41c23fb02b43a58512d7b2a79fd7fead602708ab4b76f96e6f5b59528ea567"), looks := true }, kinds := [], alts := [], laidByText := true, laidKinds := [.handle], laidTests := true, laidLooks := .later }
def ImageAllCardSaid : Prop := Claim7.holds Tryz.pinned (.plain (OpenSpec.ofChange imageAllSpec)) imageAllCard

/-- THE SECOND FORM's CARD OF 'castellanlaw15.ImageDoes'. -/
def imageDoesUptoCard : Claim7 := { stood := { row := imageDoesUptoRow, standIns := [], harness := (true, "3b41c23fb02b43a58512d7b2a79fd7fead602708ab4b76f96e6f5b59528ea567"), looks := true }, kinds := [], alts := [], laidByText := true, laidKinds := [.handle], laidTests := true, laidLooks := .later }
def ImageDoesUptoCardSaid : Prop := Claim7.holds Tryz.pinned (.plain (OpenSpec.upto imageDoesSpec)) imageDoesUptoCard

/-- THE SECOND FORM's CARD OF 'castellanlaw15.ImageAll'. -/
def imageAllUptoCard : Claim7 := { stood := { row := imageAllUptoRow, standIns := [], harness := (true, "3b41c23fb02b43a58512d7b2a79fd7fead602708ab4b76f96e6f5b59528ea567"), looks := true }, kinds := [], alts := [], laidByText := true, laidKinds := [.handle], laidTests := true, laidLooks := .later }
def ImageAllUptoCardSaid : Prop := Claim7.holds Tryz.pinned (.plain (OpenSpec.upto imageAllSpec)) imageAllUptoCard
end Rows
end Go.Proofs.YtlggjgapdpkhiaaGreatDoor
