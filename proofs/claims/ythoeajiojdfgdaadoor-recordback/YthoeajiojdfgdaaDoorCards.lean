/-
  DERIVED. GIVEN WITH THE SEED: THE CARDS: each row of YthoeajiojdfgdaaDoorRows.lean that lists a variable, with what it lists TIED to the program's text (the seventh form; the later family's looks); each row that meets fmt, with fmt's text TOLD by the authors' own Lean function (tested against real Go, not proved from fmt's source: count such statements apart). THE CARD IS WHAT COUNTS. Prove the row's statement (the work); the ties are given (YthoeajiojdfgdaaDoorTie.lean); close each card by the builder's one call (the guide's Derived/Test/ToyasCard.lean, 'card_holds'). Laid BY PROGRAM, IN A SANDBOX (cutbox-door.mjs). By AI agents, Wed Nov 11 2026. No macro, syntax, notation, axiom, sorry.
-/
import Derived.Test.YthoeajiojdfgdaaDoorRows
import GoSem.ClaimSeven
namespace Go.Proofs.YthoeajiojdfgdaaDoor
namespace Rows

/-- THE TIED CARD OF 'castellanlaw05.RecordBack'. -/
def recordBackCard : Claim7 := { stood := { row := recordBackRow, standIns := [], harness := (true, "ea807e78e8de3eb31bca3fb327c91f7a8b04822b94f6cd911a0c3a61cc02e4a5"), looks := true }, kinds := [], alts := [], laidByText := true, laidKinds := [.handle], laidTests := true, laidLooks := .later }
def RecordBackCardSaid : Prop := Claim7.holds Tryd.pinned (.plain (OpenSpec.ofChange recordBackSpec)) recordBackCard

/-- THE TIED CARD OF 'castellanlaw05.RecordShort'. -/
def recordShortCard : Claim7 := { stood := { row := recordShortRow, standIns := [], harness := (true, "ea807e78e8de3eb31bca3fb327c91f7a8b04822b94f6cd911a0c3a61cc02e4a5"), looks := true }, kinds := [], alts := [], laidByText := true, laidKinds := [.handle], laidTests := true, laidLooks := .later }
def RecordShortCardSaid : Prop := Claim7.holds Tryd.pinned (.plain (OpenSpec.ofChange recordShortSpec)) recordShortCard

/-- THE SECOND FORM's CARD OF 'castellanlaw05.RecordBack'. -/
def recordBackUptoCard : Claim7 := { stood := { row := recordBackUptoRow, standIns := [], harness := (true, "ea807e78e8de3eb31bca3fb327c91f7a8b04822b94f6cd911a0c3a61cc02e4a5"), looks := true }, kinds := [], alts := [], laidByText := true, laidKinds := [.handle], laidTests := true, laidLooks := .later }
def RecordBackUptoCardSaid : Prop := Claim7.holds Tryd.pinned (.plain (OpenSpec.upto recordBackSpec)) recordBackUptoCard

/-- THE SECOND FORM's CARD OF 'castellanlaw05.RecordShort'. -/
def recordShortUptoCard : Claim7 := { stood := { row := recordShortUptoRow, standIns := [], harness := (true, "ea807e78e8de3eb31bca3fb327c91f7a8b04822b94f6cd911a0c3a61cc02e4a5"), looks := true }, kinds := [], alts := [], laidByText := true, laidKinds := [.handle], laidTests := true, laidLooks := .later }
def RecordShortUptoCardSaid : Prop := Claim7.holds Tryd.pinned (.plain (OpenSpec.upto recordShortSpec)) recordShortUptoCard
end Rows
end Go.Proofs.YthoeajiojdfgdaaDoor
