/-
  DERIVED. GIVEN WITH THE SEED: THE CARDS: each row of YtdkbehbpdcfbdaaDoorRows.lean that lists a variable, with what it lists TIED to the program's text (the seventh form; the later family's looks); each row that meets fmt, with fmt's text TOLD by the authors' own Lean function (tested against real Go, not proved from fmt's source: count such statements apart). THE CARD IS WHAT COUNTS. Prove the row's statement (the work); the ties are given (YtdkbehbpdcfbdaaDoorTie.lean); close each card by the builder's one call (the guide's Derived/Test/ToyasCard.lean, 'card_holds'). Laid BY PROGRAM, IN A SANDBOX (cutbox-door.mjs). By AI agents, Wed Nov 11 2026. No macro, syntax, notation, axiom, sorry.
-/
import Derived.Test.YtdkbehbpdcfbdaaDoorRows
import GoSem.ClaimSeven
namespace Go.Proofs.YtdkbehbpdcfbdaaDoor
namespace Rows

/-- THE TIED CARD OF 'castellanlaw01.FaultTells'. -/
def faultTellsCard : Claim7 := { stood := { row := faultTellsRow, standIns := [], harness := (true, "e3873acdd9fd9f4b661511c773bd9b7df93afdfe48b5590836bc713d313eb50a"), looks := true }, kinds := [], alts := [], laidByText := true, laidKinds := [.handle], laidTests := true, laidLooks := .later }
def FaultTellsCardSaid : Prop := Claim7.holds Tryd.pinned (.plain (OpenSpec.ofChange faultTellsSpec)) faultTellsCard

/-- THE TIED CARD OF 'castellanlaw01.FaultAgain'. -/
def faultAgainCard : Claim7 := { stood := { row := faultAgainRow, standIns := [], harness := (true, "e3873acdd9fd9f4b661511c773bd9b7df93afdfe48b5590836bc713d313eb50a"), looks := true }, kinds := [], alts := [], laidByText := true, laidKinds := [.handle], laidTests := true, laidLooks := .later }
def FaultAgainCardSaid : Prop := Claim7.holds Tryd.pinned (.plain (OpenSpec.ofChange faultAgainSpec)) faultAgainCard

/-- THE TIED CARD OF 'castellanlaw01.FaultWraps'. -/
def faultWrapsCard : Claim7 := { stood := { row := faultWrapsRow, standIns := [], harness := (true, "e3873acdd9fd9f4b661511c773bd9b7df93afdfe48b5590836bc713d313eb50a"), looks := true }, kinds := [], alts := [], laidByText := true, laidKinds := [.handle], laidTests := true, laidLooks := .later }
def FaultWrapsCardSaid : Prop := Claim7.holds Tryd.pinned (.plain (OpenSpec.ofChange faultWrapsSpec)) faultWrapsCard

/-- THE TIED CARD OF 'castellanlaw01.FaultIs'. -/
def faultIsCard : Claim7 := { stood := { row := faultIsRow, standIns := [], harness := (true, "e3873acdd9fd9f4b661511c773bd9b7df93afdfe48b5590836bc713d313eb50a"), looks := true }, kinds := [], alts := [], laidByText := true, laidKinds := [.handle], laidTests := true, laidLooks := .later }
def FaultIsCardSaid : Prop := Claim7.holds Tryd.pinned (.plain (OpenSpec.ofChange faultIsSpec)) faultIsCard

/-- THE SECOND FORM's CARD OF 'castellanlaw01.FaultTells'. -/
def faultTellsUptoCard : Claim7 := { stood := { row := faultTellsUptoRow, standIns := [], harness := (true, "e3873acdd9fd9f4b661511c773bd9b7df93afdfe48b5590836bc713d313eb50a"), looks := true }, kinds := [], alts := [], laidByText := true, laidKinds := [.handle], laidTests := true, laidLooks := .later }
def FaultTellsUptoCardSaid : Prop := Claim7.holds Tryd.pinned (.plain (OpenSpec.upto faultTellsSpec)) faultTellsUptoCard

/-- THE SECOND FORM's CARD OF 'castellanlaw01.FaultAgain'. -/
def faultAgainUptoCard : Claim7 := { stood := { row := faultAgainUptoRow, standIns := [], harness := (true, "e3873acdd9fd9f4b661511c773bd9b7df93afdfe48b5590836bc713d313eb50a"), looks := true }, kinds := [], alts := [], laidByText := true, laidKinds := [.handle], laidTests := true, laidLooks := .later }
def FaultAgainUptoCardSaid : Prop := Claim7.holds Tryd.pinned (.plain (OpenSpec.upto faultAgainSpec)) faultAgainUptoCard

/-- THE SECOND FORM's CARD OF 'castellanlaw01.FaultWraps'. -/
def faultWrapsUptoCard : Claim7 := { stood := { row := faultWrapsUptoRow, standIns := [], harness := (true, "e3873acdd9fd9f4b661511c773bd9b7df93afdfe48b5590836bc713d313eb50a"), looks := true }, kinds := [], alts := [], laidByText := true, laidKinds := [.handle], laidTests := true, laidLooks := .later }
def FaultWrapsUptoCardSaid : Prop := Claim7.holds Tryd.pinned (.plain (OpenSpec.upto faultWrapsSpec)) faultWrapsUptoCard

/-- THE SECOND FORM's CARD OF 'castellanlaw01.FaultIs'. -/
def faultIsUptoCard : Claim7 := { stood := { row := faultIsUptoRow, standIns := [], harness := (true, "e3873acdd9fd9f4b661511c773bd9b7df93afdfe48b5590836bc713d313eb50a"), looks := true }, kinds := [], alts := [], laidByText := true, laidKinds := [.handle], laidTests := true, laidLooks := .later }
def FaultIsUptoCardSaid : Prop := Claim7.holds Tryd.pinned (.plain (OpenSpec.upto faultIsSpec)) faultIsUptoCard
end Rows
end Go.Proofs.YtdkbehbpdcfbdaaDoor
