/-
  DERIVED. GIVEN WITH THE SEED: THE CARDS: each row of YtkihdceieljkgaaDoorRows.lean that lists a variable, with what it lists TIED to the program's text (the seventh form; the later family's looks); each row that meets fmt, with fmt's text TOLD by the authors' own Lean function (tested against real Go, not proved from fmt's source: count such statements apart). THE CARD IS WHAT COUNTS. Prove the row's statement (the work); the ties are given (YtkihdceieljkgaaDoorTie.lean); close each card by the builder's one call (the guide's Derived/Test/ToyasCard.lean, 'card_holds'). Laid BY PROGRAM, IN A SANDBOX (cutbox-door.mjs). By AI agents, Wed Nov 11 2026. No macro, syntax, notation, axiom, sorry.
-/
import Derived.Test.YtkihdceieljkgaaDoorRows
import GoSem.ClaimSeven
namespace Go.Proofs.YtkihdceieljkgaaDoor
namespace Rows

/-- THE TIED CARD OF 'castellanlaw13.SpansKeeps'. -/
def spansKeepsCard : Claim7 := { stood := { row := spansKeepsRow, standIns := [], harness := (true, "bf5013123d219df595775635eb9c645e8c931bfe2cda1823d9c4fe9c777b0c1d"), looks := true }, kinds := [], alts := [], laidByText := true, laidKinds := [.handle], laidTests := true, laidLooks := .later }
def SpansKeepsCardSaid : Prop := Claim7.holds Tryd.pinned (.plain (OpenSpec.ofChange spansKeepsSpec)) spansKeepsCard

/-- THE SECOND FORM's CARD OF 'castellanlaw13.SpansKeeps'. -/
def spansKeepsUptoCard : Claim7 := { stood := { row := spansKeepsUptoRow, standIns := [], harness := (true, "bf5013123d219df595775635eb9c645e8c931bfe2cda1823d9c4fe9c777b0c1d"), looks := true }, kinds := [], alts := [], laidByText := true, laidKinds := [.handle], laidTests := true, laidLooks := .later }
def SpansKeepsUptoCardSaid : Prop := Claim7.holds Tryd.pinned (.plain (OpenSpec.upto spansKeepsSpec)) spansKeepsUptoCard
end Rows
end Go.Proofs.YtkihdceieljkgaaDoor
