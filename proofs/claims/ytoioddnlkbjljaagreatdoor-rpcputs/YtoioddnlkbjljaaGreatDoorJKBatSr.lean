/-
  WHETHER TWO BATCHES ARE THE SAME, BY THE DOCUMENT (castellanref06.Same). Conditions: the records' cells hold them, their rows are not too long.
-/
import Derived.Test.YtoioddnlkbjljaaGreatDoorJKBatCka2
namespace Go.Proofs.YtoioddnlkbjljaaGreatDoor
open Go.RowKit

end Go.Proofs.YtoioddnlkbjljaaGreatDoor
