/-
  A RECORD AS BYTES, BY THE DOCUMENT (castellanref05.int1, text1, row1): bytes of what is asked for. Conditions: the row's cells hold it; no more than a thousand letters or numbers.
-/
import Derived.Test.YtkpknkhacmggnaaGreatDoorJKWputba5
import Derived.Test.YtkpknkhacmggnaaGreatDoorJKRecPta6
namespace Go.Proofs.YtkpknkhacmggnaaGreatDoor
open Go.RowKit

end Go.Proofs.YtkpknkhacmggnaaGreatDoor
