/-
  A RECORD AS BYTES, BY THE DOCUMENT (castellanref05.Bytes): the bytes of its kind and of each field that the kind asks for. Conditions: the record may be; its rows' cells hold them.
-/
import Derived.Test.YtkpknkhacmggnaaGreatDoorJKRecBy
import Derived.Test.YtkpknkhacmggnaaGreatDoorJKRecWkaa3
import Derived.Deep.RegionHeld3
namespace Go.Proofs.YtkpknkhacmggnaaGreatDoor
open Go.RowKit

end Go.Proofs.YtkpknkhacmggnaaGreatDoor
