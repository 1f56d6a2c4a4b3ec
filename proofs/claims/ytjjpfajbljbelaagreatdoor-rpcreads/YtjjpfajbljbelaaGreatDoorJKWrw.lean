/-
  A ROW OF BYTES THAT IS WRITTEN ON, WITH ALL ITS CELLS (those behind its length, too): what an append leaves of it. Condition: fewer than a million bytes.
-/
import Derived.Test.YtjjpfajbljbelaaGreatDoorJKWreada5
namespace Go.Proofs.YtjjpfajbljbelaaGreatDoor
open Go.RowKit
end Go.Proofs.YtjjpfajbljbelaaGreatDoor
