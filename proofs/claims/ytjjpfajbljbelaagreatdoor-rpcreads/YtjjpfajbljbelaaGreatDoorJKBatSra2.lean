/-
  WHETHER TWO BATCHES ARE THE SAME, BY THE DOCUMENT (castellanref06.Same). Conditions: the records' cells hold them, their rows are not too long.
  A RECORD AS BYTES, BY THE DOCUMENT (castellanref05.int1, text1, row1): bytes of what is asked for. Conditions: the row's cells hold it; no more than a thousand letters or numbers.
-/
import Derived.Test.YtjjpfajbljbelaaGreatDoorJKBatCka2
namespace Go.Proofs.YtjjpfajbljbelaaGreatDoor
open Go.RowKit
end Go.Proofs.YtjjpfajbljbelaaGreatDoor
