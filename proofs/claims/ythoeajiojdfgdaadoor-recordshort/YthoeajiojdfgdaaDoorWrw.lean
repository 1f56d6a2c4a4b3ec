/-
  A ROW OF BYTES THAT IS WRITTEN ON, WITH ALL ITS CELLS (those behind its length, too): what an append leaves of it. Condition: fewer than a million bytes.
-/
import Derived.Test.YthoeajiojdfgdaaDoorWtext
import Derived.Test.YthoeajiojdfgdaaDoorRwa
import Derived.Laws.CopyOwn
import Derived.Deep.AppendSrc
namespace Go.Proofs.YthoeajiojdfgdaaDoor
open Go.RowKit

end Go.Proofs.YthoeajiojdfgdaaDoor
