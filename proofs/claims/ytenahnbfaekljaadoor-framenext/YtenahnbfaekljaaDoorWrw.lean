/-
  A ROW OF BYTES THAT IS WRITTEN ON, WITH ALL ITS CELLS (those behind its length, too): what an append leaves of it. Condition: fewer than a million bytes.
-/
import Derived.Test.YtenahnbfaekljaaDoorWtext
import Derived.Test.YtenahnbfaekljaaDoorRwa
import Derived.Laws.CopyOwn
import Derived.Deep.AppendSrc
namespace Go.Proofs.YtenahnbfaekljaaDoor
open Go.RowKit

end Go.Proofs.YtenahnbfaekljaaDoor
