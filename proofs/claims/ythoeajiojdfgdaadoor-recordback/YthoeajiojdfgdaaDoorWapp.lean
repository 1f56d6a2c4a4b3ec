/-
  AN APPEND OF ANY BYTES, NONE AMONG THEM, TO A ROW OF ITS OWN; the document's writers as slices. Condition: fewer than a million bytes.
-/
import Derived.Test.YthoeajiojdfgdaaDoorMJ
import Derived.Test.YthoeajiojdfgdaaDoorMH
namespace Go.Proofs.YthoeajiojdfgdaaDoor
open Go.RowKit

theorem numL_max (n : Int) : (numL n).length ≤ maxLen := by have := numL_le n; unfold maxLen; omega
theorem intL_max (n : Int) : (intL n).length ≤ maxLen := by have := intL_le n; unfold maxLen; omega
/-- A flag as a byte. -/
def flB (is : Bool) : Int := if is then 1 else 0
end Go.Proofs.YthoeajiojdfgdaaDoor
