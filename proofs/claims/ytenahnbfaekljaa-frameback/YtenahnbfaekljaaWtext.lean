/-
  A READER's NEXT FLAG AND TEXT, AND ITS END (wire.Reader.Flag, Text, End; slices.Clone). Conditions: the bytes' cells hold them, no more than ten thousand, and the reader is within them.
-/
import Derived.Test.YtenahnbfaekljaaWnext
import Derived.Test.YtenahnbfaekljaaRwa
namespace Go.Proofs.Ytenahnbfaekljaa
open Go.RowKit

theorem nilB_yes (n cap : Nat) (w : World) : (binOp .eql 26 (.slice none n cap) (.slice none 0 0)).run Try.prog w = .ok (.bool true) w := by kernel_rfl
theorem nilB_no (a : Addr) (n cap : Nat) (w : World) : (binOp .eql 26 (.slice (some a) n cap) (.slice none 0 0)).run Try.prog w = .ok (.bool false) w := by kernel_rfl

/-- The next flag at the head of the bytes r. -/
def flagS (r : List Int) : Int × Nat × Bool := match r with
  | [] => (3, 0, false)
  | x :: _ => if 1 < x then (5, 0, false) else (0, 1, x == 1)
/-- That bytes are left is wrong. -/
def endC (L a : Nat) : Int := if a < L then 5 else 0
end Go.Proofs.Ytenahnbfaekljaa
