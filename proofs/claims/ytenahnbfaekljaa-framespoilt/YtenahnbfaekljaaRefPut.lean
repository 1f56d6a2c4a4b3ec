/-
  THE DOCUMENT's TEXTS AND ROWS AS BYTES (castellanref02.Text, Row), and its Same and Ints, where both lists are the same. Conditions: the slices' cells hold the lists, and no more than four thousand elements.
-/
import Derived.Test.YtenahnbfaekljaaRefNum
import Derived.Test.YtenahnbfaekljaaSameB
import Derived.Test.YtenahnbfaekljaaSlc
import Derived.Deep.QuietTactic
import Derived.BigQuiet
namespace Go.Proofs.Ytenahnbfaekljaa
open Go.RowKit

theorem info5 : (Try.prog.info? 5).map (fun i => (i.zero, i.size, i.bytes)) = some (some (.int .u8 0), 1, 1) := by kernel_rfl




/-- A row's bytes. -/
def rowL (l : List Int) : List Int := l.flatMap intL
theorem rowL_snoc (l : List Int) (j : Nat) (h : j < l.length) : rowL (l.take (j + 1)) = rowL (l.take j) ++ intL l[j] := by
  rw [List.take_succ_eq_append_getElem h]
  simp only [rowL, List.flatMap_append, List.flatMap_cons, List.flatMap_nil, List.append_nil]
theorem rowL_le (l : List Int) : (rowL l).length ≤ 8 * l.length := by
  induction l with
  | nil => simp [rowL]
  | cons a l ih =>
    have h1 := intL_le a
    have h2 : rowL (a :: l) = intL a ++ rowL l := by simp [rowL]
    rw [h2, List.length_append, List.length_cons]
    omega





end Go.Proofs.Ytenahnbfaekljaa
