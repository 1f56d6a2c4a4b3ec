/-
  THE DOCUMENT's BYTES WITH THEIR SUM BEHIND, AND OPENED AGAIN (castellanref03.Put, Open). Conditions: the bytes' cells hold them, no more than ten thousand.
-/
import Derived.Test.YtenahnbfaekljaaRefCrc
import Derived.Test.YtenahnbfaekljaaRwa
namespace Go.Proofs.Ytenahnbfaekljaa
open Go.RowKit

/-- Four bytes of a number, the lowest first. -/
def le4 (s : Nat) : List Int := [((s % 256 : Nat) : Int), ((s / 256 % 256 : Nat) : Int), ((s / 65536 % 256 : Nat) : Int), ((s / 16777216 % 256 : Nat) : Int)]
theorem le4_next (s j : Nat) (h : j < 4) : (le4 s).take (j + 1) = (le4 s).take j ++ [((s / 256 ^ j % 256 : Nat) : Int)] := by
  have : j = 0 ∨ j = 1 ∨ j = 2 ∨ j = 3 := by omega
  rcases this with rfl | rfl | rfl | rfl
  · simp [le4]
  · simp [le4]
  · simp [le4]
  · simp [le4]
theorem crcL_lt (l : List Int) : crcL l < 4294967296 := by unfold crcL; omega
/-- The chapter's Open: the bytes ahead of their sum, or none. -/
def openL (l : List Int) : Option (List Int) := if l.length < 4 then none else if l.take (l.length - 4) ++ le4 (crcL (l.take (l.length - 4))) = l then some (l.take (l.length - 4)) else none
end Go.Proofs.Ytenahnbfaekljaa
