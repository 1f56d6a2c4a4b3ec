/-
  WHERE A TERM ENDS, AS THE DOCUMENT SAYS (castellanref13.EndOf, Parted, Keep, first). Condition: the spans' cells hold them; no more than a hundred thousand.
-/
import Derived.Test.YtkihdceieljkgaaDoorSpC
namespace Go.Proofs.YtkihdceieljkgaaDoor
open Go.RowKit

def endV : Option (Int × Int) → Value
  | none => .tuple #[.int .i64 0, .int .i64 0, .bool false]
  | some r => .tuple #[.int .i64 r.1, .int .i64 r.2, .bool true]
/-- Where the loop stands: the spans up to k are left, and the end is the next one's start. -/
def nextE (l : List Spn) (e : Int) (k : Nat) : Int := if k = l.length then e else (l[k]?.getD (0, 0)).2
theorem end_on {l : List Spn} {t e : Int} {m : Nat} (hm : m < l.length) (h : endL l t e = endL (l.take (m + 1)) t (nextE l e (m + 1))) (ht : ¬ (l[m]).1 ≤ t) : endL l t e = endL (l.take m) t (nextE l e m) := by
  rw [h, endL_step l m hm, if_neg ht]
  congr 1
  unfold nextE
  rw [if_neg (by omega), List.getElem?_eq_getElem hm]
  rfl
theorem end_off {l : List Spn} {t e : Int} {m : Nat} (hm : m < l.length) (h : endL l t e = endL (l.take (m + 1)) t (nextE l e (m + 1))) (ht : (l[m]).1 ≤ t) : endL l t e = some ((l[m]).1, nextE l e (m + 1)) := by
  rw [h, endL_step l m hm, if_pos ht]
end Go.Proofs.YtkihdceieljkgaaDoor
