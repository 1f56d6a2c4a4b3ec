/-
  THE DOCUMENT's NEXT THING (castellanref02.Read), out of what its num, text and row tell. Conditions: the bytes' cells hold them, no more than four thousand.
  THE DOCUMENT's NEXT THING, WHATEVER IS ASKED: the same function 'askS' of the bytes that a reader's answers are. Conditions: the bytes' cells hold them, no more than four thousand.
  A CURSOR (castellanref05.Cursor): its cells, and what its methods read: what the mathematics says. Conditions: its bytes' cells hold them; no more than four thousand bytes.
-/
import Derived.Test.YtoioddnlkbjljaaGreatDoorJKRecRdaa5
import Derived.Test.YtoioddnlkbjljaaGreatDoorJKRecChka2
import Derived.Test.YtoioddnlkbjljaaGreatDoorJKRefTextba2
import Derived.Test.YtoioddnlkbjljaaGreatDoorJKFrameReca6
import Derived.Deep.RegionHeld3
namespace Go.Proofs.YtoioddnlkbjljaaGreatDoor
open Go.RowKit

end Go.Proofs.YtoioddnlkbjljaaGreatDoor
namespace Go.Proofs.YtoioddnlkbjljaaGreatDoor
open Go.RowKit

end Go.Proofs.YtoioddnlkbjljaaGreatDoor
namespace Go.Proofs.YtoioddnlkbjljaaGreatDoor
open Go.RowKit

def whS (s : Gs) : Int := if s.c = 0 then 0 else (s.pt : Int)
/-- The block p is a cursor over the bytes v, in the state s. -/
structure CuG (W : World) (p : Nat) (v : Value) (s : Gs) : Prop where
  c0 : W.cell? ⟨p, 0, none⟩ = some v
  c1 : W.cell? ⟨p, 1, none⟩ = some (.int .i64 s.pt)
  c2 : W.cell? ⟨p, 2, none⟩ = some (.int .i64 s.c)
  c3 : W.cell? ⟨p, 3, none⟩ = some (.string s.op)
  c4 : W.cell? ⟨p, 4, none⟩ = some (.int .i64 (whS s))
  fz : ∀ i, W.frozen? ⟨p, i, none⟩ = false
theorem CuG.below {W W' : World} {p : Nat} {v : Value} {s : Gs} (h : CuG W p v s) (hb : Below W.heap.size W W') : CuG W' p v s :=
  have hl := cell_block h.c0
  ⟨(hb.cell (p := ⟨p, 0, none⟩) hl).trans h.c0, (hb.cell (p := ⟨p, 1, none⟩) hl).trans h.c1, (hb.cell (p := ⟨p, 2, none⟩) hl).trans h.c2, (hb.cell (p := ⟨p, 3, none⟩) hl).trans h.c3, (hb.cell (p := ⟨p, 4, none⟩) hl).trans h.c4, fun i => (hb.frozen (p := ⟨p, i, none⟩) hl).trans (h.fz i)⟩
end Go.Proofs.YtoioddnlkbjljaaGreatDoor
