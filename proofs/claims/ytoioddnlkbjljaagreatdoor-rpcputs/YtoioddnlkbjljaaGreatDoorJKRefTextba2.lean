/-
  THE DOCUMENT's NEXT TEXT (castellanref02.text), out of what its num tells: something is wrong; bytes lack; they are there. Conditions: the bytes' cells hold them, no more than four thousand, and the numbers are in their bounds.
  THE DOCUMENT's NEXT ROW (castellanref02.row), out of what its num tells. Conditions: the bytes' cells hold them, no more than four thousand.
-/
import Derived.Test.YtoioddnlkbjljaaGreatDoorJKRecRdaa5
import Derived.Test.YtoioddnlkbjljaaGreatDoorJKRecChka2
import Derived.Test.YtoioddnlkbjljaaGreatDoorJKFrameReca6
namespace Go.Proofs.YtoioddnlkbjljaaGreatDoor
open Go.RowKit

end Go.Proofs.YtoioddnlkbjljaaGreatDoor
namespace Go.Proofs.YtoioddnlkbjljaaGreatDoor
open Go.RowKit

/-- Four cells of a state, and that they may be written. -/
def St4 (W : World) (g : Nat) (a c : Int) (op : ByteArray) (wh : Int) : Prop :=
  (W.cell? ⟨g, 0, none⟩ = some (.int .i64 a) ∧ W.cell? ⟨g, 1, none⟩ = some (.int .i64 c) ∧ W.cell? ⟨g, 2, none⟩ = some (.string op) ∧ W.cell? ⟨g, 3, none⟩ = some (.int .i64 wh)) ∧ ∀ i, W.frozen? ⟨g, i, none⟩ = false
theorem St4.below {W W' : World} {g : Nat} {a c wh : Int} {op : ByteArray} (h : St4 W g a c op wh) (hb : Below W.heap.size W W') : St4 W' g a c op wh := by
  obtain ⟨⟨h0, h1, h2, h3⟩, hf⟩ := h
  have hl : g < W.heap.size := cell_block h0
  exact ⟨⟨(hb.cell (p := ⟨g, 0, none⟩) hl).trans h0, (hb.cell (p := ⟨g, 1, none⟩) hl).trans h1, (hb.cell (p := ⟨g, 2, none⟩) hl).trans h2, (hb.cell (p := ⟨g, 3, none⟩) hl).trans h3⟩, fun i => (hb.frozen (p := ⟨g, i, none⟩) hl).trans (hf i)⟩
theorem St4.grown {W W' : World} {row : Option Nat} {g : Nat} {a c wh : Int} {op : ByteArray} (h : St4 W g a c op wh) (hg : W.grownBy W' row) (hr : ∀ k, row = some k → g < k) : St4 W' g a c op wh := by
  obtain ⟨⟨h0, h1, h2, h3⟩, hf⟩ := h
  have hne : some g ≠ row := fun q => Nat.lt_irrefl _ (hr g q.symm)
  have hbl : W'.heap[g]? = W.heap[g]? := hg.block g (cell_block h0) hne
  exact ⟨⟨(World.cell?_of_block hbl).trans h0, (World.cell?_of_block hbl).trans h1, (World.cell?_of_block hbl).trans h2, (World.cell?_of_block hbl).trans h3⟩, fun i => (World.frozen?_of_block hbl).trans (hf i)⟩
theorem St4.put {W : World} {g : Nat} {a c wh : Int} {op : ByteArray} (h : St4 W g a c op wh) (a' c' : Int) (op' : ByteArray) (wh' : Int) : St4 ((((W.setCell ⟨g, 0, none⟩ (.int .i64 a')).setCell ⟨g, 1, none⟩ (.int .i64 c')).setCell ⟨g, 2, none⟩ (.string op')).setCell ⟨g, 3, none⟩ (.int .i64 wh')) g a' c' op' wh' := by
  obtain ⟨⟨h0, h1, h2, h3⟩, hf⟩ := h
  exact ⟨four_cells h0 h1 h2 h3, fun i => by simp [hf i]⟩
end Go.Proofs.YtoioddnlkbjljaaGreatDoor
