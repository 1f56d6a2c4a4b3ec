/-
  THE DOCUMENT's NEXT NUMBER (castellanref02.bad, above, num): what is read at a place, and what is wrong first, and where. Conditions: the bytes' cells hold them, and no more than four thousand bytes.
-/
import Derived.Test.YtoioddnlkbjljaaGreatDoorJKWrowa6
namespace Go.Proofs.YtoioddnlkbjljaaGreatDoor
open Go.RowKit

theorem four_cells {u : World} {n : Nat} {x y z t x' y' z' t' : Value} (h0 : u.cell? ⟨n, 0, none⟩ = some x') (h1 : u.cell? ⟨n, 1, none⟩ = some y') (h2 : u.cell? ⟨n, 2, none⟩ = some z') (h3 : u.cell? ⟨n, 3, none⟩ = some t') :
    ((((u.setCell ⟨n, 0, none⟩ x).setCell ⟨n, 1, none⟩ y).setCell ⟨n, 2, none⟩ z).setCell ⟨n, 3, none⟩ t).cell? ⟨n, 0, none⟩ = some x ∧ ((((u.setCell ⟨n, 0, none⟩ x).setCell ⟨n, 1, none⟩ y).setCell ⟨n, 2, none⟩ z).setCell ⟨n, 3, none⟩ t).cell? ⟨n, 1, none⟩ = some y ∧
    ((((u.setCell ⟨n, 0, none⟩ x).setCell ⟨n, 1, none⟩ y).setCell ⟨n, 2, none⟩ z).setCell ⟨n, 3, none⟩ t).cell? ⟨n, 2, none⟩ = some z ∧ ((((u.setCell ⟨n, 0, none⟩ x).setCell ⟨n, 1, none⟩ y).setCell ⟨n, 2, none⟩ z).setCell ⟨n, 3, none⟩ t).cell? ⟨n, 3, none⟩ = some t := by
  refine ⟨?_, ?_, ?_, ?_⟩
  · iterate 3 rw [World.cell?_setCell_other _ _ _ _ (by simp)]
    exact World.cell?_setCell_same _ _ _ h0
  · iterate 2 rw [World.cell?_setCell_other _ _ _ _ (by simp)]
    refine World.cell?_setCell_same _ _ _ (u := y') ?_
    rw [World.cell?_setCell_other _ _ _ _ (by simp)]
    exact h1
  · rw [World.cell?_setCell_other _ _ _ _ (by simp)]
    refine World.cell?_setCell_same _ _ _ (u := z') ?_
    iterate 2 rw [World.cell?_setCell_other _ _ _ _ (by simp)]
    exact h2
  · refine World.cell?_setCell_same _ _ _ (u := t') ?_
    iterate 3 rw [World.cell?_setCell_other _ _ _ _ (by simp)]
    exact h3

end Go.Proofs.YtoioddnlkbjljaaGreatDoor
