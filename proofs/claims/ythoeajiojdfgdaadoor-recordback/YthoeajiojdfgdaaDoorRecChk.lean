/-
  WHAT IS WRONG WITH A RECORD FIRST (castellanref05.numbers, Check): as one function of its fields. Conditions: its rows' cells hold them, texts of no more than a thousand letters.
-/
import Derived.Test.YthoeajiojdfgdaaDoorRecBro
namespace Go.Proofs.YthoeajiojdfgdaaDoor
open Go.RowKit

def wr3 (op : ByteArray) (a c : Int) : Value := .agg #[.string op, .int .i64 a, .int .i64 c]
/-- What is wrong with a record's numbers. -/
def numsR (k br ep tp pa le cl se co : Int) : ByteArray × Int × Int :=
  if numB br (hasL k 98) 1 64 = false then (⟨#[98, 114, 111, 107, 101, 114]⟩, br, 2)
  else if numB ep (hasL k 101) 0 1073741824 = false then (⟨#[101, 112, 111, 99, 104]⟩, ep, 2)
  else if numB tp (hasL k 116) (if k = 10 then 0 else 1) 1073741824 = false then (⟨#[116, 111, 112, 105, 99]⟩, tp, 2)
  else if numB pa (hasL k 112) 0 255 = false then (⟨#[112, 97, 114, 116]⟩, pa, 2)
  else if numB le (hasL k 108) 0 64 = false then (⟨#[108, 101, 97, 100, 101, 114]⟩, le, 2)
  else if numB cl (hasL k 97) 1 1073741824 = false ∨ numB se (hasL k 97) 1 1073741824 = false ∨ numB co (hasL k 97) 0 21 = false then (⟨#[97, 115, 107, 101, 114]⟩, cl, 2)
  else (⟨#[]⟩, 0, 0)
/-- Three cells that may be written. -/
structure Fr3 (W : World) (n : Nat) (x y z : Value) : Prop where
  c0 : W.cell? ⟨n, 0, none⟩ = some x
  c1 : W.cell? ⟨n, 1, none⟩ = some y
  c2 : W.cell? ⟨n, 2, none⟩ = some z
  f0 : W.frozen? ⟨n, 0, none⟩ = false
  f1 : W.frozen? ⟨n, 1, none⟩ = false
  f2 : W.frozen? ⟨n, 2, none⟩ = false
theorem Fr3.below {W W' : World} {n : Nat} {x y z : Value} (h : Fr3 W n x y z) (hb : Below W.heap.size W W') : Fr3 W' n x y z :=
  have hl : n < W.heap.size := cell_block h.c0
  ⟨(hb.cell (p := ⟨n, 0, none⟩) hl).trans h.c0, (hb.cell (p := ⟨n, 1, none⟩) hl).trans h.c1, (hb.cell (p := ⟨n, 2, none⟩) hl).trans h.c2, (hb.frozen (p := ⟨n, 0, none⟩) hl).trans h.f0, (hb.frozen (p := ⟨n, 1, none⟩) hl).trans h.f1, (hb.frozen (p := ⟨n, 2, none⟩) hl).trans h.f2⟩
theorem Fr3.set {W : World} {n : Nat} {x y z : Value} (h : Fr3 W n x y z) (x' y' z' : Value) : Fr3 (((W.setCell ⟨n, 0, none⟩ x').setCell ⟨n, 1, none⟩ y').setCell ⟨n, 2, none⟩ z') n x' y' z' := by
  have o : ∀ (v : World) (i j : Nat) (s : Value), ¬ i = j → (v.setCell ⟨n, i, none⟩ s).cell? ⟨n, j, none⟩ = v.cell? ⟨n, j, none⟩ := fun v i j s h => World.cell?_setCell_other _ _ _ _ (fun q => h (congrArg Addr.off q))
  refine ⟨?_, ?_, ?_, by simp [h.f0], by simp [h.f1], by simp [h.f2]⟩
  · rw [o _ _ _ _ (by decide), o _ _ _ _ (by decide)]
    exact World.cell?_setCell_same _ _ _ h.c0
  · rw [o _ _ _ _ (by decide)]
    exact World.cell?_setCell_same _ _ _ (u := y) (by rw [o _ _ _ _ (by decide)]; exact h.c1)
  · exact World.cell?_setCell_same _ _ _ (u := z) (by rw [o _ _ _ _ (by decide), o _ _ _ _ (by decide)]; exact h.c2)
theorem below_set3 {B : Nat} {w W : World} {n : Nat} (hb : Below B w W) (hn : B ≤ n) (x y z : Value) : Below B w (((W.setCell ⟨n, 0, none⟩ x).setCell ⟨n, 1, none⟩ y).setCell ⟨n, 2, none⟩ z) :=
  ((hb.setCell (p := ⟨n, 0, none⟩) hn x).setCell (p := ⟨n, 1, none⟩) hn y).setCell (p := ⟨n, 2, none⟩) hn z
/-- A record's numbers in their cells, and what is wrong, none yet. -/
structure Nm (W : World) (p q : Nat) (k br ep tp pa le cl se co : Int) : Prop where
  c0 : W.cell? ⟨p, 0, none⟩ = some (.int .i64 k)
  c1 : W.cell? ⟨p, 1, none⟩ = some (.int .i64 br)
  c2 : W.cell? ⟨p, 2, none⟩ = some (.int .i64 ep)
  c3 : W.cell? ⟨p, 3, none⟩ = some (.int .i64 tp)
  c4 : W.cell? ⟨p, 4, none⟩ = some (.int .i64 pa)
  c5 : W.cell? ⟨p, 5, none⟩ = some (.int .i64 le)
  c6 : W.cell? ⟨p, 6, none⟩ = some (.int .i64 cl)
  c7 : W.cell? ⟨p, 7, none⟩ = some (.int .i64 se)
  c8 : W.cell? ⟨p, 8, none⟩ = some (.int .i64 co)
  fr : Fr3 W q (.string ⟨#[]⟩) (.int .i64 0) (.int .i64 0)
theorem Nm.drewN {W : World} {p q : Nat} {k br ep tp pa le cl se co : Int} (h : Nm W p q k br ep tp pa le cl se co) (n : Nat) : Nm (W.drewN n) p q k br ep tp pa le cl se co :=
  ⟨h.c0, h.c1, h.c2, h.c3, h.c4, h.c5, h.c6, h.c7, h.c8, ⟨h.fr.c0, h.fr.c1, h.fr.c2, h.fr.f0, h.fr.f1, h.fr.f2⟩⟩
end Go.Proofs.YthoeajiojdfgdaaDoor
