/-
  THE EXAMPLE (castellanlaw05.works): true. Condition: errors.errorType is laid.
-/
import Derived.Test.YthoeajiojdfgdaaGreatDoorRecRdb
import Derived.Test.YthoeajiojdfgdaaGreatDoorRecSmb
import Derived.Test.YthoeajiojdfgdaaGreatDoorMF
import Derived.WalkMore
namespace Go.Proofs.YthoeajiojdfgdaaGreatDoor
open Go.RowKit

theorem Bx.range {p b : Nat} {w w' : World} {x : Value} {xs : List Value} (h : Bx p w w') (hp : b ≠ p) (hr : w.rangeAt b 0 (x :: xs)) : w'.rangeAt b 0 (x :: xs) := fun j y hy =>
  (h.cell (cell_block (hr 0 _ rfl) : b < w.heap.size) hp).trans (hr j y hy)
theorem RwsR.bx {ok : Nat → Prop} {p : Nat} {W W' : World} {r : Rc} {a14 a15 a16 a17 : Option Addr} {c14 c15 c16 c17 : Nat} (h : RwsR ok W r a14 a15 a16 a17 c14 c15 c16 c17) (hb : Bx p W W') (hk : ∀ b, ok b → b ≠ p) : RwsR ok W' r a14 a15 a16 a17 c14 c15 c16 c17 :=
  ⟨h.h14.imp (fun _ _ q => q) (fun b _ hl q => hb.cell hl (hk b q)), h.h15.imp (fun _ _ q => q) (fun b _ hl q => hb.cell hl (hk b q)), h.h16.imp (fun _ _ q => q) (fun b _ hl q => hb.cell hl (hk b q)), h.h17.imp (fun _ _ q => q) (fun b _ hl q => hb.cell hl (hk b q))⟩
theorem IsR.bx {ok : Nat → Prop} {p : Nat} {W W' : World} {v : Value} {r : Rc} (h : IsR ok W v r) (hb : Bx p W W') (hk : ∀ b, ok b → b ≠ p) : IsR ok W' v r := by
  obtain ⟨a14, a15, a16, a17, c14, c15, c16, c17, h1, h2⟩ := h
  exact ⟨a14, a15, a16, a17, c14, c15, c16, c17, h1, h2.bx hb hk⟩
def rEx : Rc := ⟨8, 0, 0, 5, 2, 1, 0, 0, 0, false, [], [], [], [], [1, 2, 3], [1], [], []⟩
def rBad : Rc := ⟨7, 0, 0, 1, 0, 0, 0, 0, 0, false, [65], [], [], [], [], [], [], []⟩
theorem rEx_chk : (chk rEx).2.2 = 0 := by decide
theorem rEx_put : putL rEx = [8, 5, 2, 1, 3, 1, 2, 3, 1, 1] := by decide
theorem rBad_chk : chk rBad = (⟨#[110, 97, 109, 101]⟩, 1, 1) := by rfl
theorem rEx_read : readG [8, 5, 2, 1, 3, 1, 2, 3, 1, 1] (okS 0) = (okS 10, rEx) := by
  have := read_back rEx rEx_chk [] []
  rw [rEx_put] at this
  simpa using this
theorem rEx_byt : Byt [8, 5, 2, 1, 3, 1, 2, 3, 1, 1] := by unfold Byt; decide
end Go.Proofs.YthoeajiojdfgdaaGreatDoor
