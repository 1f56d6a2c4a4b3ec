/-
  THE EXAMPLE (castellanlaw05.works): true. Condition: errors.errorType is laid.
  THE EXAMPLE (castellanlaw05.works): true. Condition: errors.errorType is laid.
-/
import Derived.Test.YtgbcjmpnkejpeaaGreatDoorJKRecRdba4
import Derived.Test.YtgbcjmpnkejpeaaGreatDoorJKRecSmb
import Derived.WalkMore
namespace Go.Proofs.YtgbcjmpnkejpeaaGreatDoor
open Go.RowKit

theorem Bx.range {p b : Nat} {w w' : World} {x : Value} {xs : List Value} (h : Bx p w w') (hp : b ≠ p) (hr : w.rangeAt b 0 (x :: xs)) : w'.rangeAt b 0 (x :: xs) := fun j y hy =>
  (h.cell (cell_block (hr 0 _ rfl) : b < w.heap.size) hp).trans (hr j y hy)
theorem RwsR.bx {ok : Nat → Prop} {p : Nat} {W W' : World} {r : Rc} {a14 a15 a16 a17 : Option Addr} {c14 c15 c16 c17 : Nat} (h : RwsR ok W r a14 a15 a16 a17 c14 c15 c16 c17) (hb : Bx p W W') (hk : ∀ b, ok b → b ≠ p) : RwsR ok W' r a14 a15 a16 a17 c14 c15 c16 c17 :=
  ⟨h.h14.imp (fun _ _ q => q) (fun b _ hl q => hb.cell hl (hk b q)), h.h15.imp (fun _ _ q => q) (fun b _ hl q => hb.cell hl (hk b q)), h.h16.imp (fun _ _ q => q) (fun b _ hl q => hb.cell hl (hk b q)), h.h17.imp (fun _ _ q => q) (fun b _ hl q => hb.cell hl (hk b q))⟩
theorem IsR.bx {ok : Nat → Prop} {p : Nat} {W W' : World} {v : Value} {r : Rc} (h : IsR ok W v r) (hb : Bx p W W') (hk : ∀ b, ok b → b ≠ p) : IsR ok W' v r := by
  obtain ⟨a14, a15, a16, a17, c14, c15, c16, c17, h1, h2⟩ := h
  exact ⟨a14, a15, a16, a17, c14, c15, c16, c17, h1, h2.bx hb hk⟩
end Go.Proofs.YtgbcjmpnkejpeaaGreatDoor
namespace Go.Proofs.YtgbcjmpnkejpeaaGreatDoor
open Go.RowKit

theorem below_bx {B p : Nat} {w w1 w2 : World} (h : Below B w w1) (hb : Bx p w1 w2) (hp : B ≤ p) (hB : B ≤ w1.heap.size) : Below B w w2 :=
  ⟨hb.os.trans h.os, hb.tape.trans h.tape, hb.output.trans h.output, Nat.le_trans h.size hb.size, fun k hk => (hb.block k (by omega) (by omega)).trans (h.block k hk)⟩
end Go.Proofs.YtgbcjmpnkejpeaaGreatDoor
