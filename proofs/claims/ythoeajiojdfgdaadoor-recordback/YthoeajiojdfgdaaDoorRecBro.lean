/-
  BROKERS (castellanref05.Brokers, row, name): as functions of lists. Conditions: the numbers' cells hold them, no more than a thousand.
-/
import Derived.Test.YthoeajiojdfgdaaDoorRecHas
import Derived.WalkSmall
namespace Go.Proofs.YthoeajiojdfgdaaDoor
open Go.RowKit

/-- The j-th broker may be, and is none of those ahead. -/
def okJ (l : List Int) (j : Nat) : Bool := decide (1 ≤ l.getD j 0 ∧ l.getD j 0 ≤ 64) && (List.range j).all fun k => decide (¬ l.getD k 0 = l.getD j 0)
def brokB (l : List Int) : Bool := decide (l.length ≤ 7) && (List.range l.length).all (okJ l)
theorem okJ_no {l : List Int} {j : Nat} (h : ¬ (1 ≤ l.getD j 0 ∧ l.getD j 0 ≤ 64)) : okJ l j = false := by
  unfold okJ; rw [decide_eq_false h, Bool.false_and]
theorem okJ_twice {l : List Int} {j k : Nat} (hk : k < j) (h : l.getD k 0 = l.getD j 0) : okJ l j = false := by
  unfold okJ
  rw [show ((List.range j).all fun k => decide (¬ l.getD k 0 = l.getD j 0)) = false by
    rw [List.all_eq_false]
    exact ⟨k, List.mem_range.2 hk, by rw [decide_eq_false (fun q => q h)]; decide⟩, Bool.and_false]
theorem okJ_yes {l : List Int} {j : Nat} (h : 1 ≤ l.getD j 0 ∧ l.getD j 0 ≤ 64) (hk : ∀ k, k < j → ¬ l.getD k 0 = l.getD j 0) : okJ l j = true := by
  unfold okJ
  rw [decide_eq_true h, Bool.true_and, List.all_eq_true]
  intro k hk'
  exact decide_eq_true (hk k (List.mem_range.1 hk'))
theorem brokB_no {l : List Int} {j : Nat} (hj : j < l.length) (h : okJ l j = false) : brokB l = false := by
  unfold brokB
  rw [show (List.range l.length).all (okJ l) = false by
    rw [List.all_eq_false]
    exact ⟨j, List.mem_range.2 hj, by simp [h]⟩, Bool.and_false]
theorem brokB_yes {l : List Int} (h7 : l.length ≤ 7) (h : ∀ j, j < l.length → okJ l j = true) : brokB l = true := by
  unfold brokB
  rw [decide_eq_true h7, Bool.true_and, List.all_eq_true]
  intro j hj
  exact h j (List.mem_range.1 hj)
/-- Nothing but draws of an order. -/
def Qt (w W : World) : Prop := ∃ n, W = w.drewN n
theorem Qt.refl (w : World) : Qt w w := ⟨0, rfl⟩
theorem Qt.drewN {w W : World} (h : Qt w W) (n : Nat) : Qt w (W.drewN n) := by
  obtain ⟨m, rfl⟩ := h
  exact ⟨m + n, by rw [World.drewN_drewN]⟩
theorem Qt.below {w W : World} (h : Qt w W) : Below w.heap.size w W := by
  obtain ⟨m, rfl⟩ := h
  exact below_drewN (Below.refl _ _) m
/-- A call that only reads, as a step of a region that only reads. -/
theorem Calls.quiet_qt {P : Program} {f : FuncId} {args : Array Value} {w : World} {n : Nat} {v : Value} (h : Calls P f args (w.drewN n) fun e w' => e = .returned v ∧ Qt (w.drewN n) w') : Calls P f args (w.drewN n) fun e w'' => e = .returned v ∧ ∃ m, w'' = w.drewN m :=
  Calls.quiet_of h
/-- Brokers that may be, if they are asked for; else none. -/
def rowB (l : List Int) (asks : Bool) : Bool := if asks then brokB l else ((l.length : Int) == 0)
/-- A name, if it is asked for; else nothing. -/
def nameA (S : List UInt8) (asks : Bool) : Bool := if asks then nameB S else S.isEmpty
end Go.Proofs.YthoeajiojdfgdaaDoor
