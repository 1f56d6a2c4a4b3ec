/-
  AN APPEND OF ANY BYTES, NONE AMONG THEM, TO A ROW OF ITS OWN; the document's writers as slices. Condition: fewer than a million bytes.
-/
import Derived.Test.YthoeajiojdfgdaaGreatDoorMJ
import Derived.Test.YthoeajiojdfgdaaGreatDoorMH
namespace Go.Proofs.YthoeajiojdfgdaaGreatDoor
open Go.RowKit

theorem numL_max (n : Int) : (numL n).length ≤ maxLen := by have := numL_le n; unfold maxLen; omega
theorem intL_max (n : Int) : (intL n).length ≤ maxLen := by have := intL_le n; unfold maxLen; omega
theorem refNum_sl (n : Int) (w : World) (h0 : 0 ≤ n) : Calls Tryz.prog 103 #[.int .u64 n] w fun e w' => ∃ v, e = .returned v ∧ Sl bc w' v (numL (capN n)) ∧ Below w.heap.size w w' := by
  refine (refNum_any n w h0).mono ?_
  rintro e w' ⟨rfl, rfl⟩
  exact ⟨_, rfl, sl_new w _ (numL_max _), (Below.refl _ _).alloc (Nat.le_refl _) _⟩
theorem refInt_sl (n : Int) (w : World) (hn : n ≤ 9223372036854775807) : Calls Tryz.prog 85 #[.int .i64 n] w fun e w' => ∃ v, e = .returned v ∧ Sl bc w' v (intL n) ∧ Below w.heap.size w w' := by
  refine (refInt_any n w hn).mono ?_
  rintro e w' ⟨rfl, rfl⟩
  exact ⟨_, rfl, sl_new w _ (intL_max _), (Below.refl _ _).alloc (Nat.le_refl _) _⟩
/-- A flag as a byte. -/
def flB (is : Bool) : Int := if is then 1 else 0
theorem refFlag_sl (is : Bool) (w : World) : Calls Tryz.prog 58 #[.bool is] w fun e w' => ∃ v, e = .returned v ∧ Sl bc w' v [flB is] ∧ Below w.heap.size w w' := by
  refine (refFlag_any is w).mono ?_
  rintro e w' ⟨rfl, rfl⟩
  exact ⟨_, rfl, sl_new w _ (by simp [maxLen]), (Below.refl _ _).alloc (Nat.le_refl _) _⟩
theorem refText_sl (v : Value) (l : List Int) (w : World) (hv : Sl bc w v l) (hl : l.length ≤ 4000) : Calls Tryz.prog 86 #[v] w fun e w' => ∃ v, e = .returned v ∧ Sl bc w' v (intL l.length ++ l) ∧ Below w.heap.size w w' := by
  refine (refText_any v l w hv hl).mono ?_
  rintro e w' ⟨u, rfl, hown, hb⟩
  exact ⟨u, rfl, sl_of_owns (base := w.heap.size) (e := 5) (by simpa [bv_eq] using hown), hb⟩
theorem refRow_sl (v : Value) (l : List Int) (w : World) (hv : Sl ic w v l) (hl : l.length ≤ 4000) (hi64 : ∀ i (h : i < l.length), l[i] ≤ 9223372036854775807) : Calls Tryz.prog 87 #[v] w fun e w' => ∃ v, e = .returned v ∧ Sl bc w' v (intL l.length ++ rowL l) ∧ Below w.heap.size w w' := by
  refine (refRow_any v l w hv hl hi64).mono ?_
  rintro e w' ⟨u, rfl, hown, hb⟩
  exact ⟨u, rfl, sl_of_owns (base := w.heap.size) (e := 5) (by simpa [bv_eq] using hown), hb⟩
end Go.Proofs.YthoeajiojdfgdaaGreatDoor
