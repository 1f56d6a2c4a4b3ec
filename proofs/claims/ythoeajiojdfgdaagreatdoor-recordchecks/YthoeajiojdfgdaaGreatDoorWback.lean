/-
  WHAT IS WRITTEN IS READ AS WHAT IT WAS, on lists alone (no program in sight): numbers, texts, rows. Conditions: bytes are bytes, numbers are in their bounds.
-/
import Derived.Test.YthoeajiojdfgdaaGreatDoorWrow
import Derived.Test.YthoeajiojdfgdaaGreatDoorMH
namespace Go.Proofs.YthoeajiojdfgdaaGreatDoor
open Go.RowKit

theorem intL_num {k : Int} (h0 : 0 ≤ k) (h1 : k ≤ 4611686018427387903) : intL k = numL k := by
  rw [intL, if_neg (by omega), show capN k = k from if_neg (by omega)]
theorem intL_byt (k : Int) : Byt (intL k) := by
  unfold intL
  split
  · unfold Byt; decide
  · unfold capN
    split
    · exact numL_byt (by omega) (by omega)
    · exact numL_byt (by omega) (by omega)
theorem Byt.app {a b : List Int} (h : Byt a) (k : Byt b) : Byt (a ++ b) := fun x hx => (List.mem_append.1 hx).elim (h x) (k x)
theorem rowL_byt (l : List Int) : Byt (rowL l) := by
  intro x hx
  obtain ⟨y, _, hy⟩ := List.mem_flatMap.1 hx
  exact intL_byt y x hy
/-- Read where it was written. -/
theorem numS_back (P Q : List Int) {k most : Int} (h0 : 0 ≤ k) (h1 : k ≤ 4611686018427387903) (hm : k ≤ most) : numS ((P ++ (intL k ++ Q)).drop P.length) most = (0, (intL k).length, k) := by
  rw [List.drop_left, intL_num h0 h1]
  exact numS_numL Q h0 h1 hm
theorem abv_pos {m : Int} (h : 0 ≤ m) : abv' m = m := if_neg (by omega)
theorem textS_back (P s Q : List Int) {m : Int} (hs : s.length ≤ 4000) (hm : (s.length : Int) ≤ m) :
    textS (P ++ ((intL s.length ++ s) ++ Q)) P.length m = (0, ⟨#[110, 117, 109]⟩, (P ++ (intL s.length ++ s)).length, s) := by
  unfold textS
  rw [abv_pos (by omega), List.append_assoc (intL _), numS_back P (s ++ Q) (by omega) (by omega) hm]
  simp only [if_true, Int.toNat_natCast]
  rw [if_neg (by simp only [List.length_append]; omega)]
  refine congrArg _ (congrArg _ (Prod.ext ?_ ?_))
  · simp only [List.length_append]; omega
  · show (List.drop (P.length + (intL s.length).length) (P ++ (intL s.length ++ (s ++ Q)))).take s.length = s
    rw [← List.length_append, ← List.append_assoc P, List.drop_left, List.take_left]
theorem rowL_split (l : List Int) (j : Nat) (h : j < l.length) : rowL l = rowL (l.take j) ++ (intL l[j] ++ rowL (l.drop (j + 1))) := by
  have e : l = l.take j ++ (l[j] :: l.drop (j + 1)) := by rw [← List.drop_eq_getElem_cons h, List.take_append_drop]
  refine (congrArg rowL e).trans ?_
  simp only [rowL, List.flatMap_append, List.flatMap_cons]
theorem rowI_back (P l Q : List Int) {most : Int} (h : ∀ i (hi : i < l.length), 0 ≤ l[i] ∧ l[i] ≤ 4611686018427387903 ∧ l[i] ≤ most) (j : Nat) (hj : j ≤ l.length) :
    rowI (P ++ (rowL l ++ Q)) most P.length j = (0, (P ++ rowL (l.take j)).length, l.take j) := by
  induction j with
  | zero => simp [rowI, rowL]
  | succ j ih =>
    have ih := ih (by omega)
    have hb := h j (by omega)
    have hq : numS ((P ++ (rowL l ++ Q)).drop (P ++ rowL (l.take j)).length) most = (0, (intL l[j]).length, l[j]) := by
      rw [rowL_split l j (by omega)]
      rw [show P ++ (rowL (l.take j) ++ (intL l[j] ++ rowL (l.drop (j + 1))) ++ Q) = (P ++ rowL (l.take j)) ++ (intL l[j] ++ (rowL (l.drop (j + 1)) ++ Q)) by simp [List.append_assoc]]
      exact numS_back _ _ hb.1 hb.2.1 hb.2.2
    have hz : (rowI (P ++ (rowL l ++ Q)) most P.length j).1 = 0 := by rw [ih]
    have hk := rowI_ok (k := (intL l[j]).length) (x := l[j]) hz (by rw [ih]; exact hq)
    rw [hk, ih]
    simp only
    rw [rowL_snoc l j (by omega), List.take_succ_eq_append_getElem (show j < l.length by omega)]
    simp only [List.length_append]
    rw [Nat.add_assoc]
theorem rowS_back (P l : List Int) {m m2 : Int} (hl : l.length ≤ 4000) (hm : (l.length : Int) ≤ m) (hm2 : 0 ≤ m2) (h : ∀ i (hi : i < l.length), 0 ≤ l[i] ∧ l[i] ≤ 4611686018427387903 ∧ l[i] ≤ m2) :
    rowS (P ++ (intL l.length ++ rowL l)) P.length m m2 = (0, (P ++ (intL l.length ++ rowL l)).length, l) := by
  unfold rowS
  rw [abv_pos (by omega), abv_pos hm2, numS_back P (rowL l) (by omega) (by omega) hm]
  simp only [if_true, Int.toNat_natCast]
  have := rowI_back (P ++ intL l.length) l [] h l.length (Nat.le_refl _)
  rw [List.append_nil, List.take_length, List.append_assoc, List.length_append] at this
  rw [this]
end Go.Proofs.YthoeajiojdfgdaaGreatDoor
