/-
  slices.Index AND slices.Contains at texts, fault.Under, and castellanref01.Texts: what is found among texts, and whether two lists of texts are the same. Conditions: the slices' cells hold the texts, and no more than a thousand of them.
-/
import Derived.Test.YthoeajiojdfgdaaDoorPathc
import Derived.Deep.QuietTactic
import Derived.BigQuiet
import Derived.WalkSmall
namespace Go.Proofs.YthoeajiojdfgdaaDoor
open Go.RowKit Go.Extern.Stop Go.Stop Go.Extern

/-- The slice v holds the texts ss. -/
def Strs (W : World) (v : Value) (ss : List ByteArray) : Prop :=
  (∃ ao cap, ss = [] ∧ v = .slice ao 0 cap) ∨
  (∃ b o cap, v = .slice (some ⟨b, o, none⟩) ss.length cap ∧ ss.length ≤ cap ∧ ∀ i (h : i < ss.length), W.cell? ⟨b, o + i, none⟩ = some (.string ss[i]))
theorem Strs.below {w w' : World} {v : Value} {ss : List ByteArray} (h : Strs w v ss) (hb : Below w.heap.size w w') : Strs w' v ss := by
  rcases h with h | ⟨b, o, cap, h1, h2, h3⟩
  · exact .inl h
  · refine .inr ⟨b, o, cap, h1, h2, fun i hi => ?_⟩
    rw [hb.cell (p := ⟨b, o + i, none⟩) (block_of_cell (h3 i hi))]
    exact h3 i hi
theorem strs_of_owns {w : World} {base : Nat} {v : Value} {l : List (ByteArray × Int)} (h : w.ownsRow base 9 1 v l.length (sv l)) : Strs w v (l.map (·.1)) := by
  obtain ⟨h1, h2⟩ := h
  rcases h2 with ⟨rfl, hn⟩ | ⟨g, cap, cur, rfl, a2, a3, a4, a5, a6, a7⟩
  · exact .inl ⟨_, _, by rw [List.length_eq_zero_iff] at hn; rw [hn]; rfl, rfl⟩
  · refine .inr ⟨g, 0, cap, by simp, by simpa using a4, fun i hi => ?_⟩
    have hi' : i < l.length := by simpa using hi
    have e1 : (cur.toList.take (l.length * 1))[i]? = (sv l)[i]? := by rw [a7]
    rw [List.getElem?_take_of_lt (by omega)] at e1
    have e2 : (sv l)[i]? = some (.string (l.map (·.1))[i]) := by simp [sv, List.getElem?_eq_getElem hi']
    rw [e2] at e1
    simp only [World.cell?, a3]
    simpa using e1

/-- Is s one of these? -/
def hasB (ss : List ByteArray) (s : ByteArray) : Bool := ss.any fun t => s.toList == t.toList
theorem has_no {ss : List ByteArray} {s : ByteArray} (h : ∀ j (hj : j < ss.length), (s.toList == ss[j].toList) = false) : hasB ss s = false := by
  simp only [hasB, List.any_eq_false]
  intro t ht
  obtain ⟨j, hj, rfl⟩ := List.getElem_of_mem ht
  simp [h j hj]
theorem has_yes {ss : List ByteArray} {s : ByteArray} {j : Nat} (hj : j < ss.length) (h : (s.toList == ss[j].toList) = true) : hasB ss s = true := by
  simp only [hasB, List.any_eq_true]
  exact ⟨_, List.getElem_mem hj, h⟩




end Go.Proofs.YthoeajiojdfgdaaDoor
