/-
  fault.Path AND fault.Under, slices.Contains AND slices.Index at texts, at every error that a law makes. Conditions: errors.errorType holds the handle of the type error, and no more than a thousand steps.
  slices.Index AND slices.Contains at texts, fault.Under, and castellanref01.Texts: what is found among texts, and whether two lists of texts are the same. Conditions: the slices' cells hold the texts, and no more than a thousand of them.
-/
import Derived.Test.YthoeajiojdfgdaaDoorME
import Derived.Deep.QuietTactic
import Derived.BigQuiet
import Derived.WalkSmall
namespace Go.Proofs.YthoeajiojdfgdaaDoor
open Go.RowKit Go.Extern.Stop Go.Stop Go.Extern

theorem info9 : (Tryd.prog.info? 9).map (fun i => (i.zero, i.size, i.bytes)) = some (some (.string ByteArray.empty), 1, 16) := by kernel_rfl

/-- What was being done at each step, as cells. -/
def sv (l : List (ByteArray × Int)) : List Value := l.map fun s => Value.string s.1
theorem sv_snoc (l : List (ByteArray × Int)) (k : Nat) (hk : k < l.length) : sv (l.take (k + 1)) = sv (l.take k) ++ [.string l[k].1] := by
  rw [List.take_succ_eq_append_getElem hk]
  simp only [sv, List.map_append, List.map_cons, List.map_nil]

theorem path_step {w wr w1 : World} {k : Nat} {l : List (ByteArray × Int)} {v v' : Value} {o o' : Obj} (hk : k < l.length) (hs : w.heap.size ≤ wr.heap.size) (hb : Below w.heap.size w wr)
    (hown : wr.ownsRow w.heap.size 9 1 v k (sv (l.take k)))
    (hown' : w1.ownsRow w.heap.size 9 1 v' (k + 1) ((sv (l.take k)) ++ [.string l[k].1])) (hgrow : ((wr.alloc o).alloc o').grownBy w1 v.ownBlock) :
    w1.ownsRow w.heap.size 9 1 v' (k + 1) (sv (l.take (k + 1))) ∧ Below w.heap.size w w1 ∧ w.heap.size ≤ w1.heap.size := by
  have hB : Below w.heap.size w w1 := (((hb.alloc hs o).alloc (by simp; omega) o').grown hgrow (by simp; omega) (fun j hj => (hown.lt j hj).1))
  exact ⟨by rw [sv_snoc l k hk]; exact hown', hB, hB.size⟩



end Go.Proofs.YthoeajiojdfgdaaDoor
namespace Go.Proofs.YthoeajiojdfgdaaDoor
open Go.RowKit Go.Extern.Stop Go.Stop Go.Extern

/-- The slice v holds the texts ss. -/
def Strs (W : World) (v : Value) (ss : List ByteArray) : Prop :=
  (∃ ao cap, ss = [] ∧ v = .slice ao 0 cap) ∨
  (∃ b o cap, v = .slice (some ⟨b, o, none⟩) ss.length cap ∧ ss.length ≤ cap ∧ ∀ i (h : i < ss.length), W.cell? ⟨b, o + i, none⟩ = some (.string ss[i]))
theorem Strs.below {w w' : World} {v : Value} {ss : List ByteArray} (h : Strs w v ss) (hb : Below w.heap.size w w') : Strs w' v ss := by
  rcases h with h | ⟨b, o, cap, h1, h2, h3⟩
  · exact .inl h
  · refine .inr ⟨b, o, cap, h1, h2, fun i hi => ?_⟩
    rw [hb.cell (p := ⟨b, o + i, none⟩) (block_of_cell (h3 i hi))]
    exact h3 i hi
theorem strs_of_owns {w : World} {base : Nat} {v : Value} {l : List (ByteArray × Int)} (h : w.ownsRow base 9 1 v l.length (sv l)) : Strs w v (l.map (·.1)) := by
  obtain ⟨h1, h2⟩ := h
  rcases h2 with ⟨rfl, hn⟩ | ⟨g, cap, cur, rfl, a2, a3, a4, a5, a6, a7⟩
  · exact .inl ⟨_, _, by rw [List.length_eq_zero_iff] at hn; rw [hn]; rfl, rfl⟩
  · refine .inr ⟨g, 0, cap, by simp, by simpa using a4, fun i hi => ?_⟩
    have hi' : i < l.length := by simpa using hi
    have e1 : (cur.toList.take (l.length * 1))[i]? = (sv l)[i]? := by rw [a7]
    rw [List.getElem?_take_of_lt (by omega)] at e1
    have e2 : (sv l)[i]? = some (.string (l.map (·.1))[i]) := by simp [sv, List.getElem?_eq_getElem hi']
    rw [e2] at e1
    simp only [World.cell?, a3]
    simpa using e1

/-- Is s one of these? -/
def hasB (ss : List ByteArray) (s : ByteArray) : Bool := ss.any fun t => s.toList == t.toList
theorem has_no {ss : List ByteArray} {s : ByteArray} (h : ∀ j (hj : j < ss.length), (s.toList == ss[j].toList) = false) : hasB ss s = false := by
  simp only [hasB, List.any_eq_false]
  intro t ht
  obtain ⟨j, hj, rfl⟩ := List.getElem_of_mem ht
  simp [h j hj]
theorem has_yes {ss : List ByteArray} {s : ByteArray} {j : Nat} (hj : j < ss.length) (h : (s.toList == ss[j].toList) = true) : hasB ss s = true := by
  simp only [hasB, List.any_eq_true]
  exact ⟨_, List.getElem_mem hj, h⟩




end Go.Proofs.YthoeajiojdfgdaaDoor
