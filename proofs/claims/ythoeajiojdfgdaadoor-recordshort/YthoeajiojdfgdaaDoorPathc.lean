/-
  fault.Path AND fault.Under, slices.Contains AND slices.Index at texts, at every error that a law makes. Conditions: errors.errorType holds the handle of the type error, and no more than a thousand steps.
-/
import Derived.Test.YthoeajiojdfgdaaDoorMidc
namespace Go.Proofs.YthoeajiojdfgdaaDoor
open Go.RowKit Go.Extern.Stop Go.Stop Go.Extern

theorem info9 : (Tryd.prog.info? 9).map (fun i => (i.zero, i.size, i.bytes)) = some (some (.string ByteArray.empty), 1, 16) := by kernel_rfl

/-- What was being done at each step, as cells. -/
def sv (l : List (ByteArray × Int)) : List Value := l.map fun s => Value.string s.1
theorem sv_snoc (l : List (ByteArray × Int)) (k : Nat) (hk : k < l.length) : sv (l.take (k + 1)) = sv (l.take k) ++ [.string l[k].1] := by
  rw [List.take_succ_eq_append_getElem hk]
  simp only [sv, List.map_append, List.map_cons, List.map_nil]

theorem path_step {w wr w1 : World} {k : Nat} {l : List (ByteArray × Int)} {v v' : Value} {o o' : Obj} (hk : k < l.length) (hs : w.heap.size ≤ wr.heap.size) (hb : Below w.heap.size w wr)
    (hown : wr.ownsRow w.heap.size 9 1 v k (sv (l.take k)))
    (hown' : w1.ownsRow w.heap.size 9 1 v' (k + 1) ((sv (l.take k)) ++ [.string l[k].1])) (hgrow : ((wr.alloc o).alloc o').grownBy w1 v.ownBlock) :
    w1.ownsRow w.heap.size 9 1 v' (k + 1) (sv (l.take (k + 1))) ∧ Below w.heap.size w w1 ∧ w.heap.size ≤ w1.heap.size := by
  have hB : Below w.heap.size w w1 := (((hb.alloc hs o).alloc (by simp; omega) o').grown hgrow (by simp; omega) (fun j hj => (hown.lt j hj).1))
  exact ⟨by rw [sv_snoc l k hk]; exact hown', hB, hB.size⟩



end Go.Proofs.YthoeajiojdfgdaaDoor
