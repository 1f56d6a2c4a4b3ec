/-
  errors.As, by its contracts. At a target of type *Fault: a Fault is found at once and the target is set; a Code and what errors.New makes are not found. Nil has none. Conditions: errors.errorType holds the handle of the type error, and the target's cells are there and not frozen.
-/
import Derived.Test.YtiedbchlgcgdeaaMem
namespace Go.Proofs.Ytiedbchlgcgdeaa
open Go.RowKit Go.Extern.Stop Go.Stop Go.Extern


theorem size_of_handle {w : World} {v : Value} (hg : w.cell? ⟨0, 0, none⟩ = some v) : 0 < w.heap.size := by
  rcases Nat.eq_zero_or_pos w.heap.size with h0 | h
  · simp [World.cell?, h0] at hg
  · exact h
theorem block_of_cell {w : World} {v : Value} {b o : Nat} (hg : w.cell? ⟨b, o, none⟩ = some v) : b < w.heap.size := by
  rcases Nat.lt_or_ge b w.heap.size with h | h
  · exact h
  · simp [World.cell?, Array.getElem?_eq_none h] at hg


end Go.Proofs.Ytiedbchlgcgdeaa
