/-
  THE ENTRIES OF internal/reflectlite THAT READ OR WRITE MEMORY, at this translation: (Value).IsNil, (Value).Elem and (Value).Set at the Values that errors.As makes. Conditions: what the cells that are read hold, and that those that are written are there and not frozen.
-/
import Derived.Test.YtiedbchlgcgdeaaFacts
namespace Go.Proofs.Ytiedbchlgcgdeaa
open Go.RowKit Go.Extern.Stop Go.Stop Go.Extern

theorem set32 (ta b : Addr) (e old : Value) (W : World) (hb : W.cell? b = some e) (ht : W.cell? ta = some old) (hf : W.frozen? ta = false) (hi : ∃ n, e = .int .i64 n) :
    (ReflectliteValue.set #[.agg #[.pointer (some ⟨0, 46, none⟩), .pointer (some ta), .int .u64 386], .agg #[.pointer (some ⟨0, 46, none⟩), .pointer (some b), .int .u64 130]]).run Try.prog W
      = .ok (.tuple #[]) (W.setCell ta e) := by
  obtain ⟨n, rfl⟩ := hi
  delta ReflectliteValue.set ReflectliteValue.set.match_3
  simp only [List.size_toArray, List.length_cons, List.length_nil, Nat.zero_add, Nat.reduceAdd, dite_true, Array.getLit, List.getElem_toArray, List.getElem_cons_zero, List.getElem_cons_succ, Sem.run_bind, parts32a, parts32, Result.andThen]
  simp [ReflectliteValue.flagAddr, loadVar, isAgg, underlying, Try.underlying46, hb, Result.andThen, direct32, storeVar, Value.cells, storeCells, Addr.add]
  rw [run_store Try.prog W ta _ _ (by rfl)]
  simp [ht, hf]
theorem set60 (ta b : Nat) (op : ByteArray) (at' : Int) (z x' y' z' : Value) (W : World) (hb0 : W.cell? ⟨b, 0, none⟩ = some (.string op)) (hb1 : W.cell? ⟨b, 1, none⟩ = some (.int .i64 at')) (hb2 : W.cell? ⟨b, 2, none⟩ = some z)
    (hz : z.oneCell' = true)
    (ht0 : W.cell? ⟨ta, 0, none⟩ = some x') (ht1 : W.cell? ⟨ta, 1, none⟩ = some y') (ht2 : W.cell? ⟨ta, 2, none⟩ = some z')
    (hf0 : W.frozen? ⟨ta, 0, none⟩ = false) (hf1 : W.frozen? ⟨ta, 1, none⟩ = false) (hf2 : W.frozen? ⟨ta, 2, none⟩ = false) :
    (ReflectliteValue.set #[.agg #[.pointer (some ⟨0, 74, none⟩), .pointer (some ⟨ta, 0, none⟩), .int .u64 409], .agg #[.pointer (some ⟨0, 74, none⟩), .pointer (some ⟨b, 0, none⟩), .int .u64 153]]).run Try.prog W
      = .ok (.tuple #[]) (((W.setCell ⟨ta, 0, none⟩ (.string op)).setCell ⟨ta, 1, none⟩ (.int .i64 at')).setCell ⟨ta, 2, none⟩ z) := by
  delta ReflectliteValue.set ReflectliteValue.set.match_3
  simp only [List.size_toArray, List.length_cons, List.length_nil, Nat.zero_add, Nat.reduceAdd, dite_true, Array.getLit, List.getElem_toArray, List.getElem_cons_zero, List.getElem_cons_succ, Sem.run_bind, parts60a, parts60, Result.andThen]
  simp [ReflectliteValue.flagAddr, loadVar, isAgg, underlying, Try.underlying74, hb0, hb1, hb2, Result.andThen, direct60, storeVar, Value.cells, storeCells, Addr.add, loadCells, loadCellsFrom]
  have e1 : (W.setCell ⟨ta, 0, none⟩ (.string op)).cell? ⟨ta, 1, none⟩ = some y' := by rw [World.cell?_setCell_other _ _ _ _ (by simp)]; exact ht1
  have e2 : ((W.setCell ⟨ta, 0, none⟩ (.string op)).setCell ⟨ta, 1, none⟩ (.int .i64 at')).cell? ⟨ta, 2, none⟩ = some z' := by rw [World.cell?_setCell_other _ _ _ _ (by simp), World.cell?_setCell_other _ _ _ _ (by simp)]; exact ht2
  rw [run_store Try.prog W _ _ _ (by rfl)]
  simp only [ht0, hf0]
  simp only [Bool.false_eq_true, if_false]
  rw [run_store Try.prog _ _ _ _ (by rfl)]
  simp [e1, hf1]
  rw [run_store Try.prog _ _ _ _ hz]
  simp [e2, hf2]
end Go.Proofs.Ytiedbchlgcgdeaa
