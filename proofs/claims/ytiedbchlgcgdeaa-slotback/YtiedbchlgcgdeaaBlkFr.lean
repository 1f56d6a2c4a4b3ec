/-
  A BLOCK IS FREED, A STORE IS WIPED (block.Free, Wipe): what the mathematics says. Condition: fewer than thirty thousand blocks and writes.
-/
import Derived.Test.YtiedbchlgcgdeaaBlkQ
namespace Go.Proofs.Ytiedbchlgcgdeaa
open Go.RowKit

theorem al_b0 (W : World) (o : Obj) : Below W.heap.size W (W.alloc o) := (Below.refl _ _).alloc (Nat.le_refl _) o
def wfr (a : Int) : Wr := ⟨a, true, zer⟩
theorem run_buildF (a : Int) (w : World) : (Instr.build 70 #[(0, .int .i64 a), (1, .bool true)]).run Try.prog w = .ok (.agg (wcl (wfr a)).toArray) w := by kernel_rfl
theorem run_buildZ (w : World) : (Instr.build 68 #[]).run Try.prog w = .ok (.agg (bv zer).toArray) w := by kernel_rfl
section
variable {ops : Array Oper} {rest : List Oper} {o : Oper} {a : Act} {Q : Exit → Act → World → Prop}
theorem wpList_buildF (w : World) (hg : o.guard = none) (x : Operand) (ho : o.op = .build 70 #[(0, x), (1, .const (.bool true))]) (n : Int) (hx : a.eval x = .int .i64 n) (h : wpList Try.prog ops Q rest (a.put o.dst (.agg (wcl (wfr n)).toArray)) w) : wpList Try.prog ops Q (o :: rest) a w := by
  refine wpList_plain hg fun K hK => ?_
  have hc : a.eval (.const (.bool true)) = .bool true := rfl
  unfold Oper.wp
  simp only [execOp, ho, List.map_toArray, List.map_cons, List.map_nil, hx, hc]
  simp [run_buildF, Result.andThen]
  exact hK _ _ h
theorem wpList_buildZ (w : World) (hg : o.guard = none) (ho : o.op = .build 68 #[]) (h : wpList Try.prog ops Q rest (a.put o.dst (.agg (bv zer).toArray)) w) : wpList Try.prog ops Q (o :: rest) a w := by
  refine wpList_plain hg fun K hK => ?_
  unfold Oper.wp
  simp only [execOp, ho, List.map_toArray, List.map_nil]
  simp [run_buildZ, Result.andThen]
  exact hK _ _ h
theorem wpList_putM (w : World) (hg : o.guard = none) (x y z : Operand) (ho : o.op = .mapUpdate 48 x y z) (b : Nat) (n : Int) (c : List Int) (l : Cs) (hx : a.eval x = .map (some b)) (hy : a.eval y = .int .i64 n) (hz : a.eval z = .agg (bv c).toArray) (hm : Mp w b l) (hl : Asc l) (hn : l.length < 100000) (ha : Num n)
    (h : ∀ w', Mp w' b (insM n c l) → w.grownBy w' (some b) → wpList Try.prog ops Q rest (a.put o.dst undef) w') : wpList Try.prog ops Q (o :: rest) a w := by
  refine wpList_plain hg fun K hK => ?_
  obtain ⟨w', hrun, q1, q2, _⟩ := hm.put hl hn ha c
  unfold Oper.wp
  simp only [execOp, ho, hx, hy, hz]
  simp [hrun, Result.andThen]
  exact hK _ _ (h w' q1 q2)
end
theorem run_clearM {W : World} {b : Nat} {l : Cs} (h : Mp W b l) (ty : TypeId) : ∃ W', (Builtin.clear_ #[48] ty #[.map (some b)]).run Try.prog W = .ok (.tuple #[]) W' ∧ Mp W' b [] ∧ W.grownBy W' (some b) := by
  obtain ⟨es, clock, hb, F, hs, hD⟩ := h
  refine ⟨ChangeMaps.setBlock W b (.map #[] clock), ?_, ⟨#[], clock, ChangeMaps.heap_setBlock_same hb _, ⟨by simp, MapKept.stamped_empty clock, by simp⟩, Nat.le_refl _, rfl⟩, ⟨rfl, rfl, rfl, by simp [ChangeMaps.setBlock], fun i _ hi => ChangeMaps.heap_setBlock_other hb _ (fun e => hi (by rw [e]))⟩⟩
  simp [Builtin.clear_, run_underlying Try.underlying48, MapKept.run_getObj_map hb, MapKept.run_setObj_map _ hb, ChangeMaps.setBlock, Result.andThen]
section
variable {d bS bT : Nat} {u : Value} {s : Dst}
def frE (a : Int) : Option (List (ByteArray × Int) × Int) := if 0 ≤ a ∧ a ≤ 1073741824 then none else some ([(opBlock, a)], 2)
def frS (s : Dst) (a : Int) : Dst := if 0 ≤ a ∧ a ≤ 1073741824 then ⟨s.room, s.cs, s.lo ++ [wfr a]⟩ else s
theorem frS_ok {s : Dst} (h : s.Ok) (a : Int) : (frS s a).Ok := by
  unfold frS
  split
  · rename_i ha
    refine ⟨h.asc, h.cb, fun w hw => ?_⟩
    rcases List.mem_append.1 hw with e | e
    · exact h.lb w e
    · simp at e
      rw [e]
      exact ⟨ha, blk_zer, fun _ => rfl⟩
  · exact h
theorem frS_wt (s : Dst) (a : Int) : (frS s a).wt ≤ s.wt + 1 := by
  unfold frS
  split
  · simp [Dst.wt]; omega
  · omega
end
end Go.Proofs.Ytiedbchlgcgdeaa
