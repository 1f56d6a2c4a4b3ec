/-
  A ROW OF WRITES GROWS BY ONE: the row of one write, and the append, as steps of a walk. Condition: fewer than a hundred thousand writes.
-/
import Derived.Test.YtiedbchlgcgdeaaBlkW
import Derived.Great.BuildSlice
import Derived.Deep.DeepCutAuto
namespace Go.Proofs.Ytiedbchlgcgdeaa
open Go.RowKit Go.Maps

theorem fold_fill : ∀ (l : List Value) (k : Nat) (z : Array Value), k + l.length = z.size → (l.zipIdx k).foldl (fun cs p => cs.setIfInBounds (0 + p.2) p.1) z = (z.toList.take k ++ l).toArray
  | [], k, z, h => by
    simp at h
    subst h
    have e : List.take z.size z.toList = z.toList := List.take_of_length_le (by simp)
    simp [e]
  | x :: r, k, z, h => by
    have hk : k < z.size := by simp at h; omega
    rw [List.zipIdx_cons, List.foldl_cons, fold_fill r (k + 1) _ (by simp at h ⊢; omega)]
    congr 1
    rw [Nat.zero_add, Array.toList_setIfInBounds, List.take_set]
    have e : z.toList.take (k + 1) = z.toList.take k ++ [z.toList[k]] := List.take_succ_eq_append_getElem (by simpa using hk)
    simp only
    rw [e, List.set_append_right _ _ (by simp; omega)]
    simp [Nat.min_eq_left (Nat.le_of_lt hk)]
theorem fill_one (size : Nat) (z cs : List Value) (hz : z.length = size) (hc : cs.length = size) : Instr.fill (fun i => some (i * size, size)) z.toArray [(0, .agg cs.toArray)] = some cs.toArray := by
  unfold Instr.fill
  simp only [Nat.zero_mul, Value.cells]
  rw [if_neg (by simp [hc, hz])]
  unfold Instr.fill
  congr 1
  rw [← Array.foldl_toList, Array.toList_zipIdx]
  rw [fold_fill cs 0 z.toArray (by simp [hc, hz])]
  simp
theorem infoWz : (Try.prog.info? 70).map (fun i => (i.zero, i.size, i.bytes)) = some (some (.agg (wcl wz).toArray), 66, 80) := by kernel_rfl
theorem build_oneW (x : Wr) (hx : x.by_.length = 64) (W : World) : (Instr.buildSlice 49 1 #[(0, .agg (wcl x).toArray)]).run Try.prog W = .ok (.slice (some ⟨W.heap.size, 0, none⟩) 1 1) (W.alloc (.cells (wcl x).toArray 70)) := by
  obtain ⟨i0, hi, hz0, hz1, hz2⟩ := info_parts infoWz
  refine run_buildSlice W 49 70 1 _ _ i0 (.agg (wcl wz).toArray) Try.underlying49 hi hz0 (by rw [hz1]; decide) (by rw [hz1]; decide) ?_
  rw [hz1]
  have hlen : ((Array.range (1 * 66)).map ((Value.agg (wcl wz).toArray).cells[· % (Value.agg (wcl wz).toArray).cells.size]!)).toList.length = 66 := by simp
  have := fill_one 66 ((Array.range (1 * 66)).map ((Value.agg (wcl wz).toArray).cells[· % (Value.agg (wcl wz).toArray).cells.size]!)).toList (wcl x) hlen (by simp [wcl, bv_len, hx])
  simpa only [Array.toArray_toList] using this
theorem run_append_wr (w : World) (ty : TypeId) (v : Value) (lo : List Wr) (hown : Lo w v lo) (ad : Addr) (c : Nat) (x : Wr) (hx : x.by_.length = 64) (hnews : ∀ j u, (wcl x)[j]? = some u → w.cell? (ad.add j) = some u) (hn : lo.length + 1 ≤ 100000) :
    ∃ v' w', (Builtin.append_ #[49, 49] ty #[v, .slice (some ad) 1 c]).run Try.prog w = .ok v' w' ∧ Lo w' v' (lo ++ [x]) ∧ w.grownBy w' v.ownBlock ∧ (v'.ownBlock = v.ownBlock ∨ ∀ k, v'.ownBlock = some k → w.heap.size ≤ k) := by
  obtain ⟨i0, hi, hz0, hz1, hz2⟩ := info_parts infoWz
  obtain ⟨v', w', e, ho, hg, _, hb⟩ := run_append_own_at (P := Try.prog) w 0 49 ty 70 i0 (.agg (wcl wz).toArray) 66 80 Try.underlying49 hi hz0 hz1 hz2 rfl (by decide) v lo.length (wcs lo) hown ad 1 c (wcl x) (by simp [wcl, bv_len, hx]) hnews (wcl_one x) (by unfold maxLen; omega) (by omega) (Nat.zero_le _)
  refine ⟨v', w', e, ?_, hg, hb.imp id (fun q k hk => by rw [q] at hk; cases hk; exact Nat.le_refl _)⟩
  unfold Lo
  rw [wcs_app, wcs_one, List.length_append]
  exact ho
section
variable {ops : Array Oper} {rest : List Oper} {o : Oper} {a : Act} {Q : Exit → Act → World → Prop}
theorem wpList_bldW (w : World) (hg : o.guard = none) (y : Operand) (ho : o.op = .buildSlice 49 1 #[(0, y)]) (x : Wr) (hx : x.by_.length = 64) (hy : a.eval y = .agg (wcl x).toArray)
    (h : wpList Try.prog ops Q rest (a.put o.dst (.slice (some ⟨w.heap.size, 0, none⟩) 1 1)) (w.alloc (.cells (wcl x).toArray 70))) : wpList Try.prog ops Q (o :: rest) a w := by
  refine wpList_plain hg fun K hK => ?_
  unfold Oper.wp
  simp only [execOp, ho, List.map_toArray, List.map_cons, List.map_nil, hy]
  simp [build_oneW x hx, Result.andThen]
  exact hK _ _ h
theorem wpList_appW (w : World) (hg : o.guard = none) (y z : Operand) (ho : o.op = .call { callee := .builtin .append, args := #[y, z], argTypes := #[49, 49] }) (v : Value) (lo : List Wr) (hy : a.eval y = v) (hown : Lo w v lo) (ad : Addr) (c : Nat) (x : Wr) (hz : a.eval z = .slice (some ad) 1 c) (hx : x.by_.length = 64) (hnews : ∀ j u, (wcl x)[j]? = some u → w.cell? (ad.add j) = some u) (hn : lo.length + 1 ≤ 100000)
    (h : ∀ v' w', Lo w' v' (lo ++ [x]) → w.grownBy w' v.ownBlock → (v'.ownBlock = v.ownBlock ∨ ∀ k, v'.ownBlock = some k → w.heap.size ≤ k) → wpList Try.prog ops Q rest (a.put o.dst v') w') : wpList Try.prog ops Q (o :: rest) a w := by
  refine wpList_plain hg fun K hK => ?_
  obtain ⟨v', w', hrun, q1, q2, q3⟩ := run_append_wr w o.type v lo hown ad c x hx hnews hn
  unfold Oper.wp
  simp [execOp, ho, resolve, invoke, builtin, hy, hz, hrun, Result.andThen]
  exact hK _ _ (h v' w' q1 q2 q3)
end
section
variable {ops : Array Oper} {o : Oper} {a : Act} {w : World} {K : Act → World → Prop} {Q : Exit → Act → World → Prop} {E : Prop}
theorem step_bldW (hg : o.guard = none) (y : Operand) (ho : o.op = .buildSlice 49 1 #[(0, y)]) (x : Wr) (hx : x.by_.length = 64) (hy : a.eval y = .agg (wcl x).toArray)
    (h : K (a.put o.dst (.slice (some ⟨w.heap.size, 0, none⟩) 1 1)) (w.alloc (.cells (wcl x).toArray 70))) : if Region.wanted o (yielded ops a.tmps) = true then Oper.wp Try.prog o a w K Q else E := by
  have hw : Region.wanted o (yielded ops a.tmps) = true := by simp [Region.wanted, hg]
  rw [if_pos hw]
  unfold Oper.wp
  simp only [execOp, ho, List.map_toArray, List.map_cons, List.map_nil, hy]
  simp [build_oneW x hx, Result.andThen]
  exact h
theorem step_appW (hg : o.guard = none) (y z : Operand) (ho : o.op = .call { callee := .builtin .append, args := #[y, z], argTypes := #[49, 49] }) (v : Value) (lo : List Wr) (hy : a.eval y = v) (hown : Lo w v lo) (ad : Addr) (c : Nat) (x : Wr) (hz : a.eval z = .slice (some ad) 1 c) (hx : x.by_.length = 64) (hnews : ∀ j u, (wcl x)[j]? = some u → w.cell? (ad.add j) = some u) (hn : lo.length + 1 ≤ 100000)
    (h : ∀ v' w', Lo w' v' (lo ++ [x]) → w.grownBy w' v.ownBlock → (v'.ownBlock = v.ownBlock ∨ ∀ k, v'.ownBlock = some k → w.heap.size ≤ k) → K (a.put o.dst v') w') : if Region.wanted o (yielded ops a.tmps) = true then Oper.wp Try.prog o a w K Q else E := by
  have hw : Region.wanted o (yielded ops a.tmps) = true := by simp [Region.wanted, hg]
  rw [if_pos hw]
  obtain ⟨v', w', hrun, q1, q2, q3⟩ := run_append_wr w o.type v lo hown ad c x hx hnews hn
  unfold Oper.wp
  simp [execOp, ho, resolve, invoke, builtin, hy, hz, hrun, Result.andThen]
  exact h v' w' q1 q2 q3
theorem step_putM (hg : o.guard = none) (x y z : Operand) (ho : o.op = .mapUpdate 48 x y z) (b : Nat) (n : Int) (c : List Int) (l : Cs) (hx : a.eval x = .map (some b)) (hy : a.eval y = .int .i64 n) (hz : a.eval z = .agg (bv c).toArray) (hm : Mp w b l) (hl : Asc l) (hn : l.length < 100000) (ha : Num n)
    (h : ∀ w', Mp w' b (insM n c l) → w.grownBy w' (some b) → K (a.put o.dst undef) w') : if Region.wanted o (yielded ops a.tmps) = true then Oper.wp Try.prog o a w K Q else E := by
  have hw : Region.wanted o (yielded ops a.tmps) = true := by simp [Region.wanted, hg]
  rw [if_pos hw]
  obtain ⟨w', hrun, q1, q2, _⟩ := hm.put hl hn ha c
  unfold Oper.wp
  simp only [execOp, ho, hx, hy, hz]
  simp [hrun, Result.andThen]
  exact h w' q1 q2
theorem step_delM (hg : o.guard = none) (x y : Operand) (ho : o.op = .call { callee := .builtin .delete, args := #[x, y], argTypes := #[48, 3] }) (b : Nat) (n : Int) (l : Cs) (hx : a.eval x = .map (some b)) (hy : a.eval y = .int .i64 n) (hm : Mp w b l) (ha : Num n)
    (h : ∀ w', Mp w' b (delM n l) → w.grownBy w' (some b) → K (a.put o.dst (.tuple #[])) w') : if Region.wanted o (yielded ops a.tmps) = true then Oper.wp Try.prog o a w K Q else E := by
  have hw : Region.wanted o (yielded ops a.tmps) = true := by simp [Region.wanted, hg]
  rw [if_pos hw]
  obtain ⟨w', hrun, q1, q2, _⟩ := hm.del ha o.type
  unfold Oper.wp
  simp [execOp, ho, resolve, invoke, builtin, hx, hy, hrun, Result.andThen]
  exact h w' q1 q2
theorem yields_lookOk {S : World → Prop} (hw : Region.wanted o (yielded ops a.tmps) = true) (x y : Operand) (ho : o.op = .lookup 48 x y true) (b : Nat) (n : Int) (l : Cs) (hx : a.eval x = .map (some b)) (hy : a.eval y = .int .i64 n) (hm : ∀ w, S w → Mp w b l) (ha : Num n) (c : List Int) (q : Bool) (hc : (look l n).getD zer = c) (hq : (look l n).isSome = q) : YieldsIf Try.prog ops S o (.tuple #[.agg (bv c).toArray, .bool q]) a :=
  .inl ⟨hw, fun w hw' => by
    unfold execOp
    simp only [ho, hx, hy]
    simp [(hm w hw').lookOk ha, hc, hq, Result.andThen]⟩
theorem yields_look {S : World → Prop} (hw : Region.wanted o (yielded ops a.tmps) = true) (x y : Operand) (ho : o.op = .lookup 48 x y false) (b : Nat) (n : Int) (l : Cs) (hx : a.eval x = .map (some b)) (hy : a.eval y = .int .i64 n) (hm : ∀ w, S w → Mp w b l) (ha : Num n) : YieldsIf Try.prog ops S o (.agg (bv ((look l n).getD zer)).toArray) a :=
  .inl ⟨hw, fun w hw' => by
    unfold execOp
    simp only [ho, hx, hy]
    simp [(hm w hw').look ha, Result.andThen]⟩
end
end Go.Proofs.Ytiedbchlgcgdeaa
