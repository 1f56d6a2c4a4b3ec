/-
  A BLOCK IS WRITTEN (block.Write): what is wrong, or a write more. Conditions: fewer than a hundred thousand blocks and writes.
  A ROW OF WRITES GROWS BY ONE: the row of one write, and the append, as steps of a walk. Condition: fewer than a hundred thousand writes.
-/
import Derived.Test.YtoamghncncalgaaGreatDoorJBlkAa2
import Derived.Laws.CopyOwn
import Derived.Laws.IdiomCopy
import Derived.Great.BuildSlice
import Derived.Deep.DeepCutAuto
namespace Go.Proofs.YtoamghncncalgaaGreatDoor
open Go.RowKit Go.Maps

/-- Bytes, and noughts behind. -/
def padL (b : List Int) : List Int := b ++ zer.drop b.length
theorem padL_len {b : List Int} (h : b.length ≤ 64) : (padL b).length = 64 := by simp [padL, zer_len]; omega
theorem padL_blk {b : List Int} (h : b.length ≤ 64) (hb : Byt b) : Blk (padL b) := ⟨padL_len h, fun x hx => by
  rcases List.mem_append.1 hx with e | e
  · exact hb x e
  · have := List.mem_of_mem_drop e; exact blk_zer.2 x this⟩
theorem infoU : (Tryz.prog.info? 5).map (·.size) = some 1 := by kernel_rfl
theorem setRow_new (V : World) (c c' : Array Value) (t : TypeId) : (V.alloc (.cells c t)).setRow V.heap.size c' = V.alloc (.cells c' t) := by
  have e : ((V.heap.push (.cells c t)).modify V.heap.size fun
      | .cells _ elem frozen => .cells c' elem frozen
      | o => o) = V.heap.push (.cells c' t) := by
    apply Array.ext_getElem?
    intro i
    rw [Array.getElem?_modify]
    by_cases h : V.heap.size = i
    · rw [if_pos h, ← h, Array.getElem?_push_size, Array.getElem?_push_size]; rfl
    · rw [if_neg h, Array.getElem?_push, Array.getElem?_push, if_neg (fun e => h e.symm), if_neg (fun e => h e.symm)]
  show ({ V with heap := _ } : World) = { V with heap := _ }
  rw [← e]
  rfl
theorem pad_cells (a : Int) (z b : List Int) : (wcl ⟨a, false, z⟩).take 2 ++ bv b ++ (wcl ⟨a, false, z⟩).drop (2 + b.length) = wcl ⟨a, false, b ++ z.drop b.length⟩ := by
  rw [Nat.add_comm]
  simp [wcl, bv, List.map_drop]
theorem copyW (V : World) (a : Int) (v : Value) (b : List Int) (ty : TypeId) (hv : Sl bc V v b) (hb : b.length ≤ 64) :
    (Builtin.copy_ #[43, 43] ty #[.slice (some ⟨V.heap.size, 2, none⟩) 64 64, v]).run Tryz.prog (V.alloc (.cells (wcl ⟨a, false, zer⟩).toArray 103)) = .ok (.int .i64 b.length) (V.alloc (.cells (wcl ⟨a, false, padL b⟩).toArray 103)) := by
  by_cases h0 : 0 < b.length
  · rcases hv with ⟨_, _, rfl, _⟩ | ⟨g, o, cap, rfl, h2, h3⟩
    · simp at h0
    · have hmin : Nat.min b.length 64 = b.length := Nat.min_eq_left hb
      have := run_copy_row (P := Tryz.prog) (V.alloc (.cells (wcl ⟨a, false, zer⟩).toArray 103)) 43 43 ty 5 V.heap.size 2 64 64 ⟨g, o, none⟩ b.length cap (wcl ⟨a, false, zer⟩).toArray 103 (bv b) Tryz.underlying43 infoU Array.getElem?_push_size
        (by rw [bv_len, hmin]) (fun j u hu => by
          have hj : j < b.length := by simpa [bv_len] using (List.getElem?_eq_some_iff.1 hu).1
          have hlt : g < V.heap.size := cell_block (h3 j hj)
          rw [Addr.add_lit, World.cell?_of_block (Below.heap_alloc V _ g hlt)]
          rw [h3 j hj]
          rw [bv_eq, List.getElem?_map, List.getElem?_eq_getElem hj] at hu
          simpa using hu) (by simp [wcl, bv_len, zer_len]; omega) (bv_one b)
      rw [setRow_new] at this
      rw [this]
      rw [bv_len]
      have e := pad_cells a zer b
      rw [show (wcl ⟨a, false, zer⟩).toArray.toList = wcl ⟨a, false, zer⟩ from rfl, e]
      rfl
  · obtain ⟨ao, cap, rfl⟩ := hv.form
    obtain rfl : b = [] := List.length_eq_zero_iff.1 (by omega)
    have := run_copy_none (P := Tryz.prog) (V.alloc (.cells (wcl ⟨a, false, zer⟩).toArray 103)) 43 43 ty 5 (some ⟨V.heap.size, 2, none⟩) ao 64 64 0 cap Tryz.underlying43 infoU (by decide)
    simpa [padL, goInt] using this
theorem wpList_copyW {ops : Array Oper} {rest : List Oper} {o : Oper} {a : Act} {Q : Exit → Act → World → Prop} (V : World) (hg : o.guard = none) (x y : Operand) (ho : o.op = .call { callee := .builtin .copy, args := #[x, y], argTypes := #[43, 43] }) (n : Int) (v : Value) (b : List Int) (hx : a.eval x = .slice (some ⟨V.heap.size, 2, none⟩) 64 64) (hy : a.eval y = v) (hv : Sl bc V v b) (hb : b.length ≤ 64)
    (h : wpList Tryz.prog ops Q rest (a.put o.dst (.int .i64 b.length)) (V.alloc (.cells (wcl ⟨n, false, padL b⟩).toArray 103))) : wpList Tryz.prog ops Q (o :: rest) a (V.alloc (.cells (wcl ⟨n, false, zer⟩).toArray 103)) := by
  refine wpList_plain hg fun K hK => ?_
  unfold Oper.wp
  simp [execOp, ho, resolve, invoke, builtin, hx, hy, copyW V n v b o.type hv hb, Result.andThen]
  exact hK _ _ h
end Go.Proofs.YtoamghncncalgaaGreatDoor
namespace Go.Proofs.YtoamghncncalgaaGreatDoor
open Go.RowKit Go.Maps

theorem fold_fill : ∀ (l : List Value) (k : Nat) (z : Array Value), k + l.length = z.size → (l.zipIdx k).foldl (fun cs p => cs.setIfInBounds (0 + p.2) p.1) z = (z.toList.take k ++ l).toArray
  | [], k, z, h => by
    simp at h
    subst h
    have e : List.take z.size z.toList = z.toList := List.take_of_length_le (by simp)
    simp [e]
  | x :: r, k, z, h => by
    have hk : k < z.size := by simp at h; omega
    rw [List.zipIdx_cons, List.foldl_cons, fold_fill r (k + 1) _ (by simp at h ⊢; omega)]
    congr 1
    rw [Nat.zero_add, Array.toList_setIfInBounds, List.take_set]
    have e : z.toList.take (k + 1) = z.toList.take k ++ [z.toList[k]] := List.take_succ_eq_append_getElem (by simpa using hk)
    simp only
    rw [e, List.set_append_right _ _ (by simp; omega)]
    simp [Nat.min_eq_left (Nat.le_of_lt hk)]
theorem fill_one (size : Nat) (z cs : List Value) (hz : z.length = size) (hc : cs.length = size) : Instr.fill (fun i => some (i * size, size)) z.toArray [(0, .agg cs.toArray)] = some cs.toArray := by
  unfold Instr.fill
  simp only [Nat.zero_mul, Value.cells]
  rw [if_neg (by simp [hc, hz])]
  unfold Instr.fill
  congr 1
  rw [← Array.foldl_toList, Array.toList_zipIdx]
  rw [fold_fill cs 0 z.toArray (by simp [hc, hz])]
  simp
theorem infoWz : (Tryz.prog.info? 103).map (fun i => (i.zero, i.size, i.bytes)) = some (some (.agg (wcl wz).toArray), 66, 80) := by kernel_rfl
theorem build_oneW (x : Wr) (hx : x.by_.length = 64) (W : World) : (Instr.buildSlice 79 1 #[(0, .agg (wcl x).toArray)]).run Tryz.prog W = .ok (.slice (some ⟨W.heap.size, 0, none⟩) 1 1) (W.alloc (.cells (wcl x).toArray 103)) := by
  obtain ⟨i0, hi, hz0, hz1, hz2⟩ := info_parts infoWz
  refine run_buildSlice W 79 103 1 _ _ i0 (.agg (wcl wz).toArray) Tryz.underlying79 hi hz0 (by rw [hz1]; decide) (by rw [hz1]; decide) ?_
  rw [hz1]
  have hlen : ((Array.range (1 * 66)).map ((Value.agg (wcl wz).toArray).cells[· % (Value.agg (wcl wz).toArray).cells.size]!)).toList.length = 66 := by simp
  have := fill_one 66 ((Array.range (1 * 66)).map ((Value.agg (wcl wz).toArray).cells[· % (Value.agg (wcl wz).toArray).cells.size]!)).toList (wcl x) hlen (by simp [wcl, bv_len, hx])
  simpa only [Array.toArray_toList] using this
theorem run_append_wr (w : World) (ty : TypeId) (v : Value) (lo : List Wr) (hown : Lo w v lo) (ad : Addr) (c : Nat) (x : Wr) (hx : x.by_.length = 64) (hnews : ∀ j u, (wcl x)[j]? = some u → w.cell? (ad.add j) = some u) (hn : lo.length + 1 ≤ 100000) :
    ∃ v' w', (Builtin.append_ #[79, 79] ty #[v, .slice (some ad) 1 c]).run Tryz.prog w = .ok v' w' ∧ Lo w' v' (lo ++ [x]) ∧ w.grownBy w' v.ownBlock ∧ (v'.ownBlock = v.ownBlock ∨ ∀ k, v'.ownBlock = some k → w.heap.size ≤ k) := by
  obtain ⟨i0, hi, hz0, hz1, hz2⟩ := info_parts infoWz
  obtain ⟨v', w', e, ho, hg, _, hb⟩ := run_append_own_at (P := Tryz.prog) w 0 79 ty 103 i0 (.agg (wcl wz).toArray) 66 80 Tryz.underlying79 hi hz0 hz1 hz2 rfl (by decide) v lo.length (wcs lo) hown ad 1 c (wcl x) (by simp [wcl, bv_len, hx]) hnews (wcl_one x) (by unfold maxLen; omega) (by omega) (Nat.zero_le _)
  refine ⟨v', w', e, ?_, hg, hb.imp id (fun q k hk => by rw [q] at hk; cases hk; exact Nat.le_refl _)⟩
  unfold Lo
  rw [wcs_app, wcs_one, List.length_append]
  exact ho
section
variable {ops : Array Oper} {rest : List Oper} {o : Oper} {a : Act} {Q : Exit → Act → World → Prop}
theorem wpList_bldW (w : World) (hg : o.guard = none) (y : Operand) (ho : o.op = .buildSlice 79 1 #[(0, y)]) (x : Wr) (hx : x.by_.length = 64) (hy : a.eval y = .agg (wcl x).toArray)
    (h : wpList Tryz.prog ops Q rest (a.put o.dst (.slice (some ⟨w.heap.size, 0, none⟩) 1 1)) (w.alloc (.cells (wcl x).toArray 103))) : wpList Tryz.prog ops Q (o :: rest) a w := by
  refine wpList_plain hg fun K hK => ?_
  unfold Oper.wp
  simp only [execOp, ho, List.map_toArray, List.map_cons, List.map_nil, hy]
  simp [build_oneW x hx, Result.andThen]
  exact hK _ _ h
theorem wpList_appW (w : World) (hg : o.guard = none) (y z : Operand) (ho : o.op = .call { callee := .builtin .append, args := #[y, z], argTypes := #[79, 79] }) (v : Value) (lo : List Wr) (hy : a.eval y = v) (hown : Lo w v lo) (ad : Addr) (c : Nat) (x : Wr) (hz : a.eval z = .slice (some ad) 1 c) (hx : x.by_.length = 64) (hnews : ∀ j u, (wcl x)[j]? = some u → w.cell? (ad.add j) = some u) (hn : lo.length + 1 ≤ 100000)
    (h : ∀ v' w', Lo w' v' (lo ++ [x]) → w.grownBy w' v.ownBlock → (v'.ownBlock = v.ownBlock ∨ ∀ k, v'.ownBlock = some k → w.heap.size ≤ k) → wpList Tryz.prog ops Q rest (a.put o.dst v') w') : wpList Tryz.prog ops Q (o :: rest) a w := by
  refine wpList_plain hg fun K hK => ?_
  obtain ⟨v', w', hrun, q1, q2, q3⟩ := run_append_wr w o.type v lo hown ad c x hx hnews hn
  unfold Oper.wp
  simp [execOp, ho, resolve, invoke, builtin, hy, hz, hrun, Result.andThen]
  exact hK _ _ (h v' w' q1 q2 q3)
end
section
variable {ops : Array Oper} {o : Oper} {a : Act} {w : World} {K : Act → World → Prop} {Q : Exit → Act → World → Prop} {E : Prop}
theorem step_bldW (hg : o.guard = none) (y : Operand) (ho : o.op = .buildSlice 79 1 #[(0, y)]) (x : Wr) (hx : x.by_.length = 64) (hy : a.eval y = .agg (wcl x).toArray)
    (h : K (a.put o.dst (.slice (some ⟨w.heap.size, 0, none⟩) 1 1)) (w.alloc (.cells (wcl x).toArray 103))) : if Region.wanted o (yielded ops a.tmps) = true then Oper.wp Tryz.prog o a w K Q else E := by
  have hw : Region.wanted o (yielded ops a.tmps) = true := by simp [Region.wanted, hg]
  rw [if_pos hw]
  unfold Oper.wp
  simp only [execOp, ho, List.map_toArray, List.map_cons, List.map_nil, hy]
  simp [build_oneW x hx, Result.andThen]
  exact h
theorem step_appW (hg : o.guard = none) (y z : Operand) (ho : o.op = .call { callee := .builtin .append, args := #[y, z], argTypes := #[79, 79] }) (v : Value) (lo : List Wr) (hy : a.eval y = v) (hown : Lo w v lo) (ad : Addr) (c : Nat) (x : Wr) (hz : a.eval z = .slice (some ad) 1 c) (hx : x.by_.length = 64) (hnews : ∀ j u, (wcl x)[j]? = some u → w.cell? (ad.add j) = some u) (hn : lo.length + 1 ≤ 100000)
    (h : ∀ v' w', Lo w' v' (lo ++ [x]) → w.grownBy w' v.ownBlock → (v'.ownBlock = v.ownBlock ∨ ∀ k, v'.ownBlock = some k → w.heap.size ≤ k) → K (a.put o.dst v') w') : if Region.wanted o (yielded ops a.tmps) = true then Oper.wp Tryz.prog o a w K Q else E := by
  have hw : Region.wanted o (yielded ops a.tmps) = true := by simp [Region.wanted, hg]
  rw [if_pos hw]
  obtain ⟨v', w', hrun, q1, q2, q3⟩ := run_append_wr w o.type v lo hown ad c x hx hnews hn
  unfold Oper.wp
  simp [execOp, ho, resolve, invoke, builtin, hy, hz, hrun, Result.andThen]
  exact h v' w' q1 q2 q3
theorem step_putM (hg : o.guard = none) (x y z : Operand) (ho : o.op = .mapUpdate 78 x y z) (b : Nat) (n : Int) (c : List Int) (l : Cs) (hx : a.eval x = .map (some b)) (hy : a.eval y = .int .i64 n) (hz : a.eval z = .agg (bv c).toArray) (hm : Mp w b l) (hl : Asc l) (hn : l.length < 100000) (ha : Num n)
    (h : ∀ w', Mp w' b (insM n c l) → w.grownBy w' (some b) → K (a.put o.dst undef) w') : if Region.wanted o (yielded ops a.tmps) = true then Oper.wp Tryz.prog o a w K Q else E := by
  have hw : Region.wanted o (yielded ops a.tmps) = true := by simp [Region.wanted, hg]
  rw [if_pos hw]
  obtain ⟨w', hrun, q1, q2, _⟩ := hm.put hl hn ha c
  unfold Oper.wp
  simp only [execOp, ho, hx, hy, hz]
  simp [hrun, Result.andThen]
  exact h w' q1 q2
theorem step_delM (hg : o.guard = none) (x y : Operand) (ho : o.op = .call { callee := .builtin .delete, args := #[x, y], argTypes := #[78, 3] }) (b : Nat) (n : Int) (l : Cs) (hx : a.eval x = .map (some b)) (hy : a.eval y = .int .i64 n) (hm : Mp w b l) (ha : Num n)
    (h : ∀ w', Mp w' b (delM n l) → w.grownBy w' (some b) → K (a.put o.dst (.tuple #[])) w') : if Region.wanted o (yielded ops a.tmps) = true then Oper.wp Tryz.prog o a w K Q else E := by
  have hw : Region.wanted o (yielded ops a.tmps) = true := by simp [Region.wanted, hg]
  rw [if_pos hw]
  obtain ⟨w', hrun, q1, q2, _⟩ := hm.del ha o.type
  unfold Oper.wp
  simp [execOp, ho, resolve, invoke, builtin, hx, hy, hrun, Result.andThen]
  exact h w' q1 q2
theorem yields_lookOk {S : World → Prop} (hw : Region.wanted o (yielded ops a.tmps) = true) (x y : Operand) (ho : o.op = .lookup 78 x y true) (b : Nat) (n : Int) (l : Cs) (hx : a.eval x = .map (some b)) (hy : a.eval y = .int .i64 n) (hm : ∀ w, S w → Mp w b l) (ha : Num n) (c : List Int) (q : Bool) (hc : (look l n).getD zer = c) (hq : (look l n).isSome = q) : YieldsIf Tryz.prog ops S o (.tuple #[.agg (bv c).toArray, .bool q]) a :=
  .inl ⟨hw, fun w hw' => by
    unfold execOp
    simp only [ho, hx, hy]
    simp [(hm w hw').lookOk ha, hc, hq, Result.andThen]⟩
theorem yields_look {S : World → Prop} (hw : Region.wanted o (yielded ops a.tmps) = true) (x y : Operand) (ho : o.op = .lookup 78 x y false) (b : Nat) (n : Int) (l : Cs) (hx : a.eval x = .map (some b)) (hy : a.eval y = .int .i64 n) (hm : ∀ w, S w → Mp w b l) (ha : Num n) : YieldsIf Tryz.prog ops S o (.agg (bv ((look l n).getD zer)).toArray) a :=
  .inl ⟨hw, fun w hw' => by
    unfold execOp
    simp only [ho, hx, hy]
    simp [(hm w hw').look ha, Result.andThen]⟩
end
end Go.Proofs.YtoamghncncalgaaGreatDoor
