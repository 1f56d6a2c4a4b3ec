/-
  BLOCKS IN NEW MEMORY, one step each; and a block that is read (block.Read). No condition.
-/
import Derived.Test.YtiedbchlgcgdeaaBlkA
namespace Go.Proofs.Ytiedbchlgcgdeaa
open Go.RowKit Go.Maps

theorem run_allocB (w : World) : (Instr.alloc 68 true (.tuple #[])).run Try.prog w = .ok (.pointer (some ⟨w.heap.size, 0, none⟩)) (w.alloc (.cells (bv zer).toArray 68)) := by kernel_rfl
def wz : Wr := ⟨0, false, zer⟩
theorem run_allocW (w : World) : (Instr.alloc 70 true (.tuple #[])).run Try.prog w = .ok (.pointer (some ⟨w.heap.size, 0, none⟩)) (w.alloc (.cells (wcl wz).toArray 70)) := by kernel_rfl
theorem run_buildW (a : Int) (w : World) : (Instr.build 70 #[(0, .int .i64 a)]).run Try.prog w = .ok (.agg (wcl ⟨a, false, zer⟩).toArray) w := by kernel_rfl
section
variable {ops : Array Oper} {rest : List Oper} {o : Oper} {a : Act} {Q : Exit → Act → World → Prop}
theorem wpList_allocB (w : World) (hg : o.guard = none) (ho : o.op = .alloc 68) (h : wpList Try.prog ops Q rest (a.put o.dst (.pointer (some ⟨w.heap.size, 0, none⟩))) (w.alloc (.cells (bv zer).toArray 68))) : wpList Try.prog ops Q (o :: rest) a w := by
  refine wpList_plain hg fun K hK => ?_
  unfold Oper.wp
  simp [execOp, ho, run_allocB, Result.andThen]
  exact hK _ _ h
theorem wpList_allocW (w : World) (hg : o.guard = none) (ho : o.op = .alloc 70) (h : wpList Try.prog ops Q rest (a.put o.dst (.pointer (some ⟨w.heap.size, 0, none⟩))) (w.alloc (.cells (wcl wz).toArray 70))) : wpList Try.prog ops Q (o :: rest) a w := by
  refine wpList_plain hg fun K hK => ?_
  unfold Oper.wp
  simp [execOp, ho, run_allocW, Result.andThen]
  exact hK _ _ h
theorem wpList_buildW (w : World) (hg : o.guard = none) (x : Operand) (ho : o.op = .build 70 #[(0, x)]) (n : Int) (hx : a.eval x = .int .i64 n) (h : wpList Try.prog ops Q rest (a.put o.dst (.agg (wcl ⟨n, false, zer⟩).toArray)) w) : wpList Try.prog ops Q (o :: rest) a w := by
  refine wpList_plain hg fun K hK => ?_
  unfold Oper.wp
  simp only [execOp, ho, List.map_toArray, List.map_cons, List.map_nil, hx]
  simp [run_buildW, Result.andThen]
  exact hK _ _ h
theorem wpList_storeB (w : World) (hg : o.guard = none) (x y : Operand) (ho : o.op = .store 68 x y) (c b : List Int) (hc : c.length = 64) (hb : b.length = 64) (hx : a.eval x = .pointer (some ⟨w.heap.size, 0, none⟩)) (hy : a.eval y = .agg (bv b).toArray)
    (h : wpList Try.prog ops Q rest (a.put o.dst undef) (w.alloc (.cells (bv b).toArray 68))) : wpList Try.prog ops Q (o :: rest) a (w.alloc (.cells (bv c).toArray 68)) := by
  refine wpList_plain hg fun K hK => ?_
  have hrun := run_storeAt_new (P := Try.prog) w 68 (bv c).toArray (bv b).toArray (by rw [infoBl]; simp [bv_len, hb]) (by simp [bv_len, hb, hc]) (all_oneCell_toArray (bv_one b))
  unfold Oper.wp
  simp only [execOp, ho, hx, hy]
  simp [hrun, Result.andThen]
  exact hK _ _ h
theorem wpList_storeW (w : World) (hg : o.guard = none) (x y : Operand) (ho : o.op = .store 70 x y) (c b : Wr) (hc : c.by_.length = 64) (hb : b.by_.length = 64) (hx : a.eval x = .pointer (some ⟨w.heap.size, 0, none⟩)) (hy : a.eval y = .agg (wcl b).toArray)
    (h : wpList Try.prog ops Q rest (a.put o.dst undef) (w.alloc (.cells (wcl b).toArray 70))) : wpList Try.prog ops Q (o :: rest) a (w.alloc (.cells (wcl c).toArray 70)) := by
  refine wpList_plain hg fun K hK => ?_
  have hrun := run_storeAt_new (P := Try.prog) w 70 (wcl c).toArray (wcl b).toArray (by rw [infoWr]; simp [wcl, bv_len, hb]) (by simp [wcl, bv_len, hb, hc]) (all_oneCell_toArray (wcl_one b))
  unfold Oper.wp
  simp only [execOp, ho, hx, hy]
  simp [hrun, Result.andThen]
  exact hK _ _ h
theorem wpList_look (w : World) (hg : o.guard = none) (x y : Operand) (ho : o.op = .lookup 48 x y false) (b : Nat) (n : Int) (l : Cs) (hx : a.eval x = .map (some b)) (hy : a.eval y = .int .i64 n) (hm : Mp w b l) (hn : Num n)
    (h : wpList Try.prog ops Q rest (a.put o.dst (.agg (bv ((look l n).getD zer)).toArray)) w) : wpList Try.prog ops Q (o :: rest) a w := by
  refine wpList_plain hg fun K hK => ?_
  unfold Oper.wp
  simp only [execOp, ho, hx, hy]
  simp [hm.look hn, Result.andThen]
  exact hK _ _ h
theorem wpList_lookOk (w : World) (hg : o.guard = none) (x y : Operand) (ho : o.op = .lookup 48 x y true) (b : Nat) (n : Int) (l : Cs) (hx : a.eval x = .map (some b)) (hy : a.eval y = .int .i64 n) (hm : Mp w b l) (hn : Num n)
    (h : wpList Try.prog ops Q rest (a.put o.dst (.tuple #[.agg (bv ((look l n).getD zer)).toArray, .bool (look l n).isSome])) w) : wpList Try.prog ops Q (o :: rest) a w := by
  refine wpList_plain hg fun K hK => ?_
  unfold Oper.wp
  simp only [execOp, ho, hx, hy]
  simp [hm.lookOk hn, Result.andThen]
  exact hK _ _ h
end
section
variable {d bS bT : Nat} {u : Value} {s : Dst} {tk : Cs} {lo : List Wr}
theorem zer_len : zer.length = 64 := by simp [zer]
theorem at_len {l : Cs} (h : ∀ p ∈ l, Num p.1 ∧ Blk p.2) (a : Int) : ((look l a).getD zer).length = 64 := (look_blk h a).1
set_option maxRecDepth 100000 in
theorem bread_bad (a : Int) (w : World) (h : Dk w d bS bT u s tk lo) (ha : ¬ Num a) : Calls Try.prog 33 #[.pointer (some ⟨d, 0, none⟩), .int .i64 a] w fun e w' => e = .returned (.tuple #[.slice none 0 0, bft opBlock a 2]) ∧ w' = w := by
  have HH := hide h
  have HA := hide ha
  clear h ha
  go_enter Try.func33, Try.ntmps33
  go_wp2_with (first | (go_at_call 38; refine (check_bad _ _ HA.out).mono ?_; rintro e w9 ⟨rfl, hw9⟩; rw [hw9]; clear hw9 w9))
  go_ret2
  exact ⟨rfl, rfl⟩
set_option maxRecDepth 100000 in
theorem bread_ok (a : Int) (w : World) (h : Dk w d bS bT u s tk lo) (hb : ∀ p ∈ tk, Num p.1 ∧ Blk p.2) (ha : Num a) : Calls Try.prog 33 #[.pointer (some ⟨d, 0, none⟩), .int .i64 a] w fun e w' => e = .returned (.tuple #[.slice (some ⟨w.heap.size, 0, none⟩) 64 64, .nilIface]) ∧ w' = w.alloc (.cells (bv ((look tk a).getD zer)).toArray 68) := by
  have HH := hide h
  have HA := hide ha
  have HL := hide (at_len hb a)
  have c2 := h.c2
  clear h ha hb
  go_enter Try.func33, Try.ntmps33
  go_wp2_with (first | (go_at_call 38; refine (check_ok _ _ HA.out).mono ?_; rintro e w9 ⟨rfl, hw9⟩; rw [hw9]; clear hw9 w9) | (refine wpList_look _ rfl _ _ rfl _ _ _ rfl rfl HH.out.mt HA.out ?_) | (refine wpList_allocB _ rfl rfl ?_) | (refine wpList_storeB _ rfl _ _ rfl zer _ zer_len HL.out rfl rfl ?_))
  go_ret2
  exact ⟨rfl, rfl⟩
end
end Go.Proofs.Ytiedbchlgcgdeaa
