/-
  A NEW STORE, WHETHER THERE IS SUCH A BLOCK, AND WHAT A STORE TELLS (block.New, check, Loose, Used, Room, Read). No condition.
  BLOCKS IN NEW MEMORY, one step each; and a block that is read (block.Read). No condition.
-/
import Derived.Test.YtoamghncncalgaaGreatDoorJBlkVa2
namespace Go.Proofs.YtoamghncncalgaaGreatDoor
open Go.RowKit Go.Maps

abbrev bft (op : ByteArray) (a c : Int) : Value := .iface 120 (.agg #[.string op, .int .i64 a, .iface 40 (.int .i64 c)])
theorem bft_ev (op : ByteArray) (a c : Int) : bft op a c = ev (some ([(op, a)], c)) := rfl
def opBlock : ByteArray := ⟨#[98, 108, 111, 99, 107]⟩
def opSize : ByteArray := ⟨#[115, 105, 122, 101]⟩
def opRoom : ByteArray := ⟨#[114, 111, 111, 109]⟩
set_option maxRecDepth 100000 in
theorem check_ok (a : Int) (w : World) (h : Num a) : Calls Tryz.prog 59 #[.int .i64 a] w fun e w' => e = .returned .nilIface ∧ w' = w := by
  obtain ⟨h1, h2⟩ := h
  go_enter Tryz.func59, Tryz.ntmps59
  go_wp2
  go_ret
  exact ⟨rfl, rfl⟩
set_option maxRecDepth 100000 in
theorem check_bad (a : Int) (w : World) (h : ¬ Num a) : Calls Tryz.prog 59 #[.int .i64 a] w fun e w' => e = .returned (bft opBlock a 2) ∧ w' = w := by
  unfold Num at h
  by_cases h1 : a < 0
  · clear h
    go_enter Tryz.func59, Tryz.ntmps59
    go_wp2_with (first | (go_at_call 32; refine (new_any _ _ _ _).mono ?_; rintro e w9 ⟨rfl, hw9⟩; rw [hw9]; clear hw9 w9))
    go_ret
    exact ⟨rfl, rfl⟩
  · have h2 : 1073741824 < a := by omega
    clear h
    go_enter Tryz.func59, Tryz.ntmps59
    go_wp2_with (first | (go_at_call 32; refine (new_any _ _ _ _).mono ?_; rintro e w9 ⟨rfl, hw9⟩; rw [hw9]; clear hw9 w9))
    go_ret
    exact ⟨rfl, rfl⟩
set_option maxRecDepth 100000 in
theorem bnew_bad (a : Int) (w : World) (h : ¬ Num a) : Calls Tryz.prog 7 #[.int .i64 a] w fun e w' => e = .returned (.tuple #[.pointer none, bft opRoom a 2]) ∧ w' = w := by
  unfold Num at h
  by_cases h1 : a < 0
  · clear h
    go_enter Tryz.func7, Tryz.ntmps7
    go_wp2_with (first | (go_at_call 32; refine (new_any _ _ _ _).mono ?_; rintro e w9 ⟨rfl, hw9⟩; rw [hw9]; clear hw9 w9))
    go_ret2
    exact ⟨rfl, rfl⟩
  · have h2 : 1073741824 < a := by omega
    clear h
    go_enter Tryz.func7, Tryz.ntmps7
    go_wp2_with (first | (go_at_call 32; refine (new_any _ _ _ _).mono ?_; rintro e w9 ⟨rfl, hw9⟩; rw [hw9]; clear hw9 w9))
    go_ret2
    exact ⟨rfl, rfl⟩
theorem fz_new (V : World) (cs : Array Value) (t : TypeId) (i : Nat) : (V.alloc (.cells cs t)).frozen? ⟨V.heap.size, i, none⟩ = false := by simp
/-- A store of which no block is taken. -/
theorem dk_new (w : World) (room : Int) : Dk (((w.alloc (.map #[] 0)).alloc (.map #[] 0)).alloc (.cells #[.int .i64 room, .map (some w.heap.size), .map (some (w.heap.size + 1)), .slice none 0 0] 81)) (w.heap.size + 2) w.heap.size (w.heap.size + 1) (.slice none 0 0) ⟨room, [], []⟩ [] [] := by
  have e1 : (w.alloc (.map #[] 0)).heap.size = w.heap.size + 1 := by simp
  have m1 : Mp (w.alloc (.map #[] 0)) w.heap.size [] := mp_new w
  have m2 : Mp ((w.alloc (.map #[] 0)).alloc (.map #[] 0)) (w.heap.size + 1) [] := by have := mp_new (w.alloc (.map #[] 0)); rwa [e1] at this
  have k1 := (m1.keep (Below.heap_alloc _ (.map #[] 0) _ (by simp))).keep (Below.heap_alloc _ (.cells #[.int .i64 room, .map (some w.heap.size), .map (some (w.heap.size + 1)), .slice none 0 0] 81) _ (by simp; omega))
  have k2 := m2.keep (Below.heap_alloc _ (.cells #[.int .i64 room, .map (some w.heap.size), .map (some (w.heap.size + 1)), .slice none 0 0] 81) _ (by simp))
  have e2 : ((w.alloc (.map #[] 0)).alloc (.map #[] 0)).heap.size = w.heap.size + 2 := by simp
  have hc : ∀ i, (((w.alloc (.map #[] 0)).alloc (.map #[] 0)).alloc (.cells #[.int .i64 room, .map (some w.heap.size), .map (some (w.heap.size + 1)), .slice none 0 0] 81)).cell? ⟨w.heap.size + 2, i, none⟩ = #[Value.int .i64 room, .map (some w.heap.size), .map (some (w.heap.size + 1)), .slice none 0 0][i]? := fun i => by rw [← e2, World.cell?_alloc_at _ _ _ _ rfl]
  have hf : ∀ i, (((w.alloc (.map #[] 0)).alloc (.map #[] 0)).alloc (.cells #[.int .i64 room, .map (some w.heap.size), .map (some (w.heap.size + 1)), .slice none 0 0] 81)).frozen? ⟨w.heap.size + 2, i, none⟩ = false := fun i => by rw [← e2]; exact fz_new _ _ _ _
  exact ⟨hc 0, hc 1, hc 2, hc 3, hf, k1, k2, Lo.nil _, by omega, by intro h; cases h⟩
set_option maxRecDepth 100000 in
theorem bnew_ok (a : Int) (w : World) (h : Num a) : Calls Tryz.prog 7 #[.int .i64 a] w fun e w' => e = .returned (.tuple #[.pointer (some ⟨w.heap.size + 2, 0, none⟩), .nilIface]) ∧ Dk w' (w.heap.size + 2) w.heap.size (w.heap.size + 1) (.slice none 0 0) ⟨a, [], []⟩ [] [] ∧ Below w.heap.size w w' := by
  obtain ⟨h1, h2⟩ := h
  have hmm := @run_makeMap Tryz.prog
  have HD := hide (dk_new w a)
  go_enter Tryz.func7, Tryz.ntmps7
  go_wp2
  go_ret2
  exact ⟨rfl, HD.out, (((Below.refl _ _).alloc (Nat.le_refl _) _).alloc (by simp) _).alloc (by simp; omega) _⟩
section
variable {d bS bT : Nat} {u : Value} {s : Dst} {tk : Cs} {lo : List Wr}
set_option maxRecDepth 100000 in
theorem bused_any (w : World) (h : Dk w d bS bT u s tk lo) : Calls Tryz.prog 37 #[.pointer (some ⟨d, 0, none⟩)] w fun e w' => e = .returned (.int .i64 tk.length) ∧ w' = w := by
  have c2 := h.c2
  have hl := h.mt.len
  have HH := hide h
  clear h
  go_enter Tryz.func37, Tryz.ntmps37
  go_wp2
  go_ret
  exact ⟨rfl, rfl⟩
set_option maxRecDepth 100000 in
theorem broom_any (w : World) (h : Dk w d bS bT u s tk lo) : Calls Tryz.prog 38 #[.pointer (some ⟨d, 0, none⟩)] w fun e w' => e = .returned (.int .i64 s.room) ∧ w' = w := by
  have c0 := h.c0
  have HH := hide h
  clear h
  go_enter Tryz.func38, Tryz.ntmps38
  go_wp2
  go_ret
  exact ⟨rfl, rfl⟩
set_option maxRecDepth 100000 in
theorem bloose_any (w : World) (h : Dk w d bS bT u s tk lo) : Calls Tryz.prog 58 #[.pointer (some ⟨d, 0, none⟩)] w fun e w' => e = .returned (.int .i64 lo.length) ∧ w' = w := by
  obtain ⟨ao, cap, rfl⟩ := h.ro.form
  have c3 := h.c3
  have HH := hide h
  clear h
  go_enter Tryz.func58, Tryz.ntmps58
  go_wp2
  go_ret
  exact ⟨rfl, rfl⟩
end
end Go.Proofs.YtoamghncncalgaaGreatDoor
namespace Go.Proofs.YtoamghncncalgaaGreatDoor
open Go.RowKit Go.Maps

theorem run_allocB (w : World) : (Instr.alloc 101 true (.tuple #[])).run Tryz.prog w = .ok (.pointer (some ⟨w.heap.size, 0, none⟩)) (w.alloc (.cells (bv zer).toArray 101)) := by kernel_rfl
def wz : Wr := ⟨0, false, zer⟩
theorem run_allocW (w : World) : (Instr.alloc 103 true (.tuple #[])).run Tryz.prog w = .ok (.pointer (some ⟨w.heap.size, 0, none⟩)) (w.alloc (.cells (wcl wz).toArray 103)) := by kernel_rfl
theorem run_buildW (a : Int) (w : World) : (Instr.build 103 #[(0, .int .i64 a)]).run Tryz.prog w = .ok (.agg (wcl ⟨a, false, zer⟩).toArray) w := by kernel_rfl
section
variable {ops : Array Oper} {rest : List Oper} {o : Oper} {a : Act} {Q : Exit → Act → World → Prop}
theorem wpList_allocB (w : World) (hg : o.guard = none) (ho : o.op = .alloc 101) (h : wpList Tryz.prog ops Q rest (a.put o.dst (.pointer (some ⟨w.heap.size, 0, none⟩))) (w.alloc (.cells (bv zer).toArray 101))) : wpList Tryz.prog ops Q (o :: rest) a w := by
  refine wpList_plain hg fun K hK => ?_
  unfold Oper.wp
  simp [execOp, ho, run_allocB, Result.andThen]
  exact hK _ _ h
theorem wpList_allocW (w : World) (hg : o.guard = none) (ho : o.op = .alloc 103) (h : wpList Tryz.prog ops Q rest (a.put o.dst (.pointer (some ⟨w.heap.size, 0, none⟩))) (w.alloc (.cells (wcl wz).toArray 103))) : wpList Tryz.prog ops Q (o :: rest) a w := by
  refine wpList_plain hg fun K hK => ?_
  unfold Oper.wp
  simp [execOp, ho, run_allocW, Result.andThen]
  exact hK _ _ h
theorem wpList_buildW (w : World) (hg : o.guard = none) (x : Operand) (ho : o.op = .build 103 #[(0, x)]) (n : Int) (hx : a.eval x = .int .i64 n) (h : wpList Tryz.prog ops Q rest (a.put o.dst (.agg (wcl ⟨n, false, zer⟩).toArray)) w) : wpList Tryz.prog ops Q (o :: rest) a w := by
  refine wpList_plain hg fun K hK => ?_
  unfold Oper.wp
  simp only [execOp, ho, List.map_toArray, List.map_cons, List.map_nil, hx]
  simp [run_buildW, Result.andThen]
  exact hK _ _ h
theorem wpList_storeB (w : World) (hg : o.guard = none) (x y : Operand) (ho : o.op = .store 101 x y) (c b : List Int) (hc : c.length = 64) (hb : b.length = 64) (hx : a.eval x = .pointer (some ⟨w.heap.size, 0, none⟩)) (hy : a.eval y = .agg (bv b).toArray)
    (h : wpList Tryz.prog ops Q rest (a.put o.dst undef) (w.alloc (.cells (bv b).toArray 101))) : wpList Tryz.prog ops Q (o :: rest) a (w.alloc (.cells (bv c).toArray 101)) := by
  refine wpList_plain hg fun K hK => ?_
  have hrun := run_storeAt_new (P := Tryz.prog) w 101 (bv c).toArray (bv b).toArray (by rw [infoBl]; simp [bv_len, hb]) (by simp [bv_len, hb, hc]) (all_oneCell_toArray (bv_one b))
  unfold Oper.wp
  simp only [execOp, ho, hx, hy]
  simp [hrun, Result.andThen]
  exact hK _ _ h
theorem wpList_storeW (w : World) (hg : o.guard = none) (x y : Operand) (ho : o.op = .store 103 x y) (c b : Wr) (hc : c.by_.length = 64) (hb : b.by_.length = 64) (hx : a.eval x = .pointer (some ⟨w.heap.size, 0, none⟩)) (hy : a.eval y = .agg (wcl b).toArray)
    (h : wpList Tryz.prog ops Q rest (a.put o.dst undef) (w.alloc (.cells (wcl b).toArray 103))) : wpList Tryz.prog ops Q (o :: rest) a (w.alloc (.cells (wcl c).toArray 103)) := by
  refine wpList_plain hg fun K hK => ?_
  have hrun := run_storeAt_new (P := Tryz.prog) w 103 (wcl c).toArray (wcl b).toArray (by rw [infoWr]; simp [wcl, bv_len, hb]) (by simp [wcl, bv_len, hb, hc]) (all_oneCell_toArray (wcl_one b))
  unfold Oper.wp
  simp only [execOp, ho, hx, hy]
  simp [hrun, Result.andThen]
  exact hK _ _ h
theorem wpList_look (w : World) (hg : o.guard = none) (x y : Operand) (ho : o.op = .lookup 78 x y false) (b : Nat) (n : Int) (l : Cs) (hx : a.eval x = .map (some b)) (hy : a.eval y = .int .i64 n) (hm : Mp w b l) (hn : Num n)
    (h : wpList Tryz.prog ops Q rest (a.put o.dst (.agg (bv ((look l n).getD zer)).toArray)) w) : wpList Tryz.prog ops Q (o :: rest) a w := by
  refine wpList_plain hg fun K hK => ?_
  unfold Oper.wp
  simp only [execOp, ho, hx, hy]
  simp [hm.look hn, Result.andThen]
  exact hK _ _ h
theorem wpList_lookOk (w : World) (hg : o.guard = none) (x y : Operand) (ho : o.op = .lookup 78 x y true) (b : Nat) (n : Int) (l : Cs) (hx : a.eval x = .map (some b)) (hy : a.eval y = .int .i64 n) (hm : Mp w b l) (hn : Num n)
    (h : wpList Tryz.prog ops Q rest (a.put o.dst (.tuple #[.agg (bv ((look l n).getD zer)).toArray, .bool (look l n).isSome])) w) : wpList Tryz.prog ops Q (o :: rest) a w := by
  refine wpList_plain hg fun K hK => ?_
  unfold Oper.wp
  simp only [execOp, ho, hx, hy]
  simp [hm.lookOk hn, Result.andThen]
  exact hK _ _ h
end
section
variable {d bS bT : Nat} {u : Value} {s : Dst} {tk : Cs} {lo : List Wr}
theorem zer_len : zer.length = 64 := by simp [zer]
theorem at_len {l : Cs} (h : ∀ p ∈ l, Num p.1 ∧ Blk p.2) (a : Int) : ((look l a).getD zer).length = 64 := (look_blk h a).1
set_option maxRecDepth 100000 in
theorem bread_bad (a : Int) (w : World) (h : Dk w d bS bT u s tk lo) (ha : ¬ Num a) : Calls Tryz.prog 81 #[.pointer (some ⟨d, 0, none⟩), .int .i64 a] w fun e w' => e = .returned (.tuple #[.slice none 0 0, bft opBlock a 2]) ∧ w' = w := by
  have HH := hide h
  have HA := hide ha
  clear h ha
  go_enter Tryz.func81, Tryz.ntmps81
  go_wp2_with (first | (go_at_call 59; refine (check_bad _ _ HA.out).mono ?_; rintro e w9 ⟨rfl, hw9⟩; rw [hw9]; clear hw9 w9))
  go_ret2
  exact ⟨rfl, rfl⟩
set_option maxRecDepth 100000 in
theorem bread_ok (a : Int) (w : World) (h : Dk w d bS bT u s tk lo) (hb : ∀ p ∈ tk, Num p.1 ∧ Blk p.2) (ha : Num a) : Calls Tryz.prog 81 #[.pointer (some ⟨d, 0, none⟩), .int .i64 a] w fun e w' => e = .returned (.tuple #[.slice (some ⟨w.heap.size, 0, none⟩) 64 64, .nilIface]) ∧ w' = w.alloc (.cells (bv ((look tk a).getD zer)).toArray 101) := by
  have HH := hide h
  have HA := hide ha
  have HL := hide (at_len hb a)
  have c2 := h.c2
  clear h ha hb
  go_enter Tryz.func81, Tryz.ntmps81
  go_wp2_with (first | (go_at_call 59; refine (check_ok _ _ HA.out).mono ?_; rintro e w9 ⟨rfl, hw9⟩; rw [hw9]; clear hw9 w9) | (refine wpList_look _ rfl _ _ rfl _ _ _ rfl rfl HH.out.mt HA.out ?_) | (refine wpList_allocB _ rfl rfl ?_) | (refine wpList_storeB _ rfl _ _ rfl zer _ zer_len HL.out rfl rfl ?_))
  go_ret2
  exact ⟨rfl, rfl⟩
end
end Go.Proofs.YtoamghncncalgaaGreatDoor
