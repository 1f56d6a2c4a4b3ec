/-
  A CHAIN's SMALL STEPS: bytes in a row of their own, copied, loaded and stored; the edges of a block (chain.ahead, behind); the stamp that an edge is. Conditions: blocks of sixty-four bytes.
  WHAT A BLOCK OF A CHAIN SAYS (chain.pieceOf), how many blocks a record takes (chain.Blocks), how a stamp stands in a block (chain.edgeOf). Conditions: blocks of sixty-four bytes; stamps not below 0.
-/
import Derived.Test.YtoamghncncalgaaGreatDoorJBlkQa2
import Derived.Test.YtoamghncncalgaaGreatDoorJChMa2
import Derived.Laws.CopyRow
import Derived.ChangeKeysEq
namespace Go.Proofs.YtoamghncncalgaaGreatDoor
open Go.RowKit

/-- Bytes in a row of their own. -/
def Rq (W : World) (g : Nat) (t : TypeId) (b : List Int) : Prop := W.heap[g]? = some (.cells (bv b).toArray t (0, 0))
theorem Rq.lt {W : World} {g : Nat} {t : TypeId} {b : List Int} (h : Rq W g t b) : g < W.heap.size := (Array.getElem?_eq_some_iff.1 h).1
theorem Rq.keep {W W' : World} {g : Nat} {t : TypeId} {b : List Int} (h : Rq W g t b) (he : W'.heap[g]? = W.heap[g]?) : Rq W' g t b := he.trans h
theorem Rq.below {W W' : World} {g : Nat} {t : TypeId} {b : List Int} (h : Rq W g t b) (hb : Below W.heap.size W W') : Rq W' g t b := h.keep (hb.block g h.lt)
theorem Rq.new (W : World) (t : TypeId) (b : List Int) : Rq (W.alloc (.cells (bv b).toArray t)) W.heap.size t b := Array.getElem?_push_size
theorem Rq.set {W : World} {g : Nat} {t : TypeId} {b : List Int} (h : Rq W g t b) (c : List Int) : Rq (W.setRow g (bv c).toArray) g t c := setRow_heap W g _ _ t (0, 0) h
theorem Rq.setO {W : World} {g k : Nat} {t : TypeId} {b : List Int} (h : Rq W g t b) (hk : g ≠ k) (cs : Array Value) : Rq (W.setRow k cs) g t b := h.keep (setRow_other W k g cs hk)
theorem Rq.part {W : World} {g : Nat} {t : TypeId} {b : List Int} (h : Rq W g t b) {o n : Nat} (cap : Nat) (hn : o + n ≤ b.length) (hc : n ≤ cap) : Sl bc W (.slice (some ⟨g, o, none⟩) n cap) ((b.drop o).take n) := by
  have hl : ((b.drop o).take n).length = n := by rw [List.length_take, List.length_drop]; omega
  refine .inr ⟨g, o, cap, by rw [hl], by omega, fun i hi => ?_⟩
  have hi2 : i < n := by omega
  have e : ((b.drop o).take n)[i] = b[o + i]'(by omega) := by simp
  rw [e]
  have : W.cell? ⟨g, o + i, none⟩ = (bv b)[o + i]? := by
    have h' := h
    unfold Rq at h'
    simp [World.cell?, h']
  rw [this, bv_eq, List.getElem?_map, List.getElem?_eq_getElem (by omega)]
  rfl
theorem Rq.all {W : World} {g : Nat} {t : TypeId} {b : List Int} (h : Rq W g t b) {n : Nat} (hn : n = b.length) : Sl bc W (.slice (some ⟨g, 0, none⟩) n n) b := by
  have := h.part (o := 0) (n := n) n (by omega) (Nat.le_refl _)
  rwa [List.drop_zero, List.take_of_length_le (by omega)] at this
theorem setRow_below {B g : Nat} {a W : World} (h : Below B a W) (hg : B ≤ g) (cs : Array Value) : Below B a (W.setRow g cs) :=
  ⟨h.os, h.tape, h.output, by simpa using h.size, fun k hk => (setRow_other W g k cs (by omega)).trans (h.block k hk)⟩
theorem copyR (W : World) (ty : TypeId) (g o n cap : Nat) (t : TypeId) (z b : List Int) (v : Value) (hg : Rq W g t z) (hv : Sl bc W v b) (hf : o + n ≤ z.length) :
    (Builtin.copy_ #[43, 43] ty #[.slice (some ⟨g, o, none⟩) n cap, v]).run Tryz.prog W = .ok (.int .i64 (Nat.min b.length n : Nat)) (W.setRow g (bv (z.take o ++ (b.take n ++ z.drop (o + Nat.min b.length n)))).toArray) := by
  by_cases h0 : Nat.min b.length n = 0
  · obtain ⟨ao, c, rfl⟩ := hv.form
    rw [run_copy_none (P := Tryz.prog) W 43 43 ty 5 (some ⟨g, o, none⟩) ao n cap b.length c Tryz.underlying43 infoU h0]
    have e : z.take o ++ (b.take n ++ z.drop (o + Nat.min b.length n)) = z := by
      have e1 : b.take n = [] := List.length_eq_zero_iff.1 (by rw [List.length_take, Nat.min_comm]; exact h0)
      rw [h0, e1, List.nil_append, Nat.add_zero, List.take_append_drop]
    rw [e, setRow_self W g _ t (0, 0) hg, h0]
    rfl
  · rcases hv with ⟨_, _, rfl, _⟩ | ⟨gb, go, c, rfl, h2, h3⟩
    · exact absurd (Nat.zero_min n) h0
    · have hm : (bv (b.take n)).length = Nat.min b.length n := by rw [bv_len, List.length_take, Nat.min_comm]
      have hle : Nat.min b.length n ≤ n := Nat.min_le_right _ _
      have := run_copy_row (P := Tryz.prog) W 43 43 ty 5 g o n cap ⟨gb, go, none⟩ b.length c (bv z).toArray t (bv (b.take n)) Tryz.underlying43 infoU hg hm (fun j u hu => by
          have hj : j < (b.take n).length := by simpa [bv_len] using (List.getElem?_eq_some_iff.1 hu).1
          have hj2 : j < b.length := by rw [List.length_take] at hj; omega
          rw [Addr.add_lit, h3 j hj2]
          rw [bv_eq, List.getElem?_map, List.getElem?_eq_getElem hj] at hu
          simpa using hu) (by rw [hm]; simp [bv_len]; omega) (bv_one _)
      rw [this, hm]
      have e : (bv z).toArray.toList.take o ++ bv (b.take n) ++ (bv z).toArray.toList.drop (o + Nat.min b.length n) = bv (z.take o ++ (b.take n ++ z.drop (o + Nat.min b.length n))) := by
        simp [bv, List.map_take, List.map_drop]
      rw [e]
      rfl
section
variable {ops : Array Oper} {rest : List Oper} {o : Oper} {a : Act} {Q : Exit → Act → World → Prop}
theorem wpList_copyR (W : World) (hgd : o.guard = none) (x y : Operand) (ho : o.op = .call { callee := .builtin .copy, args := #[x, y], argTypes := #[43, 43] }) (g p n cap : Nat) (t : TypeId) (z b : List Int) (v : Value) (hx : a.eval x = .slice (some ⟨g, p, none⟩) n cap) (hy : a.eval y = v) (hg : Rq W g t z) (hv : Sl bc W v b) (hf : p + n ≤ z.length)
    (h : wpList Tryz.prog ops Q rest (a.put o.dst (.int .i64 (Nat.min b.length n : Nat))) (W.setRow g (bv (z.take p ++ (b.take n ++ z.drop (p + Nat.min b.length n)))).toArray)) : wpList Tryz.prog ops Q (o :: rest) a W := by
  refine wpList_plain hgd fun K hK => ?_
  unfold Oper.wp
  simp [execOp, ho, resolve, invoke, builtin, hx, hy, copyR W o.type g p n cap t z b v hg hv hf, Result.andThen]
  exact hK _ _ h
end
section
variable {ops : Array Oper} {o : Oper} {a : Act} {w : World} {K : Act → World → Prop} {Q : Exit → Act → World → Prop} {E : Prop}
theorem step_copyR (hgd : o.guard = none) (x y : Operand) (ho : o.op = .call { callee := .builtin .copy, args := #[x, y], argTypes := #[43, 43] }) (g p n cap : Nat) (t : TypeId) (z b : List Int) (v : Value) (hx : a.eval x = .slice (some ⟨g, p, none⟩) n cap) (hy : a.eval y = v) (hg : Rq w g t z) (hv : Sl bc w v b) (hf : p + n ≤ z.length)
    (h : K (a.put o.dst (.int .i64 (Nat.min b.length n : Nat))) (w.setRow g (bv (z.take p ++ (b.take n ++ z.drop (p + Nat.min b.length n)))).toArray)) : if Region.wanted o (yielded ops a.tmps) = true then Oper.wp Tryz.prog o a w K Q else E := by
  have hw : Region.wanted o (yielded ops a.tmps) = true := by simp [Region.wanted, hgd]
  rw [if_pos hw]
  unfold Oper.wp
  simp [execOp, ho, resolve, invoke, builtin, hx, hy, copyR w o.type g p n cap t z b v hg hv hf, Result.andThen]
  exact h
end
theorem or_nat64 (j a y : Nat) (hy : y < 2 ^ j) (hs : 2 ^ j * a + y < 18446744073709551616) : bits .or .u64 ((2 ^ j * a : Nat) : Int) (y : Int) = ((2 ^ j * a + y : Nat) : Int) := by
  have h1 : 2 ^ j * a < 2 ^ 64 := by omega
  have h2 : y < 2 ^ 64 := by omega
  have e : (BitVec.ofInt 64 ((2 ^ j * a : Nat) : Int) ||| BitVec.ofInt 64 (y : Int)).toNat = 2 ^ j * a + y := by
    rw [BitVec.toNat_or, BitVec.ofInt_natCast, BitVec.ofInt_natCast, BitVec.toNat_ofNat, BitVec.toNat_ofNat, Nat.mod_eq_of_lt h1, Nat.mod_eq_of_lt h2]
    exact (Nat.two_pow_add_eq_or_of_lt hy a).symm
  show IntKind.u64.wrap ((BitVec.ofInt 64 ((2 ^ j * a : Nat) : Int) ||| BitVec.ofInt 64 (y : Int)).toNat : Int) = _
  rw [e, IntKind.wrap_u64]
  omega
theorem or_add64 {n x : Int} (h0 : 0 ≤ n) (h1 : n < 72057594037927936) (h2 : 0 ≤ x) (h3 : x ≤ 255) : bits .or .u64 (n * 256) x = n * 256 + x := by
  have e := or_nat64 8 n.toNat x.toNat (by omega) (by omega)
  rw [show ((2 ^ 8 * n.toNat : Nat) : Int) = n * 256 by omega, show ((x.toNat : Nat) : Int) = x by omega] at e
  rw [e]
  omega
def zr8 : List Int := [0, 0, 0, 0, 0, 0, 0, 0]
theorem cp8 {b l : List Int} (h : b.take 8 = l) (hl : l.length = 8) : zr8.take 0 ++ (b.take 8 ++ zr8.drop (0 + Nat.min b.length 8)) = l := by
  have e : Nat.min b.length 8 = 8 := by
    have := congrArg List.length h
    rw [List.length_take] at this
    show min b.length 8 = 8
    rw [Nat.min_comm]
    exact this.trans hl
  rw [e, h, List.take_zero, List.nil_append]
  exact List.append_nil _
theorem infoE : (Tryz.prog.info? 125).map (·.size) = some 8 := by kernel_rfl
theorem run_allocE (w : World) : (Instr.alloc 125 true (.tuple #[])).run Tryz.prog w = .ok (.pointer (some ⟨w.heap.size, 0, none⟩)) (w.alloc (.cells (bv zr8).toArray 125)) := by kernel_rfl
theorem plainU : Tryz.prog.plainKey 5 = true := by kernel_rfl
theorem run_partU {xs : List Int} {i : Nat} {x : Int} (W : World) (h : xs[i]? = some x) : (part 5 (bv xs).toArray i).run Tryz.prog W = .ok (.int .u8 x) W := run_part_plain W plainU (by simp [bv, h])
theorem info_size {t : TypeId} {n : Nat} (h : (Tryz.prog.info? t).map (·.size) = some n) : ∃ i, Tryz.prog.info? t = some i ∧ i.size = n := by
  cases hi : Tryz.prog.info? t with
  | none => rw [hi] at h; cases h
  | some i => rw [hi] at h; exact ⟨i, rfl, by simpa using h⟩
theorem run_indexE (W : World) (l : List Int) (k : Nat) (x : Int) (hk : k < 8) (hx : l[k]? = some x) : (Instr.index 125 (.agg (bv l).toArray) (.int .i64 k)).run Tryz.prog W = .ok (.int .u8 x) W := by
  obtain ⟨i, hi, hs⟩ := info_size infoU
  unfold Instr.index
  simp only [asIntOf, Sem.run_bind, Sem.run_pure, Result.andThen_ok, run_underlying Tryz.underlying125, sizeOf, typeInfo]
  have h8 : (0 : Int) ≤ k ∧ (k : Int) < ((8 : Nat) : Int) := by omega
  rw [if_pos h8]
  simp [hi, hs, run_partU W hx]
theorem run_eqItemsU (W : World) (d : Nat) (x y : List Int) : ∀ is : List Nat, (∀ i ∈ is, i < x.length ∧ i < y.length) → ∃ r : Bool, (Op.eqItems (d + 1) 5 1 (bv x).toArray (bv y).toArray is).run Tryz.prog W = .ok r W ∧ (r = true ↔ ∀ i ∈ is, x[i]? = y[i]?)
  | [], _ => ⟨true, by simp [Op.eqItems], by simp⟩
  | i :: is, h => by
    obtain ⟨r, hr, hiff⟩ := run_eqItemsU W d x y is (fun j hj => h j (List.mem_cons_of_mem _ hj))
    have hi := h i List.mem_cons_self
    have h1 : x[i]? = some x[i] := List.getElem?_eq_getElem hi.1
    have h2 : y[i]? = some y[i] := List.getElem?_eq_getElem hi.2
    have he : (Op.equalIn (d + 1) 5 (.int .u8 x[i]) (.int .u8 y[i])).run Tryz.prog W = .ok (x[i] == y[i]) W := by
      simp [Op.equalIn, run_underlying Tryz.underlying5]
    simp only [Op.eqItems, Sem.run_bind, Nat.mul_one, run_partU W h1, run_partU W h2, Result.andThen_ok, he]
    by_cases hxy : x[i] = y[i]
    · refine ⟨r, by simpa [hxy] using hr, ?_⟩
      rw [hiff]
      simp only [List.mem_cons, forall_eq_or_imp, h1, h2, hxy, true_and]
    · refine ⟨false, by simp [hxy], ?_⟩
      simp [h1, h2, hxy]
theorem cellsU : Tryz.prog.cellsOf 5 = 1 := by kernel_rfl
theorem run_eqE (W : World) (x y : List Int) (hx : x.length = 8) (hy : y.length = 8) : (Op.equal 125 (.agg (bv x).toArray) (.agg (bv y).toArray)).run Tryz.prog W = .ok (decide (x = y)) W := by
  obtain ⟨i, hi, hs⟩ := info_size infoU
  have h1 := run_equalIn_array (P := Tryz.prog) W (9998 + 1) (bv x).toArray (bv y).toArray Tryz.underlying125 hi
  rw [cellsU] at h1
  obtain ⟨r, hr, hiff⟩ := run_eqItemsU W 9998 x y (List.range 8) (fun j hj => by rw [List.mem_range] at hj; omega)
  have hd : Op.maxDepth = 9998 + 1 + 1 := rfl
  unfold Op.equal
  rw [hd, h1, hr]
  suffices e : r = decide (x = y) by rw [e]
  rw [Bool.eq_iff_iff, hiff, decide_eq_true_iff]
  constructor
  · intro h
    apply List.ext_getElem?
    intro j
    by_cases hj : j < 8
    · exact h j (List.mem_range.2 hj)
    · rw [List.getElem?_eq_none (by omega), List.getElem?_eq_none (by omega)]
  · intro h j _
    rw [h]
section
variable {ops : Array Oper} {rest : List Oper} {o : Oper} {a : Act} {Q : Exit → Act → World → Prop}
theorem wpList_indexE (w : World) (hg : o.guard = none) (x y : Operand) (ho : o.op = .index 125 x y) (l : List Int) (k : Nat) (v : Int) (hx : a.eval x = .agg (bv l).toArray) (hy : a.eval y = .int .i64 k) (hk : k < 8) (hv : l[k]? = some v) (h : wpList Tryz.prog ops Q rest (a.put o.dst (.int .u8 v)) w) : wpList Tryz.prog ops Q (o :: rest) a w := by
  refine wpList_plain hg fun K hK => ?_
  unfold Oper.wp
  simp only [execOp, ho, hx, hy]
  simp [run_indexE w l k v hk hv, Result.andThen]
  exact hK _ _ h
theorem wpList_allocE (w : World) (hg : o.guard = none) (ho : o.op = .alloc 125) (h : wpList Tryz.prog ops Q rest (a.put o.dst (.pointer (some ⟨w.heap.size, 0, none⟩))) (w.alloc (.cells (bv zr8).toArray 125))) : wpList Tryz.prog ops Q (o :: rest) a w := by
  refine wpList_plain hg fun K hK => ?_
  unfold Oper.wp
  simp [execOp, ho, run_allocE, Result.andThen]
  exact hK _ _ h
theorem wpList_loadE (w : World) (hg : o.guard = none) (x : Operand) (ho : o.op = .load 125 x) (g : Nat) (t : TypeId) (b : List Int) (hx : a.eval x = .pointer (some ⟨g, 0, none⟩)) (hr : Rq w g t b) (hb : b.length = 8)
    (h : wpList Tryz.prog ops Q rest (a.put o.dst (.agg (bv b).toArray)) w) : wpList Tryz.prog ops Q (o :: rest) a w :=
  wpList_load_row hg 125 x ho g hx t _ (0, 0) _ hr Tryz.underlying125 rfl (by rw [infoE]; simp [bv_len, hb]) h
theorem wpList_storeE (w : World) (hg : o.guard = none) (x y : Operand) (ho : o.op = .store 125 x y) (g : Nat) (t : TypeId) (c b : List Int) (hx : a.eval x = .pointer (some ⟨g, 0, none⟩)) (hy : a.eval y = .agg (bv b).toArray) (hr : Rq w g t c) (hc : c.length = 8) (hb : b.length = 8)
    (h : wpList Tryz.prog ops Q rest (a.put o.dst undef) (w.setRow g (bv b).toArray)) : wpList Tryz.prog ops Q (o :: rest) a w :=
  wpList_store_row hg 125 x y ho g _ hx hy t _ hr (by rw [infoE]; simp [bv_len, hb]) (by simp [bv_len, hb, hc]) (all_oneCell_toArray (bv_one b)) h
end
set_option maxRecDepth 100000 in
set_option maxHeartbeats 4000000 in
theorem ahead_any (v : Value) (b : List Int) (w : World) (hv : Sl bc w v b) (hb : b.length = 64) : Calls Tryz.prog 66 #[v] w fun e w' => e = .returned (.agg (bv (b.take 8)).toArray) ∧ Below w.heap.size w w' := by
  rcases hv with ⟨_, _, e, _⟩ | ⟨g, o, cap, rfl, hcap, hce⟩
  · rw [e] at hb; simp at hb
  have HB6 := hide hb
  have hv : Sl bc w (.slice (some ⟨g, o, none⟩) b.length cap) b := .inr ⟨g, o, cap, rfl, hcap, hce⟩
  have hs1 : (w.alloc (.cells (bv zr8).toArray 125)).heap.size = w.heap.size + 1 := by simp
  have HR0 : Hid (Rq ((w.alloc (.cells (bv zr8).toArray 125)).alloc (.cells (bv zr8).toArray 125)) w.heap.size 125 zr8) := hide ((Rq.new w 125 zr8).below ((Below.refl _ _).alloc (Nat.le_refl _) _))
  have HR1 : Hid (Rq ((w.alloc (.cells (bv zr8).toArray 125)).alloc (.cells (bv zr8).toArray 125)) (w.heap.size + 1) 125 zr8) := hide (by have := Rq.new (w.alloc (.cells (bv zr8).toArray 125)) 125 zr8; rwa [hs1] at this)
  have HBL : Hid (Below w.heap.size w ((w.alloc (.cells (bv zr8).toArray 125)).alloc (.cells (bv zr8).toArray 125))) := hide (((Below.refl _ _).alloc (Nat.le_refl _) _).alloc (by simp) _)
  have HV := hide (hv.below HBL.out)
  have HC := hide hcap
  have HCE := hide hce
  clear hv hcap hce
  go_enter Tryz.func66, Tryz.ntmps66
  go_upto_region 2 with (first | (refine wpList_allocE _ rfl rfl ?_))
  rw [hs1]
  clear hs1
  generalize ((w.alloc (.cells (bv zr8).toArray 125)).alloc (.cells (bv zr8).toArray 125)) = W2 at HR0 HR1 HBL HV ⊢
  rw [HB6.out] at HV
  have h8 : (b.take 8).length = 8 := by rw [List.length_take, HB6.out]; decide
  have H8 := hide h8
  clear h8
  have HZ := hide (cp8 (b := b) rfl H8.out)
  go_upto_region 3 with (first | (refine wpList_copyR _ rfl _ _ rfl (w.heap.size + 1) 0 8 8 125 zr8 b _ rfl rfl HR1.out HV.out (by decide) ?_; rw [HZ.out]))
  have HR3 := hide (HR1.out.set (b.take 8))
  have HR4 := hide (HR0.out.setO (k := w.heap.size + 1) (by omega) (bv (b.take 8)).toArray)
  have HB3 := hide (setRow_below HBL.out (g := w.heap.size + 1) (by omega) (bv (b.take 8)).toArray)
  generalize W2.setRow (w.heap.size + 1) (bv (b.take 8)).toArray = W3 at HR3 HR4 HB3 ⊢
  go_wp2_with (first | (refine wpList_loadE _ rfl _ rfl (w.heap.size + 1) _ _ rfl HR3.out H8.out ?_) | (refine wpList_storeE _ rfl _ _ rfl w.heap.size _ _ _ rfl rfl HR4.out rfl H8.out ?_))
  exact bodyPost_ret (v := .agg (bv (b.take 8)).toArray) (results_cell_row Tryz.results66 _ _ w.heap.size _ (bv (b.take 8)).toArray (0, 0) _ rfl (HR4.out.set _) Tryz.underlying125 rfl (by rw [infoE]; simp only [List.size_toArray, bv_len, H8.out])) rfl ⟨rfl, setRow_below HB3.out (Nat.le_refl _) _⟩
set_option maxRecDepth 100000 in
set_option maxHeartbeats 4000000 in
theorem behind_any (v : Value) (b : List Int) (w : World) (hv : Sl bc w v b) (hb : b.length = 64) : Calls Tryz.prog 68 #[v] w fun e w' => e = .returned (.agg (bv (b.drop 56)).toArray) ∧ Below w.heap.size w w' := by
  rcases hv with ⟨_, _, e, _⟩ | ⟨g, o, cap, rfl, hcap, hce⟩
  · rw [e] at hb; simp at hb
  have HB6 := hide hb
  have hv : Sl bc w (.slice (some ⟨g, o, none⟩) b.length cap) b := .inr ⟨g, o, cap, rfl, hcap, hce⟩
  have hs1 : (w.alloc (.cells (bv zr8).toArray 125)).heap.size = w.heap.size + 1 := by simp
  have HR0 : Hid (Rq ((w.alloc (.cells (bv zr8).toArray 125)).alloc (.cells (bv zr8).toArray 125)) w.heap.size 125 zr8) := hide ((Rq.new w 125 zr8).below ((Below.refl _ _).alloc (Nat.le_refl _) _))
  have HR1 : Hid (Rq ((w.alloc (.cells (bv zr8).toArray 125)).alloc (.cells (bv zr8).toArray 125)) (w.heap.size + 1) 125 zr8) := hide (by have := Rq.new (w.alloc (.cells (bv zr8).toArray 125)) 125 zr8; rwa [hs1] at this)
  have HBL : Hid (Below w.heap.size w ((w.alloc (.cells (bv zr8).toArray 125)).alloc (.cells (bv zr8).toArray 125))) := hide (((Below.refl _ _).alloc (Nat.le_refl _) _).alloc (by simp) _)
  have HV := hide (hv.below HBL.out)
  have HC := hide hcap
  have HCE := hide hce
  clear hv hcap hce
  go_enter Tryz.func68, Tryz.ntmps68
  go_upto_region 2 with (first | (refine wpList_allocE _ rfl rfl ?_))
  rw [hs1]
  clear hs1
  generalize ((w.alloc (.cells (bv zr8).toArray 125)).alloc (.cells (bv zr8).toArray 125)) = W2 at HR0 HR1 HBL ⊢
  have H8 : Hid ((b.drop 56).length = 8) := hide (by rw [List.length_drop, HB6.out])
  have HZ := hide (cp8 (b := b.drop 56) (List.take_of_length_le (Nat.le_of_eq H8.out)) H8.out)
  have hc64 : 64 ≤ cap := by have := HC.out; have := HB6.out; omega
  have hc56 : ¬ cap = 56 := by omega
  rw [HB6.out]
  refine wp_region_held_drew (S := fun _ => True) (by kernel_rfl) trivial (fun hHeld => ?_)
  have HR1d := hide (HR1.out.below (Below.refl W2.heap.size W2).drew)
  have HR0d := hide (HR0.out.below (Below.refl W2.heap.size W2).drew)
  have HBLd := hide (HBL.out.trans ((Below.refl W2.heap.size W2).drew.mono HBL.out.size))
  generalize W2.drew = W4 at HR1d HR0d HBLd hHeld ⊢
  clear HR1 HR0 HBL HV
  have HR1 := HR1d
  have HR0 := HR0d
  have HBL := HBLd
  clear HR1d HR0d HBLd
  have hW : ∃ X, X = W4 := ⟨_, rfl⟩
  obtain ⟨W2, rfl⟩ := hW
  have HS5 : Hid (Sl bc W2 (.slice (some ⟨g, o + 56, none⟩) 8 (cap - 56)) (b.drop 56)) := hide (.inr ⟨g, o + 56, cap - 56, by rw [H8.out], by rw [H8.out]; omega, fun i hi => by
    have hi2 : 56 + i < b.length := by rw [List.length_drop] at hi; omega
    have := HCE.out (56 + i) hi2
    rw [show o + 56 + i = o + (56 + i) by omega, World.cell?_of_block (HBL.out.block g (cell_block this)), this]
    simp⟩)
  refine wpAnyH_take (i := 0) (oi := _) (v := .slice (some ⟨w.heap.size + 1, 0, none⟩) 8 8) rfl (by kernel_rfl) (by kernel_rfl) (by kernel_rfl) (fun _ _ _ h => h) (Or.inl ⟨by rfl, by intro w hSw; go_simp⟩) hHeld ?_
  change wpAnyH _ _ _ _ _ _ _ (Act.put _ (some 4) _) _
  simp only [Act.put, List.setIfInBounds_toArray, List.set_cons_zero, List.set_cons_succ]
  refine wpAnyH_take (i := 1) (oi := _) (v := .slice (some ⟨g, o, none⟩) 64 cap) rfl (by kernel_rfl) (by kernel_rfl) (by kernel_rfl) (fun _ _ _ h => h) (Or.inl ⟨by rfl, by intro w hSw; go_simp⟩) hHeld ?_
  change wpAnyH _ _ _ _ _ _ _ (Act.put _ (some 5) _) _
  simp only [Act.put, List.setIfInBounds_toArray, List.set_cons_zero, List.set_cons_succ]
  refine wpAnyH_take (i := 2) (oi := _) (v := .slice (some ⟨g, o + 56, none⟩) 8 (cap - 56)) rfl (by kernel_rfl) (by kernel_rfl) (by kernel_rfl) (fun _ _ _ h => h) (Or.inl ⟨by rfl, by intro w hSw; go_simp⟩) hHeld ?_
  change wpAnyH _ _ _ _ _ _ _ (Act.put _ (some 6) _) _
  simp only [Act.put, List.setIfInBounds_toArray, List.set_cons_zero, List.set_cons_succ]
  refine wpAnyH_ready (rs := [3]) (by kernel_rfl) (by simp) ?_
  refine AllReadyH.cons (o := _) rfl (fun K hK => ?_) AllReadyH.nil
  refine step_copyR rfl _ _ rfl (w.heap.size + 1) 0 8 8 125 zr8 (b.drop 56) _ rfl rfl HR1.out HS5.out (by decide) ?_
  rw [HZ.out]
  refine hK.out _ _ trivial (fun hHeld1 => ?_)
  clear hK K hHeld
  have hHeld := hHeld1
  clear hHeld1
  refine wpAnyH_done (by kernel_rfl) ?_ _
  clear hHeld
  have HR3 := hide (HR1.out.set (b.drop 56))
  have HR4 := hide (HR0.out.setO (k := w.heap.size + 1) (by omega) (bv (b.drop 56)).toArray)
  have HB3 := hide (setRow_below HBL.out (g := w.heap.size + 1) (by omega) (bv (b.drop 56)).toArray)
  generalize W2.setRow (w.heap.size + 1) (bv (b.drop 56)).toArray = W3 at HR3 HR4 HB3 ⊢
  go_wp2_with (first | (refine wpList_loadE _ rfl _ rfl (w.heap.size + 1) _ _ rfl HR3.out H8.out ?_) | (refine wpList_storeE _ rfl _ _ rfl w.heap.size _ _ _ rfl rfl HR4.out rfl H8.out ?_))
  exact bodyPost_ret (v := .agg (bv (b.drop 56)).toArray) (results_cell_row Tryz.results68 _ _ w.heap.size _ (bv (b.drop 56)).toArray (0, 0) _ rfl (HR4.out.set _) Tryz.underlying125 rfl (by rw [infoE]; simp only [List.size_toArray, bv_len, H8.out])) rfl ⟨rfl, setRow_below HB3.out (Nat.le_refl _) _⟩
set_option maxRecDepth 100000 in
set_option maxHeartbeats 4000000 in
theorem stamp_any (l : List Int) (w : World) (hl : l.length = 8) (hb : Byt l) : Calls Tryz.prog 67 #[.agg (bv l).toArray] w fun e w' => e = .returned (.int .i64 (stp l)) ∧ Below w.heap.size w w' := by
  have HL := hide hl
  have HBY := hide hb
  have hal := (Below.refl w.heap.size w).alloc (Nat.le_refl _) (.cells (bv l).toArray 125)
  have HRN := hide (Rq.new w 125 l)
  have HBL := hide hal
  clear hal hb
  go_enter Tryz.func67, Tryz.ntmps67
  go_wp2_with (first | (refine wpList_loadE _ rfl _ rfl w.heap.size _ _ rfl HRN.out HL.out ?_))
  generalize w.alloc (.cells (bv l).toArray 125) = W1 at HRN HBL ⊢
  go_loopw [3, 7] (fun n i W => ∃ k : Nat, k ≤ 8 ∧ i = .int .i64 k ∧ n = .int .u64 (num8 (l.take k)) ∧ W = W1) (fun _ i _ => 8 - (iv i).toNat)
  case atStart => exact ⟨0, by omega, rfl, by simp [num8], rfl⟩
  case round =>
    obtain ⟨k, hk, rfl, rfl, rfl⟩ := hrel
    have hbd := num8_bd k (l.take k) (by rw [List.length_take, HL.out]; omega) (fun x hx => HBY.out x (List.mem_of_mem_take hx))
    by_cases hlt : k < 8
    · have hkl : k < l.length := by omega
      have hx := HBY.out _ (List.getElem_mem hkl)
      have HN : Hid (num8 (l.take (k + 1)) = num8 (l.take k) * 256 + l[k]) := hide (by rw [take_step hkl, num8_snoc])
      have HG : Hid (l[k]? = some l[k]) := hide (List.getElem?_eq_getElem hkl)
      have hn7 : num8 (l.take k) < 72057594037927936 := by
        have h1 : (256 : Int) ^ k ≤ 256 ^ 7 := by
          have := Nat.pow_le_pow_right (n := 256) (by decide) (show k ≤ 7 by omega)
          exact_mod_cast this
        have := hbd.2
        omega
      have hn0 := hbd.1
      generalize l[k] = x at hx HN HG
      generalize num8 (l.take k) = n at hn7 hn0 HN hbd
      obtain ⟨hx0, hx1⟩ := hx
      have hor : bits .or .u64 (n * 256) x = n * 256 + x := or_add64 hn0 hn7 hx0 hx1
      clear hbd
      go_wp2_with (first | (refine wpList_indexE _ rfl _ _ rfl l k x rfl rfl hlt HG.out ?_))
      exact ⟨⟨k + 1, by omega, by go_num, by rw [HN.out], by trivial⟩, by simp [iv]; omega⟩
    · obtain rfl : k = 8 := by omega
      have e : l.take 8 = l := List.take_of_length_le (by omega)
      rw [e] at hbd ⊢
      by_cases ht : num8 l ≤ 1152921504606846976
      · have HS : Hid (stp l = num8 l) := hide (by unfold stp; rw [if_pos ht])
        generalize num8 l = n at ht hbd HS ⊢
        go_wp2
        go_ret
        exact ⟨by rw [HS.out]; rfl, HBL.out⟩
      · have HS : Hid (stp l = 0) := hide (by unfold stp; rw [if_neg ht])
        generalize num8 l = n at ht hbd ⊢
        go_wp2
        go_ret
        exact ⟨by rw [HS.out]; rfl, HBL.out⟩
end Go.Proofs.YtoamghncncalgaaGreatDoor
namespace Go.Proofs.YtoamghncncalgaaGreatDoor
open Go.RowKit

theorem or16 {x y : Int} (hx : 0 ≤ x) (hx2 : x ≤ 255) (hy : 0 ≤ y) (hy2 : y ≤ 255) : bits .or .i64 (x * 256) y = x * 256 + y := by
  obtain ⟨a, rfl⟩ : ∃ n : Nat, x = n := ⟨x.toNat, by omega⟩
  obtain ⟨b, rfl⟩ : ∃ n : Nat, y = n := ⟨y.toNat, by omega⟩
  have e : (BitVec.ofInt 64 ((a : Int) * 256) ||| BitVec.ofInt 64 (b : Int)).toNat = 2 ^ 8 * a + b := by
    rw [show (a : Int) * 256 = ((2 ^ 8 * a : Nat) : Int) by omega, BitVec.toNat_or, BitVec.ofInt_natCast, BitVec.ofInt_natCast, BitVec.toNat_ofNat, BitVec.toNat_ofNat, Nat.mod_eq_of_lt (by omega), Nat.mod_eq_of_lt (by omega)]
    exact (Nat.two_pow_add_eq_or_of_lt (by omega) a).symm
  show IntKind.i64.wrap ((BitVec.ofInt 64 ((a : Int) * 256) ||| BitVec.ofInt 64 (b : Int)).toNat : Int) = _
  rw [e, IntKind.wrap_i64]
  omega
theorem bit15 {n : Nat} (h : n < 65536) : n &&& 32768 = if 32768 ≤ n then 32768 else 0 := by
  have ht : n.testBit 15 = decide (32768 ≤ n) := by
    rw [Nat.testBit_eq_decide_div_mod_eq]
    congr 1
    simp only [eq_iff_iff]
    omega
  apply Nat.eq_of_testBit_eq
  intro i
  rw [Nat.testBit_and, show (32768 : Nat) = 2 ^ 15 from rfl, Nat.testBit_two_pow]
  by_cases hi : 15 = i
  · subst hi
    rw [ht]
    by_cases hn : 2 ^ 15 ≤ n
    · rw [if_pos hn, Nat.testBit_two_pow]; simp [show 32768 ≤ n from hn]
    · rw [if_neg hn]; simp [show ¬ 32768 ≤ n from hn]
  · by_cases hn : 2 ^ 15 ≤ n
    · rw [if_pos hn, Nat.testBit_two_pow]; simp [hi]
    · rw [if_neg hn]; simp [hi]
theorem and15 {n : Int} (h0 : 0 ≤ n) (h1 : n < 65536) : bits .and .i64 n 32768 = if 32768 ≤ n then 32768 else 0 := by
  obtain ⟨a, rfl⟩ : ∃ m : Nat, n = m := ⟨n.toNat, by omega⟩
  have e : (BitVec.ofInt 64 (a : Int) &&& BitVec.ofInt 64 32768).toNat = if 32768 ≤ a then 32768 else 0 := by
    rw [BitVec.toNat_and, BitVec.ofInt_natCast, BitVec.toNat_ofNat, Nat.mod_eq_of_lt (by omega), show (BitVec.ofInt 64 32768).toNat = 32768 from rfl]
    exact bit15 (by omega)
  show IntKind.i64.wrap ((BitVec.ofInt 64 (a : Int) &&& BitVec.ofInt 64 32768).toNat : Int) = _
  rw [e, IntKind.wrap_i64]
  by_cases h : 32768 ≤ a
  · rw [if_pos h, if_pos (by omega)]; decide
  · rw [if_neg h, if_neg (by omega)]; decide
theorem not15 {n : Int} (h0 : 0 ≤ n) (h1 : n < 65536) : bits .andNot .i64 n 32768 = n % 32768 := by
  obtain ⟨a, rfl⟩ : ∃ m : Nat, n = m := ⟨n.toNat, by omega⟩
  have e : (BitVec.ofInt 64 (a : Int) &&& ~~~ BitVec.ofInt 64 32768).toNat = a % 32768 := by
    rw [BitVec.toNat_and, BitVec.ofInt_natCast, BitVec.toNat_ofNat, Nat.mod_eq_of_lt (by omega), show (~~~ BitVec.ofInt 64 32768).toNat = 18446744073709518847 from rfl]
    have h2 : (a &&& 18446744073709518847) % 2 ^ 16 = (a % 2 ^ 16) &&& (18446744073709518847 % 2 ^ 16) := Nat.and_mod_two_pow
    have h3 : a &&& 18446744073709518847 ≤ a := Nat.and_le_left
    rw [Nat.mod_eq_of_lt (by omega), Nat.mod_eq_of_lt (a := a) (by omega)] at h2
    rw [h2, show 18446744073709518847 % 2 ^ 16 = 2 ^ 15 - 1 from rfl, Nat.and_two_pow_sub_one_eq_mod]
  show IntKind.i64.wrap ((BitVec.ofInt 64 (a : Int) &&& ~~~ BitVec.ofInt 64 32768).toNat : Int) = _
  rw [e, IntKind.wrap_i64]
  omega
theorem or15 {n : Int} (h0 : 0 ≤ n) (h1 : n < 32768) : bits .or .i64 n 32768 = n + 32768 := by
  obtain ⟨a, rfl⟩ : ∃ m : Nat, n = m := ⟨n.toNat, by omega⟩
  have e : (BitVec.ofInt 64 (a : Int) ||| BitVec.ofInt 64 32768).toNat = a + 32768 := by
    rw [BitVec.toNat_or, BitVec.ofInt_natCast, BitVec.toNat_ofNat, Nat.mod_eq_of_lt (by omega), show (BitVec.ofInt 64 32768).toNat = 2 ^ 15 * 1 from rfl, Nat.or_comm]
    rw [← Nat.two_pow_add_eq_or_of_lt (by omega) 1]
    omega
  show IntKind.i64.wrap ((BitVec.ofInt 64 (a : Int) ||| BitVec.ofInt 64 32768).toNat : Int) = _
  rw [e, IntKind.wrap_i64]
  omega
/-- Four cells in a block of their own. -/
structure B4 (W : World) (g : Nat) (x y z u : Value) : Prop where
  c0 : W.cell? ⟨g, 0, none⟩ = some x
  c1 : W.cell? ⟨g, 1, none⟩ = some y
  c2 : W.cell? ⟨g, 2, none⟩ = some z
  c3 : W.cell? ⟨g, 3, none⟩ = some u
  fz : ∀ i, W.frozen? ⟨g, i, none⟩ = false
section
variable {W W' : World} {g : Nat} {x y z u : Value}
theorem B4.lt (h : B4 W g x y z u) : g < W.heap.size := cell_block h.c0
theorem B4.keepB (h : B4 W g x y z u) (hk : W'.heap[g]? = W.heap[g]?) : B4 W' g x y z u :=
  ⟨(World.cell?_of_block hk).trans h.c0, (World.cell?_of_block hk).trans h.c1, (World.cell?_of_block hk).trans h.c2, (World.cell?_of_block hk).trans h.c3, fun i => (World.frozen?_of_block (a := ⟨g, i, none⟩) hk).trans (h.fz i)⟩
theorem B4.below (h : B4 W g x y z u) (hb : Below W.heap.size W W') : B4 W' g x y z u := h.keepB (hb.block g h.lt)
theorem b4_new (W : World) (x y z u : Value) (t : TypeId) : B4 (W.alloc (.cells #[x, y, z, u] t)) W.heap.size x y z u := by
  have hc : ∀ i, (W.alloc (.cells #[x, y, z, u] t)).cell? ⟨W.heap.size, i, none⟩ = #[x, y, z, u][i]? := fun i => World.cell?_alloc_at _ _ _ _ rfl
  exact ⟨hc 0, hc 1, hc 2, hc 3, fun i => by simp⟩
theorem B4.setO (h : B4 W g x y z u) {k i : Nat} (hk : g ≠ k) (v : Value) : B4 (W.setCell ⟨k, i, none⟩ v) g x y z u := h.keepB (Below.heap_setCell _ _ _ _ hk)
theorem B4.set0 (h : B4 W g x y z u) (v : Value) : B4 (W.setCell ⟨g, 0, none⟩ v) g v y z u :=
  ⟨World.cell?_setCell_same _ _ _ h.c0, by rw [World.cell?_setCell_other _ _ _ _ (by simp)]; exact h.c1, by rw [World.cell?_setCell_other _ _ _ _ (by simp)]; exact h.c2, by rw [World.cell?_setCell_other _ _ _ _ (by simp)]; exact h.c3, fun i => by simp [h.fz i]⟩
theorem B4.set1 (h : B4 W g x y z u) (v : Value) : B4 (W.setCell ⟨g, 1, none⟩ v) g x v z u :=
  ⟨by rw [World.cell?_setCell_other _ _ _ _ (by simp)]; exact h.c0, World.cell?_setCell_same _ _ _ h.c1, by rw [World.cell?_setCell_other _ _ _ _ (by simp)]; exact h.c2, by rw [World.cell?_setCell_other _ _ _ _ (by simp)]; exact h.c3, fun i => by simp [h.fz i]⟩
theorem B4.set2 (h : B4 W g x y z u) (v : Value) : B4 (W.setCell ⟨g, 2, none⟩ v) g x y v u :=
  ⟨by rw [World.cell?_setCell_other _ _ _ _ (by simp)]; exact h.c0, by rw [World.cell?_setCell_other _ _ _ _ (by simp)]; exact h.c1, World.cell?_setCell_same _ _ _ h.c2, by rw [World.cell?_setCell_other _ _ _ _ (by simp)]; exact h.c3, fun i => by simp [h.fz i]⟩
theorem B4.set3 (h : B4 W g x y z u) (v : Value) : B4 (W.setCell ⟨g, 3, none⟩ v) g x y z v :=
  ⟨by rw [World.cell?_setCell_other _ _ _ _ (by simp)]; exact h.c0, by rw [World.cell?_setCell_other _ _ _ _ (by simp)]; exact h.c1, by rw [World.cell?_setCell_other _ _ _ _ (by simp)]; exact h.c2, World.cell?_setCell_same _ _ _ h.c3, fun i => by simp [h.fz i]⟩
theorem B4.all (h : B4 W g x y z u) (x' y' z' u' : Value) : B4 ((((W.setCell ⟨g, 0, none⟩ x').setCell ⟨g, 1, none⟩ y').setCell ⟨g, 2, none⟩ z').setCell ⟨g, 3, none⟩ u') g x' y' z' u' := (((h.set0 x').set1 y').set2 z').set3 u'
theorem B4.rg (h : B4 W g x y z u) : W.rangeAt g 0 [x, y, z, u] := fun j v hv => by
  rw [Nat.zero_add]
  match j, hv with
  | 0, hv => cases hv; exact h.c0
  | 1, hv => cases hv; exact h.c1
  | 2, hv => cases hv; exact h.c2
  | 3, hv => cases hv; exact h.c3
end
theorem set4_below {B g : Nat} {a W : World} (h : Below B a W) (hg : B ≤ g) (x y z u : Value) : Below B a ((((W.setCell ⟨g, 0, none⟩ x).setCell ⟨g, 1, none⟩ y).setCell ⟨g, 2, none⟩ z).setCell ⟨g, 3, none⟩ u) := (((h.setCell (by exact hg) _).setCell (by exact hg) _).setCell (by exact hg) _).setCell (by exact hg) _
theorem set4_heap {W : World} {g k : Nat} (h : k ≠ g) (x y z u : Value) : ((((W.setCell ⟨g, 0, none⟩ x).setCell ⟨g, 1, none⟩ y).setCell ⟨g, 2, none⟩ z).setCell ⟨g, 3, none⟩ u).heap[k]? = W.heap[k]? :=
  (((Below.heap_setCell _ _ _ _ h).trans (Below.heap_setCell _ _ _ _ h)).trans (Below.heap_setCell _ _ _ _ h)).trans (Below.heap_setCell _ _ _ _ h)
theorem res_cel {P : Program} {fn : Func} {q : Tmp} {ty : TypeId} (h : fn.results = #[.cell q ty]) (tmps : Array Value) (w : World) (b : Nat) (cs : List Value) (d : TypeDesc) (hp : tmps.getD q undef = .pointer (some ⟨b, 0, none⟩)) (hc : w.rangeAt b 0 cs) (hu : P.underlying ty = some d) (hd : d.isRow = true) (hi : (P.info? ty).map (·.size) = some cs.length) :
    (results fn tmps).run P w = .ok (.agg cs.toArray) w := by
  have hp' : tmps[q]?.getD undef = .pointer (some ⟨b, 0, none⟩) := by simpa using hp
  simp [results, h, hp', asAddr, run_loadVar_mid w b 0 ty cs d hc hu hd hi]
theorem infoPc : (Tryz.prog.info? 122).map (·.size) = some 4 := by kernel_rfl
theorem Rq.rg {W : World} {g : Nat} {t : TypeId} {b : List Int} (h : Rq W g t b) : W.rangeAt g 0 (bv b) := fun j u hu => by
  have h' := h
  unfold Rq at h'
  simp only [World.cell?, h', Nat.zero_add]
  simpa using hu
theorem guardE : Tryz.prog.eqGuardType Tryz.prog.depth 125 = false := by kernel_rfl
theorem yields_eqE {ops : Array Oper} {o : Oper} {a : Act} {S : World → Prop} (hw : Region.wanted o (yielded ops a.tmps) = true) (x y : Operand) (ho : o.op = .binOp .eql 125 x y 125) (p q : List Int) (hx : a.eval x = .agg (bv p).toArray) (hy : a.eval y = .agg (bv q).toArray) (hp : p.length = 8) (hq : q.length = 8) : YieldsIf Tryz.prog ops S o (.bool (decide (p = q))) a :=
  .inl ⟨hw, fun w _ => by
    unfold execOp
    simp only [ho, hx, hy]
    simp [eqGuard, binOp, run_eqE w p q hp hq, Result.andThen]⟩
set_option maxRecDepth 100000 in
theorem blocks_any (n : Int) (w : World) (h0 : 0 ≤ n) (h1 : n ≤ 1073741824) : Calls Tryz.prog 31 #[.int .i64 n] w fun e w' => e = .returned (.int .i64 (blks n)) ∧ w' = w := by
  by_cases h : n ≤ 46
  · have HB : Hid (blks n = 1) := hide (by unfold blks; rw [if_pos h])
    go_enter Tryz.func31, Tryz.ntmps31
    go_wp2
    go_ret
    exact ⟨by rw [HB.out]; rfl, rfl⟩
  · have HB : Hid (blks n = (n - 1) / 46 + 1) := hide (by unfold blks; rw [if_neg h])
    have hd : (n - 1).tdiv 46 = (n - 1) / 46 := by rw [Int.tdiv_eq_ediv_of_nonneg (by omega)]
    have h2 : 0 ≤ (n - 1) / 46 := by omega
    have h3 : (n - 1) / 46 ≤ 1073741824 := by omega
    go_enter Tryz.func31, Tryz.ntmps31
    go_wp2
    go_ret
    exact ⟨by rw [HB.out]; rfl, rfl⟩
set_option maxRecDepth 100000 in
set_option maxHeartbeats 8000000 in
theorem piece_go (g : Nat) (t : TypeId) (b : List Int) (w : World) (hr : Rq w g t b) (hb : Blk b) (bg : Bool) (lf : Int) (m : Nat) (hbg : decide (128 ≤ b.getD 8 0) = bg) (hlf : lfO b = lf) (hm : min lf 46 = (m : Int)) : Calls Tryz.prog 82 #[.slice (some ⟨g, 0, none⟩) 64 64] w fun e w' => ∃ ad, e = .returned (.agg #[.int .i64 (pcs b).st, .bool bg, .int .i64 lf, .slice ad m m]) ∧ (0 < m → ad = some ⟨g, 10, none⟩) ∧ Below w.heap.size w w' := by
  have h8 := getD_bd hb.2 8
  have h9 := getD_bd hb.2 9
  have hlb := lfO_bd hb
  have e8 : b[8]? = some (b.getD 8 0) := by rw [List.getD_eq_getElem?_getD, List.getElem?_eq_getElem (by rw [hb.1]; decide)]; rfl
  have e9 : b[9]? = some (b.getD 9 0) := by rw [List.getD_eq_getElem?_getD, List.getElem?_eq_getElem (by rw [hb.1]; decide)]; rfl
  have HFL : Hid (lf = (b.getD 8 0 * 256 + b.getD 9 0) % 32768) := hide (by rw [← hlf]; unfold lfO; omega)
  rw [hlf] at hlb
  have HS1 : Hid (b.take 8 = b.drop 56 → (pcs b).st = stp (b.take 8)) := hide (fun e => by simp only [pcs]; rw [if_pos e])
  have HS2 : Hid (¬ b.take 8 = b.drop 56 → (pcs b).st = 0) := hide (fun e => by simp only [pcs]; rw [if_neg e])
  have HR := hide hr
  have HB := hide hb
  have HM := hide hm
  have hm46 : m ≤ 46 := by omega
  have hml : (m : Int) ≤ lf := by omega
  have HBG : Hid ((128 ≤ b.getD 8 0) ↔ bg = true) := hide (by rw [← hbg]; simp)
  have c8 : w.cell? ⟨g, 8, none⟩ = some (.int .u8 (b.getD 8 0)) := by have := hr.rg 8 (.int .u8 (b.getD 8 0)) (by rw [bv_eq, List.getElem?_map, e8]; rfl); simpa using this
  have c9 : w.cell? ⟨g, 9, none⟩ = some (.int .u8 (b.getD 9 0)) := by have := hr.rg 9 (.int .u8 (b.getD 9 0)) (by rw [bv_eq, List.getElem?_map, e9]; rfl); simpa using this
  clear e8 e9 hbg hlf hr hb hm
  generalize b.getD 8 0 = x8 at h8 h9 HFL HBG c8
  generalize b.getD 9 0 = x9 at h9 HFL c9
  obtain ⟨h80, h81⟩ := h8
  obtain ⟨h90, h91⟩ := h9
  obtain ⟨hl0, hl1⟩ := hlb
  have hor := or16 h80 h81 h90 h91
  have hnot : bits .andNot .i64 (x8 * 256 + x9) 32768 = lf := by rw [not15 (by omega) (by omega)]; exact HFL.out.symm
  have hand : bits .and .i64 (x8 * 256 + x9) 32768 = if bg then 32768 else 0 := by
    rw [and15 (by omega) (by omega)]
    cases bg
    · have : ¬ 128 ≤ x8 := fun h => by have := HBG.out.1 h; cases this
      rw [if_neg (by omega)]; rfl
    · have := HBG.out.2 rfl
      rw [if_pos (by omega)]; rfl
  have HA0 := hide ((Below.refl w.heap.size w).alloc (Nat.le_refl _) (.cells #[.int .i64 0, .bool false, .int .i64 0, .slice none 0 0] 122))
  have HB0 := hide (b4_new w (.int .i64 0) (.bool false) (.int .i64 0) (.slice none 0 0) 122)
  have d8 : (w.alloc (.cells #[.int .i64 0, .bool false, .int .i64 0, .slice none 0 0] 122)).cell? ⟨g, 8, none⟩ = some (.int .u8 x8) := (World.cell?_of_block (HA0.out.block g (cell_block c8))).trans c8
  have d9 : (w.alloc (.cells #[.int .i64 0, .bool false, .int .i64 0, .slice none 0 0] 122)).cell? ⟨g, 9, none⟩ = some (.int .u8 x9) := (World.cell?_of_block (HA0.out.block g (cell_block c8))).trans c9
  clear c8 c9 HFL HBG
  go_enter Tryz.func82, Tryz.ntmps82
  go_upto_region 1 with fail
  generalize w.alloc (.cells #[.int .i64 0, .bool false, .int .i64 0, .slice none 0 0] 122) = W0 at HA0 HB0 d8 d9 ⊢
  cases bg
  · simp only [Bool.false_eq_true, if_false] at hand
    go_wp2_with fail
    go_quiet (fail)
    have hdr : Below W0.heap.size W0 (W0.drewN nq) := below_drewN (Below.refl _ _) _
    have HA1 := hide (HA0.out.trans (hdr.mono HA0.out.size))
    have HB1 := hide (HB0.out.below hdr)
    clear d8 d9 hdr HA0 HB0
    generalize W0.drewN nq = W1 at HA1 HB1 ⊢
    go_upto_region 3 with fail
    have HB2 := hide (b4_new W1 (.int .i64 0) (.bool false) (.int .i64 lf) (.slice none 0 0) 122)
    have HA2 := hide (HA1.out.alloc (by have := HA1.out.size; omega) (.cells #[.int .i64 0, .bool false, .int .i64 lf, .slice none 0 0] 122))
    have HR2 := hide (HB1.out.below ((Below.refl W1.heap.size W1).alloc (Nat.le_refl _) (.cells #[.int .i64 0, .bool false, .int .i64 lf, .slice none 0 0] 122)))
    have HRP : Hid (w.heap.size < W1.heap.size) := hide HB1.out.lt
    generalize W1.alloc (.cells #[.int .i64 0, .bool false, .int .i64 lf, .slice none 0 0] 122) = W2 at HB2 HA2 HR2 ⊢
    generalize W1.heap.size = p at HB2 HRP ⊢
    clear HA1 HB1 hor hnot hand
    have H6 : Hid (b.length = 64) := hide HB.out.1
    have H8 : Hid ((b.take 8).length = 8) := hide (by rw [List.length_take, H6.out]; decide)
    have H56 : Hid ((b.drop 56).length = 8) := hide (by rw [List.length_drop, H6.out])
    have HY : Hid (Byt (b.take 8)) := hide (fun x hx => HB.out.2 x (List.mem_of_mem_take hx))
    go_upto_region 4 with (first | (go_at_call 66; refine (ahead_any _ b _ ((HR.out.below HA2.out).all H6.out.symm) H6.out).mono ?_; rintro e W3 ⟨rfl, hb3⟩; have HA3 := hide (HA2.out.trans (hb3.mono HA2.out.size)); have HB3 := hide (HB2.out.below hb3); have HR3 := hide (HR2.out.below hb3); clear hb3) | (refine wpList_allocE _ rfl rfl ?_) | (refine wpList_storeE _ rfl _ _ rfl W3.heap.size _ _ _ rfl rfl (Rq.new _ _ _) rfl H8.out ?_))
    have hal : Below W3.heap.size W3 (W3.alloc (.cells (bv zr8).toArray 125)) := (Below.refl _ _).alloc (Nat.le_refl _) _
    have HE4 := hide ((Rq.new W3 125 zr8).set (b.take 8))
    have hal2 := setRow_below hal (Nat.le_refl _) (bv (b.take 8)).toArray
    have HA4 := hide (HA3.out.trans (hal2.mono HA3.out.size))
    have HB4 := hide (HB3.out.below hal2)
    have HR4 := hide (HR3.out.below hal2)
    clear hal hal2 HA3 HB3 HR3 HA2 HB2 HR2
    generalize (W3.alloc (.cells (bv zr8).toArray 125)).setRow W3.heap.size (bv (b.take 8)).toArray = W4 at HE4 HA4 HB4 HR4 ⊢
    generalize W3.heap.size = ge at HE4 ⊢
    refine wp_region_held_drew (S := fun W => Rq W ge 125 (b.take 8)) (by kernel_rfl) (HE4.out.below (Below.refl _ _).drew) (fun hHeld => ?_)
    have hdr : Below W4.heap.size W4 W4.drew := (Below.refl _ _).drew
    have HA5 := hide (HA4.out.trans (hdr.mono HA4.out.size))
    have HB5 := hide (HB4.out.below hdr)
    have HR5 := hide (HR4.out.below hdr)
    clear HA4 HB4 HR4 HE4 hdr
    generalize W4.drew = W5 at HA5 HB5 HR5 hHeld ⊢
    refine wpAnyH_take (i := 0) (oi := _) (v := _) rfl (by kernel_rfl) (by kernel_rfl) (by kernel_rfl) (fun _ _ _ h => h) (yieldsIf_load_mid (by rfl) _ _ rfl _ _ rfl (bv (b.take 8)) _ (fun W hW => hW.rg) Tryz.underlying125 rfl (by rw [infoE, bv_len, H8.out])) hHeld ?_
    change wpAnyH _ _ _ _ _ _ _ (Act.put _ (some 25) _) _
    simp only [Act.put, List.setIfInBounds_toArray, List.set_cons_zero, List.set_cons_succ]
    refine wpAnyH_take (i := 1) (oi := _) (v := .slice (some ⟨g, 0, none⟩) 64 64) rfl (by kernel_rfl) (by kernel_rfl) (by kernel_rfl) (fun _ _ _ h => h) (Or.inl ⟨by rfl, by intro w hSw; go_simp⟩) hHeld ?_
    change wpAnyH _ _ _ _ _ _ _ (Act.put _ (some 26) _) _
    simp only [Act.put, List.setIfInBounds_toArray, List.set_cons_zero, List.set_cons_succ]
    refine wpAnyH_ready (rs := [2]) (by kernel_rfl) (by simp) ?_
    refine AllReadyH.cons (o := _) rfl (fun K hK => ?_) AllReadyH.nil
    go_simp
    go_at_call 68
    refine (behind_any _ b _ ((HR.out.below HA5.out).all H6.out.symm) H6.out).mono ?_
    rintro e W6 ⟨rfl, hb6⟩
    go_wp2_with fail
    refine hK.out _ _ (hHeld.below hb6) (fun hHeld1 => ?_)
    clear hK K hHeld
    have hHeld := hHeld1
    clear hHeld1
    have HA6 := hide (HA5.out.trans (hb6.mono HA5.out.size))
    have HB6 := hide (HB5.out.below hb6)
    have HR6 := hide (HR5.out.below hb6)
    clear hb6 HA5 HB5 HR5
    refine wpAnyH_take (i := 3) (oi := _) (v := .bool (decide (b.take 8 = b.drop 56))) rfl (by kernel_rfl) (by kernel_rfl) (by kernel_rfl) (fun _ _ _ h => h) (yields_eqE (by rfl) _ _ rfl _ _ rfl rfl H8.out H56.out) hHeld ?_
    change wpAnyH _ _ _ _ _ _ _ (Act.put _ (some 28) _) _
    simp only [Act.put, List.setIfInBounds_toArray, List.set_cons_zero, List.set_cons_succ]
    refine wpAnyH_done (by kernel_rfl) ?_ _
    have HE6 := hide hHeld
    clear hHeld
    by_cases heq : b.take 8 = b.drop 56
    · have hdc : decide (b.take 8 = b.drop 56) = true := decide_eq_true heq
      have HST := hide (HS1.out heq)
      rw [hdc]
      clear hdc heq
      go_upto_region 6 with (first | (go_at_call 67; refine (stamp_any _ _ H8.out HY.out).mono ?_; rintro e W7 ⟨rfl, hb7⟩; have HA7 := hide (HA6.out.trans (hb7.mono HA6.out.size)); have HB7 := hide (HB6.out.below hb7); have HR7 := hide (HR6.out.below hb7); have k0 := HB7.out.c0; have kf := HB7.out.fz 0; clear hb7) | (refine wpList_loadE _ rfl _ rfl ge _ _ rfl HE6.out H8.out ?_))
      have HB8 := hide (HB7.out.set0 (.int .i64 (stp (b.take 8))))
      have HR8 := hide (HR7.out.setO (k := p) (i := 0) (by have := HRP.out; omega) (.int .i64 (stp (b.take 8))))
      have HA8 := hide (HA7.out.setCell (p := ⟨p, 0, none⟩) (by have := HRP.out; simp; omega) (.int .i64 (stp (b.take 8))))
      clear k0 kf
      generalize W7.setCell ⟨p, 0, none⟩ (.int .i64 (stp (b.take 8))) = W8 at HA8 HB8 HR8 ⊢
      have hmn : min lf 46 = (m : Int) := HM.out
      obtain ⟨p0, p1, p2, p3, pf⟩ := HB8.out
      have f3 := pf 3
      clear pf
      by_cases hm0 : m = 0
      · subst hm0
        go_upto_region 8 with fail
        have HB9 := hide (HB8.out.set3 (.slice (some ⟨g, 0, none⟩) 0 0))
        have HR9 := hide (HR8.out.setO (k := p) (i := 3) (by have := HRP.out; omega) (.slice (some ⟨g, 0, none⟩) 0 0))
        have HA9 := hide (HA8.out.setCell (p := ⟨p, 3, none⟩) (by have := HRP.out; simp; omega) (.slice (some ⟨g, 0, none⟩) 0 0))
        clear p0 p1 p2 p3 f3
        generalize W8.setCell ⟨p, 3, none⟩ (.slice (some ⟨g, 0, none⟩) 0 0) = W9 at HB9 HR9 HA9 ⊢
        obtain ⟨p0, p1, p2, p3, _⟩ := HB9.out
        obtain ⟨r0, r1, r2, r3, rf⟩ := HR9.out
        have f0 := rf 0
        have f1 := rf 1
        have f2 := rf 2
        have f3 := rf 3
        clear rf
        go_wp2
        exact bodyPost_ret (v := .agg #[_, _, _, _]) (res_cel Tryz.results82 _ _ w.heap.size [_, _, _, _] _ rfl (HR9.out.all (.int .i64 (stp (b.take 8))) (.bool false) (.int .i64 lf) (.slice (some ⟨g, 0, none⟩) 0 0)).rg Tryz.underlying122 rfl infoPc) rfl ⟨(some ⟨g, 0, none⟩), by rw [HST.out], (fun h => by omega), set4_below HA9.out (Nat.le_refl _) _ _ _ _⟩
      · have hne : ¬ 10 + m = 10 := by omega
        have hsb : 10 + m - 10 = m := by omega
        go_upto_region 8 with fail
        have HB9 := hide (HB8.out.set3 (.slice (some ⟨g, 10, none⟩) m m))
        have HR9 := hide (HR8.out.setO (k := p) (i := 3) (by have := HRP.out; omega) (.slice (some ⟨g, 10, none⟩) m m))
        have HA9 := hide (HA8.out.setCell (p := ⟨p, 3, none⟩) (by have := HRP.out; simp; omega) (.slice (some ⟨g, 10, none⟩) m m))
        clear p0 p1 p2 p3 f3
        generalize W8.setCell ⟨p, 3, none⟩ (.slice (some ⟨g, 10, none⟩) m m) = W9 at HB9 HR9 HA9 ⊢
        obtain ⟨p0, p1, p2, p3, _⟩ := HB9.out
        obtain ⟨r0, r1, r2, r3, rf⟩ := HR9.out
        have f0 := rf 0
        have f1 := rf 1
        have f2 := rf 2
        have f3 := rf 3
        clear rf
        go_wp2
        exact bodyPost_ret (v := .agg #[_, _, _, _]) (res_cel Tryz.results82 _ _ w.heap.size [_, _, _, _] _ rfl (HR9.out.all (.int .i64 (stp (b.take 8))) (.bool false) (.int .i64 lf) (.slice (some ⟨g, 10, none⟩) m m)).rg Tryz.underlying122 rfl infoPc) rfl ⟨(some ⟨g, 10, none⟩), by rw [HST.out], (fun h => by rfl), set4_below HA9.out (Nat.le_refl _) _ _ _ _⟩
    · have hdc : decide (b.take 8 = b.drop 56) = false := decide_eq_false heq
      have HST := hide (HS2.out heq)
      rw [hdc]
      clear hdc heq
      go_upto_region 6 with fail
      have HA8 := HA6
      have HB8 := HB6
      have HR8 := HR6
      clear HA6 HB6 HR6
      generalize W6 = W8 at HA8 HB8 HR8 ⊢
      have hmn : min lf 46 = (m : Int) := HM.out
      obtain ⟨p0, p1, p2, p3, pf⟩ := HB8.out
      have f3 := pf 3
      clear pf
      by_cases hm0 : m = 0
      · subst hm0
        go_upto_region 8 with fail
        have HB9 := hide (HB8.out.set3 (.slice (some ⟨g, 0, none⟩) 0 0))
        have HR9 := hide (HR8.out.setO (k := p) (i := 3) (by have := HRP.out; omega) (.slice (some ⟨g, 0, none⟩) 0 0))
        have HA9 := hide (HA8.out.setCell (p := ⟨p, 3, none⟩) (by have := HRP.out; simp; omega) (.slice (some ⟨g, 0, none⟩) 0 0))
        clear p0 p1 p2 p3 f3
        generalize W8.setCell ⟨p, 3, none⟩ (.slice (some ⟨g, 0, none⟩) 0 0) = W9 at HB9 HR9 HA9 ⊢
        obtain ⟨p0, p1, p2, p3, _⟩ := HB9.out
        obtain ⟨r0, r1, r2, r3, rf⟩ := HR9.out
        have f0 := rf 0
        have f1 := rf 1
        have f2 := rf 2
        have f3 := rf 3
        clear rf
        go_wp2
        exact bodyPost_ret (v := .agg #[_, _, _, _]) (res_cel Tryz.results82 _ _ w.heap.size [_, _, _, _] _ rfl (HR9.out.all (.int .i64 0) (.bool false) (.int .i64 lf) (.slice (some ⟨g, 0, none⟩) 0 0)).rg Tryz.underlying122 rfl infoPc) rfl ⟨(some ⟨g, 0, none⟩), by rw [HST.out], (fun h => by omega), set4_below HA9.out (Nat.le_refl _) _ _ _ _⟩
      · have hne : ¬ 10 + m = 10 := by omega
        have hsb : 10 + m - 10 = m := by omega
        go_upto_region 8 with fail
        have HB9 := hide (HB8.out.set3 (.slice (some ⟨g, 10, none⟩) m m))
        have HR9 := hide (HR8.out.setO (k := p) (i := 3) (by have := HRP.out; omega) (.slice (some ⟨g, 10, none⟩) m m))
        have HA9 := hide (HA8.out.setCell (p := ⟨p, 3, none⟩) (by have := HRP.out; simp; omega) (.slice (some ⟨g, 10, none⟩) m m))
        clear p0 p1 p2 p3 f3
        generalize W8.setCell ⟨p, 3, none⟩ (.slice (some ⟨g, 10, none⟩) m m) = W9 at HB9 HR9 HA9 ⊢
        obtain ⟨p0, p1, p2, p3, _⟩ := HB9.out
        obtain ⟨r0, r1, r2, r3, rf⟩ := HR9.out
        have f0 := rf 0
        have f1 := rf 1
        have f2 := rf 2
        have f3 := rf 3
        clear rf
        go_wp2
        exact bodyPost_ret (v := .agg #[_, _, _, _]) (res_cel Tryz.results82 _ _ w.heap.size [_, _, _, _] _ rfl (HR9.out.all (.int .i64 0) (.bool false) (.int .i64 lf) (.slice (some ⟨g, 10, none⟩) m m)).rg Tryz.underlying122 rfl infoPc) rfl ⟨(some ⟨g, 10, none⟩), by rw [HST.out], (fun h => by rfl), set4_below HA9.out (Nat.le_refl _) _ _ _ _⟩
  · simp only [if_true] at hand
    go_wp2_with fail
    go_quiet (fail)
    have hdr : Below W0.heap.size W0 (W0.drewN nq) := below_drewN (Below.refl _ _) _
    have HA1 := hide (HA0.out.trans (hdr.mono HA0.out.size))
    have HB1 := hide (HB0.out.below hdr)
    clear d8 d9 hdr HA0 HB0
    generalize W0.drewN nq = W1 at HA1 HB1 ⊢
    go_upto_region 3 with fail
    have HB2 := hide (b4_new W1 (.int .i64 0) (.bool true) (.int .i64 lf) (.slice none 0 0) 122)
    have HA2 := hide (HA1.out.alloc (by have := HA1.out.size; omega) (.cells #[.int .i64 0, .bool true, .int .i64 lf, .slice none 0 0] 122))
    have HR2 := hide (HB1.out.below ((Below.refl W1.heap.size W1).alloc (Nat.le_refl _) (.cells #[.int .i64 0, .bool true, .int .i64 lf, .slice none 0 0] 122)))
    have HRP : Hid (w.heap.size < W1.heap.size) := hide HB1.out.lt
    generalize W1.alloc (.cells #[.int .i64 0, .bool true, .int .i64 lf, .slice none 0 0] 122) = W2 at HB2 HA2 HR2 ⊢
    generalize W1.heap.size = p at HB2 HRP ⊢
    clear HA1 HB1 hor hnot hand
    have H6 : Hid (b.length = 64) := hide HB.out.1
    have H8 : Hid ((b.take 8).length = 8) := hide (by rw [List.length_take, H6.out]; decide)
    have H56 : Hid ((b.drop 56).length = 8) := hide (by rw [List.length_drop, H6.out])
    have HY : Hid (Byt (b.take 8)) := hide (fun x hx => HB.out.2 x (List.mem_of_mem_take hx))
    go_upto_region 4 with (first | (go_at_call 66; refine (ahead_any _ b _ ((HR.out.below HA2.out).all H6.out.symm) H6.out).mono ?_; rintro e W3 ⟨rfl, hb3⟩; have HA3 := hide (HA2.out.trans (hb3.mono HA2.out.size)); have HB3 := hide (HB2.out.below hb3); have HR3 := hide (HR2.out.below hb3); clear hb3) | (refine wpList_allocE _ rfl rfl ?_) | (refine wpList_storeE _ rfl _ _ rfl W3.heap.size _ _ _ rfl rfl (Rq.new _ _ _) rfl H8.out ?_))
    have hal : Below W3.heap.size W3 (W3.alloc (.cells (bv zr8).toArray 125)) := (Below.refl _ _).alloc (Nat.le_refl _) _
    have HE4 := hide ((Rq.new W3 125 zr8).set (b.take 8))
    have hal2 := setRow_below hal (Nat.le_refl _) (bv (b.take 8)).toArray
    have HA4 := hide (HA3.out.trans (hal2.mono HA3.out.size))
    have HB4 := hide (HB3.out.below hal2)
    have HR4 := hide (HR3.out.below hal2)
    clear hal hal2 HA3 HB3 HR3 HA2 HB2 HR2
    generalize (W3.alloc (.cells (bv zr8).toArray 125)).setRow W3.heap.size (bv (b.take 8)).toArray = W4 at HE4 HA4 HB4 HR4 ⊢
    generalize W3.heap.size = ge at HE4 ⊢
    refine wp_region_held_drew (S := fun W => Rq W ge 125 (b.take 8)) (by kernel_rfl) (HE4.out.below (Below.refl _ _).drew) (fun hHeld => ?_)
    have hdr : Below W4.heap.size W4 W4.drew := (Below.refl _ _).drew
    have HA5 := hide (HA4.out.trans (hdr.mono HA4.out.size))
    have HB5 := hide (HB4.out.below hdr)
    have HR5 := hide (HR4.out.below hdr)
    clear HA4 HB4 HR4 HE4 hdr
    generalize W4.drew = W5 at HA5 HB5 HR5 hHeld ⊢
    refine wpAnyH_take (i := 0) (oi := _) (v := _) rfl (by kernel_rfl) (by kernel_rfl) (by kernel_rfl) (fun _ _ _ h => h) (yieldsIf_load_mid (by rfl) _ _ rfl _ _ rfl (bv (b.take 8)) _ (fun W hW => hW.rg) Tryz.underlying125 rfl (by rw [infoE, bv_len, H8.out])) hHeld ?_
    change wpAnyH _ _ _ _ _ _ _ (Act.put _ (some 25) _) _
    simp only [Act.put, List.setIfInBounds_toArray, List.set_cons_zero, List.set_cons_succ]
    refine wpAnyH_take (i := 1) (oi := _) (v := .slice (some ⟨g, 0, none⟩) 64 64) rfl (by kernel_rfl) (by kernel_rfl) (by kernel_rfl) (fun _ _ _ h => h) (Or.inl ⟨by rfl, by intro w hSw; go_simp⟩) hHeld ?_
    change wpAnyH _ _ _ _ _ _ _ (Act.put _ (some 26) _) _
    simp only [Act.put, List.setIfInBounds_toArray, List.set_cons_zero, List.set_cons_succ]
    refine wpAnyH_ready (rs := [2]) (by kernel_rfl) (by simp) ?_
    refine AllReadyH.cons (o := _) rfl (fun K hK => ?_) AllReadyH.nil
    go_simp
    go_at_call 68
    refine (behind_any _ b _ ((HR.out.below HA5.out).all H6.out.symm) H6.out).mono ?_
    rintro e W6 ⟨rfl, hb6⟩
    go_wp2_with fail
    refine hK.out _ _ (hHeld.below hb6) (fun hHeld1 => ?_)
    clear hK K hHeld
    have hHeld := hHeld1
    clear hHeld1
    have HA6 := hide (HA5.out.trans (hb6.mono HA5.out.size))
    have HB6 := hide (HB5.out.below hb6)
    have HR6 := hide (HR5.out.below hb6)
    clear hb6 HA5 HB5 HR5
    refine wpAnyH_take (i := 3) (oi := _) (v := .bool (decide (b.take 8 = b.drop 56))) rfl (by kernel_rfl) (by kernel_rfl) (by kernel_rfl) (fun _ _ _ h => h) (yields_eqE (by rfl) _ _ rfl _ _ rfl rfl H8.out H56.out) hHeld ?_
    change wpAnyH _ _ _ _ _ _ _ (Act.put _ (some 28) _) _
    simp only [Act.put, List.setIfInBounds_toArray, List.set_cons_zero, List.set_cons_succ]
    refine wpAnyH_done (by kernel_rfl) ?_ _
    have HE6 := hide hHeld
    clear hHeld
    by_cases heq : b.take 8 = b.drop 56
    · have hdc : decide (b.take 8 = b.drop 56) = true := decide_eq_true heq
      have HST := hide (HS1.out heq)
      rw [hdc]
      clear hdc heq
      go_upto_region 6 with (first | (go_at_call 67; refine (stamp_any _ _ H8.out HY.out).mono ?_; rintro e W7 ⟨rfl, hb7⟩; have HA7 := hide (HA6.out.trans (hb7.mono HA6.out.size)); have HB7 := hide (HB6.out.below hb7); have HR7 := hide (HR6.out.below hb7); have k0 := HB7.out.c0; have kf := HB7.out.fz 0; clear hb7) | (refine wpList_loadE _ rfl _ rfl ge _ _ rfl HE6.out H8.out ?_))
      have HB8 := hide (HB7.out.set0 (.int .i64 (stp (b.take 8))))
      have HR8 := hide (HR7.out.setO (k := p) (i := 0) (by have := HRP.out; omega) (.int .i64 (stp (b.take 8))))
      have HA8 := hide (HA7.out.setCell (p := ⟨p, 0, none⟩) (by have := HRP.out; simp; omega) (.int .i64 (stp (b.take 8))))
      clear k0 kf
      generalize W7.setCell ⟨p, 0, none⟩ (.int .i64 (stp (b.take 8))) = W8 at HA8 HB8 HR8 ⊢
      have hmn : min lf 46 = (m : Int) := HM.out
      obtain ⟨p0, p1, p2, p3, pf⟩ := HB8.out
      have f3 := pf 3
      clear pf
      by_cases hm0 : m = 0
      · subst hm0
        go_upto_region 8 with fail
        have HB9 := hide (HB8.out.set3 (.slice (some ⟨g, 0, none⟩) 0 0))
        have HR9 := hide (HR8.out.setO (k := p) (i := 3) (by have := HRP.out; omega) (.slice (some ⟨g, 0, none⟩) 0 0))
        have HA9 := hide (HA8.out.setCell (p := ⟨p, 3, none⟩) (by have := HRP.out; simp; omega) (.slice (some ⟨g, 0, none⟩) 0 0))
        clear p0 p1 p2 p3 f3
        generalize W8.setCell ⟨p, 3, none⟩ (.slice (some ⟨g, 0, none⟩) 0 0) = W9 at HB9 HR9 HA9 ⊢
        obtain ⟨p0, p1, p2, p3, _⟩ := HB9.out
        obtain ⟨r0, r1, r2, r3, rf⟩ := HR9.out
        have f0 := rf 0
        have f1 := rf 1
        have f2 := rf 2
        have f3 := rf 3
        clear rf
        go_wp2
        exact bodyPost_ret (v := .agg #[_, _, _, _]) (res_cel Tryz.results82 _ _ w.heap.size [_, _, _, _] _ rfl (HR9.out.all (.int .i64 (stp (b.take 8))) (.bool true) (.int .i64 lf) (.slice (some ⟨g, 0, none⟩) 0 0)).rg Tryz.underlying122 rfl infoPc) rfl ⟨(some ⟨g, 0, none⟩), by rw [HST.out], (fun h => by omega), set4_below HA9.out (Nat.le_refl _) _ _ _ _⟩
      · have hne : ¬ 10 + m = 10 := by omega
        have hsb : 10 + m - 10 = m := by omega
        go_upto_region 8 with fail
        have HB9 := hide (HB8.out.set3 (.slice (some ⟨g, 10, none⟩) m m))
        have HR9 := hide (HR8.out.setO (k := p) (i := 3) (by have := HRP.out; omega) (.slice (some ⟨g, 10, none⟩) m m))
        have HA9 := hide (HA8.out.setCell (p := ⟨p, 3, none⟩) (by have := HRP.out; simp; omega) (.slice (some ⟨g, 10, none⟩) m m))
        clear p0 p1 p2 p3 f3
        generalize W8.setCell ⟨p, 3, none⟩ (.slice (some ⟨g, 10, none⟩) m m) = W9 at HB9 HR9 HA9 ⊢
        obtain ⟨p0, p1, p2, p3, _⟩ := HB9.out
        obtain ⟨r0, r1, r2, r3, rf⟩ := HR9.out
        have f0 := rf 0
        have f1 := rf 1
        have f2 := rf 2
        have f3 := rf 3
        clear rf
        go_wp2
        exact bodyPost_ret (v := .agg #[_, _, _, _]) (res_cel Tryz.results82 _ _ w.heap.size [_, _, _, _] _ rfl (HR9.out.all (.int .i64 (stp (b.take 8))) (.bool true) (.int .i64 lf) (.slice (some ⟨g, 10, none⟩) m m)).rg Tryz.underlying122 rfl infoPc) rfl ⟨(some ⟨g, 10, none⟩), by rw [HST.out], (fun h => by rfl), set4_below HA9.out (Nat.le_refl _) _ _ _ _⟩
    · have hdc : decide (b.take 8 = b.drop 56) = false := decide_eq_false heq
      have HST := hide (HS2.out heq)
      rw [hdc]
      clear hdc heq
      go_upto_region 6 with fail
      have HA8 := HA6
      have HB8 := HB6
      have HR8 := HR6
      clear HA6 HB6 HR6
      generalize W6 = W8 at HA8 HB8 HR8 ⊢
      have hmn : min lf 46 = (m : Int) := HM.out
      obtain ⟨p0, p1, p2, p3, pf⟩ := HB8.out
      have f3 := pf 3
      clear pf
      by_cases hm0 : m = 0
      · subst hm0
        go_upto_region 8 with fail
        have HB9 := hide (HB8.out.set3 (.slice (some ⟨g, 0, none⟩) 0 0))
        have HR9 := hide (HR8.out.setO (k := p) (i := 3) (by have := HRP.out; omega) (.slice (some ⟨g, 0, none⟩) 0 0))
        have HA9 := hide (HA8.out.setCell (p := ⟨p, 3, none⟩) (by have := HRP.out; simp; omega) (.slice (some ⟨g, 0, none⟩) 0 0))
        clear p0 p1 p2 p3 f3
        generalize W8.setCell ⟨p, 3, none⟩ (.slice (some ⟨g, 0, none⟩) 0 0) = W9 at HB9 HR9 HA9 ⊢
        obtain ⟨p0, p1, p2, p3, _⟩ := HB9.out
        obtain ⟨r0, r1, r2, r3, rf⟩ := HR9.out
        have f0 := rf 0
        have f1 := rf 1
        have f2 := rf 2
        have f3 := rf 3
        clear rf
        go_wp2
        exact bodyPost_ret (v := .agg #[_, _, _, _]) (res_cel Tryz.results82 _ _ w.heap.size [_, _, _, _] _ rfl (HR9.out.all (.int .i64 0) (.bool true) (.int .i64 lf) (.slice (some ⟨g, 0, none⟩) 0 0)).rg Tryz.underlying122 rfl infoPc) rfl ⟨(some ⟨g, 0, none⟩), by rw [HST.out], (fun h => by omega), set4_below HA9.out (Nat.le_refl _) _ _ _ _⟩
      · have hne : ¬ 10 + m = 10 := by omega
        have hsb : 10 + m - 10 = m := by omega
        go_upto_region 8 with fail
        have HB9 := hide (HB8.out.set3 (.slice (some ⟨g, 10, none⟩) m m))
        have HR9 := hide (HR8.out.setO (k := p) (i := 3) (by have := HRP.out; omega) (.slice (some ⟨g, 10, none⟩) m m))
        have HA9 := hide (HA8.out.setCell (p := ⟨p, 3, none⟩) (by have := HRP.out; simp; omega) (.slice (some ⟨g, 10, none⟩) m m))
        clear p0 p1 p2 p3 f3
        generalize W8.setCell ⟨p, 3, none⟩ (.slice (some ⟨g, 10, none⟩) m m) = W9 at HB9 HR9 HA9 ⊢
        obtain ⟨p0, p1, p2, p3, _⟩ := HB9.out
        obtain ⟨r0, r1, r2, r3, rf⟩ := HR9.out
        have f0 := rf 0
        have f1 := rf 1
        have f2 := rf 2
        have f3 := rf 3
        clear rf
        go_wp2
        exact bodyPost_ret (v := .agg #[_, _, _, _]) (res_cel Tryz.results82 _ _ w.heap.size [_, _, _, _] _ rfl (HR9.out.all (.int .i64 0) (.bool true) (.int .i64 lf) (.slice (some ⟨g, 10, none⟩) m m)).rg Tryz.underlying122 rfl infoPc) rfl ⟨(some ⟨g, 10, none⟩), by rw [HST.out], (fun h => by rfl), set4_below HA9.out (Nat.le_refl _) _ _ _ _⟩
end Go.Proofs.YtoamghncncalgaaGreatDoor
