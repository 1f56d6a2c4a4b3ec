/-
  A CHAIN's SMALL STEPS: bytes in a row of their own, copied, loaded and stored; the edges of a block (chain.ahead, behind); the stamp that an edge is. Conditions: blocks of sixty-four bytes.
-/
import Derived.Test.YtmgfcgknajehaaaBlkQ
import Derived.Test.YtmgfcgknajehaaaChA
import Derived.Laws.CopyRow
import Derived.ChangeKeysEq
namespace Go.Proofs.Ytmgfcgknajehaaa
open Go.RowKit

/-- Bytes in a row of their own. -/
def Rq (W : World) (g : Nat) (t : TypeId) (b : List Int) : Prop := W.heap[g]? = some (.cells (bv b).toArray t (0, 0))
theorem Rq.lt {W : World} {g : Nat} {t : TypeId} {b : List Int} (h : Rq W g t b) : g < W.heap.size := (Array.getElem?_eq_some_iff.1 h).1
theorem Rq.keep {W W' : World} {g : Nat} {t : TypeId} {b : List Int} (h : Rq W g t b) (he : W'.heap[g]? = W.heap[g]?) : Rq W' g t b := he.trans h
theorem Rq.below {W W' : World} {g : Nat} {t : TypeId} {b : List Int} (h : Rq W g t b) (hb : Below W.heap.size W W') : Rq W' g t b := h.keep (hb.block g h.lt)
theorem Rq.new (W : World) (t : TypeId) (b : List Int) : Rq (W.alloc (.cells (bv b).toArray t)) W.heap.size t b := Array.getElem?_push_size
theorem Rq.set {W : World} {g : Nat} {t : TypeId} {b : List Int} (h : Rq W g t b) (c : List Int) : Rq (W.setRow g (bv c).toArray) g t c := setRow_heap W g _ _ t (0, 0) h
theorem Rq.setO {W : World} {g k : Nat} {t : TypeId} {b : List Int} (h : Rq W g t b) (hk : g ≠ k) (cs : Array Value) : Rq (W.setRow k cs) g t b := h.keep (setRow_other W k g cs hk)
theorem Rq.part {W : World} {g : Nat} {t : TypeId} {b : List Int} (h : Rq W g t b) {o n : Nat} (cap : Nat) (hn : o + n ≤ b.length) (hc : n ≤ cap) : Sl bc W (.slice (some ⟨g, o, none⟩) n cap) ((b.drop o).take n) := by
  have hl : ((b.drop o).take n).length = n := by rw [List.length_take, List.length_drop]; omega
  refine .inr ⟨g, o, cap, by rw [hl], by omega, fun i hi => ?_⟩
  have hi2 : i < n := by omega
  have e : ((b.drop o).take n)[i] = b[o + i]'(by omega) := by simp
  rw [e]
  have : W.cell? ⟨g, o + i, none⟩ = (bv b)[o + i]? := by
    have h' := h
    unfold Rq at h'
    simp [World.cell?, h']
  rw [this, bv_eq, List.getElem?_map, List.getElem?_eq_getElem (by omega)]
  rfl
theorem Rq.all {W : World} {g : Nat} {t : TypeId} {b : List Int} (h : Rq W g t b) {n : Nat} (hn : n = b.length) : Sl bc W (.slice (some ⟨g, 0, none⟩) n n) b := by
  have := h.part (o := 0) (n := n) n (by omega) (Nat.le_refl _)
  rwa [List.drop_zero, List.take_of_length_le (by omega)] at this
theorem setRow_below {B g : Nat} {a W : World} (h : Below B a W) (hg : B ≤ g) (cs : Array Value) : Below B a (W.setRow g cs) :=
  ⟨h.os, h.tape, h.output, by simpa using h.size, fun k hk => (setRow_other W g k cs (by omega)).trans (h.block k hk)⟩
theorem copyR (W : World) (ty : TypeId) (g o n cap : Nat) (t : TypeId) (z b : List Int) (v : Value) (hg : Rq W g t z) (hv : Sl bc W v b) (hf : o + n ≤ z.length) :
    (Builtin.copy_ #[27, 27] ty #[.slice (some ⟨g, o, none⟩) n cap, v]).run Try.prog W = .ok (.int .i64 (Nat.min b.length n : Nat)) (W.setRow g (bv (z.take o ++ (b.take n ++ z.drop (o + Nat.min b.length n)))).toArray) := by
  by_cases h0 : Nat.min b.length n = 0
  · obtain ⟨ao, c, rfl⟩ := hv.form
    rw [run_copy_none (P := Try.prog) W 27 27 ty 5 (some ⟨g, o, none⟩) ao n cap b.length c Try.underlying27 infoU h0]
    have e : z.take o ++ (b.take n ++ z.drop (o + Nat.min b.length n)) = z := by
      have e1 : b.take n = [] := List.length_eq_zero_iff.1 (by rw [List.length_take, Nat.min_comm]; exact h0)
      rw [h0, e1, List.nil_append, Nat.add_zero, List.take_append_drop]
    rw [e, setRow_self W g _ t (0, 0) hg, h0]
    rfl
  · rcases hv with ⟨_, _, rfl, _⟩ | ⟨gb, go, c, rfl, h2, h3⟩
    · exact absurd (Nat.zero_min n) h0
    · have hm : (bv (b.take n)).length = Nat.min b.length n := by rw [bv_len, List.length_take, Nat.min_comm]
      have hle : Nat.min b.length n ≤ n := Nat.min_le_right _ _
      have := run_copy_row (P := Try.prog) W 27 27 ty 5 g o n cap ⟨gb, go, none⟩ b.length c (bv z).toArray t (bv (b.take n)) Try.underlying27 infoU hg hm (fun j u hu => by
          have hj : j < (b.take n).length := by simpa [bv_len] using (List.getElem?_eq_some_iff.1 hu).1
          have hj2 : j < b.length := by rw [List.length_take] at hj; omega
          rw [Addr.add_lit, h3 j hj2]
          rw [bv_eq, List.getElem?_map, List.getElem?_eq_getElem hj] at hu
          simpa using hu) (by rw [hm]; simp [bv_len]; omega) (bv_one _)
      rw [this, hm]
      have e : (bv z).toArray.toList.take o ++ bv (b.take n) ++ (bv z).toArray.toList.drop (o + Nat.min b.length n) = bv (z.take o ++ (b.take n ++ z.drop (o + Nat.min b.length n))) := by
        simp [bv, List.map_take, List.map_drop]
      rw [e]
      rfl
section
variable {ops : Array Oper} {rest : List Oper} {o : Oper} {a : Act} {Q : Exit → Act → World → Prop}
theorem wpList_copyR (W : World) (hgd : o.guard = none) (x y : Operand) (ho : o.op = .call { callee := .builtin .copy, args := #[x, y], argTypes := #[27, 27] }) (g p n cap : Nat) (t : TypeId) (z b : List Int) (v : Value) (hx : a.eval x = .slice (some ⟨g, p, none⟩) n cap) (hy : a.eval y = v) (hg : Rq W g t z) (hv : Sl bc W v b) (hf : p + n ≤ z.length)
    (h : wpList Try.prog ops Q rest (a.put o.dst (.int .i64 (Nat.min b.length n : Nat))) (W.setRow g (bv (z.take p ++ (b.take n ++ z.drop (p + Nat.min b.length n)))).toArray)) : wpList Try.prog ops Q (o :: rest) a W := by
  refine wpList_plain hgd fun K hK => ?_
  unfold Oper.wp
  simp [execOp, ho, resolve, invoke, builtin, hx, hy, copyR W o.type g p n cap t z b v hg hv hf, Result.andThen]
  exact hK _ _ h
end
section
variable {ops : Array Oper} {o : Oper} {a : Act} {w : World} {K : Act → World → Prop} {Q : Exit → Act → World → Prop} {E : Prop}
theorem step_copyR (hgd : o.guard = none) (x y : Operand) (ho : o.op = .call { callee := .builtin .copy, args := #[x, y], argTypes := #[27, 27] }) (g p n cap : Nat) (t : TypeId) (z b : List Int) (v : Value) (hx : a.eval x = .slice (some ⟨g, p, none⟩) n cap) (hy : a.eval y = v) (hg : Rq w g t z) (hv : Sl bc w v b) (hf : p + n ≤ z.length)
    (h : K (a.put o.dst (.int .i64 (Nat.min b.length n : Nat))) (w.setRow g (bv (z.take p ++ (b.take n ++ z.drop (p + Nat.min b.length n)))).toArray)) : if Region.wanted o (yielded ops a.tmps) = true then Oper.wp Try.prog o a w K Q else E := by
  have hw : Region.wanted o (yielded ops a.tmps) = true := by simp [Region.wanted, hgd]
  rw [if_pos hw]
  unfold Oper.wp
  simp [execOp, ho, resolve, invoke, builtin, hx, hy, copyR w o.type g p n cap t z b v hg hv hf, Result.andThen]
  exact h
end
theorem or_nat64 (j a y : Nat) (hy : y < 2 ^ j) (hs : 2 ^ j * a + y < 18446744073709551616) : bits .or .u64 ((2 ^ j * a : Nat) : Int) (y : Int) = ((2 ^ j * a + y : Nat) : Int) := by
  have h1 : 2 ^ j * a < 2 ^ 64 := by omega
  have h2 : y < 2 ^ 64 := by omega
  have e : (BitVec.ofInt 64 ((2 ^ j * a : Nat) : Int) ||| BitVec.ofInt 64 (y : Int)).toNat = 2 ^ j * a + y := by
    rw [BitVec.toNat_or, BitVec.ofInt_natCast, BitVec.ofInt_natCast, BitVec.toNat_ofNat, BitVec.toNat_ofNat, Nat.mod_eq_of_lt h1, Nat.mod_eq_of_lt h2]
    exact (Nat.two_pow_add_eq_or_of_lt hy a).symm
  show IntKind.u64.wrap ((BitVec.ofInt 64 ((2 ^ j * a : Nat) : Int) ||| BitVec.ofInt 64 (y : Int)).toNat : Int) = _
  rw [e, IntKind.wrap_u64]
  omega
theorem or_add64 {n x : Int} (h0 : 0 ≤ n) (h1 : n < 72057594037927936) (h2 : 0 ≤ x) (h3 : x ≤ 255) : bits .or .u64 (n * 256) x = n * 256 + x := by
  have e := or_nat64 8 n.toNat x.toNat (by omega) (by omega)
  rw [show ((2 ^ 8 * n.toNat : Nat) : Int) = n * 256 by omega, show ((x.toNat : Nat) : Int) = x by omega] at e
  rw [e]
  omega
def zr8 : List Int := [0, 0, 0, 0, 0, 0, 0, 0]
theorem cp8 {b l : List Int} (h : b.take 8 = l) (hl : l.length = 8) : zr8.take 0 ++ (b.take 8 ++ zr8.drop (0 + Nat.min b.length 8)) = l := by
  have e : Nat.min b.length 8 = 8 := by
    have := congrArg List.length h
    rw [List.length_take] at this
    show min b.length 8 = 8
    rw [Nat.min_comm]
    exact this.trans hl
  rw [e, h, List.take_zero, List.nil_append]
  exact List.append_nil _
theorem infoE : (Try.prog.info? 109).map (·.size) = some 8 := by kernel_rfl
theorem run_allocE (w : World) : (Instr.alloc 109 true (.tuple #[])).run Try.prog w = .ok (.pointer (some ⟨w.heap.size, 0, none⟩)) (w.alloc (.cells (bv zr8).toArray 109)) := by kernel_rfl
theorem plainU : Try.prog.plainKey 5 = true := by kernel_rfl
theorem run_partU {xs : List Int} {i : Nat} {x : Int} (W : World) (h : xs[i]? = some x) : (part 5 (bv xs).toArray i).run Try.prog W = .ok (.int .u8 x) W := run_part_plain W plainU (by simp [bv, h])
theorem info_size {t : TypeId} {n : Nat} (h : (Try.prog.info? t).map (·.size) = some n) : ∃ i, Try.prog.info? t = some i ∧ i.size = n := by
  cases hi : Try.prog.info? t with
  | none => rw [hi] at h; cases h
  | some i => rw [hi] at h; exact ⟨i, rfl, by simpa using h⟩
theorem run_indexE (W : World) (l : List Int) (k : Nat) (x : Int) (hk : k < 8) (hx : l[k]? = some x) : (Instr.index 109 (.agg (bv l).toArray) (.int .i64 k)).run Try.prog W = .ok (.int .u8 x) W := by
  obtain ⟨i, hi, hs⟩ := info_size infoU
  unfold Instr.index
  simp only [asIntOf, Sem.run_bind, Sem.run_pure, Result.andThen_ok, run_underlying Try.underlying109, sizeOf, typeInfo]
  have h8 : (0 : Int) ≤ k ∧ (k : Int) < ((8 : Nat) : Int) := by omega
  rw [if_pos h8]
  simp [hi, hs, run_partU W hx]
theorem run_eqItemsU (W : World) (d : Nat) (x y : List Int) : ∀ is : List Nat, (∀ i ∈ is, i < x.length ∧ i < y.length) → ∃ r : Bool, (Op.eqItems (d + 1) 5 1 (bv x).toArray (bv y).toArray is).run Try.prog W = .ok r W ∧ (r = true ↔ ∀ i ∈ is, x[i]? = y[i]?)
  | [], _ => ⟨true, by simp [Op.eqItems], by simp⟩
  | i :: is, h => by
    obtain ⟨r, hr, hiff⟩ := run_eqItemsU W d x y is (fun j hj => h j (List.mem_cons_of_mem _ hj))
    have hi := h i List.mem_cons_self
    have h1 : x[i]? = some x[i] := List.getElem?_eq_getElem hi.1
    have h2 : y[i]? = some y[i] := List.getElem?_eq_getElem hi.2
    have he : (Op.equalIn (d + 1) 5 (.int .u8 x[i]) (.int .u8 y[i])).run Try.prog W = .ok (x[i] == y[i]) W := by
      simp [Op.equalIn, run_underlying Try.underlying5]
    simp only [Op.eqItems, Sem.run_bind, Nat.mul_one, run_partU W h1, run_partU W h2, Result.andThen_ok, he]
    by_cases hxy : x[i] = y[i]
    · refine ⟨r, by simpa [hxy] using hr, ?_⟩
      rw [hiff]
      simp only [List.mem_cons, forall_eq_or_imp, h1, h2, hxy, true_and]
    · refine ⟨false, by simp [hxy], ?_⟩
      simp [h1, h2, hxy]
theorem cellsU : Try.prog.cellsOf 5 = 1 := by kernel_rfl
theorem run_eqE (W : World) (x y : List Int) (hx : x.length = 8) (hy : y.length = 8) : (Op.equal 109 (.agg (bv x).toArray) (.agg (bv y).toArray)).run Try.prog W = .ok (decide (x = y)) W := by
  obtain ⟨i, hi, hs⟩ := info_size infoU
  have h1 := run_equalIn_array (P := Try.prog) W (9998 + 1) (bv x).toArray (bv y).toArray Try.underlying109 hi
  rw [cellsU] at h1
  obtain ⟨r, hr, hiff⟩ := run_eqItemsU W 9998 x y (List.range 8) (fun j hj => by rw [List.mem_range] at hj; omega)
  have hd : Op.maxDepth = 9998 + 1 + 1 := rfl
  unfold Op.equal
  rw [hd, h1, hr]
  suffices e : r = decide (x = y) by rw [e]
  rw [Bool.eq_iff_iff, hiff, decide_eq_true_iff]
  constructor
  · intro h
    apply List.ext_getElem?
    intro j
    by_cases hj : j < 8
    · exact h j (List.mem_range.2 hj)
    · rw [List.getElem?_eq_none (by omega), List.getElem?_eq_none (by omega)]
  · intro h j _
    rw [h]
section
variable {ops : Array Oper} {rest : List Oper} {o : Oper} {a : Act} {Q : Exit → Act → World → Prop}
theorem wpList_indexE (w : World) (hg : o.guard = none) (x y : Operand) (ho : o.op = .index 109 x y) (l : List Int) (k : Nat) (v : Int) (hx : a.eval x = .agg (bv l).toArray) (hy : a.eval y = .int .i64 k) (hk : k < 8) (hv : l[k]? = some v) (h : wpList Try.prog ops Q rest (a.put o.dst (.int .u8 v)) w) : wpList Try.prog ops Q (o :: rest) a w := by
  refine wpList_plain hg fun K hK => ?_
  unfold Oper.wp
  simp only [execOp, ho, hx, hy]
  simp [run_indexE w l k v hk hv, Result.andThen]
  exact hK _ _ h
theorem wpList_allocE (w : World) (hg : o.guard = none) (ho : o.op = .alloc 109) (h : wpList Try.prog ops Q rest (a.put o.dst (.pointer (some ⟨w.heap.size, 0, none⟩))) (w.alloc (.cells (bv zr8).toArray 109))) : wpList Try.prog ops Q (o :: rest) a w := by
  refine wpList_plain hg fun K hK => ?_
  unfold Oper.wp
  simp [execOp, ho, run_allocE, Result.andThen]
  exact hK _ _ h
theorem wpList_loadE (w : World) (hg : o.guard = none) (x : Operand) (ho : o.op = .load 109 x) (g : Nat) (t : TypeId) (b : List Int) (hx : a.eval x = .pointer (some ⟨g, 0, none⟩)) (hr : Rq w g t b) (hb : b.length = 8)
    (h : wpList Try.prog ops Q rest (a.put o.dst (.agg (bv b).toArray)) w) : wpList Try.prog ops Q (o :: rest) a w :=
  wpList_load_row hg 109 x ho g hx t _ (0, 0) _ hr Try.underlying109 rfl (by rw [infoE]; simp [bv_len, hb]) h
theorem wpList_storeE (w : World) (hg : o.guard = none) (x y : Operand) (ho : o.op = .store 109 x y) (g : Nat) (t : TypeId) (c b : List Int) (hx : a.eval x = .pointer (some ⟨g, 0, none⟩)) (hy : a.eval y = .agg (bv b).toArray) (hr : Rq w g t c) (hc : c.length = 8) (hb : b.length = 8)
    (h : wpList Try.prog ops Q rest (a.put o.dst undef) (w.setRow g (bv b).toArray)) : wpList Try.prog ops Q (o :: rest) a w :=
  wpList_store_row hg 109 x y ho g _ hx hy t _ hr (by rw [infoE]; simp [bv_len, hb]) (by simp [bv_len, hb, hc]) (all_oneCell_toArray (bv_one b)) h
end
set_option maxRecDepth 100000 in
set_option maxHeartbeats 4000000 in
theorem ahead_any (v : Value) (b : List Int) (w : World) (hv : Sl bc w v b) (hb : b.length = 64) : Calls Try.prog 57 #[v] w fun e w' => e = .returned (.agg (bv (b.take 8)).toArray) ∧ Below w.heap.size w w' := by
  rcases hv with ⟨_, _, e, _⟩ | ⟨g, o, cap, rfl, hcap, hce⟩
  · rw [e] at hb; simp at hb
  have HB6 := hide hb
  have hv : Sl bc w (.slice (some ⟨g, o, none⟩) b.length cap) b := .inr ⟨g, o, cap, rfl, hcap, hce⟩
  have hs1 : (w.alloc (.cells (bv zr8).toArray 109)).heap.size = w.heap.size + 1 := by simp
  have HR0 : Hid (Rq ((w.alloc (.cells (bv zr8).toArray 109)).alloc (.cells (bv zr8).toArray 109)) w.heap.size 109 zr8) := hide ((Rq.new w 109 zr8).below ((Below.refl _ _).alloc (Nat.le_refl _) _))
  have HR1 : Hid (Rq ((w.alloc (.cells (bv zr8).toArray 109)).alloc (.cells (bv zr8).toArray 109)) (w.heap.size + 1) 109 zr8) := hide (by have := Rq.new (w.alloc (.cells (bv zr8).toArray 109)) 109 zr8; rwa [hs1] at this)
  have HBL : Hid (Below w.heap.size w ((w.alloc (.cells (bv zr8).toArray 109)).alloc (.cells (bv zr8).toArray 109))) := hide (((Below.refl _ _).alloc (Nat.le_refl _) _).alloc (by simp) _)
  have HV := hide (hv.below HBL.out)
  have HC := hide hcap
  have HCE := hide hce
  clear hv hcap hce
  go_enter Try.func57, Try.ntmps57
  go_upto_region 2 with (first | (refine wpList_allocE _ rfl rfl ?_))
  rw [hs1]
  clear hs1
  generalize ((w.alloc (.cells (bv zr8).toArray 109)).alloc (.cells (bv zr8).toArray 109)) = W2 at HR0 HR1 HBL HV ⊢
  rw [HB6.out] at HV
  have h8 : (b.take 8).length = 8 := by rw [List.length_take, HB6.out]; decide
  have H8 := hide h8
  clear h8
  have HZ := hide (cp8 (b := b) rfl H8.out)
  go_upto_region 3 with (first | (refine wpList_copyR _ rfl _ _ rfl (w.heap.size + 1) 0 8 8 109 zr8 b _ rfl rfl HR1.out HV.out (by decide) ?_; rw [HZ.out]))
  have HR3 := hide (HR1.out.set (b.take 8))
  have HR4 := hide (HR0.out.setO (k := w.heap.size + 1) (by omega) (bv (b.take 8)).toArray)
  have HB3 := hide (setRow_below HBL.out (g := w.heap.size + 1) (by omega) (bv (b.take 8)).toArray)
  generalize W2.setRow (w.heap.size + 1) (bv (b.take 8)).toArray = W3 at HR3 HR4 HB3 ⊢
  go_wp2_with (first | (refine wpList_loadE _ rfl _ rfl (w.heap.size + 1) _ _ rfl HR3.out H8.out ?_) | (refine wpList_storeE _ rfl _ _ rfl w.heap.size _ _ _ rfl rfl HR4.out rfl H8.out ?_))
  exact bodyPost_ret (v := .agg (bv (b.take 8)).toArray) (results_cell_row Try.results57 _ _ w.heap.size _ (bv (b.take 8)).toArray (0, 0) _ rfl (HR4.out.set _) Try.underlying109 rfl (by rw [infoE]; simp only [List.size_toArray, bv_len, H8.out])) rfl ⟨rfl, setRow_below HB3.out (Nat.le_refl _) _⟩
set_option maxRecDepth 100000 in
set_option maxHeartbeats 4000000 in
theorem behind_any (v : Value) (b : List Int) (w : World) (hv : Sl bc w v b) (hb : b.length = 64) : Calls Try.prog 59 #[v] w fun e w' => e = .returned (.agg (bv (b.drop 56)).toArray) ∧ Below w.heap.size w w' := by
  rcases hv with ⟨_, _, e, _⟩ | ⟨g, o, cap, rfl, hcap, hce⟩
  · rw [e] at hb; simp at hb
  have HB6 := hide hb
  have hv : Sl bc w (.slice (some ⟨g, o, none⟩) b.length cap) b := .inr ⟨g, o, cap, rfl, hcap, hce⟩
  have hs1 : (w.alloc (.cells (bv zr8).toArray 109)).heap.size = w.heap.size + 1 := by simp
  have HR0 : Hid (Rq ((w.alloc (.cells (bv zr8).toArray 109)).alloc (.cells (bv zr8).toArray 109)) w.heap.size 109 zr8) := hide ((Rq.new w 109 zr8).below ((Below.refl _ _).alloc (Nat.le_refl _) _))
  have HR1 : Hid (Rq ((w.alloc (.cells (bv zr8).toArray 109)).alloc (.cells (bv zr8).toArray 109)) (w.heap.size + 1) 109 zr8) := hide (by have := Rq.new (w.alloc (.cells (bv zr8).toArray 109)) 109 zr8; rwa [hs1] at this)
  have HBL : Hid (Below w.heap.size w ((w.alloc (.cells (bv zr8).toArray 109)).alloc (.cells (bv zr8).toArray 109))) := hide (((Below.refl _ _).alloc (Nat.le_refl _) _).alloc (by simp) _)
  have HV := hide (hv.below HBL.out)
  have HC := hide hcap
  have HCE := hide hce
  clear hv hcap hce
  go_enter Try.func59, Try.ntmps59
  go_upto_region 2 with (first | (refine wpList_allocE _ rfl rfl ?_))
  rw [hs1]
  clear hs1
  generalize ((w.alloc (.cells (bv zr8).toArray 109)).alloc (.cells (bv zr8).toArray 109)) = W2 at HR0 HR1 HBL ⊢
  have H8 : Hid ((b.drop 56).length = 8) := hide (by rw [List.length_drop, HB6.out])
  have HZ := hide (cp8 (b := b.drop 56) (List.take_of_length_le (Nat.le_of_eq H8.out)) H8.out)
  have hc64 : 64 ≤ cap := by have := HC.out; have := HB6.out; omega
  have hc56 : ¬ cap = 56 := by omega
  rw [HB6.out]
  refine wp_region_held_drew (S := fun _ => True) (by kernel_rfl) trivial (fun hHeld => ?_)
  have HR1d := hide (HR1.out.below (Below.refl W2.heap.size W2).drew)
  have HR0d := hide (HR0.out.below (Below.refl W2.heap.size W2).drew)
  have HBLd := hide (HBL.out.trans ((Below.refl W2.heap.size W2).drew.mono HBL.out.size))
  generalize W2.drew = W4 at HR1d HR0d HBLd hHeld ⊢
  clear HR1 HR0 HBL HV
  have HR1 := HR1d
  have HR0 := HR0d
  have HBL := HBLd
  clear HR1d HR0d HBLd
  have hW : ∃ X, X = W4 := ⟨_, rfl⟩
  obtain ⟨W2, rfl⟩ := hW
  have HS5 : Hid (Sl bc W2 (.slice (some ⟨g, o + 56, none⟩) 8 (cap - 56)) (b.drop 56)) := hide (.inr ⟨g, o + 56, cap - 56, by rw [H8.out], by rw [H8.out]; omega, fun i hi => by
    have hi2 : 56 + i < b.length := by rw [List.length_drop] at hi; omega
    have := HCE.out (56 + i) hi2
    rw [show o + 56 + i = o + (56 + i) by omega, World.cell?_of_block (HBL.out.block g (cell_block this)), this]
    simp⟩)
  refine wpAnyH_take (i := 0) (oi := _) (v := .slice (some ⟨w.heap.size + 1, 0, none⟩) 8 8) rfl (by kernel_rfl) (by kernel_rfl) (by kernel_rfl) (fun _ _ _ h => h) (Or.inl ⟨by rfl, by intro w hSw; go_simp⟩) hHeld ?_
  change wpAnyH _ _ _ _ _ _ _ (Act.put _ (some 4) _) _
  simp only [Act.put, List.setIfInBounds_toArray, List.set_cons_zero, List.set_cons_succ]
  refine wpAnyH_take (i := 1) (oi := _) (v := .slice (some ⟨g, o, none⟩) 64 cap) rfl (by kernel_rfl) (by kernel_rfl) (by kernel_rfl) (fun _ _ _ h => h) (Or.inl ⟨by rfl, by intro w hSw; go_simp⟩) hHeld ?_
  change wpAnyH _ _ _ _ _ _ _ (Act.put _ (some 5) _) _
  simp only [Act.put, List.setIfInBounds_toArray, List.set_cons_zero, List.set_cons_succ]
  refine wpAnyH_take (i := 2) (oi := _) (v := .slice (some ⟨g, o + 56, none⟩) 8 (cap - 56)) rfl (by kernel_rfl) (by kernel_rfl) (by kernel_rfl) (fun _ _ _ h => h) (Or.inl ⟨by rfl, by intro w hSw; go_simp⟩) hHeld ?_
  change wpAnyH _ _ _ _ _ _ _ (Act.put _ (some 6) _) _
  simp only [Act.put, List.setIfInBounds_toArray, List.set_cons_zero, List.set_cons_succ]
  refine wpAnyH_ready (rs := [3]) (by kernel_rfl) (by simp) ?_
  refine AllReadyH.cons (o := _) rfl (fun K hK => ?_) AllReadyH.nil
  refine step_copyR rfl _ _ rfl (w.heap.size + 1) 0 8 8 109 zr8 (b.drop 56) _ rfl rfl HR1.out HS5.out (by decide) ?_
  rw [HZ.out]
  refine hK.out _ _ trivial (fun hHeld1 => ?_)
  clear hK K hHeld
  have hHeld := hHeld1
  clear hHeld1
  refine wpAnyH_done (by kernel_rfl) ?_ _
  clear hHeld
  have HR3 := hide (HR1.out.set (b.drop 56))
  have HR4 := hide (HR0.out.setO (k := w.heap.size + 1) (by omega) (bv (b.drop 56)).toArray)
  have HB3 := hide (setRow_below HBL.out (g := w.heap.size + 1) (by omega) (bv (b.drop 56)).toArray)
  generalize W2.setRow (w.heap.size + 1) (bv (b.drop 56)).toArray = W3 at HR3 HR4 HB3 ⊢
  go_wp2_with (first | (refine wpList_loadE _ rfl _ rfl (w.heap.size + 1) _ _ rfl HR3.out H8.out ?_) | (refine wpList_storeE _ rfl _ _ rfl w.heap.size _ _ _ rfl rfl HR4.out rfl H8.out ?_))
  exact bodyPost_ret (v := .agg (bv (b.drop 56)).toArray) (results_cell_row Try.results59 _ _ w.heap.size _ (bv (b.drop 56)).toArray (0, 0) _ rfl (HR4.out.set _) Try.underlying109 rfl (by rw [infoE]; simp only [List.size_toArray, bv_len, H8.out])) rfl ⟨rfl, setRow_below HB3.out (Nat.le_refl _) _⟩
set_option maxRecDepth 100000 in
set_option maxHeartbeats 4000000 in
theorem stamp_any (l : List Int) (w : World) (hl : l.length = 8) (hb : Byt l) : Calls Try.prog 58 #[.agg (bv l).toArray] w fun e w' => e = .returned (.int .i64 (stp l)) ∧ Below w.heap.size w w' := by
  have HL := hide hl
  have HBY := hide hb
  have hal := (Below.refl w.heap.size w).alloc (Nat.le_refl _) (.cells (bv l).toArray 109)
  have HRN := hide (Rq.new w 109 l)
  have HBL := hide hal
  clear hal hb
  go_enter Try.func58, Try.ntmps58
  go_wp2_with (first | (refine wpList_loadE _ rfl _ rfl w.heap.size _ _ rfl HRN.out HL.out ?_))
  generalize w.alloc (.cells (bv l).toArray 109) = W1 at HRN HBL ⊢
  go_loopw [3, 7] (fun n i W => ∃ k : Nat, k ≤ 8 ∧ i = .int .i64 k ∧ n = .int .u64 (num8 (l.take k)) ∧ W = W1) (fun _ i _ => 8 - (iv i).toNat)
  case atStart => exact ⟨0, by omega, rfl, by simp [num8], rfl⟩
  case round =>
    obtain ⟨k, hk, rfl, rfl, rfl⟩ := hrel
    have hbd := num8_bd k (l.take k) (by rw [List.length_take, HL.out]; omega) (fun x hx => HBY.out x (List.mem_of_mem_take hx))
    by_cases hlt : k < 8
    · have hkl : k < l.length := by omega
      have hx := HBY.out _ (List.getElem_mem hkl)
      have HN : Hid (num8 (l.take (k + 1)) = num8 (l.take k) * 256 + l[k]) := hide (by rw [take_step hkl, num8_snoc])
      have HG : Hid (l[k]? = some l[k]) := hide (List.getElem?_eq_getElem hkl)
      have hn7 : num8 (l.take k) < 72057594037927936 := by
        have h1 : (256 : Int) ^ k ≤ 256 ^ 7 := by
          have := Nat.pow_le_pow_right (n := 256) (by decide) (show k ≤ 7 by omega)
          exact_mod_cast this
        have := hbd.2
        omega
      have hn0 := hbd.1
      generalize l[k] = x at hx HN HG
      generalize num8 (l.take k) = n at hn7 hn0 HN hbd
      obtain ⟨hx0, hx1⟩ := hx
      have hor : bits .or .u64 (n * 256) x = n * 256 + x := or_add64 hn0 hn7 hx0 hx1
      clear hbd
      go_wp2_with (first | (refine wpList_indexE _ rfl _ _ rfl l k x rfl rfl hlt HG.out ?_))
      exact ⟨⟨k + 1, by omega, by go_num, by rw [HN.out], by trivial⟩, by simp [iv]; omega⟩
    · obtain rfl : k = 8 := by omega
      have e : l.take 8 = l := List.take_of_length_le (by omega)
      rw [e] at hbd ⊢
      by_cases ht : num8 l ≤ 1152921504606846976
      · have HS : Hid (stp l = num8 l) := hide (by unfold stp; rw [if_pos ht])
        generalize num8 l = n at ht hbd HS ⊢
        go_wp2
        go_ret
        exact ⟨by rw [HS.out]; rfl, HBL.out⟩
      · have HS : Hid (stp l = 0) := hide (by unfold stp; rw [if_neg ht])
        generalize num8 l = n at ht hbd ⊢
        go_wp2
        go_ret
        exact ⟨by rw [HS.out]; rfl, HBL.out⟩
end Go.Proofs.Ytmgfcgknajehaaa
