/-
  A CHAIN's SMALL STEPS: bytes in a row of their own, copied, loaded and stored; the edges of a block (chain.ahead, behind); the stamp that an edge is. Conditions: blocks of sixty-four bytes.
-/
import Derived.Test.YtiedbchlgcgdeaaBlkQ
import Derived.Test.YtiedbchlgcgdeaaChA
import Derived.Laws.CopyRow
import Derived.ChangeKeysEq
namespace Go.Proofs.Ytiedbchlgcgdeaa
open Go.RowKit

/-- Bytes in a row of their own. -/
def Rq (W : World) (g : Nat) (t : TypeId) (b : List Int) : Prop := W.heap[g]? = some (.cells (bv b).toArray t (0, 0))
theorem Rq.lt {W : World} {g : Nat} {t : TypeId} {b : List Int} (h : Rq W g t b) : g < W.heap.size := (Array.getElem?_eq_some_iff.1 h).1
theorem Rq.keep {W W' : World} {g : Nat} {t : TypeId} {b : List Int} (h : Rq W g t b) (he : W'.heap[g]? = W.heap[g]?) : Rq W' g t b := he.trans h
theorem Rq.below {W W' : World} {g : Nat} {t : TypeId} {b : List Int} (h : Rq W g t b) (hb : Below W.heap.size W W') : Rq W' g t b := h.keep (hb.block g h.lt)
theorem Rq.new (W : World) (t : TypeId) (b : List Int) : Rq (W.alloc (.cells (bv b).toArray t)) W.heap.size t b := Array.getElem?_push_size
theorem Rq.set {W : World} {g : Nat} {t : TypeId} {b : List Int} (h : Rq W g t b) (c : List Int) : Rq (W.setRow g (bv c).toArray) g t c := setRow_heap W g _ _ t (0, 0) h
theorem Rq.setO {W : World} {g k : Nat} {t : TypeId} {b : List Int} (h : Rq W g t b) (hk : g ≠ k) (cs : Array Value) : Rq (W.setRow k cs) g t b := h.keep (setRow_other W k g cs hk)
theorem Rq.part {W : World} {g : Nat} {t : TypeId} {b : List Int} (h : Rq W g t b) {o n : Nat} (cap : Nat) (hn : o + n ≤ b.length) (hc : n ≤ cap) : Sl bc W (.slice (some ⟨g, o, none⟩) n cap) ((b.drop o).take n) := by
  have hl : ((b.drop o).take n).length = n := by rw [List.length_take, List.length_drop]; omega
  refine .inr ⟨g, o, cap, by rw [hl], by omega, fun i hi => ?_⟩
  have hi2 : i < n := by omega
  have e : ((b.drop o).take n)[i] = b[o + i]'(by omega) := by simp
  rw [e]
  have : W.cell? ⟨g, o + i, none⟩ = (bv b)[o + i]? := by
    have h' := h
    unfold Rq at h'
    simp [World.cell?, h']
  rw [this, bv_eq, List.getElem?_map, List.getElem?_eq_getElem (by omega)]
  rfl
theorem Rq.all {W : World} {g : Nat} {t : TypeId} {b : List Int} (h : Rq W g t b) {n : Nat} (hn : n = b.length) : Sl bc W (.slice (some ⟨g, 0, none⟩) n n) b := by
  have := h.part (o := 0) (n := n) n (by omega) (Nat.le_refl _)
  rwa [List.drop_zero, List.take_of_length_le (by omega)] at this
theorem setRow_below {B g : Nat} {a W : World} (h : Below B a W) (hg : B ≤ g) (cs : Array Value) : Below B a (W.setRow g cs) :=
  ⟨h.os, h.tape, h.output, by simpa using h.size, fun k hk => (setRow_other W g k cs (by omega)).trans (h.block k hk)⟩
theorem copyR (W : World) (ty : TypeId) (g o n cap : Nat) (t : TypeId) (z b : List Int) (v : Value) (hg : Rq W g t z) (hv : Sl bc W v b) (hf : o + n ≤ z.length) :
    (Builtin.copy_ #[23, 23] ty #[.slice (some ⟨g, o, none⟩) n cap, v]).run Try.prog W = .ok (.int .i64 (Nat.min b.length n : Nat)) (W.setRow g (bv (z.take o ++ (b.take n ++ z.drop (o + Nat.min b.length n)))).toArray) := by
  by_cases h0 : Nat.min b.length n = 0
  · obtain ⟨ao, c, rfl⟩ := hv.form
    rw [run_copy_none (P := Try.prog) W 23 23 ty 5 (some ⟨g, o, none⟩) ao n cap b.length c Try.underlying23 infoU h0]
    have e : z.take o ++ (b.take n ++ z.drop (o + Nat.min b.length n)) = z := by
      have e1 : b.take n = [] := List.length_eq_zero_iff.1 (by rw [List.length_take, Nat.min_comm]; exact h0)
      rw [h0, e1, List.nil_append, Nat.add_zero, List.take_append_drop]
    rw [e, setRow_self W g _ t (0, 0) hg, h0]
    rfl
  · rcases hv with ⟨_, _, rfl, _⟩ | ⟨gb, go, c, rfl, h2, h3⟩
    · exact absurd (Nat.zero_min n) h0
    · have hm : (bv (b.take n)).length = Nat.min b.length n := by rw [bv_len, List.length_take, Nat.min_comm]
      have hle : Nat.min b.length n ≤ n := Nat.min_le_right _ _
      have := run_copy_row (P := Try.prog) W 23 23 ty 5 g o n cap ⟨gb, go, none⟩ b.length c (bv z).toArray t (bv (b.take n)) Try.underlying23 infoU hg hm (fun j u hu => by
          have hj : j < (b.take n).length := by simpa [bv_len] using (List.getElem?_eq_some_iff.1 hu).1
          have hj2 : j < b.length := by rw [List.length_take] at hj; omega
          rw [Addr.add_lit, h3 j hj2]
          rw [bv_eq, List.getElem?_map, List.getElem?_eq_getElem hj] at hu
          simpa using hu) (by rw [hm]; simp [bv_len]; omega) (bv_one _)
      rw [this, hm]
      have e : (bv z).toArray.toList.take o ++ bv (b.take n) ++ (bv z).toArray.toList.drop (o + Nat.min b.length n) = bv (z.take o ++ (b.take n ++ z.drop (o + Nat.min b.length n))) := by
        simp [bv, List.map_take, List.map_drop]
      rw [e]
      rfl
section
variable {ops : Array Oper} {rest : List Oper} {o : Oper} {a : Act} {Q : Exit → Act → World → Prop}
theorem wpList_copyR (W : World) (hgd : o.guard = none) (x y : Operand) (ho : o.op = .call { callee := .builtin .copy, args := #[x, y], argTypes := #[23, 23] }) (g p n cap : Nat) (t : TypeId) (z b : List Int) (v : Value) (hx : a.eval x = .slice (some ⟨g, p, none⟩) n cap) (hy : a.eval y = v) (hg : Rq W g t z) (hv : Sl bc W v b) (hf : p + n ≤ z.length)
    (h : wpList Try.prog ops Q rest (a.put o.dst (.int .i64 (Nat.min b.length n : Nat))) (W.setRow g (bv (z.take p ++ (b.take n ++ z.drop (p + Nat.min b.length n)))).toArray)) : wpList Try.prog ops Q (o :: rest) a W := by
  refine wpList_plain hgd fun K hK => ?_
  unfold Oper.wp
  simp [execOp, ho, resolve, invoke, builtin, hx, hy, copyR W o.type g p n cap t z b v hg hv hf, Result.andThen]
  exact hK _ _ h
end
section
variable {ops : Array Oper} {o : Oper} {a : Act} {w : World} {K : Act → World → Prop} {Q : Exit → Act → World → Prop} {E : Prop}
theorem step_copyR (hgd : o.guard = none) (x y : Operand) (ho : o.op = .call { callee := .builtin .copy, args := #[x, y], argTypes := #[23, 23] }) (g p n cap : Nat) (t : TypeId) (z b : List Int) (v : Value) (hx : a.eval x = .slice (some ⟨g, p, none⟩) n cap) (hy : a.eval y = v) (hg : Rq w g t z) (hv : Sl bc w v b) (hf : p + n ≤ z.length)
    (h : K (a.put o.dst (.int .i64 (Nat.min b.length n : Nat))) (w.setRow g (bv (z.take p ++ (b.take n ++ z.drop (p + Nat.min b.length n)))).toArray)) : if Region.wanted o (yielded ops a.tmps) = true then Oper.wp Try.prog o a w K Q else E := by
  have hw : Region.wanted o (yielded ops a.tmps) = true := by simp [Region.wanted, hgd]
  rw [if_pos hw]
  unfold Oper.wp
  simp [execOp, ho, resolve, invoke, builtin, hx, hy, copyR w o.type g p n cap t z b v hg hv hf, Result.andThen]
  exact h
end
theorem or_nat64 (j a y : Nat) (hy : y < 2 ^ j) (hs : 2 ^ j * a + y < 18446744073709551616) : bits .or .u64 ((2 ^ j * a : Nat) : Int) (y : Int) = ((2 ^ j * a + y : Nat) : Int) := by
  have h1 : 2 ^ j * a < 2 ^ 64 := by omega
  have h2 : y < 2 ^ 64 := by omega
  have e : (BitVec.ofInt 64 ((2 ^ j * a : Nat) : Int) ||| BitVec.ofInt 64 (y : Int)).toNat = 2 ^ j * a + y := by
    rw [BitVec.toNat_or, BitVec.ofInt_natCast, BitVec.ofInt_natCast, BitVec.toNat_ofNat, BitVec.toNat_ofNat, Nat.mod_eq_of_lt h1, Nat.mod_eq_of_lt h2]
    exact (Nat.two_pow_add_eq_or_of_lt hy a).symm
  show IntKind.u64.wrap ((BitVec.ofInt 64 ((2 ^ j * a : Nat) : Int) ||| BitVec.ofInt 64 (y : Int)).toNat : Int) = _
  rw [e, IntKind.wrap_u64]
  omega
theorem or_add64 {n x : Int} (h0 : 0 ≤ n) (h1 : n < 72057594037927936) (h2 : 0 ≤ x) (h3 : x ≤ 255) : bits .or .u64 (n * 256) x = n * 256 + x := by
  have e := or_nat64 8 n.toNat x.toNat (by omega) (by omega)
  rw [show ((2 ^ 8 * n.toNat : Nat) : Int) = n * 256 by omega, show ((x.toNat : Nat) : Int) = x by omega] at e
  rw [e]
  omega
def zr8 : List Int := [0, 0, 0, 0, 0, 0, 0, 0]
theorem cp8 {b l : List Int} (h : b.take 8 = l) (hl : l.length = 8) : zr8.take 0 ++ (b.take 8 ++ zr8.drop (0 + Nat.min b.length 8)) = l := by
  have e : Nat.min b.length 8 = 8 := by
    have := congrArg List.length h
    rw [List.length_take] at this
    show min b.length 8 = 8
    rw [Nat.min_comm]
    exact this.trans hl
  rw [e, h, List.take_zero, List.nil_append]
  exact List.append_nil _
theorem plainU : Try.prog.plainKey 5 = true := by kernel_rfl
theorem run_partU {xs : List Int} {i : Nat} {x : Int} (W : World) (h : xs[i]? = some x) : (part 5 (bv xs).toArray i).run Try.prog W = .ok (.int .u8 x) W := run_part_plain W plainU (by simp [bv, h])
theorem info_size {t : TypeId} {n : Nat} (h : (Try.prog.info? t).map (·.size) = some n) : ∃ i, Try.prog.info? t = some i ∧ i.size = n := by
  cases hi : Try.prog.info? t with
  | none => rw [hi] at h; cases h
  | some i => rw [hi] at h; exact ⟨i, rfl, by simpa using h⟩
theorem run_eqItemsU (W : World) (d : Nat) (x y : List Int) : ∀ is : List Nat, (∀ i ∈ is, i < x.length ∧ i < y.length) → ∃ r : Bool, (Op.eqItems (d + 1) 5 1 (bv x).toArray (bv y).toArray is).run Try.prog W = .ok r W ∧ (r = true ↔ ∀ i ∈ is, x[i]? = y[i]?)
  | [], _ => ⟨true, by simp [Op.eqItems], by simp⟩
  | i :: is, h => by
    obtain ⟨r, hr, hiff⟩ := run_eqItemsU W d x y is (fun j hj => h j (List.mem_cons_of_mem _ hj))
    have hi := h i List.mem_cons_self
    have h1 : x[i]? = some x[i] := List.getElem?_eq_getElem hi.1
    have h2 : y[i]? = some y[i] := List.getElem?_eq_getElem hi.2
    have he : (Op.equalIn (d + 1) 5 (.int .u8 x[i]) (.int .u8 y[i])).run Try.prog W = .ok (x[i] == y[i]) W := by
      simp [Op.equalIn, run_underlying Try.underlying5]
    simp only [Op.eqItems, Sem.run_bind, Nat.mul_one, run_partU W h1, run_partU W h2, Result.andThen_ok, he]
    by_cases hxy : x[i] = y[i]
    · refine ⟨r, by simpa [hxy] using hr, ?_⟩
      rw [hiff]
      simp only [List.mem_cons, forall_eq_or_imp, h1, h2, hxy, true_and]
    · refine ⟨false, by simp [hxy], ?_⟩
      simp [h1, h2, hxy]
theorem cellsU : Try.prog.cellsOf 5 = 1 := by kernel_rfl
section
variable {ops : Array Oper} {rest : List Oper} {o : Oper} {a : Act} {Q : Exit → Act → World → Prop}
end
end Go.Proofs.Ytiedbchlgcgdeaa
