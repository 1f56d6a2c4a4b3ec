/-
  A CHAIN IN ITS MEMORY; what a block says (chain.piece); the record that stands at a block (chain.record). Condition: fewer than thirty thousand blocks and writes.
-/
import Derived.Test.YtiedbchlgcgdeaaChB
import Derived.ArgAppend
import Derived.OwnWalk
namespace Go.Proofs.Ytiedbchlgcgdeaa
open Go.RowKit

/-- A chain: its store, its base, the next block, the next stamp. -/
structure Chn (W : World) (c d bS bT : Nat) (u : Value) (s : Dst) (base nx sp : Int) : Prop where
  q : Dq W d bS bT u s
  x : B4 W c (.pointer (some ⟨d, 0, none⟩)) (.int .i64 base) (.int .i64 nx) (.int .i64 sp)
  no : ¬ Own d bS bT u c
section
variable {W W' : World} {c d bS bT : Nat} {u u' : Value} {s : Dst} {base nx sp : Int}
theorem Chn.below (h : Chn W c d bS bT u s base nx sp) (hb : Below W.heap.size W W') : Chn W' c d bS bT u s base nx sp := ⟨h.q.below hb, h.x.below hb, h.no⟩
theorem Chn.blk (h : Chn W c d bS bT u s base nx sp) (a : Int) : Blk (vw s.tk a) := vw_blk h.q.ok.tb a
end
theorem sl_of_own {W : World} {B : Nat} {v : Value} {b : List Int} (h : W.ownsRow B 5 1 v b.length (bv b)) : Sl bc W v b := by
  rcases h.2 with ⟨rfl, h0⟩ | ⟨g, cap, cur, rfl, a2, a3, a4, a5, a6, a7⟩
  · exact .inl ⟨none, 0, List.length_eq_zero_iff.1 h0, rfl⟩
  · refine .inr ⟨g, 0, cap, rfl, a4, fun i hi => ?_⟩
    have hx : (bv b)[i]? = some (bc b[i]) := by rw [bv_eq, List.getElem?_map, List.getElem?_eq_getElem hi]; rfl
    rw [← a7, Nat.mul_one] at hx
    rw [List.getElem?_take_of_lt hi] at hx
    simp only [World.cell?, a3, Nat.zero_add]
    simpa using hx
/-- Bytes that grow: full, or in a row of their own. -/
def Bb (B : Nat) (W : World) (v : Value) (b : List Int) : Prop := (∃ ad, v = .slice ad b.length b.length ∧ Sl bc W v b) ∨ W.ownsRow B 5 1 v b.length (bv b)
theorem Bb.sl {B : Nat} {W : World} {v : Value} {b : List Int} (h : Bb B W v b) : Sl bc W v b := h.elim (fun ⟨_, _, h⟩ => h) sl_of_own
theorem Bb.below {B : Nat} {W W' : World} {v : Value} {b : List Int} (h : Bb B W v b) (hb : Below W.heap.size W W') : Bb B W' v b := h.elim (fun ⟨ad, e, h⟩ => .inl ⟨ad, e, h.below hb⟩) (fun h => .inr (owns_below h hb))
theorem infoU8 : (Try.prog.info? 5).map (fun i => (i.zero, i.size, i.bytes)) = some (some (.int .u8 0), 1, 1) := by kernel_rfl
theorem bb_append {B : Nat} (W : World) (ty : TypeId) (v u : Value) (b l : List Int) (hB : B ≤ W.heap.size) (hb : Bb B W v b) (hu : Sl bc W u l) (hl : 0 < l.length) (hb0 : 0 < b.length) (hn : b.length + l.length ≤ 1000000) :
    ∃ v' W', (Builtin.append_ #[23, 23] ty #[v, u]).run Try.prog W = .ok v' W' ∧ W'.ownsRow B 5 1 v' (b ++ l).length (bv (b ++ l)) ∧ ∃ row, W.grownBy W' row ∧ ∀ k, row = some k → B ≤ k ∧ ∃ cur, W.heap[k]? = some (.cells cur 5 (0, 0)) := by
  obtain ⟨i0, hi, hz0, hz1, hz2⟩ := info_parts infoU8
  rcases hu with ⟨_, _, rfl, _⟩ | ⟨gu, ou, cu, rfl, hu2, hu3⟩
  · simp at hl
  have hnews : ∀ j x, (bv l)[j]? = some x → W.cell? ((⟨gu, ou, none⟩ : Addr).add j) = some x := fun j x hx => by
    have hj : j < l.length := by simpa [bv_len] using (List.getElem?_eq_some_iff.1 hx).1
    rw [Addr.add_lit, hu3 j hj]
    rw [bv_eq, List.getElem?_map, List.getElem?_eq_getElem hj] at hx
    simpa using hx
  rcases hb with ⟨ad, rfl, hs⟩ | ho
  · rcases hs with ⟨_, _, rfl, _⟩ | ⟨g, o, cap, e, h2, h3⟩
    · simp at hb0
    cases e
    obtain ⟨v', W', hr, ho, hg⟩ := run_append_arg_grows (P := Try.prog) W 23 ty 5 i0 (.int .u8 0) 1 1 Try.underlying23 hi hz0 hz1 hz2 rfl (by decide) ⟨g, o, none⟩ b.length b.length (bv b) (by rw [bv_len, Nat.mul_one]) (fun j x hx => by
      have hj : j < b.length := by simpa [bv_len] using (List.getElem?_eq_some_iff.1 hx).1
      rw [Addr.add_lit, h3 j hj]
      rw [bv_eq, List.getElem?_map, List.getElem?_eq_getElem hj] at hx
      simpa using hx) ⟨gu, ou, none⟩ l.length cu (bv l) (by rw [bv_len, Nat.mul_one]) hnews (by omega) (by unfold maxLen; omega) (by omega)
    refine ⟨v', W', hr, ?_, none, hg, fun k e => by cases e⟩
    rw [List.length_append]
    have e : bv (b ++ l) = bv b ++ bv l := by simp [bv]
    rw [e]
    exact ⟨ho.1, ho.2.imp id (fun ⟨g, cap, cur, a1, a2, a3⟩ => ⟨g, cap, cur, a1, Nat.le_trans hB a2, a3⟩)⟩
  · obtain ⟨v', W', hr, ho', hg, _, hk⟩ := run_append_own_at (P := Try.prog) W B 23 ty 5 i0 (.int .u8 0) 1 1 Try.underlying23 hi hz0 hz1 hz2 rfl (by decide) v b.length (bv b) ho ⟨gu, ou, none⟩ l.length cu (bv l) (by rw [bv_len, Nat.mul_one]) hnews (bv_one l) (by unfold maxLen; omega) (by omega) hB
    refine ⟨v', W', hr, ?_, v.ownBlock, hg, fun k e => ⟨(ho.lt k e).1, ?_⟩⟩
    rotate_left
    · rcases ho.2 with ⟨e2, _⟩ | ⟨g, cap, cur, e2, _, a3, _⟩
      · rw [e2] at e; cases e
      · rw [e2] at e; cases e; exact ⟨cur, a3⟩
    rw [List.length_append]
    have e : bv (b ++ l) = bv b ++ bv l := by simp [bv]
    rw [e]
    exact ho'
theorem wpList_bb {ops : Array Oper} {rest : List Oper} {o : Oper} {a : Act} {Q : Exit → Act → World → Prop} {B : Nat} (W : World) (hgd : o.guard = none) (x y : Operand) (ho : o.op = .call { callee := .builtin .append, args := #[x, y], argTypes := #[23, 23] }) (v u : Value) (b l : List Int) (hx : a.eval x = v) (hy : a.eval y = u) (hB : B ≤ W.heap.size) (hb : Bb B W v b) (hu : Sl bc W u l) (hl : 0 < l.length) (hb0 : 0 < b.length) (hn : b.length + l.length ≤ 1000000)
    (h : ∀ v' W' row, W'.ownsRow B 5 1 v' (b ++ l).length (bv (b ++ l)) → W.grownBy W' row → (∀ k, row = some k → B ≤ k ∧ ∃ cur, W.heap[k]? = some (.cells cur 5 (0, 0))) → wpList Try.prog ops Q rest (a.put o.dst v') W') : wpList Try.prog ops Q (o :: rest) a W := by
  refine wpList_plain hgd fun K hK => ?_
  obtain ⟨v', W', hrun, q1, row, q2, q3⟩ := bb_append W o.type v u b l hB hb hu hl hb0 hn
  unfold Oper.wp
  simp [execOp, ho, resolve, invoke, builtin, hx, hy, hrun, Result.andThen]
  exact hK _ _ (h v' W' row q1 q2 q3)
/-- What is told lies in new memory. -/
def Fr (n0 : Nat) (v : Value) : Prop := ∀ a n k, v = .slice (some a) n k → 0 < n → n0 ≤ a.block
/-- What record answers. -/
def RecP (w w' : World) (e : Ending) (r : Option (List Int × Int)) : Prop := match r with
  | none => e = .returned (.tuple #[.slice none 0 0, .int .i64 0, .bool false])
  | some q => ∃ ad n k, e = .returned (.tuple #[.slice ad n k, .int .i64 q.2, .bool true]) ∧ Sl bc w' (.slice ad n k) q.1 ∧ Fr w.heap.size (.slice ad n k)
theorem bb_form {B : Nat} {W : World} {v : Value} {b : List Int} (h : Bb B W v b) : ∃ ad k, v = .slice ad b.length k := by
  rcases h with ⟨ad, e, _⟩ | h
  · exact ⟨ad, _, e⟩
  · rcases h.2 with ⟨e, h0⟩ | ⟨g, cap, cur, e, _⟩
    · rw [e, h0]; exact ⟨_, _, rfl⟩
    · exact ⟨_, _, e⟩
theorem fr_own {B n0 n : Nat} {W : World} {v : Value} {xs : List Value} (h : W.ownsRow B 5 1 v n xs) (hB : n0 ≤ B) : Fr n0 v := fun a m k e hm => by
  rcases h.2 with ⟨e2, _⟩ | ⟨g, cap, cur, e2, a2, _⟩
  · rw [e2] at e; cases e
  · rw [e2] at e; cases e; exact Nat.le_trans hB a2
theorem recG_end {t : Cs} {n : Nat} {a : Int} {p : Pc} {b : List Int} (h : ¬ 46 < p.lf) : recG t n a p b = some (b, p.st) := by
  cases n with
  | zero => rfl
  | succ n => unfold recG; rw [if_neg h]
theorem recG_on {t : Cs} {n : Nat} {a : Int} {p : Pc} {b : List Int} (h : 46 < p.lf) : recG t (n + 1) a p b = if (pcs (vw t a)).bg = true ∨ (pcs (vw t a)).st ≠ p.st + 1 ∨ (pcs (vw t a)).lf ≠ p.lf - 46 then none else recG t n (a + 1) (pcs (vw t a)) (b ++ (pcs (vw t a)).own) := by
  conv => lhs; unfold recG
  rw [if_pos h]
/-- Where the record's loop stands. -/
structure Rl (w W : World) (P : Nat) (t : Cs) (nx last : Int) (vb : Value) (n : Nat) (p : Pc) (a : Int) (b : List Int) (ad : Option Addr) (m : Nat) : Prop where
  bb : Bb (P + 1) W vb b
  fr : Fr w.heap.size vb
  x : B4 W P (.int .i64 p.st) (.bool p.bg) (.int .i64 p.lf) (.slice ad m m)
  re : recS t nx last = recG t n a p b
  lf : p.lf ≤ 46 * (n + 1)
  l0 : 0 ≤ p.lf
  st : 0 ≤ p.st ∧ p.st ≤ 1152921504606846976
  an : a + n = nx + 401
  bl : (b.length : Int) + 46 * n ≤ 18446
  b0 : 46 < p.lf → 0 < b.length
  be : Below w.heap.size w W
  wp : w.heap.size ≤ P
end Go.Proofs.Ytiedbchlgcgdeaa
