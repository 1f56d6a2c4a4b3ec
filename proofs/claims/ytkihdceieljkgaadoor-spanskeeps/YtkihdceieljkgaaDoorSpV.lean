/-
  SPANS IN MEMORY: a slice that holds spans, to be read; a row of spans of a call's own; one more behind them. Condition: no more than two thousand million.
-/
import Derived.Test.YtkihdceieljkgaaDoorSlc
import Derived.Test.YtkihdceieljkgaaDoorSpM
import Derived.Test.YtkihdceieljkgaaDoorRows
import Derived.Maps.AppendAt
import Derived.OwnWalk
import Derived.Deep.AppendSrc
import Derived.Deep.MidRow
namespace Go.Proofs.YtkihdceieljkgaaDoor
open Go.RowKit

theorem range_belS {W W' : World} {b o : Nat} {cs : List Value} (h : W.rangeAt b o cs) (hb : Below W.heap.size W W') : W'.rangeAt b o cs := fun j u hu =>
  (hb.cell (p := ⟨b, o + j, none⟩) (cell_block (h j u hu) : b < W.heap.size)).trans (h j u hu)
theorem lm_getS {α : Type} (f : α → List Value) (n : Nat) (hf : ∀ x, (f x).length = n) : ∀ (l : List α) (i : Nat) (h : i < l.length) (j : Nat) (u : Value), (f l[i])[j]? = some u → (l.flatMap f)[i * n + j]? = some u
  | [], i, h, _, _, _ => by simp at h
  | x :: r, 0, _, j, u, hj => by
    have hl : j < (f x).length := (List.getElem?_eq_some_iff.1 hj).1
    rw [List.flatMap_cons, Nat.zero_mul, Nat.zero_add, List.getElem?_append_left hl]
    exact hj
  | x :: r, i + 1, h, j, u, hj => by
    rw [List.flatMap_cons, List.getElem?_append_right (by rw [hf, Nat.succ_mul]; omega), hf, show (i + 1) * n + j - n = i * n + j by rw [Nat.succ_mul]; omega]
    exact lm_getS f n hf r i (by simpa using h) j u hj
theorem lm_atS {α : Type} (f : α → List Value) (n : Nat) (hf : ∀ x, (f x).length = n) {W : World} {b o : Nat} {l : List α} (h : W.rangeAt b o (l.flatMap f)) {i : Nat} (hi : i < l.length) : W.rangeAt b (o + i * n) (f l[i]) := fun j u hu => by
  rw [Nat.add_assoc]
  exact h _ u (lm_getS f n hf l i hi j u hu)
theorem lm_lenS {α : Type} (f : α → List Value) (n : Nat) (hf : ∀ x, (f x).length = n) : ∀ l : List α, (l.flatMap f).length = l.length * n
  | [] => by simp
  | x :: r => by rw [List.flatMap_cons, List.length_append, hf, lm_lenS f n hf r, List.length_cons, Nat.succ_mul]; omega
/-- A span's two cells. -/
def spc (p : Spn) : List Value := [.int .i64 p.1, .int .i64 p.2]
def spcs (l : List Spn) : List Value := l.flatMap spc
theorem spcs_len (l : List Spn) : (spcs l).length = l.length * 2 := lm_lenS spc 2 (fun _ => rfl) l
theorem spcs_app (l m : List Spn) : spcs (l ++ m) = spcs l ++ spcs m := List.flatMap_append
/-- The slice v holds the spans l. -/
def Ssp (W : World) (v : Value) (l : List Spn) : Prop := ∃ ao cap, v = .slice ao l.length cap ∧ l.length ≤ cap ∧ (0 < l.length → ∃ b o, ao = some ⟨b, o, none⟩ ∧ W.rangeAt b o (spcs l))
theorem Ssp.below {W W' : World} {v : Value} {l : List Spn} (h : Ssp W v l) (hb : Below W.heap.size W W') : Ssp W' v l := by
  obtain ⟨ao, cap, e, hc, hr⟩ := h
  exact ⟨ao, cap, e, hc, fun q => by obtain ⟨b, o, e1, e2⟩ := hr q; exact ⟨b, o, e1, range_belS e2 hb⟩⟩
theorem Ssp.at {W : World} {v : Value} {l : List Spn} (h : Ssp W v l) {k : Nat} (hk : k < l.length) : ∃ b o cap, v = .slice (some ⟨b, o, none⟩) l.length cap ∧ l.length ≤ cap ∧ W.cell? ⟨b, o + k * 2, none⟩ = some (.int .i64 (l[k]).1) ∧ W.cell? ⟨b, o + k * 2 + 1, none⟩ = some (.int .i64 (l[k]).2) := by
  obtain ⟨ao, cap, e, hc, hr⟩ := h
  obtain ⟨b, o, rfl, h2⟩ := hr (by omega)
  have hf := lm_atS spc 2 (fun _ => rfl) h2 hk
  exact ⟨b, o, cap, e, hc, hf 0 _ rfl, hf 1 _ rfl⟩
theorem Ssp.form {W : World} {v : Value} {l : List Spn} (h : Ssp W v l) : ∃ a k, v = .slice a l.length k := by
  obtain ⟨ao, cap, e, _⟩ := h
  exact ⟨ao, cap, e⟩
theorem ssp_nil (W : World) (ao : Option Addr) (cap : Nat) : Ssp W (.slice ao 0 cap) [] := ⟨ao, cap, rfl, Nat.zero_le _, fun h => by simp at h⟩
/-- A slice of spans whose block and places are told, where it is not empty. -/
theorem Ssp.cells {W : World} {b o cap : Nat} {l : List Spn} {n : Nat} (h : Ssp W (.slice (some ⟨b, o, none⟩) n cap) l) {k : Nat} (hk : k < l.length) : W.cell? ⟨b, o + k * 2, none⟩ = some (.int .i64 (l[k]).1) ∧ W.cell? ⟨b, o + k * 2 + 1, none⟩ = some (.int .i64 (l[k]).2) := by
  obtain ⟨b', o', cap', e, _, h1, h2⟩ := h.at hk
  cases e
  exact ⟨h1, h2⟩
theorem infoSp : (Tryd.prog.info? 43).map (fun i => (i.zero, i.size, i.bytes)) = some (some (.agg #[.int .i64 0, .int .i64 0]), 2, 16) := by kernel_rfl
/-- A row of spans in memory from B on, that is the call's own. -/
def Sow (W : World) (B : Nat) (v : Value) (l : List Spn) : Prop := W.ownsRow B 43 2 v l.length (spcs l)
theorem sow_nil (W : World) (B : Nat) : Sow W B (.slice none 0 0) [] := World.ownsRow_nil _ _ _ _
theorem Sow.below {W W' : World} {B : Nat} {v : Value} {l : List Spn} (h : Sow W B v l) (hb : Below W.heap.size W W') : Sow W' B v l := owns_below h hb
theorem Sow.mono {W : World} {B C : Nat} {v : Value} {l : List Spn} (h : Sow W B v l) (hc : C ≤ B) : Sow W C v l := owns_mono h hc
theorem Sow.form {W : World} {B : Nat} {v : Value} {l : List Spn} (h : Sow W B v l) : ∃ a k, v = .slice a l.length k := by
  rcases h.2 with ⟨e, h0⟩ | ⟨g, cap, cur, e, _⟩
  · rw [e, h0]; exact ⟨_, _, rfl⟩
  · exact ⟨_, _, e⟩
theorem Sow.ssp {W : World} {B : Nat} {v : Value} {l : List Spn} (h : Sow W B v l) : Ssp W v l := by
  rcases h.2 with ⟨e, h0⟩ | ⟨g, cap, cur, e, a2, a3, a4, a5, a6, a7⟩
  · exact ⟨none, 0, by rw [e, h0], by omega, fun q => by omega⟩
  · refine ⟨some ⟨g, 0, none⟩, cap, e, a4, fun _ => ⟨g, 0, rfl, fun j x hj => ?_⟩⟩
    have hl : j < (spcs l).length := (List.getElem?_eq_some_iff.1 hj).1
    have h1 : (spcs l).length = l.length * 2 := h.1
    rw [← a7, List.getElem?_take_of_lt (by omega)] at hj
    simp only [World.cell?, a3, Nat.zero_add]
    simpa using hj
/-- The beginning of a row. -/
theorem Sow.take {W : World} {B : Nat} {ao : Option Addr} {n cap k : Nat} {l : List Spn} (h : Sow W B (.slice ao n cap) l) (hk : k ≤ l.length) : Sow W B (.slice ao k cap) (l.take k) := by
  have hl : (l.take k).length = k := by rw [List.length_take]; omega
  refine ⟨spcs_len _, ?_⟩
  rw [hl]
  rcases h.2 with ⟨e, h0⟩ | ⟨g, cap', cur, e, a2, a3, a4, a5, a6, a7⟩
  · cases e
    exact .inl ⟨by rw [show k = 0 by omega], by omega⟩
  · cases e
    refine .inr ⟨g, cap, cur, rfl, a2, a3, by omega, a5, a6, ?_⟩
    have e1 : spcs l = spcs (l.take k) ++ spcs (l.drop k) := by rw [← spcs_app, List.take_append_drop]
    have e2 : (spcs (l.take k)).length = k * 2 := by rw [spcs_len, hl]
    have e3 : (cur.toList.take (l.length * 2)).take (k * 2) = spcs (l.take k) := by rw [a7, e1, ← e2, List.take_left]
    rwa [List.take_take, show min (k * 2) (l.length * 2) = k * 2 by omega] at e3
theorem spc_one (l : List Spn) : ∀ u ∈ spcs l, u.oneCell' = true := fun u hu => by
  obtain ⟨p, _, hp⟩ := List.mem_flatMap.1 hu
  simp only [spc, List.mem_cons, List.not_mem_nil, or_false] at hp
  rcases hp with rfl | rfl <;> rfl
/-- One more, or many: append. -/
theorem wpList_appSp {ops : Array Oper} {rest : List Oper} {o : Oper} {a : Act} {Q : Exit → Act → World → Prop} (w : World) (hg : o.guard = none) (y z : Operand) (ho : o.op = .call { callee := .builtin .append, args := #[y, z], argTypes := #[22, 22] }) (B : Nat) (v : Value) (l : List Spn) (hy : a.eval y = v) (hown : Sow w B v l) (hB : B ≤ w.heap.size) (ad : Addr) (c m : Nat) (q : List Spn) (hm : q.length = m) (hz : a.eval z = .slice (some ad) m c) (hnews : ∀ j u, (spcs q)[j]? = some u → w.cell? (ad.add j) = some u) (hn : l.length + m ≤ 2000000000)
    (h : ∀ v' w', Sow w' B v' (l ++ q) → w.grownBy w' v.ownBlock → Below B w w' → wpList Tryd.prog ops Q rest (a.put o.dst v') w') : wpList Tryd.prog ops Q (o :: rest) a w := by
  subst hm
  refine wpList_plain hg fun K hK => ?_
  obtain ⟨i0, hi, hz0, hz1, hz2⟩ := info_parts infoSp
  obtain ⟨v', w', hrun, ho', hg', _, hk⟩ := run_append_own_at (P := Tryd.prog) w B 22 o.type 43 i0 (.agg #[.int .i64 0, .int .i64 0]) 2 16 Tryd.underlying22 hi hz0 hz1 hz2 rfl (by decide) v l.length (spcs l) hown ad q.length c (spcs q) (spcs_len q) hnews (spc_one q) (by unfold maxLen; omega) (by omega) hB
  unfold Oper.wp
  simp [execOp, ho, resolve, invoke, builtin, hy, hz, hrun, Result.andThen]
  refine hK _ _ (h v' w' ?_ hg' ((Below.refl B w).grown hg' hB (fun k e => (hown.lt k e).1)))
  unfold Sow
  rw [List.length_append, spcs_app]
  exact ho'
theorem spc_new {w : World} {p : Spn} {t : TypeId} : ∀ j u, (spcs [p])[j]? = some u → (w.alloc (.cells #[.int .i64 p.1, .int .i64 p.2] t)).cell? ((⟨w.heap.size, 0, none⟩ : Addr).add j) = some u := fun j u hj => by
  rw [Addr.add_lit, Nat.zero_add, World.cell?_alloc_at _ _ _ _ rfl]
  simpa [spcs, spc] using hj
/-- A cut 'l[:k]' of spans. -/
theorem cut_sp (ao : Option Addr) (n cap k : Nat) (hk : k ≤ cap) (W : World) : (Instr.slice 22 (.slice ao n cap) none (some (.int .i64 (k : Int))) none).run Tryd.prog W = .ok (.slice ao k cap) W := by
  have h1 : (k : Int) ≤ (cap : Int) := by omega
  cases ao with
  | none => simp [Instr.slice, go_sem, h1]
  | some a => simp [Instr.slice, go_sem, h1]
end Go.Proofs.YtkihdceieljkgaaDoor
