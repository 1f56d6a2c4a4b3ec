/-
  AN APPEND OF ANY BYTES, NONE AMONG THEM, TO A ROW OF ITS OWN; the document's writers as slices. Condition: fewer than a million bytes.
-/
import Derived.Test.YtfjkahclobnhiaaDoorWputb
import Derived.Test.YtfjkahclobnhiaaDoorRefPut
namespace Go.Proofs.YtfjkahclobnhiaaDoor
open Go.RowKit

theorem Put.none {B : Nat} {w : World} {v : Value} {n : Nat} {cur : List Value} (hr : Rw B w v n cur) : Put B w v n cur w v 0 cur (bv []) :=
  ⟨hr, by simp [bv_eq], rfl, fun _ => ⟨rfl, rfl, rfl⟩, Below.refl _ _, ⟨rfl, rfl, rfl, Nat.le_refl _, fun _ _ _ => rfl⟩, .inl rfl⟩
theorem run_append_sl (w : World) (ty : TypeId) (B : Nat) (v : Value) (n : Nat) (cur : List Value) (hr : Rw B w v n cur) (hB : B ≤ w.heap.size) (u : Value) (l : List Int) (hu : Sl bc w u l) (hn : n + l.length ≤ 1000000) :
    ∃ w' v' cur', (Builtin.append_ #[22, 22] ty #[v, u]).run Tryd.prog w = .ok v' w' ∧ Put B w v n cur w' v' l.length cur' (bv l) := by
  by_cases h0 : 0 < l.length
  · rcases hu with ⟨ao, cap, rfl, rfl⟩ | ⟨b, o, cap, rfl, h2, h3⟩
    · simp at h0
    · exact run_append_rw w ty B v n cur hr hB ⟨b, o, none⟩ l.length cap (bv l) (by simp [bv_eq]) h0 (by rw [bv_eq]; exact Sl.news h3) (one_bytes l) hn
  · obtain ⟨ao, cap, rfl⟩ := hu.form
    obtain rfl : l = [] := List.length_eq_zero_iff.1 (by omega)
    refine ⟨w, v, cur, ?_, Put.none hr⟩
    obtain ⟨i0, hi, hz0, hz1, hz2⟩ := info_parts infoB
    have hl0 : ∀ a : Addr, (loadCells a 0).run Tryd.prog w = .ok #[] w := fun a => by simp [loadCells, loadCellsFrom]
    rcases hr.2.2 with ⟨rfl, rfl⟩ | ⟨g, rfl, _⟩
    · cases ao <;> simp [Builtin.append_, run_underlying Tryd.underlying22, sizeOf, typeInfo, hi, Builtin.lenOf, Builtin.firstCells, hl0]
    · have hle := hr.1
      cases ao <;> simp [Builtin.append_, run_underlying Tryd.underlying22, sizeOf, typeInfo, hi, Builtin.lenOf, Builtin.firstCells, hle, hl0, storeCells]
theorem wpList_append_sl (w : World) {ops : Array Oper} {rest : List Oper} {o : Oper} {a : Act} {Q : Exit → Act → World → Prop} (hgd : o.guard = none) (s x : Operand)
    (ho : o.op = .call { callee := .builtin .append, args := #[s, x], argTypes := #[22, 22] }) (B : Nat) (v : Value) (n : Nat) (cur : List Value) (hs : a.eval s = v) (hr : Rw B w v n cur) (hB : B ≤ w.heap.size) (u : Value) (l : List Int)
    (hx : a.eval x = u) (hu : Sl bc w u l) (hn : n + l.length ≤ 1000000)
    (h : ∀ w' v' cur', Put B w v n cur w' v' l.length cur' (bv l) → wpList Tryd.prog ops Q rest (a.put o.dst v') w') : wpList Tryd.prog ops Q (o :: rest) a w := by
  refine wpList_plain hgd fun K hK => ?_
  obtain ⟨w', v', cur', hrun, hp⟩ := run_append_sl w o.type B v n cur hr hB u l hu hn
  unfold Oper.wp
  simp [execOp, ho, resolve, invoke, builtin, hs, hx, hrun, Result.andThen]
  exact hK _ _ (h w' v' cur' hp)
theorem sl_new (w : World) (l : List Int) (hm : l.length ≤ maxLen) : Sl bc (w.alloc (.cells (bv l).toArray 5)) (.slice (some ⟨w.heap.size, 0, none⟩) l.length l.length) l := by
  have h := owns_new w (bv l) 5 (by rw [bv_eq]; simpa using hm)
  refine sl_of_owns (base := w.heap.size) (e := 5) ?_
  simpa [bv_eq] using h
theorem numL_max (n : Int) : (numL n).length ≤ maxLen := by have := numL_le n; unfold maxLen; omega
theorem intL_max (n : Int) : (intL n).length ≤ maxLen := by have := intL_le n; unfold maxLen; omega
theorem refNum_sl (n : Int) (w : World) (h0 : 0 ≤ n) : Calls Tryd.prog 14 #[.int .u64 n] w fun e w' => ∃ v, e = .returned v ∧ Sl bc w' v (numL (capN n)) ∧ Below w.heap.size w w' := by
  refine (refNum_any n w h0).mono ?_
  rintro e w' ⟨rfl, rfl⟩
  exact ⟨_, rfl, sl_new w _ (numL_max _), (Below.refl _ _).alloc (Nat.le_refl _) _⟩
theorem refInt_sl (n : Int) (w : World) (hn : n ≤ 9223372036854775807) : Calls Tryd.prog 15 #[.int .i64 n] w fun e w' => ∃ v, e = .returned v ∧ Sl bc w' v (intL n) ∧ Below w.heap.size w w' := by
  refine (refInt_any n w hn).mono ?_
  rintro e w' ⟨rfl, rfl⟩
  exact ⟨_, rfl, sl_new w _ (intL_max _), (Below.refl _ _).alloc (Nat.le_refl _) _⟩
/-- A flag as a byte. -/
def flB (is : Bool) : Int := if is then 1 else 0
theorem refFlag_sl (is : Bool) (w : World) : Calls Tryd.prog 16 #[.bool is] w fun e w' => ∃ v, e = .returned v ∧ Sl bc w' v [flB is] ∧ Below w.heap.size w w' := by
  refine (refFlag_any is w).mono ?_
  rintro e w' ⟨rfl, rfl⟩
  exact ⟨_, rfl, sl_new w _ (by simp [maxLen]), (Below.refl _ _).alloc (Nat.le_refl _) _⟩
theorem refText_sl (v : Value) (l : List Int) (w : World) (hv : Sl bc w v l) (hl : l.length ≤ 4000) : Calls Tryd.prog 17 #[v] w fun e w' => ∃ v, e = .returned v ∧ Sl bc w' v (intL l.length ++ l) ∧ Below w.heap.size w w' := by
  refine (refText_any v l w hv hl).mono ?_
  rintro e w' ⟨u, rfl, hown, hb⟩
  exact ⟨u, rfl, sl_of_owns (base := w.heap.size) (e := 5) (by simpa [bv_eq] using hown), hb⟩
theorem refRow_sl (v : Value) (l : List Int) (w : World) (hv : Sl ic w v l) (hl : l.length ≤ 4000) (hi64 : ∀ i (h : i < l.length), l[i] ≤ 9223372036854775807) : Calls Tryd.prog 19 #[v] w fun e w' => ∃ v, e = .returned v ∧ Sl bc w' v (intL l.length ++ rowL l) ∧ Below w.heap.size w w' := by
  refine (refRow_any v l w hv hl hi64).mono ?_
  rintro e w' ⟨u, rfl, hown, hb⟩
  exact ⟨u, rfl, sl_of_owns (base := w.heap.size) (e := 5) (by simpa [bv_eq] using hown), hb⟩
end Go.Proofs.YtfjkahclobnhiaaDoor
