/-
  A TEXT AND A ROW WRITTEN BEHIND BYTES (wire.Text, Row; slices.Grow). Conditions: the bytes are nil or a row of their own, and fewer than a million; what is written does not lie in that row.
-/
import Derived.Test.YthoeajiojdfgdaaDoorWputb
import Derived.Test.YthoeajiojdfgdaaDoorRefPut
import Derived.Lib.AppendZerosOnto
namespace Go.Proofs.YthoeajiojdfgdaaDoor
open Go.RowKit

theorem rw_form {B : Nat} {w : World} {v : Value} {m : Nat} {cur : List Value} (h : Rw B w v m cur) : ∃ ao, v = .slice ao m cur.length ∧ (ao = none → m = 0 ∧ cur = []) ∧ ∀ a, ao = some a → ∃ g, a = ⟨g, 0, none⟩ ∧ B ≤ g ∧ w.heap[g]? = some (.cells cur.toArray 5 (0, 0)) := by
  obtain ⟨r1, r2, r3⟩ := h
  rcases r3 with ⟨rfl, rfl⟩ | ⟨g, rfl, a2, a3⟩
  · have : m = 0 := by simpa using r1
    subst this
    exact ⟨none, rfl, fun _ => ⟨rfl, rfl⟩, fun a ha => by cases ha⟩
  · exact ⟨some ⟨g, 0, none⟩, rfl, (fun h => by cases h), fun a ha => ⟨g, by cases ha; rfl, a2, a3⟩⟩
set_option maxRecDepth 100000 in
set_option maxHeartbeats 8000000 in
theorem grow_room (ao : Option Addr) (m c k : Nat) (w : World) (hm : m ≤ c) (hc : c ≤ 9223372036854775807) (hk : k ≤ 900000) (hr : m + k ≤ c) :
    Calls Tryd.prog 52 #[.slice ao m c, .int .i64 (k : Int)] w fun e w' => e = .returned (.slice ao m c) ∧ w' = w := by
  have h1 : ¬ (k : Int) < 0 := by omega
  have h2 : wrap64 ((c : Int) - (m : Int)) = (c : Int) - (m : Int) := by unfold wrap64; omega
  have h3 : wrap64 ((k : Int) - ((c : Int) - (m : Int))) = (k : Int) - ((c : Int) - (m : Int)) := by unfold wrap64; omega
  have h4 : ¬ (k : Int) - ((c : Int) - (m : Int)) > 0 := by omega
  go_enter Tryd.func52, Tryd.ntmps52
  go_wp2
  go_ret
  exact ⟨rfl, rfl⟩
theorem wpList_append_run (w w' : World) {ops : Array Oper} {rest : List Oper} {o : Oper} {a : Act} {Q : Exit → Act → World → Prop} (hgd : o.guard = none) (s x : Operand)
    (ho : o.op = .call { callee := .builtin .append, args := #[s, x], argTypes := #[25, 3] }) (vs vx v' : Value) (hs : a.eval s = vs) (hx : a.eval x = vx)
    (hrun : ∀ ty, (Builtin.append_ #[25, 3] ty #[vs, vx]).run Tryd.prog w = .ok v' w') (h : wpList Tryd.prog ops Q rest (a.put o.dst v') w') : wpList Tryd.prog ops Q (o :: rest) a w := by
  refine wpList_plain hgd fun K hK => ?_
  unfold Oper.wp
  simp [execOp, ho, resolve, invoke, builtin, hs, hx, hrun, Result.andThen]
  exact hK _ _ h
set_option maxRecDepth 100000 in
set_option maxHeartbeats 8000000 in
theorem grow_more (ao : Option Addr) (m k : Nat) (cur : List Value) (w : World) (hm : m ≤ cur.length) (hk : m + k ≤ 900000) (hr : cur.length < m + k) (hnil : ao = none → cur = []) (hcs : ∀ a, ao = some a → ∀ j u, cur[j]? = some u → w.cell? (a.add j) = some u) :
    Calls Tryd.prog 52 #[.slice ao m cur.length, .int .i64 (k : Int)] w fun e w' => ∃ c2 : List Value, e = .returned (.slice (some ⟨w.heap.size, 0, none⟩) m c2.length) ∧ w' = (w.alloc (.cells c2.toArray 5)).drew ∧ m + k ≤ c2.length ∧ c2.length ≤ maxLen ∧ c2.take cur.length = cur := by
  obtain ⟨i0, hi, hz0, hz1, hz2⟩ := info_parts infoB
  have h1 : ¬ (k : Int) < 0 := by omega
  have h2 : wrap64 ((cur.length : Int) - (m : Int)) = (cur.length : Int) - (m : Int) := by unfold wrap64; omega
  have h3 : wrap64 ((k : Int) - ((cur.length : Int) - (m : Int))) = (k : Int) - ((cur.length : Int) - (m : Int)) := by unfold wrap64; omega
  have h4 : (k : Int) - ((cur.length : Int) - (m : Int)) > 0 := by omega
  have hold : (Builtin.firstCells i0.size cur.length (.slice ao cur.length cur.length)).run Tryd.prog w.drew = .ok cur.toArray w.drew := by
    cases ao with
    | none => rw [hnil rfl]; exact run_firstCells_none _ _ _ _ _
    | some a => exact run_firstCells_some _ _ _ _ _ _ _ (by rw [hz1]; omega) (fun j u hj => hcs a rfl j u hj)
  have hw : wrap64 ((cur.length : Int)) = cur.length := by unfold wrap64; omega
  have hck : cur.length + (m + k - cur.length) = m + k := by omega
  have hap : ∀ ty, (Builtin.append_ #[25, 3] ty #[.slice ao cur.length cur.length, .int .i64 ((k : Int) - ((cur.length : Int) - (m : Int)))]).run Tryd.prog w =
      .ok (.slice (some ⟨w.heap.size, 0, none⟩) (m + k) (grownCap w (m + k) cur.length 5)) (w.drew.alloc (.cells (cur.toArray ++ Builtin.zeroCells (Value.int .u8 0).cells (m + k - cur.length) ++ Builtin.zeroCells (Value.int .u8 0).cells (grownCap w (m + k) cur.length 5 - (m + k))) 5)) := fun ty => by
    have h := Lib.run_append_grow_zeros (P := Tryd.prog) w 25 3 ty 5 i0 (.int .u8 0) .i64 .i64 Tryd.underlying25 Tryd.underlying3 hi hz0 ao cur.length cur.length cur hold (m + k - cur.length) (by omega) (by omega) (by omega) (by omega) (by rw [hz2]; omega) (by rw [hck]; exact growslice_fits hr (by rw [hz2]; omega))
    rw [hck] at h
    rw [show (k : Int) - ((cur.length : Int) - (m : Int)) = ((m + k - cur.length : Nat) : Int) by omega]
    exact h
  have hGn : m + k ≤ grownCap w (m + k) cur.length 5 := grownCap_ge w _ _ _
  have hGm : grownCap w (m + k) cur.length 5 ≤ maxLen := grownCap_le_maxLen w _ _ _ (by unfold maxLen; omega)
  generalize grownCap w (m + k) cur.length 5 = G at *
  have hG63 : G ≤ 9223372036854775807 := by unfold maxLen at hGm; omega
  have HM := hide hGm
  clear hold hcs hck hGm
  have fin : ∀ zs : List Value, zs = (Builtin.zeroCells (Value.int .u8 0).cells (m + k - cur.length) ++ Builtin.zeroCells (Value.int .u8 0).cells (G - (m + k))).toList → (cur ++ zs).length = G ∧ (cur ++ zs).toArray = cur.toArray ++ Builtin.zeroCells (Value.int .u8 0).cells (m + k - cur.length) ++ Builtin.zeroCells (Value.int .u8 0).cells (G - (m + k)) := by
    rintro zs rfl
    refine ⟨?_, ?_⟩
    · have e1 : (Value.int .u8 0).cells.size = 1 := rfl
      simp only [List.length_append, Array.length_toList, Array.size_append, size_zeroCells, e1]
      omega
    · apply Array.ext'
      simp
  have FIN := hide (fin _ rfl)
  clear fin
  generalize (Builtin.zeroCells (Value.int .u8 0).cells (m + k - cur.length) ++ Builtin.zeroCells (Value.int .u8 0).cells (G - (m + k))).toList = ZS at *
  generalize cur.toArray ++ Builtin.zeroCells (Value.int .u8 0).cells (m + k - cur.length) ++ Builtin.zeroCells (Value.int .u8 0).cells (G - (m + k)) = CS at *
  have R : ∃ c2 : List Value, Ending.returned (.slice (some ⟨w.heap.size, 0, none⟩) m G) = .returned (.slice (some ⟨w.heap.size, 0, none⟩) m c2.length) ∧ (w.alloc (.cells CS 5)).drew = (w.alloc (.cells c2.toArray 5)).drew ∧ m + k ≤ c2.length ∧ c2.length ≤ maxLen ∧ c2.take cur.length = cur :=
    ⟨cur ++ ZS, by rw [FIN.out.1], by rw [FIN.out.2], by rw [FIN.out.1]; exact hGn, by rw [FIN.out.1]; exact HM.out, by simp⟩
  have HR := hide R
  have HAP := hide hap
  clear R FIN HM hap
  cases ao with
  | none =>
    obtain rfl := hnil rfl
    obtain rfl : m = 0 := by simpa using hm
    go_enter Tryd.func52, Tryd.ntmps52
    go_wp2_with (first | (at_builtin; refine wpList_append_run _ _ rfl _ _ rfl _ _ _ rfl rfl HAP.out ?_))
    go_ret
    simpa using HR.out
  | some a =>
    go_enter Tryd.func52, Tryd.ntmps52
    go_wp2_with (first | (at_builtin; refine wpList_append_run _ _ rfl _ _ rfl _ _ _ rfl rfl HAP.out ?_))
    go_ret
    simpa using HR.out
/-- Behind a Grow: a row of its own, with room. -/
theorem grow_any (B : Nat) (v : Value) (m k : Nat) (cur : List Value) (w : World) (hr : Rw B w v m cur) (hB : B ≤ w.heap.size) (hk0 : 0 < k) (hk : m + k ≤ 900000) :
    Calls Tryd.prog 52 #[v, .int .i64 (k : Int)] w fun e w' => ∃ (g : Nat) (c2 : List Value), e = .returned (.slice (some ⟨g, 0, none⟩) m c2.length) ∧ w'.heap[g]? = some (.cells c2.toArray 5 (0, 0)) ∧ B ≤ g ∧ (v.ownBlock = some g ∨ w.heap.size ≤ g) ∧ m + k ≤ c2.length ∧ c2.length ≤ maxLen ∧ c2.take m = cur.take m ∧ Below w.heap.size w w' := by
  obtain ⟨ao, rfl, hn, hs⟩ := rw_form hr
  obtain ⟨r1, r2, _⟩ := hr
  by_cases hf : m + k ≤ cur.length
  · cases ao with
    | none =>
      obtain ⟨_, rfl⟩ := hn rfl
      simp at hf
      omega
    | some a =>
      obtain ⟨g, rfl, hg, hh⟩ := hs a rfl
      refine (grow_room (some ⟨g, 0, none⟩) m cur.length k w r1 (by unfold maxLen at r2; omega) (by omega) hf).mono ?_
      rintro e w' ⟨rfl, rfl⟩
      exact ⟨g, cur, rfl, hh, hg, .inl rfl, hf, r2, rfl, Below.refl _ _⟩
  · refine (grow_more ao m k cur w r1 hk (by omega) (fun h => (hn h).2) ?_).mono ?_
    · intro a ha j u hj
      obtain ⟨g, rfl, _, hh⟩ := hs a ha
      rw [Addr.add_lit]
      simp only [World.cell?, hh, Nat.zero_add]
      simpa using hj
    · rintro e w' ⟨c2, rfl, rfl, h1, h2, h3⟩
      refine ⟨w.heap.size, c2, rfl, ?_, hB, .inr (Nat.le_refl _), h1, h2, ?_, ((Below.refl _ _).alloc (Nat.le_refl _) _).drew⟩
      · show (w.alloc (.cells c2.toArray 5)).heap[w.heap.size]? = _
        exact Array.getElem?_push_size
      · have := congrArg (List.take m) h3
        rw [List.take_take, Nat.min_eq_left r1] at this
        exact this
theorem size5 : (Tryd.prog.info? 5).map (·.size) = some 1 := by kernel_rfl
end Go.Proofs.YthoeajiojdfgdaaDoor
