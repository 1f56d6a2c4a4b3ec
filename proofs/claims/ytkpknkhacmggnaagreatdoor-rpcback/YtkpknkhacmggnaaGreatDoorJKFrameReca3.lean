/-
  A RECORD THAT CAME IN, OPENED: its fields lie in its cells. No condition of its own.
  RECORDS IN A ROW, AND A BATCH, THAT CAME IN, OPENED: they lie in their cells. No condition of its own.
  ROWS OF BATCHES, AND A MESSAGE, THAT CAME IN, OPENED: they lie in their cells. No condition of its own.
-/
import Derived.Test.YtkpknkhacmggnaaGreatDoorJKFramea5
import Derived.Test.YtkpknkhacmggnaaGreatDoorJKWputba5
import Derived.Test.YtkpknkhacmggnaaGreatDoorJKBatMa3
import Derived.Deep.Strs
import Derived.Test.YtkpknkhacmggnaaGreatDoorJKRpcV
namespace Go.Proofs.YtkpknkhacmggnaaGreatDoor
open Go.ChangeShapes Go.WideShapes Go.ChangeAt Go.RowKit Go.Joins
set_option maxRecDepth 100000

theorem array18 {α : Type} {cs : Array α} (h : cs.size = 18) : ∃ c0 c1 c2 c3 c4 c5 c6 c7 c8 c9 c10 c11 c12 c13 c14 c15 c16 c17, cs = #[c0, c1, c2, c3, c4, c5, c6, c7, c8, c9, c10, c11, c12, c13, c14, c15, c16, c17] := by
  obtain ⟨l⟩ := cs
  match l, h with
  | [c0, c1, c2, c3, c4, c5, c6, c7, c8, c9, c10, c11, c12, c13, c14, c15, c16, c17], _ => exact ⟨c0, c1, c2, c3, c4, c5, c6, c7, c8, c9, c10, c11, c12, c13, c14, c15, c16, c17, rfl⟩
theorem cellsRec : Tryz.prog.cellsOf 58 = 18 := by kernel_rfl
theorem cellsI : Tryz.prog.cellsOf 3 = 1 := by kernel_rfl
theorem cellsBo : Tryz.prog.cellsOf 4 = 1 := by kernel_rfl
theorem cellsS : Tryz.prog.cellsOf 9 = 1 := by kernel_rfl
theorem cellsR' : Tryz.prog.cellsOf 56 = 1 := by kernel_rfl
theorem str_form (s : ByteArray) : Value.string s = .string ⟨s.data.toList.toArray⟩ := by cases s; simp
section
variable {H : Type} {enc : TypeId × Value → H}
/-- A row of numbers that came in. -/
theorem open_rowi {W : World} {n : Nat} {u : Value} {x : DataW H × List MemPlace} (h : DataW.trod enc Tryz.prog W 0 (fun _ => true) true n 56 [u] = some x) : ∃ (l : List Int) (ao : Option Addr) (cap : Nat), u = .slice ao l.length cap ∧ Sli (fun b => b < W.heap.size) W (.slice ao l.length cap) l := by
  rcases open_ints Tryz.underlying56 Tryz.underlying3 (by kernel_rfl) h with ⟨hcs, rfl⟩ | ⟨a, len, cap, zs, hcs, _, hle, hmax, hall, rfl, hcell, hwf⟩
  · simp at hcs
    subst hcs
    exact ⟨[], none, 0, rfl, Sli.nil _ _ _ _⟩
  · simp at hcs
    subst hcs
    rw [if_pos rfl] at hall
    have hl : (zs.take len).length = len := by rw [List.length_take]; omega
    refine ⟨zs.take len, some a, cap, by rw [hl], ?_⟩
    by_cases h0 : len = 0
    · subst h0
      exact .inl ⟨some a, cap, by simp, by simp⟩
    · obtain ⟨b, off, rfl, hcc⟩ := ints_at hcell (by omega)
      have hsl : Sl ic W (.slice (some ⟨b, off, none⟩) (zs.take len).length cap) (zs.take len) := .inr ⟨b, off, cap, rfl, by omega, fun i hi => by
        rw [hl] at hi
        rw [hcc i (by omega), List.getElem_take]
        simp [List.getD, show i < zs.length by omega, ic]⟩
      exact hsl.li
end
theorem u8_of {n : Int} (h : (Lit.int .u8 n).wf = true) : 0 ≤ n ∧ n ≤ 255 := by
  simp only [Lit.wf, Bool.and_eq_true, decide_eq_true_eq, show IntKind.u8.min = 0 by decide, show IntKind.u8.max = 255 by decide] at h
  exact h
end Go.Proofs.YtkpknkhacmggnaaGreatDoor
namespace Go.Proofs.YtkpknkhacmggnaaGreatDoor
open Go.ChangeShapes Go.WideShapes Go.ChangeAt Go.RowKit Go.Joins
set_option maxRecDepth 100000

theorem cellsBat : Tryz.prog.cellsOf 55 = 3 := by kernel_rfl
theorem cellsRs : Tryz.prog.cellsOf 53 = 1 := by kernel_rfl
section
variable {H : Type} {enc : TypeId × Value → H}
/-- A record's eighteen cells. -/
theorem open_cells {W : World} {fuel : Nat} {c0 c1 c2 c3 c4 c5 c6 c7 c8 c9 c10 c11 c12 c13 c14 c15 c16 c17 : Value} {x : DataW H × List MemPlace} (hf : DataW.trod enc Tryz.prog W 0 (fun _ => true) true fuel 58 [c0, c1, c2, c3, c4, c5, c6, c7, c8, c9, c10, c11, c12, c13, c14, c15, c16, c17] = some x) : ∃ p : Rp, [c0, c1, c2, c3, c4, c5, c6, c7, c8, c9, c10, c11, c12, c13, c14, c15, c16, c17] = cel p ∧ RwP (fun b => b < W.heap.size) W p := by
  obtain ⟨xs, n, _, _, _, hlen, hfi⟩ := DataW.trod_struct Tryz.underlying58 hf
  have hlen' : xs.length = 18 := hlen
  have t0 : DataW.trod enc Tryz.prog W 0 (fun _ => true) true n 3 [c0] = some (xs[0]'(by omega)) := by
    have q := hfi 0 _ rfl
    rw [List.getElem?_eq_getElem (show 0 < xs.length by omega)] at q
    change DataW.trod enc Tryz.prog W 0 (fun _ => true) true n 3 (List.take (Tryz.prog.cellsOf 3) (List.drop 0 [c0, c1, c2, c3, c4, c5, c6, c7, c8, c9, c10, c11, c12, c13, c14, c15, c16, c17])) = _ at q
    rw [cellsI] at q
    exact q
  obtain ⟨k0, e0, _, _⟩ := DataW.trod_int (t := 3) Tryz.underlying3 t0
  simp only [List.cons.injEq, and_true] at e0
  subst e0
  have t1 : DataW.trod enc Tryz.prog W 0 (fun _ => true) true n 3 [c1] = some (xs[1]'(by omega)) := by
    have q := hfi 1 _ rfl
    rw [List.getElem?_eq_getElem (show 1 < xs.length by omega)] at q
    change DataW.trod enc Tryz.prog W 0 (fun _ => true) true n 3 (List.take (Tryz.prog.cellsOf 3) (List.drop 1 [.int .i64 k0, c1, c2, c3, c4, c5, c6, c7, c8, c9, c10, c11, c12, c13, c14, c15, c16, c17])) = _ at q
    rw [cellsI] at q
    exact q
  obtain ⟨k1, e1, _, _⟩ := DataW.trod_int (t := 3) Tryz.underlying3 t1
  simp only [List.cons.injEq, and_true] at e1
  subst e1
  have t2 : DataW.trod enc Tryz.prog W 0 (fun _ => true) true n 3 [c2] = some (xs[2]'(by omega)) := by
    have q := hfi 2 _ rfl
    rw [List.getElem?_eq_getElem (show 2 < xs.length by omega)] at q
    change DataW.trod enc Tryz.prog W 0 (fun _ => true) true n 3 (List.take (Tryz.prog.cellsOf 3) (List.drop 2 [.int .i64 k0, .int .i64 k1, c2, c3, c4, c5, c6, c7, c8, c9, c10, c11, c12, c13, c14, c15, c16, c17])) = _ at q
    rw [cellsI] at q
    exact q
  obtain ⟨k2, e2, _, _⟩ := DataW.trod_int (t := 3) Tryz.underlying3 t2
  simp only [List.cons.injEq, and_true] at e2
  subst e2
  have t3 : DataW.trod enc Tryz.prog W 0 (fun _ => true) true n 3 [c3] = some (xs[3]'(by omega)) := by
    have q := hfi 3 _ rfl
    rw [List.getElem?_eq_getElem (show 3 < xs.length by omega)] at q
    change DataW.trod enc Tryz.prog W 0 (fun _ => true) true n 3 (List.take (Tryz.prog.cellsOf 3) (List.drop 3 [.int .i64 k0, .int .i64 k1, .int .i64 k2, c3, c4, c5, c6, c7, c8, c9, c10, c11, c12, c13, c14, c15, c16, c17])) = _ at q
    rw [cellsI] at q
    exact q
  obtain ⟨k3, e3, _, _⟩ := DataW.trod_int (t := 3) Tryz.underlying3 t3
  simp only [List.cons.injEq, and_true] at e3
  subst e3
  have t4 : DataW.trod enc Tryz.prog W 0 (fun _ => true) true n 3 [c4] = some (xs[4]'(by omega)) := by
    have q := hfi 4 _ rfl
    rw [List.getElem?_eq_getElem (show 4 < xs.length by omega)] at q
    change DataW.trod enc Tryz.prog W 0 (fun _ => true) true n 3 (List.take (Tryz.prog.cellsOf 3) (List.drop 4 [.int .i64 k0, .int .i64 k1, .int .i64 k2, .int .i64 k3, c4, c5, c6, c7, c8, c9, c10, c11, c12, c13, c14, c15, c16, c17])) = _ at q
    rw [cellsI] at q
    exact q
  obtain ⟨k4, e4, _, _⟩ := DataW.trod_int (t := 3) Tryz.underlying3 t4
  simp only [List.cons.injEq, and_true] at e4
  subst e4
  have t5 : DataW.trod enc Tryz.prog W 0 (fun _ => true) true n 3 [c5] = some (xs[5]'(by omega)) := by
    have q := hfi 5 _ rfl
    rw [List.getElem?_eq_getElem (show 5 < xs.length by omega)] at q
    change DataW.trod enc Tryz.prog W 0 (fun _ => true) true n 3 (List.take (Tryz.prog.cellsOf 3) (List.drop 5 [.int .i64 k0, .int .i64 k1, .int .i64 k2, .int .i64 k3, .int .i64 k4, c5, c6, c7, c8, c9, c10, c11, c12, c13, c14, c15, c16, c17])) = _ at q
    rw [cellsI] at q
    exact q
  obtain ⟨k5, e5, _, _⟩ := DataW.trod_int (t := 3) Tryz.underlying3 t5
  simp only [List.cons.injEq, and_true] at e5
  subst e5
  have t6 : DataW.trod enc Tryz.prog W 0 (fun _ => true) true n 3 [c6] = some (xs[6]'(by omega)) := by
    have q := hfi 6 _ rfl
    rw [List.getElem?_eq_getElem (show 6 < xs.length by omega)] at q
    change DataW.trod enc Tryz.prog W 0 (fun _ => true) true n 3 (List.take (Tryz.prog.cellsOf 3) (List.drop 6 [.int .i64 k0, .int .i64 k1, .int .i64 k2, .int .i64 k3, .int .i64 k4, .int .i64 k5, c6, c7, c8, c9, c10, c11, c12, c13, c14, c15, c16, c17])) = _ at q
    rw [cellsI] at q
    exact q
  obtain ⟨k6, e6, _, _⟩ := DataW.trod_int (t := 3) Tryz.underlying3 t6
  simp only [List.cons.injEq, and_true] at e6
  subst e6
  have t7 : DataW.trod enc Tryz.prog W 0 (fun _ => true) true n 3 [c7] = some (xs[7]'(by omega)) := by
    have q := hfi 7 _ rfl
    rw [List.getElem?_eq_getElem (show 7 < xs.length by omega)] at q
    change DataW.trod enc Tryz.prog W 0 (fun _ => true) true n 3 (List.take (Tryz.prog.cellsOf 3) (List.drop 7 [.int .i64 k0, .int .i64 k1, .int .i64 k2, .int .i64 k3, .int .i64 k4, .int .i64 k5, .int .i64 k6, c7, c8, c9, c10, c11, c12, c13, c14, c15, c16, c17])) = _ at q
    rw [cellsI] at q
    exact q
  obtain ⟨k7, e7, _, _⟩ := DataW.trod_int (t := 3) Tryz.underlying3 t7
  simp only [List.cons.injEq, and_true] at e7
  subst e7
  have t8 : DataW.trod enc Tryz.prog W 0 (fun _ => true) true n 3 [c8] = some (xs[8]'(by omega)) := by
    have q := hfi 8 _ rfl
    rw [List.getElem?_eq_getElem (show 8 < xs.length by omega)] at q
    change DataW.trod enc Tryz.prog W 0 (fun _ => true) true n 3 (List.take (Tryz.prog.cellsOf 3) (List.drop 8 [.int .i64 k0, .int .i64 k1, .int .i64 k2, .int .i64 k3, .int .i64 k4, .int .i64 k5, .int .i64 k6, .int .i64 k7, c8, c9, c10, c11, c12, c13, c14, c15, c16, c17])) = _ at q
    rw [cellsI] at q
    exact q
  obtain ⟨k8, e8, _, _⟩ := DataW.trod_int (t := 3) Tryz.underlying3 t8
  simp only [List.cons.injEq, and_true] at e8
  subst e8
  have t9 : DataW.trod enc Tryz.prog W 0 (fun _ => true) true n 4 [c9] = some (xs[9]'(by omega)) := by
    have q := hfi 9 _ rfl
    rw [List.getElem?_eq_getElem (show 9 < xs.length by omega)] at q
    change DataW.trod enc Tryz.prog W 0 (fun _ => true) true n 4 (List.take (Tryz.prog.cellsOf 4) (List.drop 9 [.int .i64 k0, .int .i64 k1, .int .i64 k2, .int .i64 k3, .int .i64 k4, .int .i64 k5, .int .i64 k6, .int .i64 k7, .int .i64 k8, c9, c10, c11, c12, c13, c14, c15, c16, c17])) = _ at q
    rw [cellsBo] at q
    exact q
  obtain ⟨k9, e9, _⟩ := DataW.trod_bool (t := 4) Tryz.underlying4 t9
  simp only [List.cons.injEq, and_true] at e9
  subst e9
  have t10 : DataW.trod enc Tryz.prog W 0 (fun _ => true) true n 9 [c10] = some (xs[10]'(by omega)) := by
    have q := hfi 10 _ rfl
    rw [List.getElem?_eq_getElem (show 10 < xs.length by omega)] at q
    change DataW.trod enc Tryz.prog W 0 (fun _ => true) true n 9 (List.take (Tryz.prog.cellsOf 9) (List.drop 10 [.int .i64 k0, .int .i64 k1, .int .i64 k2, .int .i64 k3, .int .i64 k4, .int .i64 k5, .int .i64 k6, .int .i64 k7, .int .i64 k8, .bool k9, c10, c11, c12, c13, c14, c15, c16, c17])) = _ at q
    rw [cellsS] at q
    exact q
  obtain ⟨k10, e10, _, _⟩ := DataW.trod_string (t := 9) Tryz.underlying9 t10
  simp only [List.cons.injEq, and_true] at e10
  subst e10
  have t11 : DataW.trod enc Tryz.prog W 0 (fun _ => true) true n 9 [c11] = some (xs[11]'(by omega)) := by
    have q := hfi 11 _ rfl
    rw [List.getElem?_eq_getElem (show 11 < xs.length by omega)] at q
    change DataW.trod enc Tryz.prog W 0 (fun _ => true) true n 9 (List.take (Tryz.prog.cellsOf 9) (List.drop 11 [.int .i64 k0, .int .i64 k1, .int .i64 k2, .int .i64 k3, .int .i64 k4, .int .i64 k5, .int .i64 k6, .int .i64 k7, .int .i64 k8, .bool k9, .string k10, c11, c12, c13, c14, c15, c16, c17])) = _ at q
    rw [cellsS] at q
    exact q
  obtain ⟨k11, e11, _, _⟩ := DataW.trod_string (t := 9) Tryz.underlying9 t11
  simp only [List.cons.injEq, and_true] at e11
  subst e11
  have t12 : DataW.trod enc Tryz.prog W 0 (fun _ => true) true n 9 [c12] = some (xs[12]'(by omega)) := by
    have q := hfi 12 _ rfl
    rw [List.getElem?_eq_getElem (show 12 < xs.length by omega)] at q
    change DataW.trod enc Tryz.prog W 0 (fun _ => true) true n 9 (List.take (Tryz.prog.cellsOf 9) (List.drop 12 [.int .i64 k0, .int .i64 k1, .int .i64 k2, .int .i64 k3, .int .i64 k4, .int .i64 k5, .int .i64 k6, .int .i64 k7, .int .i64 k8, .bool k9, .string k10, .string k11, c12, c13, c14, c15, c16, c17])) = _ at q
    rw [cellsS] at q
    exact q
  obtain ⟨k12, e12, _, _⟩ := DataW.trod_string (t := 9) Tryz.underlying9 t12
  simp only [List.cons.injEq, and_true] at e12
  subst e12
  have t13 : DataW.trod enc Tryz.prog W 0 (fun _ => true) true n 9 [c13] = some (xs[13]'(by omega)) := by
    have q := hfi 13 _ rfl
    rw [List.getElem?_eq_getElem (show 13 < xs.length by omega)] at q
    change DataW.trod enc Tryz.prog W 0 (fun _ => true) true n 9 (List.take (Tryz.prog.cellsOf 9) (List.drop 13 [.int .i64 k0, .int .i64 k1, .int .i64 k2, .int .i64 k3, .int .i64 k4, .int .i64 k5, .int .i64 k6, .int .i64 k7, .int .i64 k8, .bool k9, .string k10, .string k11, .string k12, c13, c14, c15, c16, c17])) = _ at q
    rw [cellsS] at q
    exact q
  obtain ⟨k13, e13, _, _⟩ := DataW.trod_string (t := 9) Tryz.underlying9 t13
  simp only [List.cons.injEq, and_true] at e13
  subst e13
  have t14 : DataW.trod enc Tryz.prog W 0 (fun _ => true) true n 56 [c14] = some (xs[14]'(by omega)) := by
    have q := hfi 14 _ rfl
    rw [List.getElem?_eq_getElem (show 14 < xs.length by omega)] at q
    change DataW.trod enc Tryz.prog W 0 (fun _ => true) true n 56 (List.take (Tryz.prog.cellsOf 56) (List.drop 14 [.int .i64 k0, .int .i64 k1, .int .i64 k2, .int .i64 k3, .int .i64 k4, .int .i64 k5, .int .i64 k6, .int .i64 k7, .int .i64 k8, .bool k9, .string k10, .string k11, .string k12, .string k13, c14, c15, c16, c17])) = _ at q
    rw [cellsR'] at q
    exact q
  obtain ⟨k14, a14, d14, e14, s14⟩ := open_rowi t14
  subst e14
  have t15 : DataW.trod enc Tryz.prog W 0 (fun _ => true) true n 56 [c15] = some (xs[15]'(by omega)) := by
    have q := hfi 15 _ rfl
    rw [List.getElem?_eq_getElem (show 15 < xs.length by omega)] at q
    change DataW.trod enc Tryz.prog W 0 (fun _ => true) true n 56 (List.take (Tryz.prog.cellsOf 56) (List.drop 15 [.int .i64 k0, .int .i64 k1, .int .i64 k2, .int .i64 k3, .int .i64 k4, .int .i64 k5, .int .i64 k6, .int .i64 k7, .int .i64 k8, .bool k9, .string k10, .string k11, .string k12, .string k13, .slice a14 k14.length d14, c15, c16, c17])) = _ at q
    rw [cellsR'] at q
    exact q
  obtain ⟨k15, a15, d15, e15, s15⟩ := open_rowi t15
  subst e15
  have t16 : DataW.trod enc Tryz.prog W 0 (fun _ => true) true n 56 [c16] = some (xs[16]'(by omega)) := by
    have q := hfi 16 _ rfl
    rw [List.getElem?_eq_getElem (show 16 < xs.length by omega)] at q
    change DataW.trod enc Tryz.prog W 0 (fun _ => true) true n 56 (List.take (Tryz.prog.cellsOf 56) (List.drop 16 [.int .i64 k0, .int .i64 k1, .int .i64 k2, .int .i64 k3, .int .i64 k4, .int .i64 k5, .int .i64 k6, .int .i64 k7, .int .i64 k8, .bool k9, .string k10, .string k11, .string k12, .string k13, .slice a14 k14.length d14, .slice a15 k15.length d15, c16, c17])) = _ at q
    rw [cellsR'] at q
    exact q
  obtain ⟨k16, a16, d16, e16, s16⟩ := open_rowi t16
  subst e16
  have t17 : DataW.trod enc Tryz.prog W 0 (fun _ => true) true n 56 [c17] = some (xs[17]'(by omega)) := by
    have q := hfi 17 _ rfl
    rw [List.getElem?_eq_getElem (show 17 < xs.length by omega)] at q
    change DataW.trod enc Tryz.prog W 0 (fun _ => true) true n 56 (List.take (Tryz.prog.cellsOf 56) (List.drop 17 [.int .i64 k0, .int .i64 k1, .int .i64 k2, .int .i64 k3, .int .i64 k4, .int .i64 k5, .int .i64 k6, .int .i64 k7, .int .i64 k8, .bool k9, .string k10, .string k11, .string k12, .string k13, .slice a14 k14.length d14, .slice a15 k15.length d15, .slice a16 k16.length d16, c17])) = _ at q
    rw [cellsR'] at q
    exact q
  obtain ⟨k17, a17, d17, e17, s17⟩ := open_rowi t17
  subst e17
  refine ⟨(⟨k0, k1, k2, k3, k4, k5, k6, k7, k8, k9, k10.data.toList, k11.data.toList, k12.data.toList, k13.data.toList, k14, k15, k16, k17⟩, ⟨a14, a15, a16, a17, d14, d15, d16, d17⟩), ?_, ⟨s14, s15, s16, s17⟩⟩
  rw [str_form k10, str_form k11, str_form k12, str_form k13]
  rfl
theorem open_rp {W : World} {n : Nat} {a : Addr} {cs : List Value} {x : DataW H × List MemPlace} (hc : W.cells? 0 a (Tryz.prog.cellsOf 58) = some cs)
    (h : DataW.trod enc Tryz.prog W 0 (fun _ => true) true n 58 cs = some x) : ∃ p : Rp, (∀ j u, (cel p)[j]? = some u → W.cell? (a.add j) = some u) ∧ RwP (fun b => b < W.heap.size) W p := by
  rw [cellsRec] at hc
  obtain ⟨_, hl, hcell⟩ := World.cells?_some hc
  obtain ⟨c0, c1, c2, c3, c4, c5, c6, c7, c8, c9, c10, c11, c12, c13, c14, c15, c16, c17, e⟩ := array18 (cs := cs.toArray) (by simpa using hl)
  have e' : cs = [c0, c1, c2, c3, c4, c5, c6, c7, c8, c9, c10, c11, c12, c13, c14, c15, c16, c17] := by simpa using congrArg Array.toList e
  rw [e'] at h
  obtain ⟨p, h1, h2⟩ := open_cells h
  rw [h1] at e'
  refine ⟨p, fun j u hj => ?_, h2⟩
  rw [← e'] at hj
  have hjl := (List.getElem?_eq_some_iff.1 hj)
  obtain ⟨hlt, hv⟩ := hjl
  rw [hcell j (by omega)]
  exact hj
/-- Records that came in, opened. -/
theorem open_rps {W : World} {fuel : Nat} {u : Value} {x : DataW H × List MemPlace} (hu : ∃ a0 len cap, u = .slice a0 len cap) (hf : DataW.trod enc Tryz.prog W 0 (fun _ => true) true fuel 53 [u] = some x) : ∃ ps : List Rp, Rl (fun _ => True) (fun b => b < W.heap.size) W u ps ∧ ps.length ≤ maxLen := by
  obtain ⟨a0, len, cap, rfl⟩ := hu
  rcases Deep.open_slice (t := 53) Tryz.underlying53 hf with ⟨e0, _⟩ | ⟨a, len', cap', q, n, D, Pl, e0, _, hlen, hcap, hq, hx, hel⟩
  · simp at e0
    obtain ⟨rfl, rfl, rfl⟩ := e0
    exact ⟨[], Rl.nil _ _ _ _ _, Nat.zero_le _⟩
  · simp at e0
    obtain ⟨rfl, rfl, rfl⟩ := e0
    rw [if_pos rfl] at hq
    subst hq
    have hs : ∀ i, i < len → ∃ p : Rp, (∀ j u, (cel p)[j]? = some u → W.cell? ((a.add (i * 18)).add j) = some u) ∧ RwP (fun b => b < W.heap.size) W p := by
      intro i hi
      obtain ⟨cs', hc, ht⟩ := hel i (by omega)
      have := open_rp hc ht
      rwa [cellsRec] at this
    haveI : Inhabited Rp := ⟨(Rc.zero, ⟨none, none, none, none, 0, 0, 0, 0⟩)⟩
    obtain ⟨f, hf⟩ := Deep.choose_lt hs
    have hl : ((List.range len).map f).length = len := by simp
    refine ⟨(List.range len).map f, ⟨?_, fun p hp => ?_⟩, by rw [hl]; omega⟩
    · by_cases h0 : len = 0
      · subst h0
        exact .inl ⟨_, _, rfl, rfl⟩
      · obtain ⟨b, o, sp⟩ := a
        have hsp : sp = none := by simpa [Addr.add] using World.cell?_spot ((hf 0 (by omega)).1 0 _ rfl)
        subst hsp
        refine .inr ⟨b, o, _, by rw [hl], by rw [hl]; exact hlen, trivial, by omega, fun j u hj => ?_⟩
        have hjl : j < ((List.range len).map f).length * 18 := by have := (List.getElem?_eq_some_iff.1 hj).1; rwa [rcs_len] at this
        rw [hl] at hjl
        have hi : j / 18 < len := by omega
        have hget : ((List.range len).map f)[j / 18]'(by rw [hl]; exact hi) = f (j / 18) := by simp
        have hm : j % 18 < 18 := by omega
        obtain ⟨u', hu'⟩ : ∃ u', (cel (f (j / 18)))[j % 18]? = some u' := ⟨_, List.getElem?_eq_getElem (by rw [cel_len]; exact hm)⟩
        have h2 := rcs_get ((List.range len).map f) (j / 18) (by rw [hl]; exact hi) (j % 18) u' (by rw [hget]; exact hu')
        rw [show j / 18 * 18 + j % 18 = j by omega, hj] at h2
        cases h2
        have h3 := (hf (j / 18) hi).1 (j % 18) u hu'
        rw [Addr.add_lit, Addr.add_lit, Nat.add_assoc, show j / 18 * 18 + j % 18 = j by omega] at h3
        exact h3
    · obtain ⟨i, hi, rfl⟩ := List.mem_map.1 hp
      exact (hf i (List.mem_range.1 hi)).2
end
theorem u32_of {n : Int} (h : (Lit.int .u32 n).wf = true) : 0 ≤ n ∧ n ≤ 4294967295 := by
  simp only [Lit.wf, Bool.and_eq_true, decide_eq_true_eq, show IntKind.u32.min = 0 by decide, show IntKind.u32.max = 4294967295 by decide] at h
  exact h
theorem i64_of {n : Int} (h : (Lit.int .i64 n).wf = true) : -9223372036854775808 ≤ n ∧ n ≤ 9223372036854775807 := by
  simp only [Lit.wf, Bool.and_eq_true, decide_eq_true_eq, show IntKind.i64.min = -9223372036854775808 by decide, show IntKind.i64.max = 9223372036854775807 by decide] at h
  exact h
end Go.Proofs.YtkpknkhacmggnaaGreatDoor
namespace Go.Proofs.YtkpknkhacmggnaaGreatDoor
open Go.ChangeShapes Go.WideShapes Go.ChangeAt Go.RowKit Go.Joins
set_option maxRecDepth 100000

theorem cellsRpc : Tryz.prog.cellsOf 25 = 15 := by kernel_rfl
theorem cellsBs : Tryz.prog.cellsOf 22 = 1 := by kernel_rfl
theorem cellsBy : Tryz.prog.cellsOf 23 = 1 := by kernel_rfl
theorem array15 {α : Type} {cs : Array α} (h : cs.size = 15) : ∃ c0 c1 c2 c3 c4 c5 c6 c7 c8 c9 c10 c11 c12 c13 c14, cs = #[c0, c1, c2, c3, c4, c5, c6, c7, c8, c9, c10, c11, c12, c13, c14] := by
  obtain ⟨l⟩ := cs
  rcases l with _ | ⟨c0, _ | ⟨c1, _ | ⟨c2, _ | ⟨c3, _ | ⟨c4, _ | ⟨c5, _ | ⟨c6, _ | ⟨c7, _ | ⟨c8, _ | ⟨c9, _ | ⟨c10, _ | ⟨c11, _ | ⟨c12, _ | ⟨c13, _ | ⟨c14, _ | ⟨c15, l⟩⟩⟩⟩⟩⟩⟩⟩⟩⟩⟩⟩⟩⟩⟩⟩ <;> simp at h
  exact ⟨c0, c1, c2, c3, c4, c5, c6, c7, c8, c9, c10, c11, c12, c13, c14, rfl⟩
section
variable {H : Type} {enc : TypeId × Value → H}
/-- Bytes that came in. -/
theorem open_byt {W : World} {n : Nat} {u : Value} {x : DataW H × List MemPlace} (h : DataW.trod enc Tryz.prog W 0 (fun _ => true) true n 23 [u] = some x) : ∃ l : List Int, Sl bc W u l ∧ Byt l := by
  rcases open_ints Tryz.underlying23 Tryz.underlying5 (by kernel_rfl) h with ⟨hcs, rfl⟩ | ⟨a, len, cap, zs, hcs, _, hle, hmax, hall, rfl, hcell, hwf⟩
  · simp at hcs
    subst hcs
    exact ⟨[], .inl ⟨_, _, rfl, rfl⟩, fun x hx => by simp at hx⟩
  · simp at hcs
    subst hcs
    rw [if_pos rfl] at hall
    have hl : (zs.take len).length = len := by rw [List.length_take]; omega
    refine ⟨zs.take len, ?_, fun x hx => u8_of (hwf x (List.mem_of_mem_take hx))⟩
    by_cases h0 : len = 0
    · subst h0
      exact .inl ⟨some a, cap, by simp, by simp⟩
    · obtain ⟨b, off, rfl, hcc⟩ := ints_at hcell (by omega)
      exact .inr ⟨b, off, cap, by rw [hl], by omega, fun i hi => by
        rw [hl] at hi
        rw [hcc i (by omega), List.getElem_take]
        simp [List.getD, show i < zs.length by omega, bc]⟩
/-- A batch's three cells. -/
theorem open_bq {W : World} {n : Nat} {a : Addr} {cs : List Value} {x : DataW H × List MemPlace} (hc : W.cells? 0 a (Tryz.prog.cellsOf 55) = some cs)
    (hf : DataW.trod enc Tryz.prog W 0 (fun _ => true) true n 55 cs = some x) : ∃ q : Bq, (∀ j u, (bce q)[j]? = some u → W.cell? (a.add j) = some u) ∧ Rl (fun _ => True) (fun _ => True) W q.u q.ps := by
  rw [cellsBat] at hc
  obtain ⟨_, hl, hcell⟩ := World.cells?_some hc
  obtain ⟨c0, c1, c2, rfl⟩ : ∃ c0 c1 c2, cs = [c0, c1, c2] := by
    rcases cs with _ | ⟨c0, _ | ⟨c1, _ | ⟨c2, _ | ⟨c3, l⟩⟩⟩⟩ <;> simp at hl
    exact ⟨c0, c1, c2, rfl⟩
  obtain ⟨y0, y1, y2, m, _, _, h0, h1, h2⟩ := Deep.trod_struct3 Tryz.underlying55 hf
  obtain ⟨k0, e0, _, _⟩ := DataW.trod_int (t := 3) Tryz.underlying3 h0
  obtain ⟨k1, e1, _, _⟩ := DataW.trod_int (t := 3) Tryz.underlying3 h1
  have e0' : List.take (Tryz.prog.cellsOf 3) [c0, c1, c2] = [.int .i64 k0] := e0
  have e1' : List.take (Tryz.prog.cellsOf 3) [c1, c2] = [.int .i64 k1] := e1
  have h2' : DataW.trod enc Tryz.prog W 0 (fun _ => true) true m 53 (List.take (Tryz.prog.cellsOf 53) [c2]) = some y2 := h2
  rw [cellsI] at e0' e1'
  rw [cellsRs] at h2'
  obtain rfl : c0 = .int .i64 k0 := List.head_eq_of_cons_eq e0'
  obtain rfl : c1 = .int .i64 k1 := List.head_eq_of_cons_eq e1'
  have hsl : ∃ a0 len cap, c2 = .slice a0 len cap := by
    rcases Deep.open_slice (t := 53) Tryz.underlying53 h2' with ⟨e, _⟩ | ⟨a, len', cap', q, n, D, Pl, e, _⟩
    · exact ⟨_, _, _, List.head_eq_of_cons_eq e⟩
    · exact ⟨_, _, _, List.head_eq_of_cons_eq e⟩
  obtain ⟨ps, hps, _⟩ := open_rps hsl h2'
  refine ⟨⟨k0, k1, c2, ps⟩, fun j u hj => ?_, hps.any⟩
  obtain ⟨hlt, hv⟩ := List.getElem?_eq_some_iff.1 hj
  rw [hcell j (by simpa [bce] using hlt)]
  exact hj
/-- Batches that came in. -/
theorem open_bqs {W : World} {fuel : Nat} {u : Value} {x : DataW H × List MemPlace} (hf : DataW.trod enc Tryz.prog W 0 (fun _ => true) true fuel 22 [u] = some x) : ∃ qs : List Bq, Bl W u qs := by
  rcases Deep.open_slice (t := 22) Tryz.underlying22 hf with ⟨e0, _⟩ | ⟨a, len, cap, q, n, D, Pl, e0, _, hlen, hcap, hq, hx, hel⟩
  · simp at e0
    subst e0
    exact ⟨[], .inl ⟨_, _, rfl, rfl⟩, fun q hq => by simp at hq⟩
  · simp at e0
    subst e0
    rw [if_pos rfl] at hq
    subst hq
    have hs : ∀ i, i < len → ∃ q : Bq, (∀ j u, (bce q)[j]? = some u → W.cell? ((a.add (i * 3)).add j) = some u) ∧ Rl (fun _ => True) (fun _ => True) W q.u q.ps := by
      intro i hi
      obtain ⟨cs', hc, ht⟩ := hel i (by omega)
      have := open_bq hc ht
      rwa [cellsBat] at this
    haveI : Inhabited Bq := ⟨⟨0, 0, .nilIface, []⟩⟩
    obtain ⟨f, hf⟩ := Deep.choose_lt hs
    have hl : ((List.range len).map f).length = len := by simp
    refine ⟨(List.range len).map f, ?_, fun p hp => ?_⟩
    · by_cases h0 : len = 0
      · subst h0
        exact .inl ⟨_, _, rfl, rfl⟩
      · obtain ⟨b, o, sp⟩ := a
        have hsp : sp = none := by simpa [Addr.add] using World.cell?_spot ((hf 0 (by omega)).1 0 _ rfl)
        subst hsp
        refine .inr ⟨b, o, _, by rw [hl], by rw [hl]; exact hlen, by omega, fun j u hj => ?_⟩
        have hjl : j < ((List.range len).map f).length * 3 := by have := (List.getElem?_eq_some_iff.1 hj).1; rwa [bcs_len] at this
        rw [hl] at hjl
        have hi : j / 3 < len := by omega
        have hget : ((List.range len).map f)[j / 3]'(by rw [hl]; exact hi) = f (j / 3) := by simp
        have hm : j % 3 < 3 := by omega
        obtain ⟨u', hu'⟩ : ∃ u', (bce (f (j / 3)))[j % 3]? = some u' := ⟨_, List.getElem?_eq_getElem (show j % 3 < 3 from hm)⟩
        have h2 := bcs_get ((List.range len).map f) (j / 3) (by rw [hl]; exact hi) (j % 3) u' (by rw [hget]; exact hu')
        rw [show j / 3 * 3 + j % 3 = j by omega, hj] at h2
        cases h2
        have h3 := (hf (j / 3) hi).1 (j % 3) u hu'
        rw [Addr.add_lit, Addr.add_lit, Nat.add_assoc, show j / 3 * 3 + j % 3 = j by omega] at h3
        exact h3
    · obtain ⟨i, hi, rfl⟩ := List.mem_map.1 hp
      exact (hf i (List.mem_range.1 hi)).2
/-- A message that came in. -/
theorem open_rpc {W : World} {base : Nat} {v : Value} {d : DataW H} {p : List MemPlace} (hv : Value.okWide Tryz.prog W .any base 25 v) (h : DataW.Trod enc Tryz.prog W 0 (fun _ => true) true 25 v d p) : ∃ m : Ms, IsM W v m ∧ Byt m.da := by
  obtain ⟨cs, rfl, hsz⟩ := okWide_struct Tryz.underlying25 hv
  obtain ⟨c0, c1, c2, c3, c4, c5, c6, c7, c8, c9, c10, c11, c12, c13, c14, rfl⟩ := array15 (hsz.trans cellsRpc)
  obtain ⟨fuel, hf⟩ := h
  obtain ⟨xs, n, _, _, _, hlen, hfi⟩ := DataW.trod_struct Tryz.underlying25 hf
  have hlen' : xs.length = 15 := hlen
  have t0 : DataW.trod enc Tryz.prog W 0 (fun _ => true) true n 3 [c0] = some (xs[0]'(by omega)) := by
    have q := hfi 0 _ rfl
    rw [List.getElem?_eq_getElem (show 0 < xs.length by omega)] at q
    change DataW.trod enc Tryz.prog W 0 (fun _ => true) true n 3 (List.take (Tryz.prog.cellsOf 3) (List.drop 0 [c0, c1, c2, c3, c4, c5, c6, c7, c8, c9, c10, c11, c12, c13, c14])) = _ at q
    rw [cellsI] at q
    exact q
  have t1 : DataW.trod enc Tryz.prog W 0 (fun _ => true) true n 3 [c1] = some (xs[1]'(by omega)) := by
    have q := hfi 1 _ rfl
    rw [List.getElem?_eq_getElem (show 1 < xs.length by omega)] at q
    change DataW.trod enc Tryz.prog W 0 (fun _ => true) true n 3 (List.take (Tryz.prog.cellsOf 3) (List.drop 1 [c0, c1, c2, c3, c4, c5, c6, c7, c8, c9, c10, c11, c12, c13, c14])) = _ at q
    rw [cellsI] at q
    exact q
  have t2 : DataW.trod enc Tryz.prog W 0 (fun _ => true) true n 3 [c2] = some (xs[2]'(by omega)) := by
    have q := hfi 2 _ rfl
    rw [List.getElem?_eq_getElem (show 2 < xs.length by omega)] at q
    change DataW.trod enc Tryz.prog W 0 (fun _ => true) true n 3 (List.take (Tryz.prog.cellsOf 3) (List.drop 2 [c0, c1, c2, c3, c4, c5, c6, c7, c8, c9, c10, c11, c12, c13, c14])) = _ at q
    rw [cellsI] at q
    exact q
  have t3 : DataW.trod enc Tryz.prog W 0 (fun _ => true) true n 3 [c3] = some (xs[3]'(by omega)) := by
    have q := hfi 3 _ rfl
    rw [List.getElem?_eq_getElem (show 3 < xs.length by omega)] at q
    change DataW.trod enc Tryz.prog W 0 (fun _ => true) true n 3 (List.take (Tryz.prog.cellsOf 3) (List.drop 3 [c0, c1, c2, c3, c4, c5, c6, c7, c8, c9, c10, c11, c12, c13, c14])) = _ at q
    rw [cellsI] at q
    exact q
  have t4 : DataW.trod enc Tryz.prog W 0 (fun _ => true) true n 4 [c4] = some (xs[4]'(by omega)) := by
    have q := hfi 4 _ rfl
    rw [List.getElem?_eq_getElem (show 4 < xs.length by omega)] at q
    change DataW.trod enc Tryz.prog W 0 (fun _ => true) true n 4 (List.take (Tryz.prog.cellsOf 4) (List.drop 4 [c0, c1, c2, c3, c4, c5, c6, c7, c8, c9, c10, c11, c12, c13, c14])) = _ at q
    rw [cellsBo] at q
    exact q
  have t5 : DataW.trod enc Tryz.prog W 0 (fun _ => true) true n 4 [c5] = some (xs[5]'(by omega)) := by
    have q := hfi 5 _ rfl
    rw [List.getElem?_eq_getElem (show 5 < xs.length by omega)] at q
    change DataW.trod enc Tryz.prog W 0 (fun _ => true) true n 4 (List.take (Tryz.prog.cellsOf 4) (List.drop 5 [c0, c1, c2, c3, c4, c5, c6, c7, c8, c9, c10, c11, c12, c13, c14])) = _ at q
    rw [cellsBo] at q
    exact q
  have t6 : DataW.trod enc Tryz.prog W 0 (fun _ => true) true n 3 [c6] = some (xs[6]'(by omega)) := by
    have q := hfi 6 _ rfl
    rw [List.getElem?_eq_getElem (show 6 < xs.length by omega)] at q
    change DataW.trod enc Tryz.prog W 0 (fun _ => true) true n 3 (List.take (Tryz.prog.cellsOf 3) (List.drop 6 [c0, c1, c2, c3, c4, c5, c6, c7, c8, c9, c10, c11, c12, c13, c14])) = _ at q
    rw [cellsI] at q
    exact q
  have t7 : DataW.trod enc Tryz.prog W 0 (fun _ => true) true n 3 [c7] = some (xs[7]'(by omega)) := by
    have q := hfi 7 _ rfl
    rw [List.getElem?_eq_getElem (show 7 < xs.length by omega)] at q
    change DataW.trod enc Tryz.prog W 0 (fun _ => true) true n 3 (List.take (Tryz.prog.cellsOf 3) (List.drop 7 [c0, c1, c2, c3, c4, c5, c6, c7, c8, c9, c10, c11, c12, c13, c14])) = _ at q
    rw [cellsI] at q
    exact q
  have t8 : DataW.trod enc Tryz.prog W 0 (fun _ => true) true n 3 [c8] = some (xs[8]'(by omega)) := by
    have q := hfi 8 _ rfl
    rw [List.getElem?_eq_getElem (show 8 < xs.length by omega)] at q
    change DataW.trod enc Tryz.prog W 0 (fun _ => true) true n 3 (List.take (Tryz.prog.cellsOf 3) (List.drop 8 [c0, c1, c2, c3, c4, c5, c6, c7, c8, c9, c10, c11, c12, c13, c14])) = _ at q
    rw [cellsI] at q
    exact q
  have t9 : DataW.trod enc Tryz.prog W 0 (fun _ => true) true n 3 [c9] = some (xs[9]'(by omega)) := by
    have q := hfi 9 _ rfl
    rw [List.getElem?_eq_getElem (show 9 < xs.length by omega)] at q
    change DataW.trod enc Tryz.prog W 0 (fun _ => true) true n 3 (List.take (Tryz.prog.cellsOf 3) (List.drop 9 [c0, c1, c2, c3, c4, c5, c6, c7, c8, c9, c10, c11, c12, c13, c14])) = _ at q
    rw [cellsI] at q
    exact q
  have t10 : DataW.trod enc Tryz.prog W 0 (fun _ => true) true n 3 [c10] = some (xs[10]'(by omega)) := by
    have q := hfi 10 _ rfl
    rw [List.getElem?_eq_getElem (show 10 < xs.length by omega)] at q
    change DataW.trod enc Tryz.prog W 0 (fun _ => true) true n 3 (List.take (Tryz.prog.cellsOf 3) (List.drop 10 [c0, c1, c2, c3, c4, c5, c6, c7, c8, c9, c10, c11, c12, c13, c14])) = _ at q
    rw [cellsI] at q
    exact q
  have t11 : DataW.trod enc Tryz.prog W 0 (fun _ => true) true n 22 [c11] = some (xs[11]'(by omega)) := by
    have q := hfi 11 _ rfl
    rw [List.getElem?_eq_getElem (show 11 < xs.length by omega)] at q
    change DataW.trod enc Tryz.prog W 0 (fun _ => true) true n 22 (List.take (Tryz.prog.cellsOf 22) (List.drop 11 [c0, c1, c2, c3, c4, c5, c6, c7, c8, c9, c10, c11, c12, c13, c14])) = _ at q
    rw [cellsBs] at q
    exact q
  have t12 : DataW.trod enc Tryz.prog W 0 (fun _ => true) true n 3 [c12] = some (xs[12]'(by omega)) := by
    have q := hfi 12 _ rfl
    rw [List.getElem?_eq_getElem (show 12 < xs.length by omega)] at q
    change DataW.trod enc Tryz.prog W 0 (fun _ => true) true n 3 (List.take (Tryz.prog.cellsOf 3) (List.drop 12 [c0, c1, c2, c3, c4, c5, c6, c7, c8, c9, c10, c11, c12, c13, c14])) = _ at q
    rw [cellsI] at q
    exact q
  have t13 : DataW.trod enc Tryz.prog W 0 (fun _ => true) true n 3 [c13] = some (xs[13]'(by omega)) := by
    have q := hfi 13 _ rfl
    rw [List.getElem?_eq_getElem (show 13 < xs.length by omega)] at q
    change DataW.trod enc Tryz.prog W 0 (fun _ => true) true n 3 (List.take (Tryz.prog.cellsOf 3) (List.drop 13 [c0, c1, c2, c3, c4, c5, c6, c7, c8, c9, c10, c11, c12, c13, c14])) = _ at q
    rw [cellsI] at q
    exact q
  have t14 : DataW.trod enc Tryz.prog W 0 (fun _ => true) true n 23 [c14] = some (xs[14]'(by omega)) := by
    have q := hfi 14 _ rfl
    rw [List.getElem?_eq_getElem (show 14 < xs.length by omega)] at q
    change DataW.trod enc Tryz.prog W 0 (fun _ => true) true n 23 (List.take (Tryz.prog.cellsOf 23) (List.drop 14 [c0, c1, c2, c3, c4, c5, c6, c7, c8, c9, c10, c11, c12, c13, c14])) = _ at q
    rw [cellsBy] at q
    exact q
  obtain ⟨k0, e0, _, _⟩ := DataW.trod_int (t := 3) Tryz.underlying3 t0
  simp only [List.cons.injEq, and_true] at e0
  subst e0
  obtain ⟨k1, e1, _, _⟩ := DataW.trod_int (t := 3) Tryz.underlying3 t1
  simp only [List.cons.injEq, and_true] at e1
  subst e1
  obtain ⟨k2, e2, _, _⟩ := DataW.trod_int (t := 3) Tryz.underlying3 t2
  simp only [List.cons.injEq, and_true] at e2
  subst e2
  obtain ⟨k3, e3, _, _⟩ := DataW.trod_int (t := 3) Tryz.underlying3 t3
  simp only [List.cons.injEq, and_true] at e3
  subst e3
  obtain ⟨k4, e4, _⟩ := DataW.trod_bool (t := 4) Tryz.underlying4 t4
  simp only [List.cons.injEq, and_true] at e4
  subst e4
  obtain ⟨k5, e5, _⟩ := DataW.trod_bool (t := 4) Tryz.underlying4 t5
  simp only [List.cons.injEq, and_true] at e5
  subst e5
  obtain ⟨k6, e6, _, _⟩ := DataW.trod_int (t := 3) Tryz.underlying3 t6
  simp only [List.cons.injEq, and_true] at e6
  subst e6
  obtain ⟨k7, e7, _, _⟩ := DataW.trod_int (t := 3) Tryz.underlying3 t7
  simp only [List.cons.injEq, and_true] at e7
  subst e7
  obtain ⟨k8, e8, _, _⟩ := DataW.trod_int (t := 3) Tryz.underlying3 t8
  simp only [List.cons.injEq, and_true] at e8
  subst e8
  obtain ⟨k9, e9, _, _⟩ := DataW.trod_int (t := 3) Tryz.underlying3 t9
  simp only [List.cons.injEq, and_true] at e9
  subst e9
  obtain ⟨k10, e10, _, _⟩ := DataW.trod_int (t := 3) Tryz.underlying3 t10
  simp only [List.cons.injEq, and_true] at e10
  subst e10
  obtain ⟨k12, e12, _, _⟩ := DataW.trod_int (t := 3) Tryz.underlying3 t12
  simp only [List.cons.injEq, and_true] at e12
  subst e12
  obtain ⟨k13, e13, _, _⟩ := DataW.trod_int (t := 3) Tryz.underlying3 t13
  simp only [List.cons.injEq, and_true] at e13
  subst e13
  obtain ⟨qs, hq⟩ := open_bqs t11
  obtain ⟨l, hl, hb⟩ := open_byt t14
  exact ⟨⟨k0, k1, k2, k3, k4, k5, k6, k7, k8, k9, k10, k12, k13, l, bts qs⟩, ⟨c11, c14, qs, rfl, ⟨hq, rfl, hl⟩⟩, hb⟩
end
end Go.Proofs.YtkpknkhacmggnaaGreatDoor
