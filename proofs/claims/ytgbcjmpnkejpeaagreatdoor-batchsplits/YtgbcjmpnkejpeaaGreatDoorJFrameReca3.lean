/-
  A RECORD THAT CAME IN, OPENED: its fields lie in its cells. No condition of its own.
  WHAT A READER READS NEXT (castellanlaw02.got), out of what its calls tell. Conditions: the bytes' cells hold them, they lie off the reader, no more than ten thousand.
  WHATEVER IS ASKED OF A READER: what it tells, one function 'askS' of the bytes, where nothing was wrong; nothing, where something was. Conditions: the bytes' cells hold them, they lie off the reader, no more than a hundred thousand.
-/
import Derived.Test.YtgbcjmpnkejpeaaGreatDoorJFramea3
import Derived.Test.YtgbcjmpnkejpeaaGreatDoorJRecMa2
import Derived.Test.YtgbcjmpnkejpeaaGreatDoorJWrowa3
namespace Go.Proofs.YtgbcjmpnkejpeaaGreatDoor
open Go.ChangeShapes Go.WideShapes Go.ChangeAt Go.RowKit Go.Joins
set_option maxRecDepth 100000

theorem array18 {α : Type} {cs : Array α} (h : cs.size = 18) : ∃ c0 c1 c2 c3 c4 c5 c6 c7 c8 c9 c10 c11 c12 c13 c14 c15 c16 c17, cs = #[c0, c1, c2, c3, c4, c5, c6, c7, c8, c9, c10, c11, c12, c13, c14, c15, c16, c17] := by
  obtain ⟨l⟩ := cs
  match l, h with
  | [c0, c1, c2, c3, c4, c5, c6, c7, c8, c9, c10, c11, c12, c13, c14, c15, c16, c17], _ => exact ⟨c0, c1, c2, c3, c4, c5, c6, c7, c8, c9, c10, c11, c12, c13, c14, c15, c16, c17, rfl⟩
theorem cellsRec : Tryz.prog.cellsOf 35 = 18 := by kernel_rfl
theorem cellsI : Tryz.prog.cellsOf 3 = 1 := by kernel_rfl
theorem cellsBo : Tryz.prog.cellsOf 4 = 1 := by kernel_rfl
theorem cellsS : Tryz.prog.cellsOf 9 = 1 := by kernel_rfl
theorem cellsR' : Tryz.prog.cellsOf 33 = 1 := by kernel_rfl
theorem str_form (s : ByteArray) : Value.string s = .string ⟨s.data.toList.toArray⟩ := by cases s; simp
section
variable {H : Type} {enc : TypeId × Value → H}
/-- A row of numbers that came in. -/
theorem open_rowi {W : World} {n : Nat} {u : Value} {x : DataW H × List MemPlace} (h : DataW.trod enc Tryz.prog W 0 (fun _ => true) true n 33 [u] = some x) : ∃ (l : List Int) (ao : Option Addr) (cap : Nat), u = .slice ao l.length cap ∧ Sli (fun b => b < W.heap.size) W (.slice ao l.length cap) l := by
  rcases open_ints Tryz.underlying33 Tryz.underlying3 (by kernel_rfl) h with ⟨hcs, rfl⟩ | ⟨a, len, cap, zs, hcs, _, hle, hmax, hall, rfl, hcell, hwf⟩
  · simp at hcs
    subst hcs
    exact ⟨[], none, 0, rfl, Sli.nil _ _ _ _⟩
  · simp at hcs
    subst hcs
    rw [if_pos rfl] at hall
    have hl : (zs.take len).length = len := by rw [List.length_take]; omega
    refine ⟨zs.take len, some a, cap, by rw [hl], ?_⟩
    by_cases h0 : len = 0
    · subst h0
      exact .inl ⟨some a, cap, by simp, by simp⟩
    · obtain ⟨b, off, rfl, hcc⟩ := ints_at hcell (by omega)
      have hsl : Sl ic W (.slice (some ⟨b, off, none⟩) (zs.take len).length cap) (zs.take len) := .inr ⟨b, off, cap, rfl, by omega, fun i hi => by
        rw [hl] at hi
        rw [hcc i (by omega), List.getElem_take]
        simp [List.getD, show i < zs.length by omega, ic]⟩
      exact hsl.li
/-- A record that came in. -/
theorem open_rec {W : World} {base : Nat} {v : Value} {d : DataW H} {p : List MemPlace} (hv : Value.okWide Tryz.prog W .any base 35 v) (h : DataW.Trod enc Tryz.prog W 0 (fun _ => true) true 35 v d p) : ∃ r : Rc, IsR (fun b => b < W.heap.size) W v r := by
  obtain ⟨cs, rfl, hsz⟩ := okWide_struct Tryz.underlying35 hv
  obtain ⟨c0, c1, c2, c3, c4, c5, c6, c7, c8, c9, c10, c11, c12, c13, c14, c15, c16, c17, rfl⟩ := array18 (hsz.trans cellsRec)
  obtain ⟨fuel, hf⟩ := h
  obtain ⟨xs, n, _, _, _, hlen, hfi⟩ := DataW.trod_struct Tryz.underlying35 hf
  have hlen' : xs.length = 18 := hlen
  have t0 : DataW.trod enc Tryz.prog W 0 (fun _ => true) true n 3 [c0] = some (xs[0]'(by omega)) := by
    have q := hfi 0 _ rfl
    rw [List.getElem?_eq_getElem (show 0 < xs.length by omega)] at q
    change DataW.trod enc Tryz.prog W 0 (fun _ => true) true n 3 (List.take (Tryz.prog.cellsOf 3) (List.drop 0 [c0, c1, c2, c3, c4, c5, c6, c7, c8, c9, c10, c11, c12, c13, c14, c15, c16, c17])) = _ at q
    rw [cellsI] at q
    exact q
  obtain ⟨k0, e0, _, _⟩ := DataW.trod_int (t := 3) Tryz.underlying3 t0
  simp only [List.cons.injEq, and_true] at e0
  subst e0
  have t1 : DataW.trod enc Tryz.prog W 0 (fun _ => true) true n 3 [c1] = some (xs[1]'(by omega)) := by
    have q := hfi 1 _ rfl
    rw [List.getElem?_eq_getElem (show 1 < xs.length by omega)] at q
    change DataW.trod enc Tryz.prog W 0 (fun _ => true) true n 3 (List.take (Tryz.prog.cellsOf 3) (List.drop 1 [.int .i64 k0, c1, c2, c3, c4, c5, c6, c7, c8, c9, c10, c11, c12, c13, c14, c15, c16, c17])) = _ at q
    rw [cellsI] at q
    exact q
  obtain ⟨k1, e1, _, _⟩ := DataW.trod_int (t := 3) Tryz.underlying3 t1
  simp only [List.cons.injEq, and_true] at e1
  subst e1
  have t2 : DataW.trod enc Tryz.prog W 0 (fun _ => true) true n 3 [c2] = some (xs[2]'(by omega)) := by
    have q := hfi 2 _ rfl
    rw [List.getElem?_eq_getElem (show 2 < xs.length by omega)] at q
    change DataW.trod enc Tryz.prog W 0 (fun _ => true) true n 3 (List.take (Tryz.prog.cellsOf 3) (List.drop 2 [.int .i64 k0, .int .i64 k1, c2, c3, c4, c5, c6, c7, c8, c9, c10, c11, c12, c13, c14, c15, c16, c17])) = _ at q
    rw [cellsI] at q
    exact q
  obtain ⟨k2, e2, _, _⟩ := DataW.trod_int (t := 3) Tryz.underlying3 t2
  simp only [List.cons.injEq, and_true] at e2
  subst e2
  have t3 : DataW.trod enc Tryz.prog W 0 (fun _ => true) true n 3 [c3] = some (xs[3]'(by omega)) := by
    have q := hfi 3 _ rfl
    rw [List.getElem?_eq_getElem (show 3 < xs.length by omega)] at q
    change DataW.trod enc Tryz.prog W 0 (fun _ => true) true n 3 (List.take (Tryz.prog.cellsOf 3) (List.drop 3 [.int .i64 k0, .int .i64 k1, .int .i64 k2, c3, c4, c5, c6, c7, c8, c9, c10, c11, c12, c13, c14, c15, c16, c17])) = _ at q
    rw [cellsI] at q
    exact q
  obtain ⟨k3, e3, _, _⟩ := DataW.trod_int (t := 3) Tryz.underlying3 t3
  simp only [List.cons.injEq, and_true] at e3
  subst e3
  have t4 : DataW.trod enc Tryz.prog W 0 (fun _ => true) true n 3 [c4] = some (xs[4]'(by omega)) := by
    have q := hfi 4 _ rfl
    rw [List.getElem?_eq_getElem (show 4 < xs.length by omega)] at q
    change DataW.trod enc Tryz.prog W 0 (fun _ => true) true n 3 (List.take (Tryz.prog.cellsOf 3) (List.drop 4 [.int .i64 k0, .int .i64 k1, .int .i64 k2, .int .i64 k3, c4, c5, c6, c7, c8, c9, c10, c11, c12, c13, c14, c15, c16, c17])) = _ at q
    rw [cellsI] at q
    exact q
  obtain ⟨k4, e4, _, _⟩ := DataW.trod_int (t := 3) Tryz.underlying3 t4
  simp only [List.cons.injEq, and_true] at e4
  subst e4
  have t5 : DataW.trod enc Tryz.prog W 0 (fun _ => true) true n 3 [c5] = some (xs[5]'(by omega)) := by
    have q := hfi 5 _ rfl
    rw [List.getElem?_eq_getElem (show 5 < xs.length by omega)] at q
    change DataW.trod enc Tryz.prog W 0 (fun _ => true) true n 3 (List.take (Tryz.prog.cellsOf 3) (List.drop 5 [.int .i64 k0, .int .i64 k1, .int .i64 k2, .int .i64 k3, .int .i64 k4, c5, c6, c7, c8, c9, c10, c11, c12, c13, c14, c15, c16, c17])) = _ at q
    rw [cellsI] at q
    exact q
  obtain ⟨k5, e5, _, _⟩ := DataW.trod_int (t := 3) Tryz.underlying3 t5
  simp only [List.cons.injEq, and_true] at e5
  subst e5
  have t6 : DataW.trod enc Tryz.prog W 0 (fun _ => true) true n 3 [c6] = some (xs[6]'(by omega)) := by
    have q := hfi 6 _ rfl
    rw [List.getElem?_eq_getElem (show 6 < xs.length by omega)] at q
    change DataW.trod enc Tryz.prog W 0 (fun _ => true) true n 3 (List.take (Tryz.prog.cellsOf 3) (List.drop 6 [.int .i64 k0, .int .i64 k1, .int .i64 k2, .int .i64 k3, .int .i64 k4, .int .i64 k5, c6, c7, c8, c9, c10, c11, c12, c13, c14, c15, c16, c17])) = _ at q
    rw [cellsI] at q
    exact q
  obtain ⟨k6, e6, _, _⟩ := DataW.trod_int (t := 3) Tryz.underlying3 t6
  simp only [List.cons.injEq, and_true] at e6
  subst e6
  have t7 : DataW.trod enc Tryz.prog W 0 (fun _ => true) true n 3 [c7] = some (xs[7]'(by omega)) := by
    have q := hfi 7 _ rfl
    rw [List.getElem?_eq_getElem (show 7 < xs.length by omega)] at q
    change DataW.trod enc Tryz.prog W 0 (fun _ => true) true n 3 (List.take (Tryz.prog.cellsOf 3) (List.drop 7 [.int .i64 k0, .int .i64 k1, .int .i64 k2, .int .i64 k3, .int .i64 k4, .int .i64 k5, .int .i64 k6, c7, c8, c9, c10, c11, c12, c13, c14, c15, c16, c17])) = _ at q
    rw [cellsI] at q
    exact q
  obtain ⟨k7, e7, _, _⟩ := DataW.trod_int (t := 3) Tryz.underlying3 t7
  simp only [List.cons.injEq, and_true] at e7
  subst e7
  have t8 : DataW.trod enc Tryz.prog W 0 (fun _ => true) true n 3 [c8] = some (xs[8]'(by omega)) := by
    have q := hfi 8 _ rfl
    rw [List.getElem?_eq_getElem (show 8 < xs.length by omega)] at q
    change DataW.trod enc Tryz.prog W 0 (fun _ => true) true n 3 (List.take (Tryz.prog.cellsOf 3) (List.drop 8 [.int .i64 k0, .int .i64 k1, .int .i64 k2, .int .i64 k3, .int .i64 k4, .int .i64 k5, .int .i64 k6, .int .i64 k7, c8, c9, c10, c11, c12, c13, c14, c15, c16, c17])) = _ at q
    rw [cellsI] at q
    exact q
  obtain ⟨k8, e8, _, _⟩ := DataW.trod_int (t := 3) Tryz.underlying3 t8
  simp only [List.cons.injEq, and_true] at e8
  subst e8
  have t9 : DataW.trod enc Tryz.prog W 0 (fun _ => true) true n 4 [c9] = some (xs[9]'(by omega)) := by
    have q := hfi 9 _ rfl
    rw [List.getElem?_eq_getElem (show 9 < xs.length by omega)] at q
    change DataW.trod enc Tryz.prog W 0 (fun _ => true) true n 4 (List.take (Tryz.prog.cellsOf 4) (List.drop 9 [.int .i64 k0, .int .i64 k1, .int .i64 k2, .int .i64 k3, .int .i64 k4, .int .i64 k5, .int .i64 k6, .int .i64 k7, .int .i64 k8, c9, c10, c11, c12, c13, c14, c15, c16, c17])) = _ at q
    rw [cellsBo] at q
    exact q
  obtain ⟨k9, e9, _⟩ := DataW.trod_bool (t := 4) Tryz.underlying4 t9
  simp only [List.cons.injEq, and_true] at e9
  subst e9
  have t10 : DataW.trod enc Tryz.prog W 0 (fun _ => true) true n 9 [c10] = some (xs[10]'(by omega)) := by
    have q := hfi 10 _ rfl
    rw [List.getElem?_eq_getElem (show 10 < xs.length by omega)] at q
    change DataW.trod enc Tryz.prog W 0 (fun _ => true) true n 9 (List.take (Tryz.prog.cellsOf 9) (List.drop 10 [.int .i64 k0, .int .i64 k1, .int .i64 k2, .int .i64 k3, .int .i64 k4, .int .i64 k5, .int .i64 k6, .int .i64 k7, .int .i64 k8, .bool k9, c10, c11, c12, c13, c14, c15, c16, c17])) = _ at q
    rw [cellsS] at q
    exact q
  obtain ⟨k10, e10, _, _⟩ := DataW.trod_string (t := 9) Tryz.underlying9 t10
  simp only [List.cons.injEq, and_true] at e10
  subst e10
  have t11 : DataW.trod enc Tryz.prog W 0 (fun _ => true) true n 9 [c11] = some (xs[11]'(by omega)) := by
    have q := hfi 11 _ rfl
    rw [List.getElem?_eq_getElem (show 11 < xs.length by omega)] at q
    change DataW.trod enc Tryz.prog W 0 (fun _ => true) true n 9 (List.take (Tryz.prog.cellsOf 9) (List.drop 11 [.int .i64 k0, .int .i64 k1, .int .i64 k2, .int .i64 k3, .int .i64 k4, .int .i64 k5, .int .i64 k6, .int .i64 k7, .int .i64 k8, .bool k9, .string k10, c11, c12, c13, c14, c15, c16, c17])) = _ at q
    rw [cellsS] at q
    exact q
  obtain ⟨k11, e11, _, _⟩ := DataW.trod_string (t := 9) Tryz.underlying9 t11
  simp only [List.cons.injEq, and_true] at e11
  subst e11
  have t12 : DataW.trod enc Tryz.prog W 0 (fun _ => true) true n 9 [c12] = some (xs[12]'(by omega)) := by
    have q := hfi 12 _ rfl
    rw [List.getElem?_eq_getElem (show 12 < xs.length by omega)] at q
    change DataW.trod enc Tryz.prog W 0 (fun _ => true) true n 9 (List.take (Tryz.prog.cellsOf 9) (List.drop 12 [.int .i64 k0, .int .i64 k1, .int .i64 k2, .int .i64 k3, .int .i64 k4, .int .i64 k5, .int .i64 k6, .int .i64 k7, .int .i64 k8, .bool k9, .string k10, .string k11, c12, c13, c14, c15, c16, c17])) = _ at q
    rw [cellsS] at q
    exact q
  obtain ⟨k12, e12, _, _⟩ := DataW.trod_string (t := 9) Tryz.underlying9 t12
  simp only [List.cons.injEq, and_true] at e12
  subst e12
  have t13 : DataW.trod enc Tryz.prog W 0 (fun _ => true) true n 9 [c13] = some (xs[13]'(by omega)) := by
    have q := hfi 13 _ rfl
    rw [List.getElem?_eq_getElem (show 13 < xs.length by omega)] at q
    change DataW.trod enc Tryz.prog W 0 (fun _ => true) true n 9 (List.take (Tryz.prog.cellsOf 9) (List.drop 13 [.int .i64 k0, .int .i64 k1, .int .i64 k2, .int .i64 k3, .int .i64 k4, .int .i64 k5, .int .i64 k6, .int .i64 k7, .int .i64 k8, .bool k9, .string k10, .string k11, .string k12, c13, c14, c15, c16, c17])) = _ at q
    rw [cellsS] at q
    exact q
  obtain ⟨k13, e13, _, _⟩ := DataW.trod_string (t := 9) Tryz.underlying9 t13
  simp only [List.cons.injEq, and_true] at e13
  subst e13
  have t14 : DataW.trod enc Tryz.prog W 0 (fun _ => true) true n 33 [c14] = some (xs[14]'(by omega)) := by
    have q := hfi 14 _ rfl
    rw [List.getElem?_eq_getElem (show 14 < xs.length by omega)] at q
    change DataW.trod enc Tryz.prog W 0 (fun _ => true) true n 33 (List.take (Tryz.prog.cellsOf 33) (List.drop 14 [.int .i64 k0, .int .i64 k1, .int .i64 k2, .int .i64 k3, .int .i64 k4, .int .i64 k5, .int .i64 k6, .int .i64 k7, .int .i64 k8, .bool k9, .string k10, .string k11, .string k12, .string k13, c14, c15, c16, c17])) = _ at q
    rw [cellsR'] at q
    exact q
  obtain ⟨k14, a14, d14, e14, s14⟩ := open_rowi t14
  subst e14
  have t15 : DataW.trod enc Tryz.prog W 0 (fun _ => true) true n 33 [c15] = some (xs[15]'(by omega)) := by
    have q := hfi 15 _ rfl
    rw [List.getElem?_eq_getElem (show 15 < xs.length by omega)] at q
    change DataW.trod enc Tryz.prog W 0 (fun _ => true) true n 33 (List.take (Tryz.prog.cellsOf 33) (List.drop 15 [.int .i64 k0, .int .i64 k1, .int .i64 k2, .int .i64 k3, .int .i64 k4, .int .i64 k5, .int .i64 k6, .int .i64 k7, .int .i64 k8, .bool k9, .string k10, .string k11, .string k12, .string k13, .slice a14 k14.length d14, c15, c16, c17])) = _ at q
    rw [cellsR'] at q
    exact q
  obtain ⟨k15, a15, d15, e15, s15⟩ := open_rowi t15
  subst e15
  have t16 : DataW.trod enc Tryz.prog W 0 (fun _ => true) true n 33 [c16] = some (xs[16]'(by omega)) := by
    have q := hfi 16 _ rfl
    rw [List.getElem?_eq_getElem (show 16 < xs.length by omega)] at q
    change DataW.trod enc Tryz.prog W 0 (fun _ => true) true n 33 (List.take (Tryz.prog.cellsOf 33) (List.drop 16 [.int .i64 k0, .int .i64 k1, .int .i64 k2, .int .i64 k3, .int .i64 k4, .int .i64 k5, .int .i64 k6, .int .i64 k7, .int .i64 k8, .bool k9, .string k10, .string k11, .string k12, .string k13, .slice a14 k14.length d14, .slice a15 k15.length d15, c16, c17])) = _ at q
    rw [cellsR'] at q
    exact q
  obtain ⟨k16, a16, d16, e16, s16⟩ := open_rowi t16
  subst e16
  have t17 : DataW.trod enc Tryz.prog W 0 (fun _ => true) true n 33 [c17] = some (xs[17]'(by omega)) := by
    have q := hfi 17 _ rfl
    rw [List.getElem?_eq_getElem (show 17 < xs.length by omega)] at q
    change DataW.trod enc Tryz.prog W 0 (fun _ => true) true n 33 (List.take (Tryz.prog.cellsOf 33) (List.drop 17 [.int .i64 k0, .int .i64 k1, .int .i64 k2, .int .i64 k3, .int .i64 k4, .int .i64 k5, .int .i64 k6, .int .i64 k7, .int .i64 k8, .bool k9, .string k10, .string k11, .string k12, .string k13, .slice a14 k14.length d14, .slice a15 k15.length d15, .slice a16 k16.length d16, c17])) = _ at q
    rw [cellsR'] at q
    exact q
  obtain ⟨k17, a17, d17, e17, s17⟩ := open_rowi t17
  subst e17
  refine ⟨⟨k0, k1, k2, k3, k4, k5, k6, k7, k8, k9, k10.data.toList, k11.data.toList, k12.data.toList, k13.data.toList, k14, k15, k16, k17⟩, a14, a15, a16, a17, d14, d15, d16, d17, ?_, ⟨s14, s15, s16, s17⟩⟩
  rw [str_form k10, str_form k11, str_form k12, str_form k13]
  rfl
end
theorem u16_of {n : Int} (h : (Lit.int .u16 n).wf = true) : 0 ≤ n ∧ n ≤ 65535 := by
  simp only [Lit.wf, Bool.and_eq_true, decide_eq_true_eq, show IntKind.u16.min = 0 by decide, show IntKind.u16.max = 65535 by decide] at h
  exact h
theorem u8_of {n : Int} (h : (Lit.int .u8 n).wf = true) : 0 ≤ n ∧ n ≤ 255 := by
  simp only [Lit.wf, Bool.and_eq_true, decide_eq_true_eq, show IntKind.u8.min = 0 by decide, show IntKind.u8.max = 255 by decide] at h
  exact h
end Go.Proofs.YtgbcjmpnkejpeaaGreatDoor
namespace Go.Proofs.YtgbcjmpnkejpeaaGreatDoor
open Go.RowKit

theorem Bx.setNew {p : Nat} {a b : World} (h : Bx p a b) {k : Nat} (i : Nat) (x : Value) (hk : a.heap.size ≤ k) : Bx p a (b.setCell ⟨k, i, none⟩ x) :=
  ⟨h.os, h.tape, h.output, Nat.le_trans h.size (by simp [World.setCell]), fun j hj hp => (Below.heap_setCell _ _ _ _ (fun e => by simp at e; omega)).trans (h.block j hj hp)⟩
theorem Rd.setNew {W : World} {p : Nat} {v : Value} {a : Int} {e : Value} (h : Rd W p v a e) {k : Nat} (i : Nat) (x : Value) (hk : ¬ k = p) : Rd (W.setCell ⟨k, i, none⟩ x) p v a e :=
  ⟨by rw [World.cell?_setCell_other _ _ _ _ (fun q => hk (congrArg Addr.block q))]; exact h.c0, by rw [World.cell?_setCell_other _ _ _ _ (fun q => hk (congrArg Addr.block q))]; exact h.c1, by rw [World.cell?_setCell_other _ _ _ _ (fun q => hk (congrArg Addr.block q))]; exact h.c2, fun i => by simp [h.fz i]⟩
theorem Slx.setNew {α : Type} {f : α → Value} {q : Nat} {W : World} {v : Value} {l : List α} (h : Slx q f W v l) (i : Nat) (x : Value) : Slx q f (W.setCell ⟨q, i, none⟩ x) v l := by
  rcases h with h | ⟨b, o, cap, h1, h2, hp, h3⟩
  · exact .inl h
  · refine .inr ⟨b, o, cap, h1, h2, hp, fun j hj => ?_⟩
    rw [World.cell?_setCell_other _ _ _ _ (fun q => hp (congrArg Addr.block q).symm)]
    exact h3 j hj
theorem Sl.off {α : Type} {f : α → Value} {q : Nat} {W : World} {v : Value} {l : List α} (h : Sl f W v l) (hq : ∀ i x, W.cell? ⟨q, i, none⟩ ≠ some (f x)) : Slx q f W v l := by
  rcases h with h | ⟨b, o, cap, h1, h2, h3⟩
  · exact .inl h
  · by_cases hb : b = q
    · subst hb
      by_cases hl : 0 < l.length
      · exact absurd (h3 0 hl) (hq _ _)
      · exact .inl ⟨_, _, List.length_eq_zero_iff.1 (by omega), by rw [h1, show l.length = 0 by omega]⟩
    · exact .inr ⟨b, o, cap, h1, h2, hb, h3⟩
/-- The four cells of what was read, as they begin. -/
structure Gz (W : World) (q : Nat) : Prop where
  c0 : W.cell? ⟨q, 0, none⟩ = some (.int .u64 0)
  c1 : W.cell? ⟨q, 1, none⟩ = some (.bool false)
  c2 : W.cell? ⟨q, 2, none⟩ = some (.slice none 0 0)
  c3 : W.cell? ⟨q, 3, none⟩ = some (.slice none 0 0)
  c4 : ∀ i, 4 ≤ i → W.cell? ⟨q, i, none⟩ = none
  fz : ∀ i, W.frozen? ⟨q, i, none⟩ = false
theorem Gz.bx {p q : Nat} {W W' : World} (h : Gz W q) (hb : Bx p W W') (hq : q < W.heap.size) (hp : q ≠ p) : Gz W' q :=
  ⟨(hb.cell hq hp).trans h.c0, (hb.cell hq hp).trans h.c1, (hb.cell hq hp).trans h.c2, (hb.cell hq hp).trans h.c3, fun i hi => (hb.cell hq hp).trans (h.c4 i hi), fun i => (hb.frozen hq hp).trans (h.fz i)⟩
theorem Gz.made (w : World) (o : Obj) : Gz ((w.alloc o).alloc (.cells #[.int .u64 0, .bool false, .slice none 0 0, .slice none 0 0] 139)) (w.heap.size + 1) :=
  ⟨by simp, by simp, by simp, by simp, fun i hi => by rw [World.cell?_alloc_at _ _ _ _ (by simp)]; simp; omega, fun i => World.frozen?_alloc_at _ _ _ _ (by simp)⟩
theorem Gz.nob {W : World} {q : Nat} (h : Gz W q) (f : Int → Value) (hf : ∀ x, f x ≠ .int .u64 0 ∧ f x ≠ .bool false ∧ f x ≠ .slice none 0 0) : ∀ i x, W.cell? ⟨q, i, none⟩ ≠ some (f x) := by
  intro i x e
  by_cases h4 : 4 ≤ i
  · rw [h.c4 i h4] at e; cases e
  · obtain ⟨h1, h2, h3⟩ := hf x
    have : i = 0 ∨ i = 1 ∨ i = 2 ∨ i = 3 := by omega
    rcases this with rfl | rfl | rfl | rfl
    · rw [h.c0] at e; exact h1 (Option.some.inj e).symm
    · rw [h.c1] at e; exact h2 (Option.some.inj e).symm
    · rw [h.c2] at e; exact h3 (Option.some.inj e).symm
    · rw [h.c3] at e; exact h3 (Option.some.inj e).symm
theorem bc_no (x : Int) : bc x ≠ .int .u64 0 ∧ bc x ≠ .bool false ∧ bc x ≠ .slice none 0 0 := ⟨by simp [bc], by simp [bc], by simp [bc]⟩
theorem ic_no (x : Int) : ic x ≠ .int .u64 0 ∧ ic x ≠ .bool false ∧ ic x ≠ .slice none 0 0 := ⟨by simp [ic], by simp [ic], by simp [ic]⟩
theorem new4 {u : World} {n : Nat} {x y z t x' y' z' t' : Value} (h0 : u.cell? ⟨n, 0, none⟩ = some x') (h1 : u.cell? ⟨n, 1, none⟩ = some y') (h2 : u.cell? ⟨n, 2, none⟩ = some z') (h3 : u.cell? ⟨n, 3, none⟩ = some t') :
    ((((u.setCell ⟨n, 0, none⟩ x).setCell ⟨n, 1, none⟩ y).setCell ⟨n, 2, none⟩ z).setCell ⟨n, 3, none⟩ t).cell? ⟨n, 0, none⟩ = some x ∧ ((((u.setCell ⟨n, 0, none⟩ x).setCell ⟨n, 1, none⟩ y).setCell ⟨n, 2, none⟩ z).setCell ⟨n, 3, none⟩ t).cell? ⟨n, 1, none⟩ = some y ∧
    ((((u.setCell ⟨n, 0, none⟩ x).setCell ⟨n, 1, none⟩ y).setCell ⟨n, 2, none⟩ z).setCell ⟨n, 3, none⟩ t).cell? ⟨n, 2, none⟩ = some z ∧ ((((u.setCell ⟨n, 0, none⟩ x).setCell ⟨n, 1, none⟩ y).setCell ⟨n, 2, none⟩ z).setCell ⟨n, 3, none⟩ t).cell? ⟨n, 3, none⟩ = some t := by
  refine ⟨?_, ?_, ?_, ?_⟩
  · iterate 3 rw [World.cell?_setCell_other _ _ _ _ (by simp)]
    exact World.cell?_setCell_same _ _ _ h0
  · iterate 2 rw [World.cell?_setCell_other _ _ _ _ (by simp)]
    refine World.cell?_setCell_same _ _ _ (u := y') ?_
    rw [World.cell?_setCell_other _ _ _ _ (by simp)]
    exact h1
  · rw [World.cell?_setCell_other _ _ _ _ (by simp)]
    refine World.cell?_setCell_same _ _ _ (u := z') ?_
    iterate 2 rw [World.cell?_setCell_other _ _ _ _ (by simp)]
    exact h2
  · refine World.cell?_setCell_same _ _ _ (u := t') ?_
    iterate 3 rw [World.cell?_setCell_other _ _ _ _ (by simp)]
    exact h3

end Go.Proofs.YtgbcjmpnkejpeaaGreatDoor
namespace Go.Proofs.YtgbcjmpnkejpeaaGreatDoor
open Go.RowKit

/-- What is told: a code, what was being done, where, where the reader is then, the number, flag, text, row. -/
structure Gt where
  c : Int
  op : ByteArray
  wh : Nat
  next : Nat
  n : Int
  f : Bool
  t : List Int
  r : List Int
def askS (l : List Int) (a : Nat) (K M E : Int) : Gt :=
  if K = 0 ∨ K = 1 then ⟨(numS (l.drop a) (abv' M)).1, ⟨#[110, 117, 109]⟩, a, a + (numS (l.drop a) (abv' M)).2.1, (numS (l.drop a) (abv' M)).2.2, false, [], []⟩
  else if K = 2 then ⟨(flagS (l.drop a)).1, ⟨#[102, 108, 97, 103]⟩, a, a + (flagS (l.drop a)).2.1, 0, (flagS (l.drop a)).2.2, [], []⟩
  else if K = 3 then ⟨(textS l a M).1, (textS l a M).2.1, a, (textS l a M).2.2.1, 0, false, (textS l a M).2.2.2, []⟩
  else ⟨(rowS l a M E).1, ⟨#[110, 117, 109]⟩, (rowS l a M E).2.1, (rowS l a M E).2.1, 0, false, [], rowR (rowS l a M E)⟩
theorem numS_next {r : List Int} {most : Int} (hb : Byt r) : (numS r most).2.1 ≤ r.length := by
  rcases hq : numS r most with ⟨c, k, x⟩
  by_cases hc : c = 0
  · subst hc
    obtain ⟨_, _, _, _, _, h⟩ := numS_once hb hq
    exact h
  · obtain ⟨rfl, rfl⟩ := numS_bad hq hc
    exact Nat.zero_le _
theorem Byt.drop {l : List Int} (h : Byt l) (a : Nat) : Byt (l.drop a) := fun x hx => h x (List.mem_of_mem_drop hx)
theorem rowI_next {l : List Int} {most : Int} (hb : Byt l) {a : Nat} (ha : a ≤ l.length) (j : Nat) : (rowI l most a j).2.1 ≤ l.length := by
  induction j with
  | zero => exact ha
  | succ j ih =>
    by_cases h : (rowI l most a j).1 = 0
    · rcases hq : numS (l.drop (rowI l most a j).2.1) most with ⟨c, k, x⟩
      by_cases hc : c = 0
      · subst hc
        rw [rowI_ok h hq]
        have := numS_next (most := most) (hb.drop (rowI l most a j).2.1)
        rw [hq, List.length_drop] at this
        show (rowI l most a j).2.1 + k ≤ l.length
        simp only at this
        omega
      · rw [rowI_bad h hq hc]
        exact ih
    · rw [rowI_stays h 1]
      exact ih
theorem askS_next (l : List Int) (a : Nat) (K M E : Int) (hb : Byt l) (ha : a ≤ l.length) : (askS l a K M E).next ≤ l.length := by
  have h1 := numS_next (most := abv' M) (hb.drop a)
  rw [List.length_drop] at h1
  unfold askS
  split
  · show a + _ ≤ _
    omega
  · split
    · show a + _ ≤ _
      unfold flagS
      split
      · show a + 0 ≤ _
        omega
      · rename_i x r hr
        have : (l.drop a).length = r.length + 1 := by rw [hr]; rfl
        rw [List.length_drop] at this
        split
        · show a + 0 ≤ _
          omega
        · show a + 1 ≤ _
          omega
    · split
      · show (textS l a M).2.2.1 ≤ _
        unfold textS
        have hr := numS_range (l.drop a) (abv' M) (hb.drop a)
        generalize numS (l.drop a) (abv' M) = q at *
        obtain ⟨c, k, x⟩ := q
        simp only at h1 hr ⊢
        split
        · split
          · exact ha
          · show a + k + x.toNat ≤ _
            omega
        · exact ha
      · show (rowS l a M E).2.1 ≤ _
        unfold rowS
        simp only
        split
        · exact rowI_next hb (by omega) _
        · exact ha
theorem rnum_keep (p : Nat) (v : Value) (a most : Int) (t : TypeId) (u : Value) (w : World) (hr : Rd w p v a (.iface t u)) :
    Calls Tryz.prog 91 #[.pointer (some ⟨p, 0, none⟩), .int .u64 most] w fun x w' => x = .returned (.int .u64 0) ∧ Rd w' p v a (.iface t u) ∧ Bx p w w' := by
  refine (rnum_err p v a most t u w hr).mono ?_
  rintro e w' ⟨rfl, rfl⟩
  exact ⟨rfl, hr, Bx.refl _ _⟩
theorem rint_keep (p : Nat) (v : Value) (a m : Int) (t : TypeId) (u : Value) (w : World) (hm : m ≤ 9223372036854775807) (hr : Rd w p v a (.iface t u)) :
    Calls Tryz.prog 46 #[.pointer (some ⟨p, 0, none⟩), .int .i64 m] w fun x w' => x = .returned (.int .i64 0) ∧ Rd w' p v a (.iface t u) ∧ Bx p w w' :=
  rint_of p m (abv' m) 0 w hm rfl ⟨by omega, by omega⟩ (hide (rnum_keep p v a (abv' m) t u w hr))
/-- A slice of things to be read. -/
def Sa (W : World) (v : Value) (l : List (Int × Int × Int)) : Prop :=
  (∃ ao cap, l = [] ∧ v = .slice ao 0 cap) ∨
  (∃ b o cap, v = .slice (some ⟨b, o, none⟩) l.length cap ∧ l.length ≤ cap ∧ ∀ i (h : i < l.length), W.cell? ⟨b, o + i * 3, none⟩ = some (.int .i64 l[i].1) ∧ W.cell? ⟨b, o + i * 3 + 1, none⟩ = some (.int .i64 l[i].2.1) ∧ W.cell? ⟨b, o + i * 3 + 2, none⟩ = some (.int .i64 l[i].2.2))
theorem Sa.below {w w' : World} {v : Value} {l : List (Int × Int × Int)} (h : Sa w v l) (hb : Below w.heap.size w w') : Sa w' v l := by
  rcases h with h | ⟨b, o, cap, h1, h2, h3⟩
  · exact .inl h
  · refine .inr ⟨b, o, cap, h1, h2, fun i hi => ?_⟩
    obtain ⟨a1, a2, a3⟩ := h3 i hi
    exact ⟨(hb.cell (p := ⟨b, o + i * 3, none⟩) (cell_block a1)).trans a1, (hb.cell (p := ⟨b, o + i * 3 + 1, none⟩) (cell_block a2)).trans a2, (hb.cell (p := ⟨b, o + i * 3 + 2, none⟩) (cell_block a3)).trans a3⟩
theorem Sa.get {W : World} {v : Value} {l : List (Int × Int × Int)} (h : Sa W v l) : ∃ ao cap, v = .slice ao l.length cap ∧ ∀ i (h : i < l.length), ∃ b o, ao = some ⟨b, o, none⟩ ∧ b < W.heap.size ∧ W.cell? ⟨b, o + i * 3, none⟩ = some (.int .i64 l[i].1) ∧ W.cell? ⟨b, o + i * 3 + 1, none⟩ = some (.int .i64 l[i].2.1) ∧ W.cell? ⟨b, o + i * 3 + 2, none⟩ = some (.int .i64 l[i].2.2) := by
  rcases h with ⟨ao, cap, rfl, rfl⟩ | ⟨b, o, cap, rfl, h2, h3⟩
  · exact ⟨ao, cap, rfl, fun i hi => by simp at hi⟩
  · exact ⟨_, cap, rfl, fun i hi => ⟨b, o, rfl, cell_block (h3 i hi).1, h3 i hi⟩⟩
end Go.Proofs.YtgbcjmpnkejpeaaGreatDoor
