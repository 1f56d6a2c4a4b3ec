/-
  A SLICE OF SPANS THAT CAME IN, OPENED: they lie in its cells, two each. No condition of its own.
-/
import Derived.Test.YtkihdceieljkgaaDoorSpV
import Derived.ProofKit
import Derived.OpenShut
import Derived.ChangeOld
import Derived.Lib.SmallJoins
import Derived.Deep.Slices
import Derived.Deep.DeepHandedRow
import Derived.Deep.Strs
import Derived.ChangeSame
namespace Go.Proofs.YtkihdceieljkgaaDoor
open Go.ChangeShapes Go.WideShapes Go.ChangeAt Go.RowKit Go.Joins
set_option maxRecDepth 100000

theorem cellsSp : Tryd.prog.cellsOf 43 = 2 := by kernel_rfl
theorem cellsInt : Tryd.prog.cellsOf 3 = 1 := by kernel_rfl
section
variable {H : Type} {enc : TypeId × Value → H}
theorem open_span {W : World} {n : Nat} {a : Addr} {cs : List Value} {x : DataW H × List MemPlace} (hc : W.cells? 0 a (Tryd.prog.cellsOf 43) = some cs)
    (h : DataW.trod enc Tryd.prog W 0 (fun _ => true) true n 43 cs = some x) : ∃ s : Spn, W.cell? (a.add 0) = some (.int .i64 s.1) ∧ W.cell? (a.add 1) = some (.int .i64 s.2) := by
  rw [cellsSp] at hc
  obtain ⟨_, hl, hcell⟩ := World.cells?_some hc
  obtain ⟨y0, y1, m, _, _, h0, h1⟩ := trod_struct2 Tryd.underlying43 h
  match cs, hl with
  | [c0, c1], _ =>
    obtain ⟨k0, e0, _, _⟩ := DataW.trod_int (t := 3) Tryd.underlying3 h0
    obtain ⟨k1, e1, _, _⟩ := DataW.trod_int (t := 3) Tryd.underlying3 h1
    have e0' : List.take (Tryd.prog.cellsOf 3) [c0, c1] = [.int .i64 k0] := e0
    have e1' : List.take (Tryd.prog.cellsOf 3) [c1] = [.int .i64 k1] := e1
    rw [cellsInt] at e0' e1'
    obtain rfl : c0 = .int .i64 k0 := List.head_eq_of_cons_eq e0'
    obtain rfl : c1 = .int .i64 k1 := List.head_eq_of_cons_eq e1'
    exact ⟨(k0, k1), hcell 0 (by decide), hcell 1 (by decide)⟩
/-- Spans that came in, opened. -/
theorem open_spans {W : World} {base : Nat} {v : Value} {d : DataW H} {p : List MemPlace} (hv : Value.okWide Tryd.prog W .any base 22 v) (h : DataW.Trod enc Tryd.prog W 0 (fun _ => true) true 22 v d p) :
    ∃ l : List Spn, Ssp W v l ∧ l.length ≤ maxLen := by
  obtain ⟨a0, len, cap, rfl⟩ := okWide_slice Tryd.underlying22 hv
  obtain ⟨fuel, hf⟩ := h
  rcases Deep.open_slice (t := 22) Tryd.underlying22 hf with ⟨e0, _⟩ | ⟨a, len', cap', q, n, D, Pl, e0, _, hlen, hcap, hq, _, hel⟩
  · simp [Value.cells] at e0
    obtain ⟨rfl, rfl, rfl⟩ := e0
    exact ⟨[], ssp_nil _ _ _, Nat.zero_le _⟩
  · simp [Value.cells] at e0
    obtain ⟨rfl, rfl, rfl⟩ := e0
    rw [if_pos rfl] at hq
    subst hq
    have hs : ∀ i, i < len → ∃ s : Spn, W.cell? ((a.add (i * 2)).add 0) = some (.int .i64 s.1) ∧ W.cell? ((a.add (i * 2)).add 1) = some (.int .i64 s.2) := by
      intro i hi
      obtain ⟨cs', hc, ht⟩ := hel i (by omega)
      have := open_span hc ht
      rwa [cellsSp] at this
    obtain ⟨f, hf⟩ := Deep.choose_lt hs
    refine ⟨(List.range len).map f, ⟨some a, _, by rw [List.length_map, List.length_range], by simpa using hlen, fun h0 => ?_⟩, by simp; omega⟩
    simp only [List.length_map, List.length_range] at h0
    obtain ⟨b, o, sp⟩ := a
    have hsp : sp = none := by simpa [Addr.add] using World.cell?_spot (hf 0 (by omega)).1
    subst hsp
    refine ⟨b, o, rfl, fun j u hu => ?_⟩
    have hjl : j < len * 2 := by
      have := (List.getElem?_eq_some_iff.1 hu).1
      rw [spcs_len, List.length_map, List.length_range] at this
      exact this
    have hi : j / 2 < len := by omega
    have hfi := hf (j / 2) hi
    simp only [Addr.add_lit, Nat.add_zero] at hfi
    have hg : ((List.range len).map f)[j / 2]'(by simpa using hi) = f (j / 2) := by simp
    rcases (show j % 2 = 0 ∨ j % 2 = 1 by omega) with e | e
    · have h2 := lm_getS spc 2 (fun _ => rfl) ((List.range len).map f) (j / 2) (by simpa using hi) 0 (.int .i64 (f (j / 2)).1) (by rw [hg]; rfl)
      rw [show j / 2 * 2 + 0 = j by omega] at h2
      rw [show spcs = fun l => l.flatMap spc from rfl] at hu
      rw [h2] at hu
      cases hu
      rw [show o + j = o + j / 2 * 2 by omega]
      exact hfi.1
    · have h2 := lm_getS spc 2 (fun _ => rfl) ((List.range len).map f) (j / 2) (by simpa using hi) 1 (.int .i64 (f (j / 2)).2) (by rw [hg]; rfl)
      rw [show j / 2 * 2 + 1 = j by omega] at h2
      rw [show spcs = fun l => l.flatMap spc from rfl] at hu
      rw [h2] at hu
      cases hu
      rw [show o + j = o + j / 2 * 2 + 1 by omega]
      exact hfi.2
end
end Go.Proofs.YtkihdceieljkgaaDoor
