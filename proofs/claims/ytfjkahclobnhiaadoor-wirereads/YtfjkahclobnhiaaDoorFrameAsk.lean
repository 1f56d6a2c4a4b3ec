/-
  A SLICE OF THINGS TO BE READ THAT CAME IN, OPENED: they lie in its cells, three each. No condition of its own.
-/
import Derived.Test.YtfjkahclobnhiaaDoorFrame
import Derived.Test.YtfjkahclobnhiaaDoorWask
import Derived.Deep.Strs
namespace Go.Proofs.YtfjkahclobnhiaaDoor
open Go.ChangeShapes Go.WideShapes Go.ChangeAt Go.RowKit Go.Joins
set_option maxRecDepth 100000

theorem cells48 : Tryd.prog.cellsOf 48 = 3 := by kernel_rfl
theorem cells3' : Tryd.prog.cellsOf 3 = 1 := by kernel_rfl
section
variable {H : Type} {enc : TypeId × Value → H}
theorem open_ask {W : World} {n : Nat} {a : Addr} {cs : List Value} {x : DataW H × List MemPlace} (hc : W.cells? 0 a (Tryd.prog.cellsOf 48) = some cs)
    (h : DataW.trod enc Tryd.prog W 0 (fun _ => true) true n 48 cs = some x) : ∃ s : Int × Int × Int, (W.cell? (a.add 0) = some (.int .i64 s.1) ∧ W.cell? (a.add 1) = some (.int .i64 s.2.1) ∧ W.cell? (a.add 2) = some (.int .i64 s.2.2)) ∧ (Lit.int .i64 s.2.1).wf = true ∧ (Lit.int .i64 s.2.2).wf = true := by
  rw [cells48] at hc
  obtain ⟨_, hl, hcell⟩ := World.cells?_some hc
  obtain ⟨y0, y1, y2, m, _, _, h0, h1, h2⟩ := Deep.trod_struct3 Tryd.underlying48 h
  match cs, hl with
  | [c0, c1, c2], _ =>
    obtain ⟨k0, e0, _, _⟩ := DataW.trod_int (t := 3) Tryd.underlying3 h0
    obtain ⟨k1, e1, _, f1⟩ := DataW.trod_int (t := 3) Tryd.underlying3 h1
    obtain ⟨k2, e2, _, f2⟩ := DataW.trod_int (t := 3) Tryd.underlying3 h2
    have e0' : List.take (Tryd.prog.cellsOf 3) [c0, c1, c2] = [.int .i64 k0] := e0
    have e1' : List.take (Tryd.prog.cellsOf 3) [c1, c2] = [.int .i64 k1] := e1
    have e2' : List.take (Tryd.prog.cellsOf 3) [c2] = [.int .i64 k2] := e2
    rw [cells3'] at e0' e1' e2'
    obtain rfl : c0 = .int .i64 k0 := List.head_eq_of_cons_eq e0'
    obtain rfl : c1 = .int .i64 k1 := List.head_eq_of_cons_eq e1'
    obtain rfl : c2 = .int .i64 k2 := List.head_eq_of_cons_eq e2'
    exact ⟨(k0, k1, k2), ⟨hcell 0 (by decide), hcell 1 (by decide), hcell 2 (by decide)⟩, f1, f2⟩
theorem i64_le {n : Int} (h : (Lit.int .i64 n).wf = true) : n ≤ 9223372036854775807 := by
  simp only [Lit.wf, Bool.and_eq_true, decide_eq_true_eq, show IntKind.i64.min = -9223372036854775808 by decide, show IntKind.i64.max = 9223372036854775807 by decide] at h
  exact h.2
/-- Things to be read that came in, opened. -/
theorem open_asks {W : World} {base : Nat} {v : Value} {d : DataW H} {p : List MemPlace} (hv : Value.okWide Tryd.prog W .any base 38 v) (h : DataW.Trod enc Tryd.prog W 0 (fun _ => true) true 38 v d p) :
    ∃ l : List (Int × Int × Int), Sa W v l ∧ l.length ≤ maxLen ∧ ∀ i (h : i < l.length), l[i].2.1 ≤ 9223372036854775807 ∧ l[i].2.2 ≤ 9223372036854775807 := by
  obtain ⟨a0, len, cap, rfl⟩ := okWide_slice Tryd.underlying38 hv
  obtain ⟨fuel, hf⟩ := h
  rcases Deep.open_slice (t := 38) Tryd.underlying38 hf with ⟨e0, _⟩ | ⟨a, len', cap', q, n, D, Pl, e0, _, hlen, hcap, hq, _, hel⟩
  · simp [Value.cells] at e0
    obtain ⟨rfl, rfl, rfl⟩ := e0
    exact ⟨[], .inl ⟨_, _, rfl, rfl⟩, Nat.zero_le _, fun i hi => by simp at hi⟩
  · simp [Value.cells] at e0
    obtain ⟨rfl, rfl, rfl⟩ := e0
    rw [if_pos rfl] at hq
    subst hq
    have hs : ∀ i, i < len → ∃ s : Int × Int × Int, (W.cell? ((a.add (i * 3)).add 0) = some (.int .i64 s.1) ∧ W.cell? ((a.add (i * 3)).add 1) = some (.int .i64 s.2.1) ∧ W.cell? ((a.add (i * 3)).add 2) = some (.int .i64 s.2.2)) ∧ (Lit.int .i64 s.2.1).wf = true ∧ (Lit.int .i64 s.2.2).wf = true := by
      intro i hi
      obtain ⟨cs', hc, ht⟩ := hel i (by omega)
      have := open_ask hc ht
      rwa [cells48] at this
    obtain ⟨f, hf⟩ := Deep.choose_lt hs
    refine ⟨(List.range len).map f, ?_, by simp; omega, fun i hi => ?_⟩
    · by_cases h0 : len = 0
      · subst h0
        exact .inl ⟨_, _, rfl, rfl⟩
      · obtain ⟨b, o, sp⟩ := a
        have hsp : sp = none := by simpa [Addr.add] using World.cell?_spot (hf 0 (by omega)).1.1
        subst hsp
        refine .inr ⟨b, o, _, by rw [List.length_map, List.length_range], by rw [List.length_map, List.length_range]; exact hlen, fun i hi => ?_⟩
        have hi' : i < len := by simpa using hi
        have hfi := (hf i hi').1
        simp only [Addr.add_lit, Nat.add_zero] at hfi
        have e2 : ((List.range len).map f)[i] = f i := by simp
        rw [e2]
        exact hfi
    · have hi' : i < len := by simpa using hi
      have e2 : ((List.range len).map f)[i] = f i := by simp
      rw [e2]
      exact ⟨i64_le (hf i hi').2.1, i64_le (hf i hi').2.2⟩
end
end Go.Proofs.YtfjkahclobnhiaaDoor
