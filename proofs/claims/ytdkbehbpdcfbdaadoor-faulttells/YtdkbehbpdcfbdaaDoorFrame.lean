/-
  THE FRAME OF THE FOUR LAWS' PROOFS: what the listed variable's condition gives a walk, a world that meets it, and a Chain that comes in, opened: its steps lie in its slice's cells. No condition of its own.
-/
import Derived.Test.YtdkbehbpdcfbdaaDoorCards
import Derived.Test.YtdkbehbpdcfbdaaDoorTie
import Derived.Test.YtdkbehbpdcfbdaaDoorWorks
import Derived.ProofKit
import Derived.OpenShut
import Derived.ShutString
import Derived.ChangeOld
import Derived.LaidHandle
import Derived.Lib.SmallJoins
import Derived.Deep.Slices
import Derived.Deep.DeepHandedRow
namespace Go.Proofs.YtdkbehbpdcfbdaaDoor
open Go.ChangeShapes Go.WideShapes Go.ChangeAt Go.RowKit Go.Joins
set_option maxRecDepth 100000

theorem own : ownKnob Tryd.prog.godebug = none := by kernel_rfl
theorem laidOut : laidOutB Tryd.prog = true := by kernel_rfl
theorem et : Tryd.prog.globalNamed "errors.errorType" = some 0 := by kernel_rfl
theorem oneRow : ((List.range 132).filter fun t => Tryd.prog.rowNamed t [101, 114, 114, 111, 114]) = [28] := by kernel_rfl
theorem typesSize : Tryd.prog.types.size = 132 := by kernel_rfl
theorem cells24 : Tryd.prog.cellsOf 24 = 2 := by kernel_rfl
theorem cells9 : Tryd.prog.cellsOf 9 = 1 := by kernel_rfl
theorem cells3 : Tryd.prog.cellsOf 3 = 1 := by kernel_rfl
theorem cells53 : Tryd.prog.cellsOf 53 = 2 := by kernel_rfl

/-- What the condition gives a walk: the variable's one cell. -/
theorem handle_of_laid {W : World} (h : laidMetH Tryd.prog [("errors.errorType", Rows.laid_errors_errorType)] W) : Hnd W := by
  have h' : laidMet Tryd.prog [] W ∧ handlesMet Tryd.prog [("errors.errorType", Rows.laid_errors_errorType)] W := h
  obtain ⟨name, u, ty, e1, e2, e3, e4, e5⟩ := h'.2 _ (List.mem_singleton.2 rfl)
  have en : name = [101, 114, 114, 111, 114] := (Option.some.inj e1).symm
  subst en
  have hu : some u = some 77 := e2.symm.trans (by kernel_rfl)
  obtain rfl := Option.some.inj hu
  have hm : ty ∈ (List.range 132).filter fun t => Tryd.prog.rowNamed t [101, 114, 114, 111, 114] := List.mem_filter.2 ⟨List.mem_range.2 (by rw [← typesSize]; exact e3), e4⟩
  rw [oneRow] at hm
  obtain rfl := List.mem_singleton.1 hm
  have hh : typeHandle Tryd.prog 28 = .pointer (some ⟨1, 28, none⟩) := by kernel_rfl
  rw [hh] at e5
  unfold Hnd
  simpa using World.var?_cell et e5 0

/-- A world with the variable's cell laid. -/
def layHnd (w : World) : World :=
  { w with heap := w.heap.modify 0 fun
      | .cells _ t frozen => .cells #[.iface 77 (.agg #[.pointer (some ⟨1, 28, none⟩)])] t frozen
      | o => o }
theorem laid_met (os : Os) (args : Array Value) : laidMetH Tryd.prog [("errors.errorType", Rows.laid_errors_errorType)] ((layHnd (World.holding Tryd.prog os ⟨#[], #[], []⟩)).forCall (fun _ _ => 0) ⟨#[], args, []⟩).memory :=
  laidMetH_of_parts (laidMet_nil _ _) (by kernel_rfl)

section
variable {H : Type} {enc : TypeId × Value → H}

/-- A step's two cells. -/
theorem open_step {W : World} {n : Nat} {a : Addr} {cs : List Value} {x : DataW H × List MemPlace} (hc : W.cells? 0 a (Tryd.prog.cellsOf 53) = some cs)
    (h : DataW.trod enc Tryd.prog W 0 (fun _ => true) true n 53 cs = some x) : ∃ s : ByteArray × Int, W.cell? (a.add 0) = some (.string s.1) ∧ W.cell? (a.add 1) = some (.int .i64 s.2) := by
  rw [cells53] at hc
  obtain ⟨_, hl, hcell⟩ := World.cells?_some hc
  obtain ⟨y0, y1, m, _, _, h0, h1⟩ := trod_struct2 Tryd.underlying53 h
  match cs, hl with
  | [c0, c1], _ =>
    obtain ⟨s, e0, _, _⟩ := DataW.trod_string (t := 9) Tryd.underlying9 h0
    obtain ⟨k, e1, _, _⟩ := DataW.trod_int (t := 3) Tryd.underlying3 h1
    have e0' : List.take (Tryd.prog.cellsOf 9) [c0, c1] = [.string s] := e0
    have e1' : List.take (Tryd.prog.cellsOf 3) [c1] = [.int .i64 k] := e1
    rw [cells9] at e0'
    rw [cells3] at e1'
    obtain rfl : c0 = .string s := List.head_eq_of_cons_eq e0'
    obtain rfl : c1 = .int .i64 k := List.head_eq_of_cons_eq e1'
    exact ⟨(s, k), hcell 0 (by decide), hcell 1 (by decide)⟩

/-- A Chain that came in, opened. -/
theorem open_chain {W : World} {base : Nat} {v : Value} {d : DataW H} {p : List MemPlace} (hv : Value.okWide Tryd.prog W .any base 24 v) (h : DataW.Trod enc Tryd.prog W 0 (fun _ => true) true 24 v d p) :
    ∃ (c : Value) (l : List (ByteArray × Int)) (k : Int), v = .agg #[c, .int .i64 k] ∧ Stp W c l := by
  obtain ⟨c0, c1, y0, y1, m, rfl, _, _, h0, h1⟩ := open_agg2 Tryd.underlying24 (by kernel_rfl) cells24 hv h
  obtain ⟨k, e1, _, _⟩ := DataW.trod_int (t := 3) Tryd.underlying3 h1
  simp at e1
  subst e1
  rcases Deep.open_slice (t := 22) Tryd.underlying22 h0 with ⟨e0, _⟩ | ⟨a, len, cap, q, n, D, Pl, e0, _, hlen, _, hq, _, hel⟩
  · simp at e0
    subst e0
    exact ⟨_, [], k, rfl, .inl ⟨_, _, rfl, rfl⟩⟩
  · simp at e0
    subst e0
    rw [if_pos rfl] at hq
    subst hq
    have hs : ∀ i, i < len → ∃ s : ByteArray × Int, W.cell? ((a.add (i * 2)).add 0) = some (.string s.1) ∧ W.cell? ((a.add (i * 2)).add 1) = some (.int .i64 s.2) := by
      intro i hi
      obtain ⟨cs', hc, ht⟩ := hel i (by omega)
      have := open_step hc ht
      rwa [cells53] at this
    obtain ⟨f, hf⟩ := Deep.choose_lt hs
    refine ⟨_, (List.range len).map f, k, rfl, ?_⟩
    by_cases h0 : len = 0
    · subst h0
      exact .inl ⟨_, _, rfl, rfl⟩
    · obtain ⟨b, o, sp⟩ := a
      have hsp : sp = none := by simpa [Addr.add] using World.cell?_spot (hf 0 (by omega)).1
      subst hsp
      refine .inr ⟨b, o, _, by rw [List.length_map, List.length_range], by rw [List.length_map, List.length_range]; exact hlen, fun i hi => ?_⟩
      have hi' : i < len := by simpa using hi
      have hfi := hf i hi'
      simp only [Addr.add_lit, Nat.add_zero] at hfi
      have e2 : ((List.range len).map f)[i] = f i := by simp
      rw [e2]
      exact hfi
end
end Go.Proofs.YtdkbehbpdcfbdaaDoor
