/-
  FRAMES THAT CAME IN, OPENED: a frame, and a slice of frames: they lie in their cells; how long each body is, by the form's reach. No condition of its own.
-/
import Derived.Test.YtenahnbfaekljaaDoorFrame
import Derived.Test.YtenahnbfaekljaaDoorMQ
import Derived.SizedLaws
import Derived.Deep.Strs
namespace Go.Proofs.YtenahnbfaekljaaDoor
open Go.ChangeShapes Go.WideShapes Go.ChangeAt Go.RowKit Go.Joins
set_option maxRecDepth 100000

theorem bytes5 : Tryd.prog.bytesOf 5 = 1 := by kernel_rfl
theorem cells24 : Tryd.prog.cellsOf 24 = 2 := by kernel_rfl
theorem cells3' : Tryd.prog.cellsOf 3 = 1 := by kernel_rfl
theorem cells22' : Tryd.prog.cellsOf 22 = 1 := by kernel_rfl
section
variable {H : Type} {enc : TypeId × Value → H}
/-- A body, and how long it is. -/
theorem open_body {W : World} {n : Nat} {u : Value} {x : DataW H × List MemPlace} (h : DataW.trod enc Tryd.prog W 0 (fun _ => true) true n 22 [u] = some x) :
    ∃ l : List Int, Sl bc W u l ∧ Byt l ∧ ((∀ q ∈ x.1.weights Tryd.prog 22, q ≤ reachBytes) → l.length ≤ 1152921504606846976) := by
  rcases open_ints Tryd.underlying22 Tryd.underlying5 (by kernel_rfl) h with ⟨hcs, rfl⟩ | ⟨a, len, cap, zs, hcs, _, hle, hmax, hall, rfl, hcell, hwf⟩
  · simp at hcs
    subst hcs
    exact ⟨[], Sl.nil _ _ _ _, fun x hx => by simp at hx, fun _ => Nat.zero_le _⟩
  · simp at hcs
    subst hcs
    rw [if_pos rfl] at hall
    have hl : (zs.take len).length = len := by rw [List.length_take]; omega
    refine ⟨zs.take len, ?_, fun x hx => ?_, fun hw => ?_⟩
    · by_cases h0 : len = 0
      · subst h0
        exact .inl ⟨_, _, by simp, rfl⟩
      · obtain ⟨b, off, rfl, hcc⟩ := ints_at hcell (by omega)
        refine .inr ⟨b, off, cap, by rw [hl], by omega, fun i hi => ?_⟩
        rw [hl] at hi
        rw [hcc i (by omega), List.getElem_take]
        simp [List.getD, show i < zs.length by omega, bc]
    · have := hwf x (List.mem_of_mem_take hx)
      simp only [Lit.wf, Bool.and_eq_true, decide_eq_true_eq, show IntKind.u8.min = 0 by decide, show IntKind.u8.max = 255 by decide] at this
      exact this
    · have := hw (((lits .u8 (zs.take len) : List (DataW H)).length + (lits .u8 (zs.drop len) : List (DataW H)).length) * Tryd.prog.bytesOf 5) (by simp [DataW.weights, Tryd.underlying22])
      rw [bytes5] at this
      simp only [lits, List.length_map, List.length_take, List.length_drop, reachBytes] at this
      rw [hl]
      omega
/-- A frame that came in. -/
theorem open_frame {W : World} {base : Nat} {v : Value} {d : DataW H} {p : List MemPlace} (hv : Value.okWide Tryd.prog W .any base 24 v) (h : DataW.Trod enc Tryd.prog W 0 (fun _ => true) true 24 v d p) :
    ∃ (K : Int) (u : Value) (l : List Int), v = .agg #[.int .i64 K, u] ∧ Sl bc W u l ∧ Byt l ∧ ((∀ q ∈ d.weights Tryd.prog 24, q ≤ reachBytes) → l.length ≤ 1152921504606846976) := by
  obtain ⟨c0, c1, y0, y1, m, rfl, rfl, _, h0, h1⟩ := open_agg2 Tryd.underlying24 (by kernel_rfl) cells24 hv h
  obtain ⟨k, e0, _, _⟩ := DataW.trod_int (t := 3) Tryd.underlying3 h0
  simp at e0
  subst e0
  obtain ⟨l, hs, hb, hw⟩ := open_body h1
  refine ⟨k, c1, l, rfl, hs, hb, fun hq => hw (fun q hq' => hq q ?_)⟩
  have e : (DataW.agg [y0.1, y1.1]).weights Tryd.prog 24 = y0.1.weights Tryd.prog 3 ++ (y1.1.weights Tryd.prog 22 ++ []) := by
    simp [DataW.weights, Tryd.underlying24, DataW.weightsEach]
  rw [e]
  exact List.mem_append_right _ (List.mem_append_left _ hq')
end
end Go.Proofs.YtenahnbfaekljaaDoor
