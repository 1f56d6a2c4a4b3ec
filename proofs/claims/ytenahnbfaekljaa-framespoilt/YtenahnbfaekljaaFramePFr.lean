/-
  FRAMES THAT CAME IN, OPENED: a frame, and a slice of frames: they lie in their cells; how long each body is, by the form's reach. No condition of its own.
-/
import Derived.Test.YtenahnbfaekljaaFrameP
import Derived.Test.YtenahnbfaekljaaFrl
import Derived.SizedLaws
import Derived.Deep.Strs
namespace Go.Proofs.Ytenahnbfaekljaa
open Go.ChangeShapes Go.WideShapes Go.ChangeAt Go.RowKit Go.Joins
set_option maxRecDepth 100000

theorem bytes5 : Try.prog.bytesOf 5 = 1 := by kernel_rfl
theorem cells24 : Try.prog.cellsOf 40 = 2 := by kernel_rfl
theorem cells3' : Try.prog.cellsOf 3 = 1 := by kernel_rfl
theorem cells22' : Try.prog.cellsOf 26 = 1 := by kernel_rfl
section
variable {H : Type} {enc : TypeId × Value → H}
/-- A body, and how long it is. -/
theorem open_body {W : World} {n : Nat} {u : Value} {x : DataW H × List MemPlace} (h : DataW.trod enc Try.prog W 0 (fun _ => true) true n 26 [u] = some x) :
    ∃ l : List Int, Sl bc W u l ∧ Byt l ∧ ((∀ q ∈ x.1.weights Try.prog 26, q ≤ reachBytes) → l.length ≤ 1152921504606846976) := by
  rcases open_ints Try.underlying26 Try.underlying5 (by kernel_rfl) h with ⟨hcs, rfl⟩ | ⟨a, len, cap, zs, hcs, _, hle, hmax, hall, rfl, hcell, hwf⟩
  · simp at hcs
    subst hcs
    exact ⟨[], Sl.nil _ _ _ _, fun x hx => by simp at hx, fun _ => Nat.zero_le _⟩
  · simp at hcs
    subst hcs
    rw [if_pos rfl] at hall
    have hl : (zs.take len).length = len := by rw [List.length_take]; omega
    refine ⟨zs.take len, ?_, fun x hx => ?_, fun hw => ?_⟩
    · by_cases h0 : len = 0
      · subst h0
        exact .inl ⟨_, _, by simp, rfl⟩
      · obtain ⟨b, off, rfl, hcc⟩ := ints_at hcell (by omega)
        refine .inr ⟨b, off, cap, by rw [hl], by omega, fun i hi => ?_⟩
        rw [hl] at hi
        rw [hcc i (by omega), List.getElem_take]
        simp [List.getD, show i < zs.length by omega, bc]
    · have := hwf x (List.mem_of_mem_take hx)
      simp only [Lit.wf, Bool.and_eq_true, decide_eq_true_eq, show IntKind.u8.min = 0 by decide, show IntKind.u8.max = 255 by decide] at this
      exact this
    · have := hw (((lits .u8 (zs.take len) : List (DataW H)).length + (lits .u8 (zs.drop len) : List (DataW H)).length) * Try.prog.bytesOf 5) (by simp [DataW.weights, Try.underlying26])
      rw [bytes5] at this
      simp only [lits, List.length_map, List.length_take, List.length_drop, reachBytes] at this
      rw [hl]
      omega
/-- A frame that came in. -/
theorem open_frame {W : World} {base : Nat} {v : Value} {d : DataW H} {p : List MemPlace} (hv : Value.okWide Try.prog W .any base 40 v) (h : DataW.Trod enc Try.prog W 0 (fun _ => true) true 40 v d p) :
    ∃ (K : Int) (u : Value) (l : List Int), v = .agg #[.int .i64 K, u] ∧ Sl bc W u l ∧ Byt l ∧ ((∀ q ∈ d.weights Try.prog 40, q ≤ reachBytes) → l.length ≤ 1152921504606846976) := by
  obtain ⟨c0, c1, y0, y1, m, rfl, rfl, _, h0, h1⟩ := open_agg2 Try.underlying40 (by kernel_rfl) cells24 hv h
  obtain ⟨k, e0, _, _⟩ := DataW.trod_int (t := 3) Try.underlying3 h0
  simp at e0
  subst e0
  obtain ⟨l, hs, hb, hw⟩ := open_body h1
  refine ⟨k, c1, l, rfl, hs, hb, fun hq => hw (fun q hq' => hq q ?_)⟩
  have e : (DataW.agg [y0.1, y1.1]).weights Try.prog 40 = y0.1.weights Try.prog 3 ++ (y1.1.weights Try.prog 26 ++ []) := by
    simp [DataW.weights, Try.underlying40, DataW.weightsEach]
  rw [e]
  exact List.mem_append_right _ (List.mem_append_left _ hq')
theorem weights_all {e : TypeId} {d : DataW H} {q : Nat} : ∀ {l : List (DataW H)}, d ∈ l → q ∈ d.weights Try.prog e → q ∈ DataW.weightsAll Try.prog e l
  | x :: l, h, hq => by
    rw [DataW.weightsAll]
    rcases List.mem_cons.1 h with rfl | h
    · exact List.mem_append_left _ hq
    · exact List.mem_append_right _ (weights_all h hq)
  | [], h, _ => by simp at h
/-- A frame among others. -/
theorem open_fr {W : World} {n : Nat} {a : Addr} {cs : List Value} {x : DataW H × List MemPlace} (hc : W.cells? 0 a (Try.prog.cellsOf 40) = some cs)
    (h : DataW.trod enc Try.prog W 0 (fun _ => true) true n 40 cs = some x) : ∃ s : Int × List Int, (W.cell? (a.add 0) = some (.int .i64 s.1) ∧ ∃ u, W.cell? (a.add 1) = some u ∧ Sl bc W u s.2) ∧ Byt s.2 ∧ ((∀ q ∈ x.1.weights Try.prog 40, q ≤ reachBytes) → s.2.length ≤ 1152921504606846976) := by
  rw [cells24] at hc
  obtain ⟨_, hl, hcell⟩ := World.cells?_some hc
  obtain ⟨y0, y1, m, hx, _, h0, h1⟩ := trod_struct2 Try.underlying40 h
  match cs, hl with
  | [c0, c1], _ =>
    have h0' : DataW.trod enc Try.prog W 0 (fun _ => true) true m 3 (List.take (Try.prog.cellsOf 3) [c0, c1]) = some y0 := h0
    have h1' : DataW.trod enc Try.prog W 0 (fun _ => true) true m 26 (List.take (Try.prog.cellsOf 26) [c1]) = some y1 := h1
    rw [cells3'] at h0'
    rw [cells22'] at h1'
    obtain ⟨k0, e0, _, _⟩ := DataW.trod_int (t := 3) Try.underlying3 h0'
    obtain rfl : c0 = .int .i64 k0 := List.head_eq_of_cons_eq e0
    obtain ⟨l, hs, hb, hw⟩ := open_body (u := c1) h1'
    refine ⟨(k0, l), ⟨hcell 0 (by decide), c1, hcell 1 (by decide), hs⟩, hb, fun hq => hw (fun q hq' => hq q ?_)⟩
    rw [hx]
    have e : (DataW.agg [y0.1, y1.1]).weights Try.prog 40 = y0.1.weights Try.prog 3 ++ (y1.1.weights Try.prog 26 ++ []) := by
      simp [DataW.weights, Try.underlying40, DataW.weightsEach]
    simp only
    rw [e]
    exact List.mem_append_right _ (List.mem_append_left _ hq')
/-- Frames that came in, opened. -/
theorem open_frames {W : World} {base : Nat} {v : Value} {d : DataW H} {p : List MemPlace} (hv : Value.okWide Try.prog W .any base 22 v) (h : DataW.Trod enc Try.prog W 0 (fun _ => true) true 22 v d p) :
    ∃ l : List (Int × List Int), Fl W v l ∧ l.length ≤ maxLen ∧ (∀ f ∈ l, Byt f.2) ∧ ((∀ q ∈ d.weights Try.prog 22, q ≤ reachBytes) → ∀ f ∈ l, f.2.length ≤ 1152921504606846976) := by
  obtain ⟨a0, len, cap, rfl⟩ := okWide_slice Try.underlying22 hv
  obtain ⟨fuel, hf⟩ := h
  rcases Deep.open_slice (t := 22) Try.underlying22 hf with ⟨e0, _⟩ | ⟨a, len', cap', q, n, D, Pl, e0, _, hlen, hcap, hq, hx, hel⟩
  · simp [Value.cells] at e0
    obtain ⟨rfl, rfl, rfl⟩ := e0
    exact ⟨[], .inl ⟨_, _, rfl, rfl⟩, Nat.zero_le _, fun f hf => by simp at hf, fun _ f hf => by simp at hf⟩
  · simp [Value.cells] at e0
    obtain ⟨rfl, rfl, rfl⟩ := e0
    rw [if_pos rfl] at hq
    subst hq
    have hs : ∀ i, i < len → ∃ s : Int × List Int, (W.cell? ((a.add (i * 2)).add 0) = some (.int .i64 s.1) ∧ ∃ u, W.cell? ((a.add (i * 2)).add 1) = some u ∧ Sl bc W u s.2) ∧ Byt s.2 ∧ ((∀ q ∈ (D i).weights Try.prog 40, q ≤ reachBytes) → s.2.length ≤ 1152921504606846976) := by
      intro i hi
      obtain ⟨cs', hc, ht⟩ := hel i (by omega)
      have := open_fr hc ht
      rwa [cells24] at this
    obtain ⟨f, hf⟩ := Deep.choose_lt hs
    have hget : ∀ i (h : i < ((List.range len).map f).length), ((List.range len).map f)[i] = f i := fun i h => by simp
    have hmem : ∀ g ∈ (List.range len).map f, ∃ i, i < len ∧ g = f i := fun g hg => by
      obtain ⟨i, hi, rfl⟩ := List.mem_map.1 hg
      exact ⟨i, List.mem_range.1 hi, rfl⟩
    refine ⟨(List.range len).map f, ?_, by simp; omega, fun g hg => ?_, fun hw g hg => ?_⟩
    · by_cases h0 : len = 0
      · subst h0
        exact .inl ⟨_, _, rfl, rfl⟩
      · obtain ⟨b, o, sp⟩ := a
        have hsp : sp = none := by simpa [Addr.add] using World.cell?_spot (hf 0 (by omega)).1.1
        subst hsp
        refine .inr ⟨b, o, _, by rw [List.length_map, List.length_range], by rw [List.length_map, List.length_range]; exact hlen, fun i hi => ?_⟩
        have hi' : i < len := by simpa using hi
        have hfi := (hf i hi').1
        simp only [Addr.add_lit, Nat.add_zero] at hfi
        rw [hget i hi]
        exact hfi
    · obtain ⟨i, hi, rfl⟩ := hmem g hg
      exact (hf i hi).2.1
    · obtain ⟨i, hi, rfl⟩ := hmem g hg
      refine (hf i hi).2.2 (fun q hq => hw q ?_)
      have hd : d = (DataW.slice ((List.range len).map D) _ ) := (Prod.mk.inj hx).1
      rw [hd]
      simp only [DataW.weights, Try.underlying22]
      exact List.mem_cons_of_mem _ (List.mem_append_left _ (weights_all (List.mem_map.2 ⟨i, List.mem_range.2 hi, rfl⟩) hq))
end
end Go.Proofs.Ytenahnbfaekljaa
