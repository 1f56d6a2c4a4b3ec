/-
  ACTS IN A ROW THAT CAME IN, OPENED: they lie in their cells, four each. No condition of its own.
-/
import Derived.Test.YtiedbchlgcgdeaaFrameP
import Derived.Test.YtiedbchlgcgdeaaBlkQ
import Derived.SizedLaws
import Derived.Deep.Strs
namespace Go.Proofs.Ytiedbchlgcgdeaa
open Go.ChangeShapes Go.WideShapes Go.ChangeAt Go.RowKit Go.Joins
set_option maxRecDepth 100000

/-- An act: its kind, its bytes, what is kept, and how much of the last one. -/
structure Ao where
  kd : Int
  by_ : List Int
  ks : List Int
  cut : Int
/-- Where its rows lie. -/
abbrev Aq := Ao × Value × Value
def aol (p : Aq) : List Value := [.int .i64 p.1.kd, p.2.1, p.2.2, .int .i64 p.1.cut]
def aos (ps : List Aq) : List Value := ps.flatMap aol
def AoP (W : World) (p : Aq) : Prop := Sl bc W p.2.1 p.1.by_ ∧ Byt p.1.by_ ∧ Sl ic W p.2.2 p.1.ks
theorem AoP.below {W W' : World} {p : Aq} (h : AoP W p) (hb : Below W.heap.size W W') : AoP W' p := ⟨h.1.below hb, h.2.1, h.2.2.below hb⟩
/-- The slice v holds these acts. -/
def Ax (W : World) (v : Value) (ps : List Aq) : Prop := (∃ ao cap, v = .slice ao ps.length cap ∧ (0 < ps.length → ∃ b o, ao = some ⟨b, o, none⟩ ∧ W.rangeAt b o (aos ps))) ∧ ∀ p ∈ ps, AoP W p
theorem aos_len (ps : List Aq) : (aos ps).length = ps.length * 4 := by
  induction ps with
  | nil => rfl
  | cons p r ih => simp only [aos, List.flatMap_cons, List.length_append, List.length_cons] at ih ⊢; rw [ih]; simp only [aol, List.length_cons, List.length_nil]; omega
theorem aos_get : ∀ (ps : List Aq) (i : Nat) (h : i < ps.length) (j : Nat) (u : Value), (aol ps[i])[j]? = some u → (aos ps)[i * 4 + j]? = some u
  | [], i, h, _, _, _ => by simp at h
  | p :: ps, 0, _, j, u, hj => by
    have hl : j < (aol p).length := (List.getElem?_eq_some_iff.1 hj).1
    show (aol p ++ aos ps)[0 * 4 + j]? = _
    rw [Nat.zero_mul, Nat.zero_add, List.getElem?_append_left hl]
    exact hj
  | p :: ps, i + 1, h, j, u, hj => by
    show (aol p ++ aos ps)[(i + 1) * 4 + j]? = _
    rw [List.getElem?_append_right (by simp only [aol, List.length_cons, List.length_nil]; omega), show (i + 1) * 4 + j - (aol p).length = i * 4 + j by simp only [aol, List.length_cons, List.length_nil]; omega]
    exact aos_get ps i (by simpa using h) j u hj
theorem Ax.at {W : World} {b o : Nat} {ps : List Aq} (h : W.rangeAt b o (aos ps)) {i : Nat} (hi : i < ps.length) : W.rangeAt b (o + i * 4) (aol ps[i]) := fun j u hu => by
  rw [Nat.add_assoc]
  exact h _ u (aos_get ps i hi j u hu)
theorem Ax.below {W W' : World} {v : Value} {ps : List Aq} (h : Ax W v ps) (hb : Below W.heap.size W W') : Ax W' v ps := by
  obtain ⟨⟨ao, cap, e, hr⟩, h2⟩ := h
  exact ⟨⟨ao, cap, e, fun q => by obtain ⟨b, o, e1, e2⟩ := hr q; exact ⟨b, o, e1, range_belW e2 hb⟩⟩, fun p hp => (h2 p hp).below hb⟩
theorem cellsOq : Try.prog.cellsOf 36 = 4 := by kernel_rfl
theorem bytesB6 : Try.prog.bytesOf 5 = 1 := by kernel_rfl
theorem cellsI6 : Try.prog.cellsOf 3 = 1 := by kernel_rfl
theorem cellsB6 : Try.prog.cellsOf 23 = 1 := by kernel_rfl
theorem cellsK6 : Try.prog.cellsOf 24 = 1 := by kernel_rfl
section
variable {H : Type} {enc : TypeId × Value → H}
theorem open_b6 {W : World} {n : Nat} {u : Value} {x : DataW H × List MemPlace} (h : DataW.trod enc Try.prog W 0 (fun _ => true) true n 23 [u] = some x) : ∃ l : List Int, Sl bc W u l ∧ Byt l ∧ ((∀ q ∈ x.1.weights Try.prog 23, q ≤ reachBytes) → l.length ≤ 1152921504606846976) := by
  rcases open_ints Try.underlying23 Try.underlying5 (by kernel_rfl) h with ⟨hcs, rfl⟩ | ⟨a, len, cap, zs, hcs, _, hle, hmax, hall, rfl, hcell, hwf⟩
  · simp at hcs
    subst hcs
    exact ⟨[], Sl.nil _ _ _ _, fun y hy => by simp at hy, fun _ => Nat.zero_le _⟩
  · simp at hcs
    subst hcs
    rw [if_pos rfl] at hall
    have hl : (zs.take len).length = len := by rw [List.length_take]; omega
    refine ⟨zs.take len, ?_, fun y hy => ?_, fun hw => ?_⟩
    · by_cases h0 : len = 0
      · subst h0
        exact .inl ⟨some a, cap, by simp, by simp⟩
      · obtain ⟨b, off, rfl, hcc⟩ := ints_at hcell (by omega)
        exact .inr ⟨b, off, cap, by rw [hl], by omega, fun i hi => by
          rw [hl] at hi
          rw [hcc i (by omega), List.getElem_take]
          simp [List.getD, show i < zs.length by omega, bc]⟩
    · have := hwf y (List.mem_of_mem_take hy)
      simp only [Lit.wf, Bool.and_eq_true, decide_eq_true_eq, show IntKind.u8.min = 0 by decide, show IntKind.u8.max = 255 by decide] at this
      exact this
    · have := hw (((lits .u8 (zs.take len) : List (DataW H)).length + (lits .u8 (zs.drop len) : List (DataW H)).length) * Try.prog.bytesOf 5) (by simp [DataW.weights, Try.underlying23])
      rw [bytesB6] at this
      simp only [lits, List.length_map, List.length_take, List.length_drop, reachBytes] at this
      rw [hl]
      omega
theorem open_k6 {W : World} {n : Nat} {u : Value} {x : DataW H × List MemPlace} (h : DataW.trod enc Try.prog W 0 (fun _ => true) true n 24 [u] = some x) : ∃ l : List Int, Sl ic W u l := by
  rcases open_ints Try.underlying24 Try.underlying3 (by kernel_rfl) h with ⟨hcs, rfl⟩ | ⟨a, len, cap, zs, hcs, _, hle, hmax, hall, rfl, hcell, hwf⟩
  · simp at hcs
    subst hcs
    exact ⟨[], Sl.nil _ _ _ _⟩
  · simp at hcs
    subst hcs
    rw [if_pos rfl] at hall
    have hl : (zs.take len).length = len := by rw [List.length_take]; omega
    refine ⟨zs.take len, ?_⟩
    · by_cases h0 : len = 0
      · subst h0
        exact .inl ⟨some a, cap, by simp, by simp⟩
      · obtain ⟨b, off, rfl, hcc⟩ := ints_at hcell (by omega)
        exact .inr ⟨b, off, cap, by rw [hl], by omega, fun i hi => by
          rw [hl] at hi
          rw [hcc i (by omega), List.getElem_take]
          simp [List.getD, show i < zs.length by omega, ic]⟩
theorem open_ao {W : World} {fuel : Nat} {c0 c1 c2 c3 : Value} {x : DataW H × List MemPlace} (hf : DataW.trod enc Try.prog W 0 (fun _ => true) true fuel 36 [c0, c1, c2, c3] = some x) : ∃ p : Aq, [c0, c1, c2, c3] = aol p ∧ AoP W p := by
  obtain ⟨xs, n, _, _, _, hlen, hfi⟩ := DataW.trod_struct Try.underlying36 hf
  have hlen' : xs.length = 4 := hlen
  have t0 : DataW.trod enc Try.prog W 0 (fun _ => true) true n 3 [c0] = some (xs[0]'(by omega)) := by
    have q := hfi 0 _ rfl
    rw [List.getElem?_eq_getElem (show 0 < xs.length by omega)] at q
    change DataW.trod enc Try.prog W 0 (fun _ => true) true n 3 (List.take (Try.prog.cellsOf 3) (List.drop 0 [c0, c1, c2, c3])) = _ at q
    rw [cellsI6] at q
    exact q
  obtain ⟨k0, e0, _, _⟩ := DataW.trod_int (t := 3) Try.underlying3 t0
  simp only [List.cons.injEq, and_true] at e0
  subst e0
  have t1 : DataW.trod enc Try.prog W 0 (fun _ => true) true n 23 [c1] = some (xs[1]'(by omega)) := by
    have q := hfi 1 _ rfl
    rw [List.getElem?_eq_getElem (show 1 < xs.length by omega)] at q
    change DataW.trod enc Try.prog W 0 (fun _ => true) true n 23 (List.take (Try.prog.cellsOf 23) (List.drop 1 [.int .i64 k0, c1, c2, c3])) = _ at q
    rw [cellsB6] at q
    exact q
  have t2 : DataW.trod enc Try.prog W 0 (fun _ => true) true n 24 [c2] = some (xs[2]'(by omega)) := by
    have q := hfi 2 _ rfl
    rw [List.getElem?_eq_getElem (show 2 < xs.length by omega)] at q
    change DataW.trod enc Try.prog W 0 (fun _ => true) true n 24 (List.take (Try.prog.cellsOf 24) (List.drop 2 [.int .i64 k0, c1, c2, c3])) = _ at q
    rw [cellsK6] at q
    exact q
  have t3 : DataW.trod enc Try.prog W 0 (fun _ => true) true n 3 [c3] = some (xs[3]'(by omega)) := by
    have q := hfi 3 _ rfl
    rw [List.getElem?_eq_getElem (show 3 < xs.length by omega)] at q
    change DataW.trod enc Try.prog W 0 (fun _ => true) true n 3 (List.take (Try.prog.cellsOf 3) (List.drop 3 [.int .i64 k0, c1, c2, c3])) = _ at q
    rw [cellsI6] at q
    exact q
  obtain ⟨k3, e3, _, _⟩ := DataW.trod_int (t := 3) Try.underlying3 t3
  simp only [List.cons.injEq, and_true] at e3
  subst e3
  obtain ⟨l2, s2, b2, _⟩ := open_b6 t1
  obtain ⟨l3, s3⟩ := open_k6 t2
  exact ⟨(⟨k0, l2, l3, k3⟩, c1, c2), rfl, s2, b2, s3⟩
theorem open_aq {W : World} {n : Nat} {a : Addr} {cs : List Value} {x : DataW H × List MemPlace} (hc : W.cells? 0 a (Try.prog.cellsOf 36) = some cs)
    (h : DataW.trod enc Try.prog W 0 (fun _ => true) true n 36 cs = some x) : ∃ p : Aq, (∀ j u, (aol p)[j]? = some u → W.cell? (a.add j) = some u) ∧ AoP W p := by
  rw [cellsOq] at hc
  obtain ⟨_, hl, hcell⟩ := World.cells?_some hc
  match cs, hl with
  | [c0, c1, c2, c3], _ =>
    obtain ⟨p, h1, h2⟩ := open_ao h
    refine ⟨p, fun j u hj => ?_, h2⟩
    rw [← h1] at hj
    obtain ⟨hlt, hv⟩ := List.getElem?_eq_some_iff.1 hj
    have hlt4 : j < 4 := by simpa using hlt
    rw [hcell j (by simpa using hlt4)]
    exact hj
/-- Acts that came in, opened. -/
theorem open_aos {W : World} {base : Nat} {v : Value} {d : DataW H} {p : List MemPlace} (hv : Value.okWide Try.prog W .any base 22 v) (h : DataW.Trod enc Try.prog W 0 (fun _ => true) true 22 v d p) : ∃ ps : List Aq, Ax W v ps ∧ ps.length ≤ maxLen := by
  obtain ⟨a0, len, cap, rfl⟩ := okWide_slice Try.underlying22 hv
  obtain ⟨fuel, hf⟩ := h
  rcases Deep.open_slice (t := 22) Try.underlying22 hf with ⟨e0, _⟩ | ⟨a, len', cap', q, n, D, Pl, e0, _, hlen, hcap, hq, _, hel⟩
  · simp [Value.cells] at e0
    obtain ⟨rfl, rfl, rfl⟩ := e0
    exact ⟨[], ⟨⟨_, _, rfl, fun q => by simp at q⟩, fun p hp => by simp at hp⟩, Nat.zero_le _⟩
  · simp [Value.cells] at e0
    obtain ⟨rfl, rfl, rfl⟩ := e0
    rw [if_pos rfl] at hq
    subst hq
    have hs : ∀ i, i < len → ∃ p : Aq, (∀ j u, (aol p)[j]? = some u → W.cell? ((a.add (i * 4)).add j) = some u) ∧ AoP W p := by
      intro i hi
      obtain ⟨cs', hc, ht⟩ := hel i (by omega)
      have := open_aq hc ht
      rwa [cellsOq] at this
    haveI : Inhabited Aq := ⟨(⟨0, [], [], 0⟩, .nilIface, .nilIface)⟩
    obtain ⟨f, hf⟩ := Deep.choose_lt hs
    have hl : ((List.range len).map f).length = len := by simp
    refine ⟨(List.range len).map f, ⟨⟨some a, _, by rw [hl], fun h0 => ?_⟩, fun p hp => ?_⟩, by rw [hl]; omega⟩
    · rw [hl] at h0
      obtain ⟨b, o, sp⟩ := a
      have hsp : sp = none := by simpa [Addr.add] using World.cell?_spot ((hf 0 (by omega)).1 0 _ rfl)
      subst hsp
      refine ⟨b, o, rfl, fun j u hj => ?_⟩
      have hjl : j < ((List.range len).map f).length * 4 := by have := (List.getElem?_eq_some_iff.1 hj).1; rwa [aos_len] at this
      rw [hl] at hjl
      have hi : j / 4 < len := by omega
      have hget : ((List.range len).map f)[j / 4]'(by rw [hl]; exact hi) = f (j / 4) := by simp
      have hm : j % 4 < 4 := by omega
      obtain ⟨u', hu'⟩ : ∃ u', (aol (f (j / 4)))[j % 4]? = some u' := ⟨_, List.getElem?_eq_getElem (by simp only [aol, List.length_cons, List.length_nil]; omega)⟩
      have h2 := aos_get ((List.range len).map f) (j / 4) (by rw [hl]; exact hi) (j % 4) u' (by rw [hget]; exact hu')
      rw [show j / 4 * 4 + j % 4 = j by omega, hj] at h2
      cases h2
      have h3 := (hf (j / 4) hi).1 (j % 4) u hu'
      rw [Addr.add_lit, Addr.add_lit, Nat.add_assoc, show j / 4 * 4 + j % 4 = j by omega] at h3
      exact h3
    · obtain ⟨i, hi, rfl⟩ := List.mem_map.1 hp
      exact (hf i (List.mem_range.1 hi)).2
end
end Go.Proofs.Ytiedbchlgcgdeaa
