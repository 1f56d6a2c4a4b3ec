/-
  ACTS IN A ROW THAT CAME IN, OPENED: they lie in their cells, five each. No condition of its own.
-/
import Derived.Test.YtoamghncncalgaaGreatDoorJFramea2
import Derived.Test.YtoamghncncalgaaGreatDoorJBlkQa2
import Derived.SizedLaws
import Derived.Deep.Strs
namespace Go.Proofs.YtoamghncncalgaaGreatDoor
open Go.ChangeShapes Go.WideShapes Go.ChangeAt Go.RowKit Go.Joins
set_option maxRecDepth 100000

/-- An act: its kind, its block, its bytes, what is kept, and how much of the last one. -/
structure Ac where
  kd : Int
  bl : Int
  by_ : List Int
  ks : List Int
  cut : Int
/-- Where its rows lie. -/
abbrev Ap := Ac × Value × Value
def acl (p : Ap) : List Value := [.int .i64 p.1.kd, .int .i64 p.1.bl, p.2.1, p.2.2, .int .i64 p.1.cut]
def acs (ps : List Ap) : List Value := ps.flatMap acl
def AcP (W : World) (p : Ap) : Prop := Sl bc W p.2.1 p.1.by_ ∧ Byt p.1.by_ ∧ Sl ic W p.2.2 p.1.ks
theorem AcP.below {W W' : World} {p : Ap} (h : AcP W p) (hb : Below W.heap.size W W') : AcP W' p := ⟨h.1.below hb, h.2.1, h.2.2.below hb⟩
/-- The slice v holds these acts. -/
def Al (W : World) (v : Value) (ps : List Ap) : Prop := (∃ ao cap, v = .slice ao ps.length cap ∧ (0 < ps.length → ∃ b o, ao = some ⟨b, o, none⟩ ∧ W.rangeAt b o (acs ps))) ∧ ∀ p ∈ ps, AcP W p
theorem acs_len (ps : List Ap) : (acs ps).length = ps.length * 5 := by
  induction ps with
  | nil => rfl
  | cons p r ih => simp only [acs, List.flatMap_cons, List.length_append, List.length_cons] at ih ⊢; rw [ih]; simp only [acl, List.length_cons, List.length_nil]; omega
theorem acs_get : ∀ (ps : List Ap) (i : Nat) (h : i < ps.length) (j : Nat) (u : Value), (acl ps[i])[j]? = some u → (acs ps)[i * 5 + j]? = some u
  | [], i, h, _, _, _ => by simp at h
  | p :: ps, 0, _, j, u, hj => by
    have hl : j < (acl p).length := (List.getElem?_eq_some_iff.1 hj).1
    show (acl p ++ acs ps)[0 * 5 + j]? = _
    rw [Nat.zero_mul, Nat.zero_add, List.getElem?_append_left hl]
    exact hj
  | p :: ps, i + 1, h, j, u, hj => by
    show (acl p ++ acs ps)[(i + 1) * 5 + j]? = _
    rw [List.getElem?_append_right (by simp only [acl, List.length_cons, List.length_nil]; omega), show (i + 1) * 5 + j - (acl p).length = i * 5 + j by simp only [acl, List.length_cons, List.length_nil]; omega]
    exact acs_get ps i (by simpa using h) j u hj
theorem Al.at {W : World} {b o : Nat} {ps : List Ap} (h : W.rangeAt b o (acs ps)) {i : Nat} (hi : i < ps.length) : W.rangeAt b (o + i * 5) (acl ps[i]) := fun j u hu => by
  rw [Nat.add_assoc]
  exact h _ u (acs_get ps i hi j u hu)
theorem Al.below {W W' : World} {v : Value} {ps : List Ap} (h : Al W v ps) (hb : Below W.heap.size W W') : Al W' v ps := by
  obtain ⟨⟨ao, cap, e, hr⟩, h2⟩ := h
  exact ⟨⟨ao, cap, e, fun q => by obtain ⟨b, o, e1, e2⟩ := hr q; exact ⟨b, o, e1, range_belW e2 hb⟩⟩, fun p hp => (h2 p hp).below hb⟩
theorem cellsOp : Tryz.prog.cellsOf 46 = 5 := by kernel_rfl
theorem bytesB5 : Tryz.prog.bytesOf 5 = 1 := by kernel_rfl
theorem cellsI5 : Tryz.prog.cellsOf 3 = 1 := by kernel_rfl
theorem cellsB5 : Tryz.prog.cellsOf 43 = 1 := by kernel_rfl
theorem cellsK5 : Tryz.prog.cellsOf 44 = 1 := by kernel_rfl
section
variable {H : Type} {enc : TypeId × Value → H}
theorem open_b5 {W : World} {n : Nat} {u : Value} {x : DataW H × List MemPlace} (h : DataW.trod enc Tryz.prog W 0 (fun _ => true) true n 43 [u] = some x) : ∃ l : List Int, Sl bc W u l ∧ Byt l ∧ ((∀ q ∈ x.1.weights Tryz.prog 43, q ≤ reachBytes) → l.length ≤ 1152921504606846976) := by
  rcases open_ints Tryz.underlying43 Tryz.underlying5 (by kernel_rfl) h with ⟨hcs, rfl⟩ | ⟨a, len, cap, zs, hcs, _, hle, hmax, hall, rfl, hcell, hwf⟩
  · simp at hcs
    subst hcs
    exact ⟨[], Sl.nil _ _ _ _, fun y hy => by simp at hy, fun _ => Nat.zero_le _⟩
  · simp at hcs
    subst hcs
    rw [if_pos rfl] at hall
    have hl : (zs.take len).length = len := by rw [List.length_take]; omega
    refine ⟨zs.take len, ?_, fun y hy => ?_, fun hw => ?_⟩
    · by_cases h0 : len = 0
      · subst h0
        exact .inl ⟨some a, cap, by simp, by simp⟩
      · obtain ⟨b, off, rfl, hcc⟩ := ints_at hcell (by omega)
        exact .inr ⟨b, off, cap, by rw [hl], by omega, fun i hi => by
          rw [hl] at hi
          rw [hcc i (by omega), List.getElem_take]
          simp [List.getD, show i < zs.length by omega, bc]⟩
    · have := hwf y (List.mem_of_mem_take hy)
      simp only [Lit.wf, Bool.and_eq_true, decide_eq_true_eq, show IntKind.u8.min = 0 by decide, show IntKind.u8.max = 255 by decide] at this
      exact this
    · have := hw (((lits .u8 (zs.take len) : List (DataW H)).length + (lits .u8 (zs.drop len) : List (DataW H)).length) * Tryz.prog.bytesOf 5) (by simp [DataW.weights, Tryz.underlying43])
      rw [bytesB5] at this
      simp only [lits, List.length_map, List.length_take, List.length_drop, reachBytes] at this
      rw [hl]
      omega
theorem open_k5 {W : World} {n : Nat} {u : Value} {x : DataW H × List MemPlace} (h : DataW.trod enc Tryz.prog W 0 (fun _ => true) true n 44 [u] = some x) : ∃ l : List Int, Sl ic W u l := by
  rcases open_ints Tryz.underlying44 Tryz.underlying3 (by kernel_rfl) h with ⟨hcs, rfl⟩ | ⟨a, len, cap, zs, hcs, _, hle, hmax, hall, rfl, hcell, hwf⟩
  · simp at hcs
    subst hcs
    exact ⟨[], Sl.nil _ _ _ _⟩
  · simp at hcs
    subst hcs
    rw [if_pos rfl] at hall
    have hl : (zs.take len).length = len := by rw [List.length_take]; omega
    refine ⟨zs.take len, ?_⟩
    · by_cases h0 : len = 0
      · subst h0
        exact .inl ⟨some a, cap, by simp, by simp⟩
      · obtain ⟨b, off, rfl, hcc⟩ := ints_at hcell (by omega)
        exact .inr ⟨b, off, cap, by rw [hl], by omega, fun i hi => by
          rw [hl] at hi
          rw [hcc i (by omega), List.getElem_take]
          simp [List.getD, show i < zs.length by omega, ic]⟩
theorem open_ac {W : World} {fuel : Nat} {c0 c1 c2 c3 c4 : Value} {x : DataW H × List MemPlace} (hf : DataW.trod enc Tryz.prog W 0 (fun _ => true) true fuel 46 [c0, c1, c2, c3, c4] = some x) : ∃ p : Ap, [c0, c1, c2, c3, c4] = acl p ∧ AcP W p ∧ ((∀ q ∈ x.1.weights Tryz.prog 46, q ≤ reachBytes) → p.1.by_.length ≤ 1152921504606846976) := by
  obtain ⟨xs, n, _, hxx, _, hlen, hfi⟩ := DataW.trod_struct Tryz.underlying46 hf
  have hlen' : xs.length = 5 := hlen
  have t0 : DataW.trod enc Tryz.prog W 0 (fun _ => true) true n 3 [c0] = some (xs[0]'(by omega)) := by
    have q := hfi 0 _ rfl
    rw [List.getElem?_eq_getElem (show 0 < xs.length by omega)] at q
    change DataW.trod enc Tryz.prog W 0 (fun _ => true) true n 3 (List.take (Tryz.prog.cellsOf 3) (List.drop 0 [c0, c1, c2, c3, c4])) = _ at q
    rw [cellsI5] at q
    exact q
  obtain ⟨k0, e0, _, _⟩ := DataW.trod_int (t := 3) Tryz.underlying3 t0
  simp only [List.cons.injEq, and_true] at e0
  subst e0
  have t1 : DataW.trod enc Tryz.prog W 0 (fun _ => true) true n 3 [c1] = some (xs[1]'(by omega)) := by
    have q := hfi 1 _ rfl
    rw [List.getElem?_eq_getElem (show 1 < xs.length by omega)] at q
    change DataW.trod enc Tryz.prog W 0 (fun _ => true) true n 3 (List.take (Tryz.prog.cellsOf 3) (List.drop 1 [.int .i64 k0, c1, c2, c3, c4])) = _ at q
    rw [cellsI5] at q
    exact q
  obtain ⟨k1, e1, _, _⟩ := DataW.trod_int (t := 3) Tryz.underlying3 t1
  simp only [List.cons.injEq, and_true] at e1
  subst e1
  have t2 : DataW.trod enc Tryz.prog W 0 (fun _ => true) true n 43 [c2] = some (xs[2]'(by omega)) := by
    have q := hfi 2 _ rfl
    rw [List.getElem?_eq_getElem (show 2 < xs.length by omega)] at q
    change DataW.trod enc Tryz.prog W 0 (fun _ => true) true n 43 (List.take (Tryz.prog.cellsOf 43) (List.drop 2 [.int .i64 k0, .int .i64 k1, c2, c3, c4])) = _ at q
    rw [cellsB5] at q
    exact q
  have t3 : DataW.trod enc Tryz.prog W 0 (fun _ => true) true n 44 [c3] = some (xs[3]'(by omega)) := by
    have q := hfi 3 _ rfl
    rw [List.getElem?_eq_getElem (show 3 < xs.length by omega)] at q
    change DataW.trod enc Tryz.prog W 0 (fun _ => true) true n 44 (List.take (Tryz.prog.cellsOf 44) (List.drop 3 [.int .i64 k0, .int .i64 k1, c2, c3, c4])) = _ at q
    rw [cellsK5] at q
    exact q
  have t4 : DataW.trod enc Tryz.prog W 0 (fun _ => true) true n 3 [c4] = some (xs[4]'(by omega)) := by
    have q := hfi 4 _ rfl
    rw [List.getElem?_eq_getElem (show 4 < xs.length by omega)] at q
    change DataW.trod enc Tryz.prog W 0 (fun _ => true) true n 3 (List.take (Tryz.prog.cellsOf 3) (List.drop 4 [.int .i64 k0, .int .i64 k1, c2, c3, c4])) = _ at q
    rw [cellsI5] at q
    exact q
  obtain ⟨k4, e4, _, _⟩ := DataW.trod_int (t := 3) Tryz.underlying3 t4
  simp only [List.cons.injEq, and_true] at e4
  subst e4
  obtain ⟨l2, s2, b2, z2⟩ := open_b5 t2
  obtain ⟨l3, s3⟩ := open_k5 t3
  refine ⟨(⟨k0, k1, l2, l3, k4⟩, c2, c3), rfl, ⟨s2, b2, s3⟩, fun hq => z2 (fun q hq' => hq q ?_)⟩
  rw [hxx]
  simp only [DataW.weights, Tryz.underlying46]
  exact DataW.weights_mem_each (j := 2) (t := 43) rfl (by rw [List.getElem?_map, List.getElem?_eq_getElem (show 2 < xs.length by omega)]; rfl) q hq'
theorem open_ap {W : World} {n : Nat} {a : Addr} {cs : List Value} {x : DataW H × List MemPlace} (hc : W.cells? 0 a (Tryz.prog.cellsOf 46) = some cs)
    (h : DataW.trod enc Tryz.prog W 0 (fun _ => true) true n 46 cs = some x) : ∃ p : Ap, (∀ j u, (acl p)[j]? = some u → W.cell? (a.add j) = some u) ∧ AcP W p ∧ ((∀ q ∈ x.1.weights Tryz.prog 46, q ≤ reachBytes) → p.1.by_.length ≤ 1152921504606846976) := by
  rw [cellsOp] at hc
  obtain ⟨_, hl, hcell⟩ := World.cells?_some hc
  match cs, hl with
  | [c0, c1, c2, c3, c4], _ =>
    obtain ⟨p, h1, h2⟩ := open_ac h
    refine ⟨p, fun j u hj => ?_, h2⟩
    rw [← h1] at hj
    obtain ⟨hlt, hv⟩ := List.getElem?_eq_some_iff.1 hj
    have hlt5 : j < 5 := by simpa using hlt
    rw [hcell j (by simpa using hlt5)]
    exact hj
theorem weights_allC {e : TypeId} {d : DataW H} {q : Nat} : ∀ {l : List (DataW H)}, d ∈ l → q ∈ d.weights Tryz.prog e → q ∈ DataW.weightsAll Tryz.prog e l
  | x :: l, h, hq => by
    rw [DataW.weightsAll]
    rcases List.mem_cons.1 h with rfl | h
    · exact List.mem_append_left _ hq
    · exact List.mem_append_right _ (weights_allC h hq)
  | [], h, _ => by simp at h
/-- Acts that came in, opened. -/
theorem open_acs {W : World} {base : Nat} {v : Value} {d : DataW H} {p : List MemPlace} (hv : Value.okWide Tryz.prog W .any base 22 v) (h : DataW.Trod enc Tryz.prog W 0 (fun _ => true) true 22 v d p) : ∃ ps : List Ap, Al W v ps ∧ ps.length ≤ maxLen ∧ ((∀ q ∈ d.weights Tryz.prog 22, q ≤ reachBytes) → ∀ p ∈ ps, p.1.by_.length ≤ 1152921504606846976) := by
  obtain ⟨a0, len, cap, rfl⟩ := okWide_slice Tryz.underlying22 hv
  obtain ⟨fuel, hf⟩ := h
  rcases Deep.open_slice (t := 22) Tryz.underlying22 hf with ⟨e0, _⟩ | ⟨a, len', cap', q, n, D, Pl, e0, _, hlen, hcap, hq, hx, hel⟩
  · simp [Value.cells] at e0
    obtain ⟨rfl, rfl, rfl⟩ := e0
    exact ⟨[], ⟨⟨_, _, rfl, fun q => by simp at q⟩, fun p hp => by simp at hp⟩, Nat.zero_le _, fun _ p hp => by simp at hp⟩
  · simp [Value.cells] at e0
    obtain ⟨rfl, rfl, rfl⟩ := e0
    rw [if_pos rfl] at hq
    subst hq
    have hs : ∀ i, i < len → ∃ p : Ap, (∀ j u, (acl p)[j]? = some u → W.cell? ((a.add (i * 5)).add j) = some u) ∧ AcP W p ∧ ((∀ q ∈ (D i).weights Tryz.prog 46, q ≤ reachBytes) → p.1.by_.length ≤ 1152921504606846976) := by
      intro i hi
      obtain ⟨cs', hc, ht⟩ := hel i (by omega)
      have := open_ap hc ht
      rwa [cellsOp] at this
    haveI : Inhabited Ap := ⟨(⟨0, 0, [], [], 0⟩, .nilIface, .nilIface)⟩
    obtain ⟨f, hf⟩ := Deep.choose_lt hs
    have hl : ((List.range len).map f).length = len := by simp
    refine ⟨(List.range len).map f, ⟨⟨some a, _, by rw [hl], fun h0 => ?_⟩, fun p hp => ?_⟩, by rw [hl]; omega, fun hw p hp => ?_⟩
    · rw [hl] at h0
      obtain ⟨b, o, sp⟩ := a
      have hsp : sp = none := by simpa [Addr.add] using World.cell?_spot ((hf 0 (by omega)).1 0 _ rfl)
      subst hsp
      refine ⟨b, o, rfl, fun j u hj => ?_⟩
      have hjl : j < ((List.range len).map f).length * 5 := by have := (List.getElem?_eq_some_iff.1 hj).1; rwa [acs_len] at this
      rw [hl] at hjl
      have hi : j / 5 < len := by omega
      have hget : ((List.range len).map f)[j / 5]'(by rw [hl]; exact hi) = f (j / 5) := by simp
      have hm : j % 5 < 5 := by omega
      obtain ⟨u', hu'⟩ : ∃ u', (acl (f (j / 5)))[j % 5]? = some u' := ⟨_, List.getElem?_eq_getElem (by simp only [acl, List.length_cons, List.length_nil]; omega)⟩
      have h2 := acs_get ((List.range len).map f) (j / 5) (by rw [hl]; exact hi) (j % 5) u' (by rw [hget]; exact hu')
      rw [show j / 5 * 5 + j % 5 = j by omega, hj] at h2
      cases h2
      have h3 := (hf (j / 5) hi).1 (j % 5) u hu'
      rw [Addr.add_lit, Addr.add_lit, Nat.add_assoc, show j / 5 * 5 + j % 5 = j by omega] at h3
      exact h3
    · obtain ⟨i, hi, rfl⟩ := List.mem_map.1 hp
      exact (hf i (List.mem_range.1 hi)).2.1
    · obtain ⟨i, hi, rfl⟩ := List.mem_map.1 hp
      refine (hf i (List.mem_range.1 hi)).2.2 (fun q hq => hw q ?_)
      have hd : d = (DataW.slice ((List.range len).map D) _ ) := (Prod.mk.inj hx).1
      rw [hd]
      simp only [DataW.weights, Tryz.underlying22]
      exact List.mem_cons_of_mem _ (List.mem_append_left _ (weights_allC (List.mem_map.2 ⟨i, hi, rfl⟩) hq))
end
end Go.Proofs.YtoamghncncalgaaGreatDoor
