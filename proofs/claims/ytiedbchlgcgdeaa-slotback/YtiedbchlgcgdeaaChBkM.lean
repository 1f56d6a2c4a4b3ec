/-
  ACTS IN A ROW THAT CAME IN, OPENED: they lie in their cells, five each. No condition of its own.
  THE LAW's light AND back OF LAYER 9. No condition of its own.
  THE LAW's back OF LAYER 9: some number; and a row of rows of bytes that came in, opened. No condition of its own.
-/
import Derived.Test.YtiedbchlgcgdeaaFrameP
import Derived.Test.YtiedbchlgcgdeaaBlkQ
import Derived.SizedLaws
import Derived.Deep.Strs
import Derived.Test.YtiedbchlgcgdeaaChU
namespace Go.Proofs.Ytiedbchlgcgdeaa
open Go.ChangeShapes Go.WideShapes Go.ChangeAt Go.RowKit Go.Joins
set_option maxRecDepth 100000

/-- An act: its kind, its block, its bytes, what is kept, and how much of the last one. -/
structure Ac where
  kd : Int
  bl : Int
  by_ : List Int
  ks : List Int
  cut : Int
/-- Where its rows lie. -/
abbrev Ap := Ac × Value × Value
def acl (p : Ap) : List Value := [.int .i64 p.1.kd, .int .i64 p.1.bl, p.2.1, p.2.2, .int .i64 p.1.cut]
def acs (ps : List Ap) : List Value := ps.flatMap acl
def AcP (W : World) (p : Ap) : Prop := Sl bc W p.2.1 p.1.by_ ∧ Byt p.1.by_ ∧ Sl ic W p.2.2 p.1.ks
theorem AcP.below {W W' : World} {p : Ap} (h : AcP W p) (hb : Below W.heap.size W W') : AcP W' p := ⟨h.1.below hb, h.2.1, h.2.2.below hb⟩
/-- The slice v holds these acts. -/
def Al (W : World) (v : Value) (ps : List Ap) : Prop := (∃ ao cap, v = .slice ao ps.length cap ∧ (0 < ps.length → ∃ b o, ao = some ⟨b, o, none⟩ ∧ W.rangeAt b o (acs ps))) ∧ ∀ p ∈ ps, AcP W p
theorem acs_len (ps : List Ap) : (acs ps).length = ps.length * 5 := by
  induction ps with
  | nil => rfl
  | cons p r ih => simp only [acs, List.flatMap_cons, List.length_append, List.length_cons] at ih ⊢; rw [ih]; simp only [acl, List.length_cons, List.length_nil]; omega
theorem acs_get : ∀ (ps : List Ap) (i : Nat) (h : i < ps.length) (j : Nat) (u : Value), (acl ps[i])[j]? = some u → (acs ps)[i * 5 + j]? = some u
  | [], i, h, _, _, _ => by simp at h
  | p :: ps, 0, _, j, u, hj => by
    have hl : j < (acl p).length := (List.getElem?_eq_some_iff.1 hj).1
    show (acl p ++ acs ps)[0 * 5 + j]? = _
    rw [Nat.zero_mul, Nat.zero_add, List.getElem?_append_left hl]
    exact hj
  | p :: ps, i + 1, h, j, u, hj => by
    show (acl p ++ acs ps)[(i + 1) * 5 + j]? = _
    rw [List.getElem?_append_right (by simp only [acl, List.length_cons, List.length_nil]; omega), show (i + 1) * 5 + j - (acl p).length = i * 5 + j by simp only [acl, List.length_cons, List.length_nil]; omega]
    exact acs_get ps i (by simpa using h) j u hj
theorem Al.at {W : World} {b o : Nat} {ps : List Ap} (h : W.rangeAt b o (acs ps)) {i : Nat} (hi : i < ps.length) : W.rangeAt b (o + i * 5) (acl ps[i]) := fun j u hu => by
  rw [Nat.add_assoc]
  exact h _ u (acs_get ps i hi j u hu)
theorem Al.below {W W' : World} {v : Value} {ps : List Ap} (h : Al W v ps) (hb : Below W.heap.size W W') : Al W' v ps := by
  obtain ⟨⟨ao, cap, e, hr⟩, h2⟩ := h
  exact ⟨⟨ao, cap, e, fun q => by obtain ⟨b, o, e1, e2⟩ := hr q; exact ⟨b, o, e1, range_belW e2 hb⟩⟩, fun p hp => (h2 p hp).below hb⟩
theorem bytesB5 : Try.prog.bytesOf 5 = 1 := by kernel_rfl
theorem cellsI5 : Try.prog.cellsOf 3 = 1 := by kernel_rfl
theorem cellsB5 : Try.prog.cellsOf 23 = 1 := by kernel_rfl
theorem cellsK5 : Try.prog.cellsOf 24 = 1 := by kernel_rfl
section
variable {H : Type} {enc : TypeId × Value → H}
theorem open_b5 {W : World} {n : Nat} {u : Value} {x : DataW H × List MemPlace} (h : DataW.trod enc Try.prog W 0 (fun _ => true) true n 23 [u] = some x) : ∃ l : List Int, Sl bc W u l ∧ Byt l ∧ ((∀ q ∈ x.1.weights Try.prog 23, q ≤ reachBytes) → l.length ≤ 1152921504606846976) := by
  rcases open_ints Try.underlying23 Try.underlying5 (by kernel_rfl) h with ⟨hcs, rfl⟩ | ⟨a, len, cap, zs, hcs, _, hle, hmax, hall, rfl, hcell, hwf⟩
  · simp at hcs
    subst hcs
    exact ⟨[], Sl.nil _ _ _ _, fun y hy => by simp at hy, fun _ => Nat.zero_le _⟩
  · simp at hcs
    subst hcs
    rw [if_pos rfl] at hall
    have hl : (zs.take len).length = len := by rw [List.length_take]; omega
    refine ⟨zs.take len, ?_, fun y hy => ?_, fun hw => ?_⟩
    · by_cases h0 : len = 0
      · subst h0
        exact .inl ⟨some a, cap, by simp, by simp⟩
      · obtain ⟨b, off, rfl, hcc⟩ := ints_at hcell (by omega)
        exact .inr ⟨b, off, cap, by rw [hl], by omega, fun i hi => by
          rw [hl] at hi
          rw [hcc i (by omega), List.getElem_take]
          simp [List.getD, show i < zs.length by omega, bc]⟩
    · have := hwf y (List.mem_of_mem_take hy)
      simp only [Lit.wf, Bool.and_eq_true, decide_eq_true_eq, show IntKind.u8.min = 0 by decide, show IntKind.u8.max = 255 by decide] at this
      exact this
    · have := hw (((lits .u8 (zs.take len) : List (DataW H)).length + (lits .u8 (zs.drop len) : List (DataW H)).length) * Try.prog.bytesOf 5) (by simp [DataW.weights, Try.underlying23])
      rw [bytesB5] at this
      simp only [lits, List.length_map, List.length_take, List.length_drop, reachBytes] at this
      rw [hl]
      omega
theorem open_k5 {W : World} {n : Nat} {u : Value} {x : DataW H × List MemPlace} (h : DataW.trod enc Try.prog W 0 (fun _ => true) true n 24 [u] = some x) : ∃ l : List Int, Sl ic W u l := by
  rcases open_ints Try.underlying24 Try.underlying3 (by kernel_rfl) h with ⟨hcs, rfl⟩ | ⟨a, len, cap, zs, hcs, _, hle, hmax, hall, rfl, hcell, hwf⟩
  · simp at hcs
    subst hcs
    exact ⟨[], Sl.nil _ _ _ _⟩
  · simp at hcs
    subst hcs
    rw [if_pos rfl] at hall
    have hl : (zs.take len).length = len := by rw [List.length_take]; omega
    refine ⟨zs.take len, ?_⟩
    · by_cases h0 : len = 0
      · subst h0
        exact .inl ⟨some a, cap, by simp, by simp⟩
      · obtain ⟨b, off, rfl, hcc⟩ := ints_at hcell (by omega)
        exact .inr ⟨b, off, cap, by rw [hl], by omega, fun i hi => by
          rw [hl] at hi
          rw [hcc i (by omega), List.getElem_take]
          simp [List.getD, show i < zs.length by omega, ic]⟩
theorem weights_allC {e : TypeId} {d : DataW H} {q : Nat} : ∀ {l : List (DataW H)}, d ∈ l → q ∈ d.weights Try.prog e → q ∈ DataW.weightsAll Try.prog e l
  | x :: l, h, hq => by
    rw [DataW.weightsAll]
    rcases List.mem_cons.1 h with rfl | h
    · exact List.mem_append_left _ hq
    · exact List.mem_append_right _ (weights_allC h hq)
  | [], h, _ => by simp at h
end
end Go.Proofs.Ytiedbchlgcgdeaa
namespace Go.Proofs.Ytiedbchlgcgdeaa
open Go.ChangeShapes Go.WideShapes Go.ChangeAt Go.RowKit Go.Joins

def sumB (ps : List Ap) : Nat := (ps.map fun p => p.1.by_.length).sum
def liC (ps : List Ap) : Bool := decide (ps.length ≤ 40) && (decide (sumB ps ≤ 3000) && ps.all fun p => decide (p.1.ks.length ≤ 60))
theorem sumB_step {ps : List Ap} {k : Nat} (h : k < ps.length) : sumB (ps.take (k + 1)) = sumB (ps.take k) + ps[k].1.by_.length := by
  unfold sumB
  rw [take_step h, List.map_append, List.sum_append]
  simp
theorem sumB_le (ps : List Ap) (k : Nat) : sumB (ps.take k) ≤ sumB ps := by
  unfold sumB
  conv => rhs; rw [← List.take_append_drop k ps, List.map_append, List.sum_append]
  omega
theorem liC_is {ps : List Ap} (h : liC ps = true) : ps.length ≤ 40 ∧ sumB ps ≤ 3000 ∧ ∀ p ∈ ps, p.1.ks.length ≤ 60 := by
  unfold liC at h
  simp only [Bool.and_eq_true, decide_eq_true_eq, List.all_eq_true] at h
  exact h
end Go.Proofs.Ytiedbchlgcgdeaa
namespace Go.Proofs.Ytiedbchlgcgdeaa
open Go.ChangeShapes Go.WideShapes Go.ChangeAt Go.RowKit Go.Joins
set_option maxRecDepth 100000

/-- Rows of bytes: where each lies, and its bytes. -/
abbrev Rb := Value × List Int
def Mr (W : World) (v : Value) (ms : List Rb) : Prop := (∃ ao cap, v = .slice ao ms.length cap ∧ (0 < ms.length → ∃ b o, ao = some ⟨b, o, none⟩ ∧ W.rangeAt b o (ms.map (·.1)))) ∧ ∀ m ∈ ms, Sl bc W m.1 m.2 ∧ Byt m.2
theorem Mr.below {W W' : World} {v : Value} {ms : List Rb} (h : Mr W v ms) (hb : Below W.heap.size W W') : Mr W' v ms := by
  obtain ⟨⟨ao, cap, e, hr⟩, h2⟩ := h
  exact ⟨⟨ao, cap, e, fun q => by obtain ⟨b, o, e1, e2⟩ := hr q; exact ⟨b, o, e1, range_belW e2 hb⟩⟩, fun p hp => ⟨(h2 p hp).1.below hb, (h2 p hp).2⟩⟩
section
variable {H : Type} {enc : TypeId × Value → H}
/-- Rows of bytes that came in, opened. -/
theorem open_more {W : World} {base : Nat} {v : Value} {d : DataW H} {p : List MemPlace} (hv : Value.okWide Try.prog W .any base 43 v) (h : DataW.Trod enc Try.prog W 0 (fun _ => true) true 43 v d p) : ∃ ms : List Rb, Mr W v ms ∧ ms.length ≤ maxLen ∧ ((∀ q ∈ d.weights Try.prog 43, q ≤ reachBytes) → ∀ m ∈ ms, m.2.length ≤ 1152921504606846976) := by
  obtain ⟨a0, len, cap, rfl⟩ := okWide_slice Try.underlying43 hv
  obtain ⟨fuel, hf⟩ := h
  rcases Deep.open_slice (t := 43) Try.underlying43 hf with ⟨e0, _⟩ | ⟨a, len', cap', q, n, D, Pl, e0, _, hlen, hcap, hq, hx, hel⟩
  · simp [Value.cells] at e0
    obtain ⟨rfl, rfl, rfl⟩ := e0
    exact ⟨[], ⟨⟨_, _, rfl, fun q => by simp at q⟩, fun p hp => by simp at hp⟩, Nat.zero_le _, fun _ p hp => by simp at hp⟩
  · simp [Value.cells] at e0
    obtain ⟨rfl, rfl, rfl⟩ := e0
    rw [if_pos rfl] at hq
    subst hq
    have hs : ∀ i, i < len → ∃ m : Rb, W.cell? (a.add i) = some m.1 ∧ (Sl bc W m.1 m.2 ∧ Byt m.2) ∧ ((∀ q ∈ (D i).weights Try.prog 23, q ≤ reachBytes) → m.2.length ≤ 1152921504606846976) := by
      intro i hi
      obtain ⟨cs', hc, ht⟩ := hel i (by omega)
      rw [cellsB5, Nat.mul_one] at hc
      obtain ⟨_, hl, hcell⟩ := World.cells?_some hc
      match cs', hl with
      | [u], _ =>
        obtain ⟨l, s, b, z⟩ := open_b5 ht
        have := hcell 0 (by decide)
        refine ⟨(u, l), ?_, ⟨s, b⟩, z⟩
        have e : (a.add i).add 0 = a.add i := by simp [Addr.add]
        rw [e] at this
        exact this
    haveI : Inhabited Rb := ⟨(.nilIface, [])⟩
    obtain ⟨f, hf⟩ := Deep.choose_lt hs
    have hl : ((List.range len).map f).length = len := by simp
    refine ⟨(List.range len).map f, ⟨⟨some a, _, by rw [hl], fun h0 => ?_⟩, fun p hp => ?_⟩, by rw [hl]; omega, fun hw p hp => ?_⟩
    · rw [hl] at h0
      obtain ⟨b, o, sp⟩ := a
      have hsp : sp = none := by simpa [Addr.add] using World.cell?_spot (hf 0 (by omega)).1
      subst hsp
      refine ⟨b, o, rfl, fun j u hj => ?_⟩
      have hjl : j < len := by have := (List.getElem?_eq_some_iff.1 hj).1; simpa using this
      have h3 := (hf j hjl).1
      rw [Addr.add_lit] at h3
      rw [h3]
      simp only [List.map_map, List.getElem?_map, List.getElem?_range hjl, Option.map_some, Function.comp] at hj
      exact hj
    · obtain ⟨i, hi, rfl⟩ := List.mem_map.1 hp
      exact (hf i (List.mem_range.1 hi)).2.1
    · obtain ⟨i, hi, rfl⟩ := List.mem_map.1 hp
      refine (hf i (List.mem_range.1 hi)).2.2 (fun q hq => hw q ?_)
      have hd : d = (DataW.slice ((List.range len).map D) _ ) := (Prod.mk.inj hx).1
      rw [hd]
      simp only [DataW.weights, Try.underlying43]
      exact List.mem_cons_of_mem _ (List.mem_append_left _ (weights_allC (List.mem_map.2 ⟨i, hi, rfl⟩) hq))
end
end Go.Proofs.Ytiedbchlgcgdeaa
