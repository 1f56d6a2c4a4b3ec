/-
  THE LAW's back OF LAYER 9: some number; and a row of rows of bytes that came in, opened. No condition of its own.
-/
import Derived.Test.YtmgfcgknajehaaaChLi
namespace Go.Proofs.Ytmgfcgknajehaaa
open Go.ChangeShapes Go.WideShapes Go.ChangeAt Go.RowKit Go.Joins
set_option maxRecDepth 100000

theorem back_any (x n : Int) (w : World) : Calls Try.prog 30 #[.int .i64 x, .int .i64 n] w fun e w' => (∃ k : Int, e = .returned (.int .i64 k)) ∧ w' = w := by
  go_enter Try.func30, Try.ntmps30
  go_wp2
  go_ret
  exact ⟨⟨_, rfl⟩, rfl⟩
/-- Rows of bytes: where each lies, and its bytes. -/
abbrev Rb := Value × List Int
def Mr (W : World) (v : Value) (ms : List Rb) : Prop := (∃ ao cap, v = .slice ao ms.length cap ∧ (0 < ms.length → ∃ b o, ao = some ⟨b, o, none⟩ ∧ W.rangeAt b o (ms.map (·.1)))) ∧ ∀ m ∈ ms, Sl bc W m.1 m.2 ∧ Byt m.2
theorem Mr.below {W W' : World} {v : Value} {ms : List Rb} (h : Mr W v ms) (hb : Below W.heap.size W W') : Mr W' v ms := by
  obtain ⟨⟨ao, cap, e, hr⟩, h2⟩ := h
  exact ⟨⟨ao, cap, e, fun q => by obtain ⟨b, o, e1, e2⟩ := hr q; exact ⟨b, o, e1, range_belW e2 hb⟩⟩, fun p hp => ⟨(h2 p hp).1.below hb, (h2 p hp).2⟩⟩
section
variable {H : Type} {enc : TypeId × Value → H}
/-- Rows of bytes that came in, opened. -/
theorem open_more {W : World} {base : Nat} {v : Value} {d : DataW H} {p : List MemPlace} (hv : Value.okWide Try.prog W .any base 23 v) (h : DataW.Trod enc Try.prog W 0 (fun _ => true) true 23 v d p) : ∃ ms : List Rb, Mr W v ms ∧ ms.length ≤ maxLen ∧ ((∀ q ∈ d.weights Try.prog 23, q ≤ reachBytes) → ∀ m ∈ ms, m.2.length ≤ 1152921504606846976) := by
  obtain ⟨a0, len, cap, rfl⟩ := okWide_slice Try.underlying23 hv
  obtain ⟨fuel, hf⟩ := h
  rcases Deep.open_slice (t := 23) Try.underlying23 hf with ⟨e0, _⟩ | ⟨a, len', cap', q, n, D, Pl, e0, _, hlen, hcap, hq, hx, hel⟩
  · simp [Value.cells] at e0
    obtain ⟨rfl, rfl, rfl⟩ := e0
    exact ⟨[], ⟨⟨_, _, rfl, fun q => by simp at q⟩, fun p hp => by simp at hp⟩, Nat.zero_le _, fun _ p hp => by simp at hp⟩
  · simp [Value.cells] at e0
    obtain ⟨rfl, rfl, rfl⟩ := e0
    rw [if_pos rfl] at hq
    subst hq
    have hs : ∀ i, i < len → ∃ m : Rb, W.cell? (a.add i) = some m.1 ∧ (Sl bc W m.1 m.2 ∧ Byt m.2) ∧ ((∀ q ∈ (D i).weights Try.prog 27, q ≤ reachBytes) → m.2.length ≤ 1152921504606846976) := by
      intro i hi
      obtain ⟨cs', hc, ht⟩ := hel i (by omega)
      rw [cellsB5, Nat.mul_one] at hc
      obtain ⟨_, hl, hcell⟩ := World.cells?_some hc
      match cs', hl with
      | [u], _ =>
        obtain ⟨l, s, b, z⟩ := open_b5 ht
        have := hcell 0 (by decide)
        refine ⟨(u, l), ?_, ⟨s, b⟩, z⟩
        have e : (a.add i).add 0 = a.add i := by simp [Addr.add]
        rw [e] at this
        exact this
    haveI : Inhabited Rb := ⟨(.nilIface, [])⟩
    obtain ⟨f, hf⟩ := Deep.choose_lt hs
    have hl : ((List.range len).map f).length = len := by simp
    refine ⟨(List.range len).map f, ⟨⟨some a, _, by rw [hl], fun h0 => ?_⟩, fun p hp => ?_⟩, by rw [hl]; omega, fun hw p hp => ?_⟩
    · rw [hl] at h0
      obtain ⟨b, o, sp⟩ := a
      have hsp : sp = none := by simpa [Addr.add] using World.cell?_spot (hf 0 (by omega)).1
      subst hsp
      refine ⟨b, o, rfl, fun j u hj => ?_⟩
      have hjl : j < len := by have := (List.getElem?_eq_some_iff.1 hj).1; simpa using this
      have h3 := (hf j hjl).1
      rw [Addr.add_lit] at h3
      rw [h3]
      simp only [List.map_map, List.getElem?_map, List.getElem?_range hjl, Option.map_some, Function.comp] at hj
      exact hj
    · obtain ⟨i, hi, rfl⟩ := List.mem_map.1 hp
      exact (hf i (List.mem_range.1 hi)).2.1
    · obtain ⟨i, hi, rfl⟩ := List.mem_map.1 hp
      refine (hf i (List.mem_range.1 hi)).2.2 (fun q hq => hw q ?_)
      have hd : d = (DataW.slice ((List.range len).map D) _ ) := (Prod.mk.inj hx).1
      rw [hd]
      simp only [DataW.weights, Try.underlying23]
      exact List.mem_cons_of_mem _ (List.mem_append_left _ (weights_allC (List.mem_map.2 ⟨i, hi, rfl⟩) hq))
end
end Go.Proofs.Ytmgfcgknajehaaa
