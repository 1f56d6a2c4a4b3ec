/-
  PARTS OF A SLICE OF BYTES: from a place on, up to one, between two. Condition: the places are within it.
-/
import Derived.Test.YtenahnbfaekljaaSteps
namespace Go.Proofs.Ytenahnbfaekljaa
open Go.RowKit

theorem Sl.none_nil {α : Type} {f : α → Value} {w : World} {L cap : Nat} {l : List α} (h : Sl f w (.slice none L cap) l) : l = [] := by
  rcases h with ⟨ao, cap, h, _⟩ | ⟨b, o, cap, h, _⟩
  · exact h
  · cases h
theorem cut_run (a : Addr) (L cap n m : Nat) (h1 : n ≤ m) (h2 : m ≤ cap) (W : World) : (Instr.slice 26 (.slice (some a) L cap) (some (.int .i64 (n : Int))) (some (.int .i64 (m : Int))) none).run Try.prog W = .ok (.slice (if cap = n then some a else some (a.add n)) (m - n) (cap - n)) W := by
  have g2 : (m : Int) ≤ (cap : Int) := by omega
  simp [Instr.slice, go_sem, h1, g2]
theorem from_run (a : Addr) (L cap n : Nat) (h1 : n ≤ L) (W : World) : (Instr.slice 26 (.slice (some a) L cap) (some (.int .i64 (n : Int))) none none).run Try.prog W = .ok (.slice (if cap = n then some a else some (a.add n)) (L - n) (cap - n)) W := by
  have g1 : (n : Int) ≤ (L : Int) := by omega
  simp [Instr.slice, go_sem, g1]
/-- From a place on, up to one. -/
theorem slice_mid_any (v : Value) (b : List Int) (n m : Nat) (w : World) (hv : Sl bc w v b) (hn : n ≤ m) (hm : m ≤ b.length) :
    ∃ u, (∀ W, (Instr.slice 26 v (some (.int .i64 (n : Int))) (some (.int .i64 (m : Int))) none).run Try.prog W = .ok u W) ∧ ∀ W, Sl bc W v b → Sl bc W u ((b.drop n).take (m - n)) := by
  by_cases h0 : n < m
  · obtain ⟨ao, cap, rfl⟩ := hv.form
    obtain ⟨g, o, rfl, hc, _⟩ := hv.some_at (by omega)
    refine ⟨_, cut_run _ b.length cap n m hn (by omega), fun W hW => ?_⟩
    obtain ⟨g', o', h1, h2, h3⟩ := hW.some_at (by omega)
    cases h1
    have hl : ((b.drop n).take (m - n)).length = m - n := by rw [List.length_take, List.length_drop]; omega
    refine .inr ⟨g, o + n, cap - n, by rw [if_neg (by omega), hl, Addr.add_lit], by rw [hl]; omega, fun i hi => ?_⟩
    rw [hl] at hi
    rw [Nat.add_assoc, h3 (n + i) (by omega)]
    simp [List.getElem_take, List.getElem_drop]
  · obtain rfl : n = m := by omega
    obtain ⟨ao, cap, rfl⟩ := hv.form
    have e : (b.drop n).take (n - n) = [] := by simp
    rw [e]
    cases ao with
    | none =>
      obtain rfl := hv.none_nil
      obtain rfl : n = 0 := by simpa using hm
      refine ⟨.slice none 0 cap, fun W => ?_, fun W _ => Sl.nil _ _ _ _⟩
      simp [Instr.slice, go_sem]
    | some a =>
      have hc : n ≤ cap := by
        rcases hv with ⟨_, _, rfl, h⟩ | ⟨_, _, _, h, h2, _⟩
        · have : n = 0 := by simpa using hm
          omega
        · cases h; omega
      refine ⟨_, cut_run a b.length cap n n (Nat.le_refl _) hc, fun W _ => ?_⟩
      rw [Nat.sub_self]
      exact Sl.nil _ _ _ _
/-- From a place on. -/
theorem slice_from_any (v : Value) (b : List Int) (n : Nat) (w : World) (hv : Sl bc w v b) (hn : n ≤ b.length) :
    ∃ u, (∀ W, (Instr.slice 26 v (some (.int .i64 (n : Int))) none none).run Try.prog W = .ok u W) ∧ ∀ W, Sl bc W v b → Sl bc W u (b.drop n) := by
  by_cases h0 : n < b.length
  · obtain ⟨ao, cap, rfl⟩ := hv.form
    obtain ⟨g, o, rfl, hc, _⟩ := hv.some_at (by omega)
    refine ⟨_, from_run _ b.length cap n hn, fun W hW => ?_⟩
    obtain ⟨g', o', h1, h2, h3⟩ := hW.some_at (by omega)
    cases h1
    have hl : (b.drop n).length = b.length - n := by rw [List.length_drop]
    refine .inr ⟨g, o + n, cap - n, by rw [if_neg (by omega), hl, Addr.add_lit], by rw [hl]; omega, fun i hi => ?_⟩
    rw [hl] at hi
    rw [Nat.add_assoc, h3 (n + i) (by omega)]
    simp [List.getElem_drop]
  · obtain rfl : n = b.length := by omega
    obtain ⟨ao, cap, rfl⟩ := hv.form
    rw [List.drop_length]
    cases ao with
    | none =>
      obtain rfl := hv.none_nil
      refine ⟨.slice none 0 cap, fun W => ?_, fun W _ => Sl.nil _ _ _ _⟩
      simp [Instr.slice, go_sem]
    | some a =>
      refine ⟨_, from_run a b.length cap b.length (Nat.le_refl _), fun W _ => ?_⟩
      rw [Nat.sub_self]
      exact Sl.nil _ _ _ _
theorem slice_from_sld (lo hi : Nat) (v : Value) (b : List Int) (n : Nat) (w : World) (hv : Sld lo hi bc w v b) (hn : n ≤ b.length) :
    ∃ u, (∀ W, (Instr.slice 26 v (some (.int .i64 (n : Int))) none none).run Try.prog W = .ok u W) ∧ ∀ W, Sld lo hi bc W v b → Sld lo hi bc W u (b.drop n) := by
  by_cases h0 : n < b.length
  · rcases hv with ⟨_, _, rfl, _⟩ | ⟨g, o, cap, rfl, hc, hp, _⟩
    · simp at h0
    refine ⟨_, from_run _ b.length cap n hn, fun W hW => ?_⟩
    rcases hW with ⟨_, _, rfl, _⟩ | ⟨g', o', cap', h1, h2, hp', h3⟩
    · simp at h0
    cases h1
    have hl : (b.drop n).length = b.length - n := by rw [List.length_drop]
    refine .inr ⟨g, o + n, cap - n, by rw [if_neg (by omega), hl, Addr.add_lit], by rw [hl]; omega, hp, fun i hi => ?_⟩
    rw [hl] at hi
    rw [Nat.add_assoc, h3 (n + i) (by omega)]
    simp [List.getElem_drop]
  · obtain ⟨u, h1, h2⟩ := slice_from_any v b n w hv.sl hn
    refine ⟨u, h1, fun W hW => ?_⟩
    have h3 := h2 W hW.sl
    have e : b.drop n = [] := List.drop_eq_nil_of_le (by omega)
    rw [e] at h3 ⊢
    obtain ⟨ao, cap, rfl⟩ := h3.form
    exact Sld.nil _ _ _ _ _ _
end Go.Proofs.Ytenahnbfaekljaa
