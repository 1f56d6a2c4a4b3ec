/-
  SMALL STEPS: a slice that has something has a place; a beginning of a slice; an append as one step of a region that draws its order. Condition: fewer than a million bytes.
-/
import Derived.Test.YtenahnbfaekljaaCrcOpen
namespace Go.Proofs.Ytenahnbfaekljaa
open Go.RowKit

theorem Sl.some_at {α : Type} {f : α → Value} {w : World} {ao : Option Addr} {L cap : Nat} {l : List α} (h : Sl f w (.slice ao L cap) l) (hl : 0 < l.length) : ∃ b o, ao = some ⟨b, o, none⟩ ∧ l.length ≤ cap ∧ ∀ i (h : i < l.length), w.cell? ⟨b, o + i, none⟩ = some (f l[i]) := by
  rcases h with ⟨_, _, rfl, _⟩ | ⟨b, o, c, h1, h2, h3⟩
  · simp at hl
  · cases h1
    exact ⟨b, o, rfl, h2, h3⟩
theorem slice_to_any (v : Value) (b : List Int) (n : Nat) (w : World) (hv : Sl bc w v b) (hn : n ≤ b.length) :
    ∃ u, (∀ W, (Instr.slice 26 v none (some (.int .i64 (n : Int))) none).run Try.prog W = .ok u W) ∧ ∀ W, Sl bc W v b → Sl bc W u (b.take n) := by
  by_cases h0 : 0 < b.length
  · obtain ⟨ao, cap, rfl⟩ := hv.form
    obtain ⟨g, o, rfl, hc, _⟩ := hv.some_at h0
    refine ⟨_, slice_to g o b.length cap n (by omega), fun W hW => ?_⟩
    obtain ⟨g', o', h1, h2, h3⟩ := hW.some_at h0
    cases h1
    refine .inr ⟨g, o, cap, by rw [List.length_take, Nat.min_eq_left hn], by rw [List.length_take]; omega, cell_take n h3⟩
  · obtain rfl : b = [] := List.length_eq_zero_iff.1 (by omega)
    obtain rfl : n = 0 := by simpa using hn
    obtain ⟨ao, cap, rfl⟩ := hv.form
    refine ⟨.slice ao 0 cap, fun W => ?_, fun W _ => Sl.nil _ _ _ _⟩
    simp [Instr.slice, go_sem]
theorem hs_put {F : World → Prop} {N : Nat} {w0 W W' : World} (hF : ∀ W, Below N w0 W → F W) (hb : Below N W W') (h : F W ∧ Below N w0 W ∧ N ≤ W.heap.size) : F W' ∧ Below N w0 W' ∧ N ≤ W'.heap.size :=
  have k := h.2.1.trans hb
  ⟨hF _ k, k, Nat.le_trans h.2.2 hb.size⟩
/-- An append as one step of a region that draws. -/
theorem step_append_rw {ops : Array Oper} {o : Oper} {a : Act} {w : World} {K : Act → World → Prop} {Q : Exit → Act → World → Prop} {E : Prop} (hg : o.guard = none) (s x : Operand)
    (ho : o.op = .call { callee := .builtin .append, args := #[s, x], argTypes := #[26, 26] }) (B : Nat) (v : Value) (n : Nat) (cur : List Value) (hs : a.eval s = v) (hr : Rw B w v n cur) (hB : B ≤ w.heap.size) (ad : Addr) (m c : Nat) (news : List Value)
    (hx : a.eval x = .slice (some ad) m c) (hl : news.length = m) (hm : 0 < m) (hnews : ∀ j u, news[j]? = some u → w.cell? (ad.add j) = some u) (h1 : ∀ u ∈ news, u.oneCell' = true) (hn : n + m ≤ 1000000)
    (h : ∀ w' v' cur', Put B w v n cur w' v' m cur' news → K (a.put o.dst v') w') : if Region.wanted o (yielded ops a.tmps) = true then Oper.wp Try.prog o a w K Q else E := by
  have hw : Region.wanted o (yielded ops a.tmps) = true := by simp [Region.wanted, hg]
  rw [if_pos hw]
  obtain ⟨w', v', cur', hrun, hp⟩ := run_append_rw w o.type B v n cur hr hB ad m c news hl hm hnews h1 hn
  unfold Oper.wp
  simp [execOp, ho, resolve, invoke, builtin, hs, hx, hrun, Result.andThen]
  exact h w' v' cur' hp
theorem xor_8 {x y : Int} (h0 : 0 ≤ x) (h1 : x ≤ 255) (h2 : 0 ≤ y) (h3 : y ≤ 255) : bits .xor .u8 x y = ((x.toNat ^^^ y.toNat : Nat) : Int) := u8_xor x y h0 (by omega) h2 (by omega)
end Go.Proofs.Ytenahnbfaekljaa
