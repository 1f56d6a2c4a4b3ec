/-
  THE HIGHEST STAMP of all blocks that are synced, from the base on (chain.highest). Condition: fewer than thirty thousand blocks and writes.
-/
import Derived.Test.YtiedbchlgcgdeaaChU
namespace Go.Proofs.Ytiedbchlgcgdeaa
open Go.RowKit

/-- The highest stamp, ahead or behind, of these blocks from base on. -/
def hiS (base : Int) (l : Cs) : Int := l.foldl (fun m p => if base ≤ p.1 then max (max m (stp (p.2.take 8))) (stp (p.2.drop 56)) else m) 0
theorem hi_step (base : Int) (l : Cs) (k : Nat) (h : k < l.length) : hiS base (l.take (k + 1)) = if base ≤ (l[k]).1 then max (max (hiS base (l.take k)) (stp ((l[k]).2.take 8))) (stp ((l[k]).2.drop 56)) else hiS base (l.take k) := by
  unfold hiS
  rw [take_step h, List.foldl_append]
  rfl
theorem stp_bd {l : List Int} (h : l.length = 8) (hb : ∀ x ∈ l, 0 ≤ x ∧ x ≤ 255) : 0 ≤ stp l ∧ stp l ≤ 1152921504606846976 := by
  have := num8_bd 8 l h hb
  unfold stp
  split <;> omega
theorem hiS_bd {base : Int} {l : Cs} (h : ∀ p ∈ l, Blk p.2) : 0 ≤ hiS base l ∧ hiS base l ≤ 1152921504606846976 := by
  unfold hiS
  suffices H : ∀ (l : Cs) (m : Int), (∀ p ∈ l, Blk p.2) → 0 ≤ m ∧ m ≤ 1152921504606846976 → 0 ≤ l.foldl (fun m p => if base ≤ p.1 then max (max m (stp (p.2.take 8))) (stp (p.2.drop 56)) else m) m ∧ l.foldl (fun m p => if base ≤ p.1 then max (max m (stp (p.2.take 8))) (stp (p.2.drop 56)) else m) m ≤ 1152921504606846976 from H l 0 h (by omega)
  intro l
  induction l with
  | nil => intro m _ hm; exact hm
  | cons p r ih =>
    intro m hp hm
    rw [List.foldl_cons]
    refine ih _ (fun q hq => hp q (List.mem_cons_of_mem _ hq)) ?_
    have hb := hp p List.mem_cons_self
    have h1 := stp_bd (l := p.2.take 8) (by rw [List.length_take, hb.1]; decide) (fun x hx => hb.2 x (List.mem_of_mem_take hx))
    have h2 := stp_bd (l := p.2.drop 56) (by rw [List.length_drop, hb.1]) (fun x hx => hb.2 x (List.mem_of_mem_drop hx))
    split <;> omega
theorem run_max3 (ts : Array TypeId) (t : TypeId) (x y z : Int) (W : World) : (Builtin.max_ ts t #[.int .i64 x, .int .i64 y, .int .i64 z]).run Try.prog W = .ok (.int .i64 (max (max x y) z)) W := by
  have e1 : (if x < y then y else x) = max x y := by split <;> omega
  have e2 : (if max x y < z then z else max x y) = max (max x y) z := by split <;> omega
  simp [Builtin.max_, Builtin.max2, e1, e2]
theorem yields_max3 {ops : Array Oper} {o : Oper} {a : Act} {S : World → Prop} (hw : Region.wanted o (yielded ops a.tmps) = true) (x y z : Operand) (ho : o.op = .call { callee := .builtin .max, args := #[x, y, z], argTypes := #[3, 3, 3] }) (p q r : Int) (hx : a.eval x = .int .i64 p) (hy : a.eval y = .int .i64 q) (hz : a.eval z = .int .i64 r) : YieldsIf Try.prog ops S o (.int .i64 (max (max p q) r)) a :=
  .inl ⟨hw, fun w _ => by
    simp [execOp, ho, resolve, invoke, builtin, hx, hy, hz, run_max3, Result.andThen]⟩
theorem cw_at {W : World} {B : Nat} {a0 : Option Addr} {n k0 : Nat} {ps : List Ce} (h : Cw W B (.slice a0 n k0) ps) {k : Nat} (hk : k < ps.length) : ∃ cb, a0 = some ⟨cb, 0, none⟩ ∧ W.cell? ⟨cb, k * 2, none⟩ = some (.int .i64 ps[k].1) ∧ W.cell? ⟨cb, k * 2 + 1, none⟩ = some (.slice (some ⟨(ps[k]).2.1, 0, none⟩) 64 64) := by
  rcases h.own.2 with ⟨_, h0⟩ | ⟨g, cap, cur, e, a2, a3, a4, a5, a6, a7⟩
  · omega
  · cases e
    have hg : ∀ (qs : List Ce) (i : Nat) (hi : i < qs.length), (ces qs)[i * 2]? = some (.int .i64 (qs[i]).1) ∧ (ces qs)[i * 2 + 1]? = some (.slice (some ⟨(qs[i]).2.1, 0, none⟩) 64 64) := by
      intro qs
      induction qs with
      | nil => intro i hi; simp at hi
      | cons q r ih =>
        intro i hi
        cases i with
        | zero => exact ⟨rfl, rfl⟩
        | succ i =>
          have := ih i (by simpa using hi)
          rw [show (i + 1) * 2 = i * 2 + 2 by omega]
          exact this
    obtain ⟨h1, h2⟩ := hg ps k hk
    have hl : (ces ps).length = ps.length * 2 := by
      have := congrArg List.length a7
      rw [List.length_take] at this
      unfold ces
      clear h1 h2 hg this a7 a6 a5 a4 a3 a2 h hk
      induction ps with
      | nil => rfl
      | cons q r ih => rw [List.flatMap_cons, List.length_append, ih, List.length_cons]; simp only [cec, List.length_cons, List.length_nil]; omega
    refine ⟨g, rfl, ?_, ?_⟩
    · rw [← a7, List.getElem?_take_of_lt (by omega)] at h1
      simp only [World.cell?, a3]
      simpa using h1
    · rw [← a7, List.getElem?_take_of_lt (by omega)] at h2
      simp only [World.cell?, a3]
      simpa using h2
end Go.Proofs.Ytiedbchlgcgdeaa
