/-
  A CHAIN IS CUT (chain.Cut): a mark is written, what is synced behind it is freed; and blocks are trimmed (chain.Trim). Condition: fewer than twenty thousand blocks and writes.
-/
import Derived.Test.YtiedbchlgcgdeaaChO
import Derived.Test.YtiedbchlgcgdeaaBlkFr
namespace Go.Proofs.Ytiedbchlgcgdeaa
open Go.RowKit

/-- Blocks are freed, one by one. -/
def frN (s : Dst) (l : List Int) : Dst := ⟨s.room, s.cs, s.lo ++ l.map wfr⟩
theorem frN_nil (s : Dst) : frN s [] = s := by simp [frN]
theorem frN_snoc {s : Dst} {l : List Int} {a : Int} (ha : Num a) : frS (frN s l) a = frN s (l ++ [a]) := by
  unfold frS
  rw [if_pos (show 0 ≤ a ∧ a ≤ 1073741824 from ha)]
  simp [frN]
theorem frN_wt (s : Dst) (l : List Int) : (frN s l).wt = s.wt + l.length := by simp [frN, Dst.wt]; omega
/-- The numbers of blocks between two. -/
def rngN (lo hi : Int) (l : Cs) : List Int := (l.filter fun p => decide (lo ≤ p.1) && decide (p.1 < hi)).map (·.1)
theorem rngN_step (lo hi : Int) (l : Cs) (k : Nat) (h : k < l.length) : rngN lo hi (l.take (k + 1)) = rngN lo hi (l.take k) ++ (if lo ≤ (l[k]).1 ∧ (l[k]).1 < hi then [(l[k]).1] else []) := by
  unfold rngN
  rw [take_step h, List.filter_append, List.map_append]
  congr 1
  by_cases h1 : lo ≤ (l[k]).1 ∧ (l[k]).1 < hi
  · simp [h1]
  · rw [if_neg h1]
    have : (decide (lo ≤ (l[k]).1) && decide ((l[k]).1 < hi)) = false := by simpa [Bool.and_eq_false_iff, Decidable.not_and_iff_or_not] using h1
    simp [this]
theorem rngN_len (lo hi : Int) (l : Cs) : (rngN lo hi l).length ≤ l.length := by unfold rngN; rw [List.length_map]; exact List.length_filter_le _ _
/-- The cells that are told lie where no store is. -/
def Kd (d bS bT : Nat) (u : Value) (W : World) (a0 : Option Addr) (cs : Cs) : Prop := ∀ k (_ : k < cs.length), ∃ cb g, a0 = some ⟨cb, 0, none⟩ ∧ ¬ Own d bS bT u cb ∧ W.cell? ⟨cb, k * 2, none⟩ = some (.int .i64 cs[k].1) ∧ W.cell? ⟨cb, k * 2 + 1, none⟩ = some (.slice (some ⟨g, 0, none⟩) 64 64)
theorem Kd.step {d bS bT : Nat} {u u' : Value} {W W' : World} {a0 : Option Addr} {cs : Cs} (h : Kd d bS bT u W a0 cs) (hx : Dx d bS bT u W W' u') : Kd d bS bT u' W' a0 cs := fun k hk => by
  obtain ⟨cb, g, h1, h2, h3, h4⟩ := h k hk
  exact ⟨cb, g, h1, hx.own (cell_block h3) h2, (hx.cell (cell_block h3) h2 _).trans h3, (hx.cell (cell_block h3) h2 _).trans h4⟩
theorem kd_of {d bS bT B : Nat} {u : Value} {W : World} {a0 : Option Addr} {n c : Nat} {ps : List Ce} (h : Cw W B (.slice a0 n c) ps) (ho : ∀ k, Own d bS bT u k → k < B) : Kd d bS bT u W a0 (csOf ps) := fun k hk => by
  have hk' : k < ps.length := by simpa [csOf] using hk
  obtain ⟨cb, h1, h2, h3⟩ := cw_at h hk'
  refine ⟨cb, _, h1, fun q => ?_, ?_, h3⟩
  · have h4 := ho cb q
    rcases h.own.2 with ⟨e, _⟩ | ⟨g, cap, cur, e, a2, _⟩
    · cases e; cases h1
    · cases e; cases h1; omega
  · rw [h2]; simp [csOf]
/-- What a cut leaves. -/
def cutS (s : Dst) (a sp nx : Int) : Dst := syS (frN (syS (pS s a sp [] 1)) (rngN (a + 1) nx (syS (pS s a sp [] 1)).cs))
/-- Numbers one behind the other. -/
def trL (a : Int) (n : Nat) : List Int := (List.range n).map fun (i : Nat) => a + (i : Int)
theorem trL_succ (a : Int) (n : Nat) : trL a (n + 1) = trL a n ++ [a + n] := by simp [trL, List.range_succ]
theorem trL_len (a : Int) (n : Nat) : (trL a n).length = n := by simp [trL]
end Go.Proofs.Ytiedbchlgcgdeaa
