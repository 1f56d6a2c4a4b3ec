/-
  A CHAIN THAT GROWS, AS LISTS: a record that was written stands; what was found is found again where the blocks ahead are as they were. Mathematics alone: no program in it, no condition.
-/
import Derived.Test.YtiedbchlgcgdeaaChM
namespace Go.Proofs.Ytiedbchlgcgdeaa

theorem blks_is {n : Int} {i : Int} (h0 : 0 ≤ i) (h1 : i = 0 ∨ 46 * i < n) (h2 : n ≤ 46 * (i + 1)) : blks n = i + 1 := by
  unfold blks
  split <;> omega
theorem recG_run {t : Cs} {b : List Int} {a st : Int} (hl : b.length ≤ 16448) (h0 : 0 ≤ st) (h1 : st + b.length ≤ 1152921504606846976) : ∀ (n i : Nat) (p : Pc), p.st = st + i → p.lf = (b.length : Int) - 46 * i → (i = 0 ∨ 46 * i < b.length) → b.length ≤ 46 * (i + 1 + n) → (∀ j : Nat, i < j → 46 * j < b.length → vw t (a + j) = blkOf (st + j) false (b.drop (46 * j))) → recG t n (a + i + 1) p (b.take (46 * (i + 1))) = some (b, st + blks b.length - 1)
  | 0, i, p, hs, hf, hi, hn, _ => by
    unfold recG
    rw [List.take_of_length_le (by omega), hs, blks_is (n := b.length) (i := i) (by omega) (by omega) (by omega)]
    congr 2
    omega
  | n + 1, i, p, hs, hf, hi, hn, hv => by
    unfold recG
    by_cases h : 46 < p.lf
    · rw [if_pos h]
      have hj : 46 * (i + 1) < b.length := by omega
      have e := hv (i + 1) (by omega) hj
      rw [show a + ((i + 1 : Nat) : Int) = a + i + 1 by omega] at e
      rw [e, pcs_blk false (by omega) (by omega) (by rw [List.length_drop]; omega)]
      rw [if_neg (by rw [List.length_drop]; simp only [Bool.false_eq_true, false_or, not_or, Decidable.not_not]; omega)]
      have ih := recG_run hl h0 h1 n (i + 1) ⟨st + ((i + 1 : Nat) : Int), false, ((b.drop (46 * (i + 1))).length : Int), (b.drop (46 * (i + 1))).take 46⟩ rfl (by simp only [List.length_drop]; omega) (.inr hj) (by omega) (fun j hj1 hj2 => hv j (by omega) hj2)
      rw [← ih]
      congr 1
      · omega
      · rw [show 46 * (i + 1 + 1) = 46 * (i + 1) + 46 by omega, List.take_add]
    · rw [if_neg h, List.take_of_length_le (by omega), hs, blks_is (n := b.length) (i := i) (by omega) (by omega) (by omega)]
      congr 2
      omega
/-- A record that was written stands. -/
theorem rec_put {t : Cs} {b : List Int} {a st last : Int} (hl : b.length ≤ 16448) (h0 : 0 ≤ st) (h1 : st + b.length ≤ 1152921504606846976) (hla : last < st) (hv0 : vw t a = blkOf st true b) (hv : ∀ j : Nat, 0 < j → 46 * j < b.length → vw t (a + j) = blkOf (st + j) false (b.drop (46 * j))) : recS t a last = some (b, st + blks b.length - 1) := by
  unfold recS
  rw [hv0, pcs_blk true h0 (by omega) hl]
  rw [if_neg (by simp only [Bool.true_eq_false, false_or, not_or]; omega)]
  have := recG_run (t := t) (a := a) hl h0 h1 400 0 ⟨st, true, (b.length : Int), b.take 46⟩ (by simp) (by simp) (.inl rfl) (by omega) (fun j hj h2 => hv j hj h2)
  simpa using this
/-- What a record was read from. -/
theorem recG_same {t t' : Cs} : ∀ (n : Nat) (a : Int) (p : Pc) (b : List Int) (r : List Int × Int), p.lf ≤ 46 * (n + 1) → recG t n a p b = some r → (∀ q : Int, a ≤ q → q < a + (blks p.lf - 1) → vw t' q = vw t q) → recG t' n a p b = some r
  | 0, a, p, b, r, _, h, _ => h
  | n + 1, a, p, b, r, hn, h, hv => by
    unfold recG at h ⊢
    split at h
    · rename_i h46
      rw [if_pos h46]
      have hb : blks p.lf = blks (p.lf - 46) + 1 := by unfold blks; split <;> split <;> omega
      have hp := blks_pos (p.lf - 46)
      rw [hv a (Int.le_refl _) (by omega)]
      split at h
      · cases h
      · rename_i hh
        rw [if_neg hh]
        have e : (pcs (vw t a)).lf = p.lf - 46 := by omega
        exact recG_same n _ _ _ r (by rw [e]; omega) h (fun q h1 h2 => hv q (by omega) (by rw [e] at h2; omega))
    · rename_i h46
      rw [if_neg h46]
      exact h
theorem recG_len {t : Cs} (hb : ∀ q, Blk (vw t q)) : ∀ (n : Nat) (a : Int) (p : Pc) (b : List Int) (r : List Int × Int), p.lf ≤ 46 * (n + 1) → recG t n a p b = some r → (r.1.length : Int) = b.length + (p.lf - min p.lf 46)
  | 0, a, p, b, r, hn, h => by
    simp only [recG, Option.some.injEq] at h
    rw [← h]
    simp only
    omega
  | n + 1, a, p, b, r, hn, h => by
    unfold recG at h
    split at h
    · split at h
      · cases h
      · rename_i h46 hh
        have e : (pcs (vw t a)).lf = p.lf - 46 := by omega
        have ih := recG_len hb n _ _ _ r (by rw [e]; omega) h
        rw [List.length_append] at ih
        have ho := own_len (hb a)
        have e2 : lfO (vw t a) = p.lf - 46 := e
        rw [e2] at ho
        rw [e] at ih
        omega
    · simp only [Option.some.injEq] at h
      rw [← h]
      simp only
      omega
theorem recS_len {t : Cs} (hb : ∀ q, Blk (vw t q)) {a last : Int} {b : List Int} {st : Int} (h : recS t a last = some (b, st)) : (b.length : Int) = (pcs (vw t a)).lf := by
  unfold recS at h
  split at h
  · cases h
  · rename_i hh
    have := recG_len hb 400 _ _ _ _ (by omega) h
    have ho := own_len (hb a)
    have e : lfO (vw t a) = (pcs (vw t a)).lf := rfl
    rw [e] at ho
    simp only at this
    omega
theorem recS_same {t t' : Cs} (hb : ∀ q, Blk (vw t q)) {a last : Int} {b : List Int} {st : Int} (h : recS t a last = some (b, st)) (hv : ∀ q : Int, a ≤ q → q < a + blks b.length → vw t' q = vw t q) : recS t' a last = some (b, st) := by
  have hlen := recS_len hb h
  have hp := blks_pos b.length
  unfold recS at h ⊢
  rw [hv a (Int.le_refl _) (by omega)]
  split at h
  · cases h
  · rename_i hh
    rw [if_neg hh]
    exact recG_same 400 _ _ _ _ (by omega) h (fun q h1 h2 => hv q (by omega) (by rw [hlen]; omega))
theorem Opn.le {t : Cs} {a last : Int} {L : List Lk} {x y : Int} (h : Opn t a last L x y) : a ≤ x ∧ last ≤ y := by
  induction h with
  | stop _ => exact ⟨Int.le_refl _, Int.le_refl _⟩
  | @more _ _ b _ _ _ _ h1 _ ih =>
    have := blks_pos b.length
    have := recS_last h1
    simp only at this
    omega
/-- What was found is found again, and what stands behind it besides. -/
theorem Opn.ext {t t' : Cs} (hb : ∀ q, Blk (vw t q)) {a last : Int} {L M : List Lk} {x y x' y' : Int} (h : Opn t a last L x y) (hv : ∀ q : Int, a ≤ q → q < x → vw t' q = vw t q) (k : Opn t' x y M x' y') : Opn t' a last (L ++ M) x' y' := by
  induction h with
  | stop _ => exact k
  | @more _ _ b _ _ _ _ h1 h2 ih =>
    rw [List.append_assoc]
    have := h2.le
    have hp := blks_pos b.length
    exact .more (recS_same hb h1 (fun q q1 q2 => hv q q1 (by omega))) (ih (fun q q1 q2 => hv q (by omega) q2) k)
theorem Opn.end {t : Cs} {a last : Int} {L : List Lk} {x y : Int} (h : Opn t a last L x y) : recS t x y = none := by
  induction h with
  | stop h => exact h
  | more _ _ ih => exact ih
end Go.Proofs.Ytiedbchlgcgdeaa
