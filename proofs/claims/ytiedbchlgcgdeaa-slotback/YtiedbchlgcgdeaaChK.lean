/-
  RECORDS BEHIND A CRASH, AS LISTS: blocks that were written one behind the other, of which each is there whole, or as it was, or has no stamp: a beginning of the records is found. Mathematics alone: no program in it.
-/
import Derived.Test.YtiedbchlgcgdeaaChA
namespace Go.Proofs.Ytiedbchlgcgdeaa

/-- All blocks that a record goes on in have the next stamps. -/
theorem recG_st {t : Cs} : ∀ (n : Nat) (a : Int) (p : Pc) (b : List Int) (r : List Int × Int), p.lf ≤ 46 * (n + 1) → recG t n a p b = some r → ∀ k : Nat, 46 * ((k : Int) + 1) < p.lf → (pcs (vw t (a + k))).st = p.st + k + 1
  | 0, a, p, b, r, hn, _, k, hk => by omega
  | n + 1, a, p, b, r, hn, h, k, hk => by
    unfold recG at h
    rw [if_pos (by omega)] at h
    split at h
    · cases h
    · rename_i hh
      have e : (pcs (vw t a)).lf = p.lf - 46 := by omega
      have es : (pcs (vw t a)).st = p.st + 1 := by omega
      cases k with
      | zero => simpa using es
      | succ k =>
        have ih := recG_st n (a + 1) (pcs (vw t a)) _ r (by rw [e]; omega) h k (by rw [e]; omega)
        rw [show a + ((k + 1 : Nat) : Int) = a + 1 + k by omega, ih, es]
        omega
theorem recS_st {t : Cs} {a last : Int} {r : List Int × Int} (h : recS t a last = some r) : last < (pcs (vw t a)).st ∧ (pcs (vw t a)).bg = true ∧ ∀ k : Nat, 46 * (k : Int) < (pcs (vw t a)).lf → (pcs (vw t (a + k))).st = (pcs (vw t a)).st + k := by
  unfold recS at h
  split at h
  · cases h
  · rename_i hh
    refine ⟨by omega, ?_, fun k hk => ?_⟩
    · cases hb : (pcs (vw t a)).bg
      · exact absurd (.inl hb) hh
      · rfl
    · cases k with
      | zero => simp
      | succ k =>
        have := recG_st 400 (a + 1) _ _ _ (by omega) h k (by omega)
        rw [show a + ((k + 1 : Nat) : Int) = a + 1 + k by omega, this]
        omega
/-- Blocks from a place on: whole, as they were, or without a stamp. -/
def Mix (t t0 : Cs) (a : Int) (B : Nat → List Int) (n : Nat) : Prop := ∀ i : Nat, i < n → vw t (a + i) = B i ∨ vw t (a + i) = vw t0 (a + i) ∨ (pcs (vw t (a + i))).st ≤ 0
/-- The blocks of a record, at its place among those that were written. -/
def isRec (B : Nat → List Int) (st : Int) (i : Nat) (b : List Int) : Prop := ∀ k : Nat, k = 0 ∨ 46 * k < b.length → B (i + k) = blkOf (st + ((i + k : Nat) : Int)) (decide (k = 0)) (b.drop (46 * k))
theorem rec_whole {t t0 : Cs} {a st last : Int} {B : Nat → List Int} {n i : Nat} {b : List Int} {r : List Int × Int} (hm : Mix t t0 a B n) (hold : ∀ q, (pcs (vw t0 q)).st < st) (hs : 0 < st) (hi : i < n) (hB : isRec B st i b) (hl : b.length ≤ 16448) (hst : st + n ≤ 1152921504606846976) (hn : (i : Int) + blks b.length ≤ n) (hN : vw t (a + i) = B i) (h : recS t (a + i) last = some r) : ∀ k : Nat, k = 0 ∨ 46 * k < b.length → vw t (a + ((i + k : Nat) : Int)) = B (i + k) := by
  obtain ⟨_, _, h3⟩ := recS_st h
  have e0 := hB 0 (.inl rfl)
  simp only [Nat.add_zero, Nat.mul_zero, List.drop_zero, decide_true] at e0
  have hp : pcs (vw t (a + i)) = ⟨st + i, true, b.length, b.take 46⟩ := by
    rw [hN, e0, pcs_blk true (by omega) (by omega) hl]
  intro k hk
  by_cases hk0 : k = 0
  · rw [hk0]; simpa using hN
  · have hk2 : 46 * k < b.length := hk.resolve_left hk0
    have hin : i + k < n := by unfold blks at hn; split at hn <;> omega
    have h4 := h3 k (by rw [hp]; simp only; omega)
    rw [hp] at h4
    simp only at h4
    rw [show a + (i : Int) + (k : Int) = a + ((i + k : Nat) : Int) by omega] at h4
    rcases hm (i + k) hin with e | e | e
    · exact e
    · rw [e] at h4
      have := hold (a + ((i + k : Nat) : Int))
      omega
    · omega
/-- A record of which one block is not whole does not stand. -/
theorem rec_torn {t t0 : Cs} {a st last : Int} {B : Nat → List Int} {n i : Nat} {b : List Int} (hbk : ∀ q, Blk (vw t q)) (hm : Mix t t0 a B n) (hout : ∀ q, q < a ∨ a + n ≤ q → vw t q = vw t0 q) (hold : ∀ q, (pcs (vw t0 q)).st < st) (hs : 0 < st) (hi : i < n) (hB : isRec B st i b) (hl : b.length ≤ 16448) (hst : st + n ≤ 1152921504606846976) (hBs : ∀ j : Nat, j < n → (pcs (B j)).st = st + j) (hn : (i : Int) + blks b.length ≤ n) (hla : 0 ≤ last) (h0 : i = 0 → recS t0 a last = none) (hl0 : 0 < i → st ≤ last) (hw : ¬ ∀ k : Nat, k = 0 ∨ 46 * k < b.length → vw t (a + ((i + k : Nat) : Int)) = B (i + k)) : recS t (a + i) last = none := by
  cases h : recS t (a + i) last with
  | none => rfl
  | some r =>
    exfalso
    obtain ⟨h1, h2, h3⟩ := recS_st h
    rcases hm i hi with e | e | e
    · exact hw (rec_whole hm hold hs hi hB hl hst hn e h)
    · have hlt := hold (a + i)
      rw [← e] at hlt
      by_cases hi0 : i = 0
      · subst hi0
        have h4 := h0 rfl
        simp only [Int.natCast_zero, Int.add_zero] at h h1 h2 h3 hlt e
        obtain ⟨b', st'⟩ := r
        have hlen := recS_len hbk h
        have hs' : recS t0 a last = some (b', st') := recS_same hbk h (fun q q1 q2 => by
          by_cases hq : q < a + n
          · obtain ⟨k, rfl⟩ : ∃ k : Nat, q = a + k := ⟨(q - a).toNat, by omega⟩
            have h6 : (pcs (vw t (a + k))).st = (pcs (vw t a)).st + k := by
              by_cases hk0 : k = 0
              · subst hk0; simp
              · exact h3 k (by rw [← hlen]; unfold blks at q2; split at q2 <;> omega)
            rcases hm k (by omega) with e5 | e5 | e5
            · exfalso
              have h7 := hBs k (by omega)
              rw [e5] at h6
              omega
            · exact e5.symm
            · exfalso
              omega
          · exact (hout q (.inr (by omega))).symm)
        rw [h4] at hs'
        cases hs'
      · have := hl0 (by omega)
        omega
    · omega
/-- Records one behind the other, from the block i on. -/
def isRecs (B : Nat → List Int) (st : Int) : Nat → List (List Int) → Prop
  | _, [] => True
  | i, b :: r => (0 < b.length ∧ b.length ≤ 16448 ∧ isRec B st i b) ∧ isRecs B st (i + (blks b.length).toNat) r
def lkR (a : Int) : Nat → List (List Int) → List Lk
  | _, [] => []
  | i, b :: r => (a + i, b) :: lkR a (i + (blks b.length).toNat) r
def endR : Nat → List (List Int) → Nat
  | i, [] => i
  | i, b :: r => endR (i + (blks b.length).toNat) r
/-- Behind a crash a beginning of the records is found, and nothing else. -/
theorem found_mix {t t0 : Cs} {a st last0 : Int} {B : Nat → List Int} {n : Nat} (hbk : ∀ q, Blk (vw t q)) (hm : Mix t t0 a B n) (hout : ∀ q, q < a ∨ a + n ≤ q → vw t q = vw t0 q) (hold : ∀ q, (pcs (vw t0 q)).st < st) (hs : 0 < st) (hst : st + n + 16448 ≤ 1152921504606846976) (hBs : ∀ j : Nat, j < n → (pcs (B j)).st = st + j) (h00 : recS t0 a last0 = none) (hl00 : 0 ≤ last0 ∧ last0 < st) : ∀ (rs : List (List Int)) (i : Nat) (last : Int), isRecs B st i rs → endR i rs = n → (i = 0 → last = last0) → (0 < i → last = st + i - 1) → ∃ k : Nat, k ≤ rs.length ∧ ∃ a' last', Opn t (a + i) last (lkR a i (rs.take k)) a' last' ∧ a' = a + endR i (rs.take k)
  | [], i, last, _, he, hi0, hi1 => by
    refine ⟨0, Nat.le_refl _, _, _, .stop ?_, rfl⟩
    simp only [endR] at he
    subst he
    cases h : recS t (a + i) last with
    | none => rfl
    | some r =>
      exfalso
      obtain ⟨h1, _, _⟩ := recS_st h
      by_cases h0 : i = 0
      · subst h0
        rw [hi0 rfl] at h
        simp only [Int.natCast_zero, Int.add_zero] at h
        obtain ⟨b', st'⟩ := r
        have : recS t0 a last0 = some (b', st') := recS_same hbk h (fun q _ _ => (hout q (.inr (by omega))).symm)
        rw [h00] at this
        cases this
      · rw [hout (a + i) (.inr (by omega))] at h1
        have := hold (a + i)
        have := hi1 (by omega)
        omega
  | b :: r, i, last, hr, he, hi0, hi1 => by
    obtain ⟨⟨hb0, hb1, hb2⟩, hr2⟩ := hr
    have hpos := blks_pos b.length
    have hen : ∀ (rs : List (List Int)) (j : Nat), j ≤ endR j rs := by
      intro rs
      induction rs with
      | nil => intro j; exact Nat.le_refl _
      | cons x xs ih => intro j; have := ih (j + (blks x.length).toNat); simp only [endR]; omega
    have h1 := hen r (i + (blks b.length).toNat)
    simp only [endR] at he
    by_cases hw : ∀ k : Nat, k = 0 ∨ 46 * k < b.length → vw t (a + ((i + k : Nat) : Int)) = B (i + k)
    · have hla : last < st + i := by
        by_cases h0 : i = 0
        · rw [hi0 h0]; omega
        · have := hi1 (by omega); omega
      have hrec : recS t (a + i) last = some (b, st + i + blks b.length - 1) := by
        refine rec_put hb1 (by omega) (by omega) hla ?_ (fun j hj hj2 => ?_)
        · have := hw 0 (.inl rfl)
          rw [Nat.add_zero] at this
          rw [this]
          have := hb2 0 (.inl rfl)
          simpa using this
        · have h5 := hw j (.inr hj2)
          rw [show a + (i : Int) + (j : Int) = a + ((i + j : Nat) : Int) by omega, h5, hb2 j (.inr hj2), decide_eq_false (by omega)]
          congr 1
          omega
      obtain ⟨k, hk, a', last', hO, ha'⟩ := found_mix hbk hm hout hold hs hst hBs h00 hl00 r (i + (blks b.length).toNat) (st + i + blks b.length - 1) hr2 he (fun h => by omega) (fun _ => by omega)
      refine ⟨k + 1, by simp; omega, a', last', ?_, by simpa [endR] using ha'⟩
      rw [List.take_succ_cons]
      have h6 := Opn.more hrec (by rw [show a + (i : Int) + blks b.length = a + ((i + (blks b.length).toNat : Nat) : Int) by omega]; exact hO)
      rw [if_neg (by omega)] at h6
      exact h6
    · refine ⟨0, Nat.zero_le _, _, _, .stop ?_, rfl⟩
      refine rec_torn hbk hm hout hold hs (by omega) hb2 hb1 (by omega) hBs (by omega) ?_ (fun h => ?_) (fun h => ?_) hw
      · by_cases h0 : i = 0
        · rw [hi0 h0]; omega
        · have := hi1 (by omega); omega
      · rw [hi0 h]; exact h00
      · have := hi1 h; omega
end Go.Proofs.Ytiedbchlgcgdeaa
