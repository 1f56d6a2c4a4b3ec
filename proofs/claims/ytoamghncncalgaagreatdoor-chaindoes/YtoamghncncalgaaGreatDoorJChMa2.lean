/-
  A CHAIN's BLOCKS AND RECORDS, AS LISTS: what a block says; which record stands at a block; which ones are found; a block of a record, and what it says. Mathematics alone: no program in it, no condition.
  A CHAIN THAT GROWS, AS LISTS: a record that was written stands; what was found is found again where the blocks ahead are as they were. Mathematics alone: no program in it, no condition.
-/
import Derived.Test.YtoamghncncalgaaGreatDoorJFramea2
namespace Go.Proofs.YtoamghncncalgaaGreatDoor

/-- Bytes as a number, the highest first. -/
def num8 (l : List Int) : Int := l.foldl (fun n x => n * 256 + x) 0
theorem num8_snoc (l : List Int) (x : Int) : num8 (l ++ [x]) = num8 l * 256 + x := by simp [num8]
theorem num8_bd : ∀ (n : Nat) (l : List Int), l.length = n → (∀ x ∈ l, 0 ≤ x ∧ x ≤ 255) → 0 ≤ num8 l ∧ num8 l < 256 ^ n := by
  intro n
  induction n with
  | zero => intro l h _; rw [List.length_eq_zero_iff.1 h]; simp [num8]
  | succ n ih =>
    intro l h hb
    have hne : l ≠ [] := by intro e; rw [e] at h; simp at h
    rw [← List.dropLast_concat_getLast hne, num8_snoc]
    have h1 := ih l.dropLast (by simp [h]) (fun x hx => hb x (mem_dropL hx))
    have h2 := hb _ (List.getLast_mem hne)
    rw [Int.pow_succ]
    omega
/-- The stamp that eight bytes are. -/
def stp (l : List Int) : Int := if num8 l ≤ 1152921504606846976 then num8 l else 0
/-- What a block says. -/
structure Pc where
  st : Int
  bg : Bool
  lf : Int
  own : List Int
def lfO (b : List Int) : Int := (b.getD 8 0 % 128) * 256 + b.getD 9 0
def pcs (b : List Int) : Pc := ⟨if b.take 8 = b.drop 56 then stp (b.take 8) else 0, decide (128 ≤ b.getD 8 0), lfO b, (b.drop 10).take (min (lfO b) 46).toNat⟩
/-- The block with the number a, as it is read. -/
def vw (t : Cs) (a : Int) : List Int := if 0 ≤ a ∧ a ≤ 1073741824 then (look t a).getD zer else zer
theorem vw_blk {t : Cs} (h : ∀ p ∈ t, Num p.1 ∧ Blk p.2) (a : Int) : Blk (vw t a) := by
  unfold vw
  split
  · exact look_blk h a
  · exact blk_zer
theorem vw_num {t : Cs} {a : Int} (h : Num a) : vw t a = (look t a).getD zer := if_pos h
theorem vw_bad {t : Cs} {a : Int} (h : ¬ Num a) : vw t a = zer := if_neg h
theorem pcs_zer : pcs zer = ⟨0, false, 0, []⟩ := rfl
theorem getD_bd {b : List Int} (h : ∀ x ∈ b, 0 ≤ x ∧ x ≤ 255) (i : Nat) : 0 ≤ b.getD i 0 ∧ b.getD i 0 ≤ 255 := by
  rw [List.getD_eq_getElem?_getD]
  cases hx : b[i]? with
  | none => simp
  | some x => exact h x (List.mem_of_getElem? hx)
theorem lfO_bd {b : List Int} (h : Blk b) : 0 ≤ lfO b ∧ lfO b ≤ 32767 := by
  have h1 := getD_bd h.2 8
  have h2 := getD_bd h.2 9
  unfold lfO
  omega
theorem own_len {b : List Int} (h : Blk b) : ((pcs b).own.length : Int) = min (lfO b) 46 := by
  have := lfO_bd h
  simp only [pcs, List.length_take, List.length_drop, h.1]
  omega
theorem st_bd {b : List Int} (h : Blk b) : 0 ≤ (pcs b).st ∧ (pcs b).st ≤ 1152921504606846976 := by
  have h1 := num8_bd 8 (b.take 8) (by rw [List.length_take, h.1]; rfl) (fun x hx => h.2 x (List.mem_of_mem_take hx))
  simp only [pcs]
  split
  · unfold stp
    split <;> omega
  · omega
/-- A record goes on from a block on. -/
def recG (t : Cs) : Nat → Int → Pc → List Int → Option (List Int × Int)
  | 0, _, p, b => some (b, p.st)
  | n + 1, a, p, b => if 46 < p.lf then
      (if (pcs (vw t a)).bg = true ∨ (pcs (vw t a)).st ≠ p.st + 1 ∨ (pcs (vw t a)).lf ≠ p.lf - 46 then none else recG t n (a + 1) (pcs (vw t a)) (b ++ (pcs (vw t a)).own))
    else some (b, p.st)
/-- The record that stands at a block, behind a stamp. -/
def recS (t : Cs) (a last : Int) : Option (List Int × Int) :=
  if (pcs (vw t a)).bg = false ∨ (pcs (vw t a)).st ≤ last ∨ 16448 < (pcs (vw t a)).lf then none else recG t 400 (a + 1) (pcs (vw t a)) (pcs (vw t a)).own
def blks (n : Int) : Int := if n ≤ 46 then 1 else (n - 1) / 46 + 1
theorem blks_pos (n : Int) : 1 ≤ blks n := by unfold blks; split <;> omega
abbrev Lk := Int × List Int
/-- The records that are found from a block on, behind a stamp; where none is, and the last stamp. -/
inductive Opn (t : Cs) : Int → Int → List Lk → Int → Int → Prop
  | stop {a last : Int} : recS t a last = none → Opn t a last [] a last
  | more {a last : Int} {b : List Int} {st : Int} {L : List Lk} {a' last' : Int} : recS t a last = some (b, st) → Opn t (a + blks b.length) st L a' last' → Opn t a last ((if b.length = 0 then [] else [(a, b)]) ++ L) a' last'
theorem Opn.det {t : Cs} {a last : Int} {L M : List Lk} {x y x' y' : Int} (h : Opn t a last L x y) (k : Opn t a last M x' y') : L = M ∧ x = x' ∧ y = y' := by
  induction h generalizing M x' y' with
  | stop h1 =>
    cases k with
    | stop => exact ⟨rfl, rfl, rfl⟩
    | more h2 _ => rw [h1] at h2; cases h2
  | more h1 _ ih =>
    cases k with
    | stop h2 => rw [h1] at h2; cases h2
    | more h2 h3 =>
      rw [h1] at h2
      cases h2
      obtain ⟨e1, e2, e3⟩ := ih h3
      exact ⟨by rw [e1], e2, e3⟩
theorem recS_num {t : Cs} {a last : Int} {r : List Int × Int} (h : recS t a last = some r) : Num a := by
  by_cases hn : Num a
  · exact hn
  · unfold recS at h
    rw [vw_bad hn, pcs_zer] at h
    simp at h
theorem recG_last {t : Cs} : ∀ (n : Nat) (a : Int) (p : Pc) (b : List Int) (r : List Int × Int), recG t n a p b = some r → p.st ≤ r.2
  | 0, a, p, b, r, h => by simp only [recG, Option.some.injEq] at h; rw [← h]; exact Int.le_refl _
  | n + 1, a, p, b, r, h => by
    unfold recG at h
    split at h
    · split at h
      · cases h
      · rename_i hh
        have := recG_last n _ _ _ r h
        omega
    · simp only [Option.some.injEq] at h; rw [← h]; exact Int.le_refl _
theorem recS_last {t : Cs} {a last : Int} {r : List Int × Int} (h : recS t a last = some r) : last < r.2 := by
  unfold recS at h
  split at h
  · cases h
  · rename_i hh
    have := recG_last _ _ _ _ r h
    omega
/-- A number's last bytes. -/
def dig : Nat → Int → List Int
  | 0, _ => []
  | n + 1, x => dig n (x / 256) ++ [x % 256]
theorem dig_len : ∀ (n : Nat) (x : Int), (dig n x).length = n
  | 0, _ => rfl
  | n + 1, x => by simp [dig, dig_len n]
theorem dig_byt : ∀ (n : Nat) (x : Int), ∀ y ∈ dig n x, 0 ≤ y ∧ y ≤ 255
  | 0, _, y, h => by simp [dig] at h
  | n + 1, x, y, h => by
    simp only [dig, List.mem_append, List.mem_cons, List.not_mem_nil, or_false] at h
    rcases h with h | h
    · exact dig_byt n _ y h
    · omega
theorem num_dig : ∀ (n : Nat) (x : Int), 0 ≤ x → x < 256 ^ n → num8 (dig n x) = x
  | 0, x, h, h2 => by simp at h2; simp [dig, num8]; omega
  | n + 1, x, h, h2 => by
    rw [Int.pow_succ] at h2
    rw [dig, num8_snoc, num_dig n (x / 256) (by omega) (by omega)]
    omega
/-- A block of a record. -/
def blkOf (st : Int) (bg : Bool) (r : List Int) : List Int := dig 8 st ++ ([(r.length : Int) / 256 + (if bg then 128 else 0), (r.length : Int) % 256] ++ ((r.take 46 ++ List.replicate (46 - r.length) 0) ++ dig 8 st))
theorem blkOf_mid (r : List Int) : (r.take 46 ++ List.replicate (46 - r.length) (0 : Int)).length = 46 := by
  rw [List.length_append, List.length_take, List.length_replicate]; omega
theorem blkOf_len (st : Int) (bg : Bool) (r : List Int) : (blkOf st bg r).length = 64 := by
  unfold blkOf
  rw [List.length_append, List.length_append, List.length_append, dig_len, blkOf_mid]
  rfl
theorem blkOf_blk (st : Int) (bg : Bool) {r : List Int} (hr : ∀ x ∈ r, 0 ≤ x ∧ x ≤ 255) (hl : r.length ≤ 16448) : Blk (blkOf st bg r) := by
  refine ⟨blkOf_len _ _ _, fun x hx => ?_⟩
  unfold blkOf at hx
  rcases List.mem_append.1 hx with h | h
  · exact dig_byt _ _ x h
  · rcases List.mem_append.1 h with h | h
    · simp only [List.mem_cons, List.not_mem_nil, or_false] at h
      rcases h with h | h
      · cases bg <;> simp at h <;> omega
      · omega
    · rcases List.mem_append.1 h with h | h
      · rcases List.mem_append.1 h with h | h
        · exact hr x (List.mem_of_mem_take h)
        · have := List.eq_of_mem_replicate h; omega
      · exact dig_byt _ _ x h
theorem blkOf_take (st : Int) (bg : Bool) (r : List Int) : (blkOf st bg r).take 8 = dig 8 st := by
  unfold blkOf
  rw [List.take_append_of_le_length (by rw [dig_len]; exact Nat.le_refl _), List.take_of_length_le (by rw [dig_len]; exact Nat.le_refl _)]
theorem blkOf_drop (st : Int) (bg : Bool) (r : List Int) : (blkOf st bg r).drop 56 = dig 8 st := by
  unfold blkOf
  rw [List.drop_append, dig_len, List.drop_of_length_le (by rw [dig_len]; decide), List.nil_append, List.drop_append, List.drop_of_length_le (by simp), List.nil_append]
  rw [List.drop_append, blkOf_mid, List.drop_of_length_le (by rw [blkOf_mid]; simp), List.nil_append]
  rfl
theorem blkOf_get8 (st : Int) (bg : Bool) (r : List Int) : (blkOf st bg r).getD 8 0 = (r.length : Int) / 256 + (if bg then 128 else 0) ∧ (blkOf st bg r).getD 9 0 = (r.length : Int) % 256 := by
  unfold blkOf
  constructor
  · rw [List.getD_eq_getElem?_getD, List.getElem?_append_right (by rw [dig_len]; decide), dig_len]; rfl
  · rw [List.getD_eq_getElem?_getD, List.getElem?_append_right (by rw [dig_len]; decide), dig_len]; rfl
theorem blkOf_lfO (st : Int) (bg : Bool) {r : List Int} (hl : r.length ≤ 16448) : lfO (blkOf st bg r) = r.length := by
  obtain ⟨h1, h2⟩ := blkOf_get8 st bg r
  unfold lfO
  rw [h1, h2]
  cases bg <;> simp <;> omega
/-- What a record's block says. -/
theorem pcs_blk {st : Int} (bg : Bool) {r : List Int} (h0 : 0 ≤ st) (h1 : st ≤ 1152921504606846976) (hl : r.length ≤ 16448) : pcs (blkOf st bg r) = ⟨st, bg, r.length, r.take 46⟩ := by
  have hn : stp (dig 8 st) = st := by
    unfold stp
    rw [num_dig 8 st h0 (by omega), if_pos h1]
  have hb : decide (128 ≤ (blkOf st bg r).getD 8 0) = bg := by
    rw [(blkOf_get8 st bg r).1]
    cases bg <;> simp <;> omega
  have ho : ((blkOf st bg r).drop 10).take (min (lfO (blkOf st bg r)) 46).toNat = r.take 46 := by
    rw [blkOf_lfO st bg hl]
    have e : (blkOf st bg r).drop 10 = (r.take 46 ++ List.replicate (46 - r.length) 0) ++ dig 8 st := by
      unfold blkOf
      rw [List.drop_append, dig_len, List.drop_of_length_le (by rw [dig_len]; decide), List.nil_append]
      rfl
    rw [e, List.append_assoc, List.take_append_of_le_length (by rw [List.length_take]; omega), List.take_take]
    by_cases h : r.length ≤ 46
    · rw [List.take_of_length_le (by omega), List.take_of_length_le (by omega)]
    · congr 1
      omega
  unfold pcs
  rw [blkOf_take, blkOf_drop, if_pos rfl, hn, hb, ho, blkOf_lfO st bg hl]
end Go.Proofs.YtoamghncncalgaaGreatDoor
namespace Go.Proofs.YtoamghncncalgaaGreatDoor

theorem blks_is {n : Int} {i : Int} (h0 : 0 ≤ i) (h1 : i = 0 ∨ 46 * i < n) (h2 : n ≤ 46 * (i + 1)) : blks n = i + 1 := by
  unfold blks
  split <;> omega
theorem recG_run {t : Cs} {b : List Int} {a st : Int} (hl : b.length ≤ 16448) (h0 : 0 ≤ st) (h1 : st + b.length ≤ 1152921504606846976) : ∀ (n i : Nat) (p : Pc), p.st = st + i → p.lf = (b.length : Int) - 46 * i → (i = 0 ∨ 46 * i < b.length) → b.length ≤ 46 * (i + 1 + n) → (∀ j : Nat, i < j → 46 * j < b.length → vw t (a + j) = blkOf (st + j) false (b.drop (46 * j))) → recG t n (a + i + 1) p (b.take (46 * (i + 1))) = some (b, st + blks b.length - 1)
  | 0, i, p, hs, hf, hi, hn, _ => by
    unfold recG
    rw [List.take_of_length_le (by omega), hs, blks_is (n := b.length) (i := i) (by omega) (by omega) (by omega)]
    congr 2
    omega
  | n + 1, i, p, hs, hf, hi, hn, hv => by
    unfold recG
    by_cases h : 46 < p.lf
    · rw [if_pos h]
      have hj : 46 * (i + 1) < b.length := by omega
      have e := hv (i + 1) (by omega) hj
      rw [show a + ((i + 1 : Nat) : Int) = a + i + 1 by omega] at e
      rw [e, pcs_blk false (by omega) (by omega) (by rw [List.length_drop]; omega)]
      rw [if_neg (by rw [List.length_drop]; simp only [Bool.false_eq_true, false_or, not_or, Decidable.not_not]; omega)]
      have ih := recG_run hl h0 h1 n (i + 1) ⟨st + ((i + 1 : Nat) : Int), false, ((b.drop (46 * (i + 1))).length : Int), (b.drop (46 * (i + 1))).take 46⟩ rfl (by simp only [List.length_drop]; omega) (.inr hj) (by omega) (fun j hj1 hj2 => hv j (by omega) hj2)
      rw [← ih]
      congr 1
      · omega
      · rw [show 46 * (i + 1 + 1) = 46 * (i + 1) + 46 by omega, List.take_add]
    · rw [if_neg h, List.take_of_length_le (by omega), hs, blks_is (n := b.length) (i := i) (by omega) (by omega) (by omega)]
      congr 2
      omega
/-- A record that was written stands. -/
theorem rec_put {t : Cs} {b : List Int} {a st last : Int} (hl : b.length ≤ 16448) (h0 : 0 ≤ st) (h1 : st + b.length ≤ 1152921504606846976) (hla : last < st) (hv0 : vw t a = blkOf st true b) (hv : ∀ j : Nat, 0 < j → 46 * j < b.length → vw t (a + j) = blkOf (st + j) false (b.drop (46 * j))) : recS t a last = some (b, st + blks b.length - 1) := by
  unfold recS
  rw [hv0, pcs_blk true h0 (by omega) hl]
  rw [if_neg (by simp only [Bool.true_eq_false, false_or, not_or]; omega)]
  have := recG_run (t := t) (a := a) hl h0 h1 400 0 ⟨st, true, (b.length : Int), b.take 46⟩ (by simp) (by simp) (.inl rfl) (by omega) (fun j hj h2 => hv j hj h2)
  simpa using this
/-- What a record was read from. -/
theorem recG_same {t t' : Cs} : ∀ (n : Nat) (a : Int) (p : Pc) (b : List Int) (r : List Int × Int), p.lf ≤ 46 * (n + 1) → recG t n a p b = some r → (∀ q : Int, a ≤ q → q < a + (blks p.lf - 1) → vw t' q = vw t q) → recG t' n a p b = some r
  | 0, a, p, b, r, _, h, _ => h
  | n + 1, a, p, b, r, hn, h, hv => by
    unfold recG at h ⊢
    split at h
    · rename_i h46
      rw [if_pos h46]
      have hb : blks p.lf = blks (p.lf - 46) + 1 := by unfold blks; split <;> split <;> omega
      have hp := blks_pos (p.lf - 46)
      rw [hv a (Int.le_refl _) (by omega)]
      split at h
      · cases h
      · rename_i hh
        rw [if_neg hh]
        have e : (pcs (vw t a)).lf = p.lf - 46 := by omega
        exact recG_same n _ _ _ r (by rw [e]; omega) h (fun q h1 h2 => hv q (by omega) (by rw [e] at h2; omega))
    · rename_i h46
      rw [if_neg h46]
      exact h
theorem recG_len {t : Cs} (hb : ∀ q, Blk (vw t q)) : ∀ (n : Nat) (a : Int) (p : Pc) (b : List Int) (r : List Int × Int), p.lf ≤ 46 * (n + 1) → recG t n a p b = some r → (r.1.length : Int) = b.length + (p.lf - min p.lf 46)
  | 0, a, p, b, r, hn, h => by
    simp only [recG, Option.some.injEq] at h
    rw [← h]
    simp only
    omega
  | n + 1, a, p, b, r, hn, h => by
    unfold recG at h
    split at h
    · split at h
      · cases h
      · rename_i h46 hh
        have e : (pcs (vw t a)).lf = p.lf - 46 := by omega
        have ih := recG_len hb n _ _ _ r (by rw [e]; omega) h
        rw [List.length_append] at ih
        have ho := own_len (hb a)
        have e2 : lfO (vw t a) = p.lf - 46 := e
        rw [e2] at ho
        rw [e] at ih
        omega
    · simp only [Option.some.injEq] at h
      rw [← h]
      simp only
      omega
theorem recS_len {t : Cs} (hb : ∀ q, Blk (vw t q)) {a last : Int} {b : List Int} {st : Int} (h : recS t a last = some (b, st)) : (b.length : Int) = (pcs (vw t a)).lf := by
  unfold recS at h
  split at h
  · cases h
  · rename_i hh
    have := recG_len hb 400 _ _ _ _ (by omega) h
    have ho := own_len (hb a)
    have e : lfO (vw t a) = (pcs (vw t a)).lf := rfl
    rw [e] at ho
    simp only at this
    omega
theorem recS_same {t t' : Cs} (hb : ∀ q, Blk (vw t q)) {a last : Int} {b : List Int} {st : Int} (h : recS t a last = some (b, st)) (hv : ∀ q : Int, a ≤ q → q < a + blks b.length → vw t' q = vw t q) : recS t' a last = some (b, st) := by
  have hlen := recS_len hb h
  have hp := blks_pos b.length
  unfold recS at h ⊢
  rw [hv a (Int.le_refl _) (by omega)]
  split at h
  · cases h
  · rename_i hh
    rw [if_neg hh]
    exact recG_same 400 _ _ _ _ (by omega) h (fun q h1 h2 => hv q (by omega) (by rw [hlen]; omega))
theorem Opn.le {t : Cs} {a last : Int} {L : List Lk} {x y : Int} (h : Opn t a last L x y) : a ≤ x ∧ last ≤ y := by
  induction h with
  | stop _ => exact ⟨Int.le_refl _, Int.le_refl _⟩
  | @more _ _ b _ _ _ _ h1 _ ih =>
    have := blks_pos b.length
    have := recS_last h1
    simp only at this
    omega
/-- What was found is found again, and what stands behind it besides. -/
theorem Opn.ext {t t' : Cs} (hb : ∀ q, Blk (vw t q)) {a last : Int} {L M : List Lk} {x y x' y' : Int} (h : Opn t a last L x y) (hv : ∀ q : Int, a ≤ q → q < x → vw t' q = vw t q) (k : Opn t' x y M x' y') : Opn t' a last (L ++ M) x' y' := by
  induction h with
  | stop _ => exact k
  | @more _ _ b _ _ _ _ h1 h2 ih =>
    rw [List.append_assoc]
    have := h2.le
    have hp := blks_pos b.length
    exact .more (recS_same hb h1 (fun q q1 q2 => hv q q1 (by omega))) (ih (fun q q1 q2 => hv q (by omega) q2) k)
theorem Opn.end {t : Cs} {a last : Int} {L : List Lk} {x y : Int} (h : Opn t a last L x y) : recS t x y = none := by
  induction h with
  | stop h => exact h
  | more _ _ ih => exact ih
end Go.Proofs.YtoamghncncalgaaGreatDoor
