/-
  SUMS OF BYTES, BYTE BY BYTE: the chapter's sum is a fold over the bytes; it is linear; what stands behind them opens them; turned bits within 32 side by side are told. No program in it.
-/
import Derived.Test.YtenahnbfaekljaaRefCrcp
namespace Go.Proofs.Ytenahnbfaekljaa

/-- The remainder behind bytes, from s on. -/
def crF (s : Nat) (l : List Int) : Nat := l.foldl (fun s x => cY s x.toNat) s
theorem crF_app (s : Nat) (a b : List Int) : crF s (a ++ b) = crF (crF s a) b := List.foldl_append
theorem crF_lt {s : Nat} (hs : s < 4294967296) {l : List Int} (h : Byt l) : crF s l < 4294967296 := by
  induction l generalizing s with
  | nil => exact hs
  | cons x l ih =>
    have hx := h x List.mem_cons_self
    exact ih (cF_lt 8 (Nat.xor_lt_two_pow (n := 32) hs (by omega))) (fun y hy => h y (List.mem_cons_of_mem _ hy))
theorem cV_byte {x : Nat} (h : x < 256) (g : Nat → Nat) (hg : ∀ i, i < 8 → g i = x / 2 ^ i % 2) : cV g 8 = x := by
  have e : cV g 8 = ((((((((0 ^^^ g 0 * 2 ^ 0) ^^^ g 1 * 2 ^ 1) ^^^ g 2 * 2 ^ 2) ^^^ g 3 * 2 ^ 3) ^^^ g 4 * 2 ^ 4) ^^^ g 5 * 2 ^ 5) ^^^ g 6 * 2 ^ 6) ^^^ g 7 * 2 ^ 7) := rfl
  rw [e, hg 0 (by decide), hg 1 (by decide), hg 2 (by decide), hg 3 (by decide), hg 4 (by decide), hg 5 (by decide), hg 6 (by decide), hg 7 (by decide)]
  have : ∀ x : Fin 256, ((((((((0 ^^^ x.val / 2 ^ 0 % 2 * 2 ^ 0) ^^^ x.val / 2 ^ 1 % 2 * 2 ^ 1) ^^^ x.val / 2 ^ 2 % 2 * 2 ^ 2) ^^^ x.val / 2 ^ 3 % 2 * 2 ^ 3) ^^^ x.val / 2 ^ 4 % 2 * 2 ^ 4) ^^^ x.val / 2 ^ 5 % 2 * 2 ^ 5) ^^^ x.val / 2 ^ 6 % 2 * 2 ^ 6) ^^^ x.val / 2 ^ 7 % 2 * 2 ^ 7) = x.val := by decide +kernel
  exact this ⟨x, h⟩
theorem gb_head (x : Int) (l : List Int) (i : Nat) (h : i < 8) : gb (x :: l) i = x.toNat / 2 ^ i % 2 := by
  unfold gb
  rw [show i / 8 = 0 by omega, show i % 8 = i by omega]
  rfl
theorem gb_tail (x : Int) (l : List Int) (i : Nat) : gb (x :: l) (8 + i) = gb l i := by
  unfold gb
  rw [show (8 + i) / 8 = i / 8 + 1 by omega, show (8 + i) % 8 = i % 8 by omega]
  rfl
theorem cB_bytes (s : Nat) {l : List Int} (h : Byt l) : cB s (gb l) (8 * l.length) = crF s l := by
  induction l generalizing s with
  | nil => rfl
  | cons x l ih =>
    have hx := h x List.mem_cons_self
    rw [List.length_cons, show 8 * (l.length + 1) = 8 + 8 * l.length by omega, cB_shift, cB_few (gb_bit (x :: l)) s (by decide), cV_byte (x := x.toNat) (by omega) _ (gb_head x l)]
    rw [show (fun i => gb (x :: l) (8 + i)) = gb l from funext (gb_tail x l)]
    exact ih _ (fun y hy => h y (List.mem_cons_of_mem _ hy))
theorem sub_xor {x : Nat} (h : x < 4294967296) : 4294967295 - x = x ^^^ 4294967295 := by
  have h1 : x < 2 ^ 32 := h
  refine Nat.eq_of_testBit_eq fun i => ?_
  rw [show 4294967295 - x = 2 ^ 32 - (x + 1) by omega, Nat.testBit_two_pow_sub_succ h1, Nat.testBit_xor, show (4294967295 : Nat) = 2 ^ 32 - 1 by rfl, Nat.testBit_two_pow_sub_one]
  by_cases hi : i < 32
  · simp [hi]
  · have : x.testBit i = false := Nat.testBit_lt_two_pow (Nat.lt_of_lt_of_le h1 (Nat.pow_le_pow_right (by decide) (by omega)))
    simp [hi, this]
/-- The chapter's sum is a fold over the bytes. -/
theorem crcL_eq {l : List Int} (h : Byt l) : crcL l = crF 4294967295 l ^^^ 4294967295 := by
  unfold crcL
  rw [cT_sum (gb_bit l) (fun i hi => gb_none hi), cB_bytes _ h, sub_xor (crF_lt (by decide) h)]
/-- Two texts of one length, together. -/
def zx (a b : List Int) : List Int := List.zipWith (fun x y => ((x.toNat ^^^ y.toNat : Nat) : Int)) a b
theorem crF_zx (s t : Nat) (a b : List Int) (h : a.length = b.length) : crF (s ^^^ t) (zx a b) = crF s a ^^^ crF t b := by
  induction a generalizing s t b with
  | nil =>
    cases b with
    | nil => rfl
    | cons y b => simp at h
  | cons x a ih =>
    cases b with
    | nil => simp at h
    | cons y b =>
      show crF (cY (s ^^^ t) ((x.toNat ^^^ y.toNat : Nat) : Int).toNat) (zx a b) = crF (cY s x.toNat) a ^^^ crF (cY t y.toNat) b
      rw [Int.toNat_natCast, ← ih _ _ _ (by simpa using h)]
      congr 1
      unfold cY
      rw [← cF_xor, xor_four]
theorem xor_pow {a m : Nat} (h : a < 2 ^ m) : a ^^^ 2 ^ m = 2 ^ m + a := by
  refine Nat.eq_of_testBit_eq fun j => ?_
  rw [Nat.testBit_xor, Nat.testBit_two_pow]
  by_cases hj : j < m
  · rw [Nat.testBit_two_pow_add_gt hj]
    simp [show ¬ m = j by omega]
  · by_cases hj2 : j = m
    · subst hj2
      rw [Nat.testBit_two_pow_add_eq]
      simp
    · have hp : 2 ^ (m + 1) ≤ 2 ^ j := Nat.pow_le_pow_right (by decide) (by omega)
      have hp2 : 2 ^ (m + 1) = 2 ^ m + 2 ^ m := by rw [Nat.pow_succ]; omega
      rw [Nat.testBit_lt_two_pow (show a < 2 ^ j by omega), Nat.testBit_lt_two_pow (show 2 ^ m + a < 2 ^ j by omega)]
      simp [show ¬ m = j by omega]
theorem cV_mod {g : Nat → Nat} {c : Nat} (m : Nat) (hg : ∀ i, i < m → g i = c / 2 ^ i % 2) : cV g m = c % 2 ^ m := by
  induction m with
  | zero => rw [Nat.pow_zero, Nat.mod_one]; rfl
  | succ m ih =>
    show cV g m ^^^ (g m * 2 ^ m) = _
    rw [ih (fun i hi => hg i (by omega)), hg m (by omega), Nat.mod_pow_succ]
    have hb : c / 2 ^ m % 2 = 0 ∨ c / 2 ^ m % 2 = 1 := by omega
    rcases hb with e | e
    · rw [e, Nat.zero_mul, Nat.mul_zero, Nat.xor_zero, Nat.add_zero]
    · rw [e, Nat.one_mul, Nat.mul_one, xor_pow (Nat.mod_lt _ (Nat.pow_pos (by decide))), Nat.add_comm]
theorem bit_part (c k r : Nat) (hr : r < 8) : c / 2 ^ k % 256 / 2 ^ r % 2 = c / 2 ^ (k + r) % 2 := by
  rw [← Nat.toNat_testBit, ← Nat.toNat_testBit, show (256 : Nat) = 2 ^ 8 by rfl, Nat.testBit_mod_two_pow, Nat.testBit_div_two_pow, Nat.add_comm r k]
  simp [hr]
theorem gb_le4 (c i : Nat) (h : i < 32) : gb (le4 c) i = c / 2 ^ i % 2 := by
  have hr : i % 8 < 8 := Nat.mod_lt _ (by decide)
  unfold gb
  have : i / 8 = 0 ∨ i / 8 = 1 ∨ i / 8 = 2 ∨ i / 8 = 3 := by omega
  rcases this with e | e | e | e
  · rw [e]
    show ((c % 256 : Nat) : Int).toNat / 2 ^ (i % 8) % 2 = _
    rw [Int.toNat_natCast, show c % 256 = c / 2 ^ 0 % 256 by simp, bit_part c 0 _ hr, show 0 + i % 8 = i by omega]
  · rw [e]
    show ((c / 256 % 256 : Nat) : Int).toNat / 2 ^ (i % 8) % 2 = _
    rw [Int.toNat_natCast, show c / 256 = c / 2 ^ 8 by rfl, bit_part c 8 _ hr, show 8 + i % 8 = i by omega]
  · rw [e]
    show ((c / 65536 % 256 : Nat) : Int).toNat / 2 ^ (i % 8) % 2 = _
    rw [Int.toNat_natCast, show c / 65536 = c / 2 ^ 16 by rfl, bit_part c 16 _ hr, show 16 + i % 8 = i by omega]
  · rw [e]
    show ((c / 16777216 % 256 : Nat) : Int).toNat / 2 ^ (i % 8) % 2 = _
    rw [Int.toNat_natCast, show c / 16777216 = c / 2 ^ 24 by rfl, bit_part c 24 _ hr, show 24 + i % 8 = i by omega]
theorem le4_byt (c : Nat) : Byt (le4 c) := by
  unfold le4 Byt
  intro x hx
  simp only [List.mem_cons, List.not_mem_nil, or_false] at hx
  rcases hx with rfl | rfl | rfl | rfl <;> omega
theorem crF_four {s c : Nat} (hc : c < 4294967296) : crF s (le4 c) = cF 32 (s ^^^ c) := by
  rw [← cB_bytes s (le4_byt c)]
  show cB s (gb (le4 c)) 32 = _
  rw [cB_few (gb_bit _) s (Nat.le_refl _), cV_mod 32 (gb_le4 c), Nat.mod_eq_of_lt (show c < 2 ^ 32 from hc)]
/-- Bytes with their sum behind leave one and the same remainder. -/
theorem crF_whole {l : List Int} (h : Byt l) : crF 4294967295 (l ++ le4 (crcL l)) = cF 32 4294967295 := by
  rw [crF_app, crF_four (crcL_lt l), crcL_eq h, ← Nat.xor_assoc, Nat.xor_self, Nat.zero_xor]
/-- A text of which bits were turned: e tells which, by 32 of them from k on. -/
theorem crF_burst {p q : List Int} {y k : Nat} (hp : Byt p) (hq : Byt q) (hl : q.length = p.length) (hk : k + 32 ≤ 8 * p.length) (hy : y < 4294967296) (hy0 : y ≠ 0)
    (he : ∀ i, gb q i = gb p i ^^^ (if k ≤ i ∧ i < k + 32 then y / 2 ^ (i - k) % 2 else 0)) : crF 4294967295 q ≠ crF 4294967295 p := by
  intro e
  rw [← cB_bytes _ hp, ← cB_bytes _ hq, hl] at e
  have h1 := cB_xor 4294967295 0 he (8 * p.length)
  rw [Nat.xor_zero, e] at h1
  have h2 : cB 0 (fun i => if k ≤ i ∧ i < k + 32 then y / 2 ^ (i - k) % 2 else 0) (8 * p.length) = 0 := by
    have : cB 4294967295 (gb p) (8 * p.length) ^^^ cB 4294967295 (gb p) (8 * p.length) = cB 4294967295 (gb p) (8 * p.length) ^^^ (cB 4294967295 (gb p) (8 * p.length) ^^^ cB 0 (fun i => if k ≤ i ∧ i < k + 32 then y / 2 ^ (i - k) % 2 else 0) (8 * p.length)) := by rw [← h1]
    rw [Nat.xor_self, ← Nat.xor_assoc, Nat.xor_self, Nat.zero_xor] at this
    exact this.symm
  rw [show 8 * p.length = k + (32 + (8 * p.length - k - 32)) by omega, cB_shift, cB_noughts _ _ k (fun i hi => if_neg (by omega)), cF_zero, cB_shift, cB_noughts _ _ _ (fun i _ => if_neg (by omega))] at h2
  have hg : Bit (fun i => if k ≤ k + i ∧ k + i < k + 32 then y / 2 ^ (k + i - k) % 2 else 0) := fun i => by
    show (if _ then _ else _) = 0 ∨ (if _ then _ else _) = 1
    split
    · exact Nat.mod_two_eq_zero_or_one _
    · exact .inl rfl
  rw [cB_few hg 0 (Nat.le_refl _), cV_mod (c := y) 32 (fun i hi => by rw [if_pos (by omega)]; congr 3; omega), Nat.mod_eq_of_lt (show y < 2 ^ 32 from hy), Nat.zero_xor] at h2
  exact hy0 (cF_none 32 hy (cF_none _ (cF_lt 32 hy) h2))
/-- What opens has the whole remainder. -/
theorem openL_whole {q : List Int} (hq : Byt q) (h : openL q ≠ none) : crF 4294967295 q = cF 32 4294967295 := by
  unfold openL at h
  split at h
  · exact absurd rfl h
  · split at h
    · rename_i e
      have := crF_whole (l := q.take (q.length - 4)) (fun x hx => hq x (List.mem_of_mem_take hx))
      rw [e] at this
      exact this
    · exact absurd rfl h
theorem openL_put {l : List Int} : openL (l ++ le4 (crcL l)) = some l := by
  have hn : (l ++ le4 (crcL l)).length - 4 = l.length := by simp [le4]
  unfold openL
  rw [if_neg (by simp [le4]), hn, List.take_left, if_pos rfl]
theorem tells {l q : List Int} {y k : Nat} (hl : Byt l) (hq : Byt q) (hlen : q.length = (l ++ le4 (crcL l)).length) (hk : k + 32 ≤ 8 * (l ++ le4 (crcL l)).length) (hy : y < 4294967296) (hy0 : y ≠ 0)
    (he : ∀ i, gb q i = gb (l ++ le4 (crcL l)) i ^^^ (if k ≤ i ∧ i < k + 32 then y / 2 ^ (i - k) % 2 else 0)) : openL q = none := by
  cases h : openL q with
  | none => rfl
  | some x =>
    have hp : Byt (l ++ le4 (crcL l)) := fun x hx => (List.mem_append.1 hx).elim (hl x) (le4_byt _ x)
    exact absurd ((openL_whole hq (by rw [h]; simp)).trans (crF_whole hl).symm) (crF_burst hp hq hlen hk hy hy0 he)
/-- Half bytes, by a table. -/
def halfT : List Nat := (List.range 16).map (cF 4)
theorem cY_half (s x : Nat) : cY s x = (cF 4 (((cF 4 ((s ^^^ x) % 16)) ^^^ ((s ^^^ x) / 16)) % 16)) ^^^ (((cF 4 ((s ^^^ x) % 16)) ^^^ ((s ^^^ x) / 16)) / 16) := by
  unfold cY
  rw [show (8 : Nat) = 4 + 4 by rfl, cF_add, cF_half (s ^^^ x), cF_half]
end Go.Proofs.Ytenahnbfaekljaa
