/-
  THE REMAINDER OF CRC-32C OVER NUMBERS: one step, its linearity, that it loses nothing; a text's bits taken at the top with 32 noughts behind are the same as the bits taken at the bottom; bytes, half bytes, bursts. No program in it.
-/
namespace Go.Proofs.Ytenahnbfaekljaa

theorem xor_four (a b c d : Nat) : (a ^^^ b) ^^^ (c ^^^ d) = (a ^^^ c) ^^^ (b ^^^ d) := by
  rw [Nat.xor_assoc, Nat.xor_assoc, ← Nat.xor_assoc b c d, Nat.xor_comm b c, Nat.xor_assoc c b d]
theorem xor_zero_eq {a b : Nat} (h : a ^^^ b = 0) : a = b := by
  have : a ^^^ b ^^^ b = 0 ^^^ b := by rw [h]
  rw [Nat.xor_assoc, Nat.xor_self, Nat.xor_zero, Nat.zero_xor] at this
  exact this
/-- One step without a bit. -/
def cs (r : Nat) : Nat := (r / 2) ^^^ (if r % 2 = 1 then 2197175160 else 0)
theorem cs_xor (a b : Nat) : cs (a ^^^ b) = cs a ^^^ cs b := by
  unfold cs
  rw [xor_four, Nat.xor_div_two]
  congr 1
  have h := @Nat.xor_mod_two_eq_one a b
  have ha : a % 2 = 0 ∨ a % 2 = 1 := by omega
  have hb : b % 2 = 0 ∨ b % 2 = 1 := by omega
  rcases ha with ha | ha <;> rcases hb with hb | hb
  · rw [if_neg (by rw [h]; omega), if_neg (by omega), if_neg (by omega)]; rfl
  · rw [if_pos (by rw [h]; omega), if_neg (by omega), if_pos hb, Nat.zero_xor]
  · rw [if_pos (by rw [h]; omega), if_pos ha, if_neg (by omega), Nat.xor_zero]
  · rw [if_neg (by rw [h]; omega), if_pos ha, if_pos hb, Nat.xor_self]
theorem cs_zero : cs 0 = 0 := rfl
theorem cs_lt {r : Nat} (h : r < 4294967296) : cs r < 4294967296 := by
  unfold cs
  refine Nat.xor_lt_two_pow (n := 32) (by omega) ?_
  split <;> omega
theorem cs_none {r : Nat} (h : r < 4294967296) (h0 : cs r = 0) : r = 0 := by
  unfold cs at h0
  have h1 := xor_zero_eq h0
  split at h1 <;> omega
/-- Some steps without bits. -/
def cF : Nat → Nat → Nat
  | 0, r => r
  | k + 1, r => cs (cF k r)
theorem cF_xor (k a b : Nat) : cF k (a ^^^ b) = cF k a ^^^ cF k b := by
  induction k with
  | zero => rfl
  | succ k ih => rw [cF, ih, cs_xor]; rfl
theorem cF_zero (k : Nat) : cF k 0 = 0 := by
  induction k with
  | zero => rfl
  | succ k ih => rw [cF, ih]; rfl
theorem cF_lt (k : Nat) {r : Nat} (h : r < 4294967296) : cF k r < 4294967296 := by
  induction k with
  | zero => exact h
  | succ k ih => exact cs_lt ih
theorem cF_none (k : Nat) {r : Nat} (h : r < 4294967296) (h0 : cF k r = 0) : r = 0 := by
  induction k with
  | zero => exact h0
  | succ k ih => exact ih (cs_none (cF_lt k h) h0)
theorem cF_add (j k r : Nat) : cF (j + k) r = cF j (cF k r) := by
  induction j with
  | zero => rw [Nat.zero_add]; rfl
  | succ j ih => rw [Nat.succ_add]; show cs (cF (j + k) r) = cs (cF j (cF k r)); rw [ih]
theorem cF_inj (k : Nat) {a b : Nat} (ha : a < 4294967296) (hb : b < 4294967296) (h : cF k a = cF k b) : a = b := by
  refine xor_zero_eq (cF_none k (Nat.xor_lt_two_pow (n := 32) ha hb) ?_)
  rw [cF_xor, h, Nat.xor_self]
/-- A bit that lies k places up comes down in k steps. -/
theorem cF_pow {k : Nat} (h : k < 32) : cF k (2 ^ k) = 1 := by
  have : ∀ k : Fin 32, cF k (2 ^ (k : Nat)) = 1 := by decide
  exact this ⟨k, h⟩
theorem cF_top : cF 31 2147483648 = 1 := cF_pow (k := 31) (by decide)
/-- Bits g taken at the top, one by one. -/
def cT (g : Nat → Nat) : Nat → Nat
  | 0 => 0
  | i + 1 => cs (cT g i) ^^^ (g i * 2147483648)
/-- Bits g taken at the bottom, one by one, from s on. -/
def cB (s : Nat) (g : Nat → Nat) : Nat → Nat
  | 0 => s
  | i + 1 => cs (cB s g i ^^^ g i)
def Bit (g : Nat → Nat) : Prop := ∀ i, g i = 0 ∨ g i = 1
theorem bit_top {x : Nat} (h : x = 0 ∨ x = 1) : cF 32 (x * 2147483648) = cs x := by
  rcases h with rfl | rfl
  · rw [Nat.zero_mul, cF_zero]; rfl
  · rw [Nat.one_mul]; show cs (cF 31 2147483648) = cs 1; rw [cF_top]
theorem cT_cB {g : Nat → Nat} (hg : Bit g) (i : Nat) : cF 32 (cT g i) = cB 0 g i := by
  induction i with
  | zero => exact cF_zero 32
  | succ i ih =>
    show cF 32 (cs (cT g i) ^^^ (g i * 2147483648)) = cs (cB 0 g i ^^^ g i)
    rw [cF_xor, bit_top (hg i), cs_xor, ← ih]
    congr 1
theorem cT_noughts {g : Nat → Nat} {K : Nat} (h : ∀ i, K ≤ i → g i = 0) (j : Nat) : cT g (K + j) = cF j (cT g K) := by
  induction j with
  | zero => rfl
  | succ j ih =>
    show cs (cT g (K + j)) ^^^ (g (K + j) * 2147483648) = cs (cF j (cT g K))
    rw [h _ (by omega), Nat.zero_mul, Nat.xor_zero, ih]
theorem cT_xor {g h k : Nat → Nat} (hk : ∀ i, k i * 2147483648 = (g i * 2147483648) ^^^ (h i * 2147483648)) (i : Nat) : cT k i = cT g i ^^^ cT h i := by
  induction i with
  | zero => exact (Nat.xor_self 0).symm
  | succ i ih =>
    show cs (cT k i) ^^^ (k i * 2147483648) = (cs (cT g i) ^^^ (g i * 2147483648)) ^^^ (cs (cT h i) ^^^ (h i * 2147483648))
    rw [ih, cs_xor, hk, xor_four]
theorem cB_split (s : Nat) (g : Nat → Nat) (i : Nat) : cB s g i = cB 0 g i ^^^ cF i s := by
  induction i with
  | zero => exact (Nat.zero_xor s).symm
  | succ i ih =>
    show cs (cB s g i ^^^ g i) = cs (cB 0 g i ^^^ g i) ^^^ cs (cF i s)
    rw [ih, ← cs_xor]
    congr 1
    rw [Nat.xor_assoc, Nat.xor_comm (cF i s) (g i), ← Nat.xor_assoc]
/-- The first 32 bits, turned. -/
def ones (i : Nat) : Nat := if i < 32 then 1 else 0
theorem cT_ones : cT ones 32 = 4294967295 := by decide
def flip (g : Nat → Nat) (i : Nat) : Nat := if i < 32 then 1 - g i else g i
/-- The chapter's remainder: of K bits g, the first 32 turned, 32 noughts behind. -/
theorem cT_sum {g : Nat → Nat} (hg : Bit g) {K : Nat} (h : ∀ i, K ≤ i → g i = 0) : cT (flip g) (K + 32) = cB 4294967295 g K := by
  have hk : ∀ i, flip g i * 2147483648 = (g i * 2147483648) ^^^ (ones i * 2147483648) := by
    intro i
    unfold flip ones
    rcases hg i with e | e <;> rw [e] <;> split <;> decide
  rw [cT_xor hk, cT_noughts h 32, cT_cB hg, cB_split 4294967295]
  congr 1
  have := cT_noughts (g := ones) (K := 32) (fun i hi => by unfold ones; rw [if_neg (by omega)]) K
  rw [Nat.add_comm K 32, this, cT_ones]
/-- The number of the first m bits, the lowest first. -/
def cV (g : Nat → Nat) : Nat → Nat
  | 0 => 0
  | m + 1 => cV g m ^^^ (g m * 2 ^ m)
theorem cB_few {g : Nat → Nat} (hg : Bit g) (s : Nat) {m : Nat} (hm : m ≤ 32) : cB s g m = cF m (s ^^^ cV g m) := by
  induction m with
  | zero => rw [cV, Nat.xor_zero]; rfl
  | succ m ih =>
    show cs (cB s g m ^^^ g m) = cs (cF m (s ^^^ (cV g m ^^^ (g m * 2 ^ m))))
    rw [ih (by omega), ← Nat.xor_assoc, cF_xor m (s ^^^ cV g m)]
    congr 2
    rcases hg m with e | e
    · rw [e, Nat.zero_mul, cF_zero]
    · rw [e, Nat.one_mul, cF_pow (by omega)]
theorem cB_shift (s : Nat) (g : Nat → Nat) (j k : Nat) : cB s g (j + k) = cB (cB s g j) (fun i => g (j + i)) k := by
  induction k with
  | zero => rfl
  | succ k ih =>
    show cs (cB s g (j + k) ^^^ g (j + k)) = cs (cB (cB s g j) (fun i => g (j + i)) k ^^^ g (j + k))
    rw [ih]
theorem cB_noughts (s : Nat) (g : Nat → Nat) (k : Nat) (h : ∀ i, i < k → g i = 0) : cB s g k = cF k s := by
  induction k with
  | zero => rfl
  | succ k ih =>
    show cs (cB s g k ^^^ g k) = cs (cF k s)
    rw [h k (by omega), Nat.xor_zero, ih (fun i hi => h i (by omega))]
theorem cB_xor (s t : Nat) {g h k : Nat → Nat} (hk : ∀ i, k i = g i ^^^ h i) (i : Nat) : cB (s ^^^ t) k i = cB s g i ^^^ cB t h i := by
  induction i with
  | zero => rfl
  | succ i ih =>
    show cs (cB (s ^^^ t) k i ^^^ k i) = cs (cB s g i ^^^ g i) ^^^ cs (cB t h i ^^^ h i)
    rw [ih, hk, ← cs_xor, xor_four]
/-- A byte, all at once. -/
def cY (s x : Nat) : Nat := cF 8 (s ^^^ x)
/-- Half a byte, by a table's place. -/
theorem cF_half (s : Nat) : cF 4 s = cF 4 (s % 16) ^^^ (s / 16) := by
  have e : s = (s / 16 * 16) ^^^ (s % 16) := by
    have h := Nat.two_pow_add_eq_or_of_lt (i := 4) (b := s % 16) (by omega) (s / 16)
    refine Nat.eq_of_testBit_eq fun i => ?_
    rw [Nat.testBit_xor]
    have hs : s = 2 ^ 4 * (s / 16) + s % 16 := by omega
    have h1 : (s / 16 * 16).testBit i = (decide (4 ≤ i) && (s / 16).testBit (i - 4)) := by
      rw [show s / 16 * 16 = (s / 16) * 2 ^ 4 by omega, Nat.testBit_mul_two_pow]
    have h2 : (s % 16).testBit i = (decide (i < 4) && s.testBit i) := by
      rw [show s % 16 = s % 2 ^ 4 by omega, Nat.testBit_mod_two_pow]
    have h3 : (s / 16).testBit (i - 4) = s.testBit (i - 4 + 4) := by
      rw [show s / 16 = s / 2 ^ 4 by omega, Nat.testBit_div_two_pow]
    rw [h1, h2, h3]
    by_cases hi : i < 4
    · simp [hi, show ¬ 4 ≤ i by omega]
    · simp [hi, show 4 ≤ i by omega, show i - 4 + 4 = i by omega]
  have hz : cF 4 (s / 16 * 16) = s / 16 := by
    have hc : ∀ t, t % 2 = 0 → cs t = t / 2 := fun t ht => by unfold cs; rw [if_neg (by omega), Nat.xor_zero]
    show cs (cs (cs (cs (s / 16 * 16)))) = _
    rw [hc (s / 16 * 16) (by omega), hc (s / 16 * 16 / 2) (by omega), hc (s / 16 * 16 / 2 / 2) (by omega), hc (s / 16 * 16 / 2 / 2 / 2) (by omega)]
    omega
  calc cF 4 s = cF 4 ((s / 16 * 16) ^^^ (s % 16)) := by rw [← e]
    _ = cF 4 (s % 16) ^^^ (s / 16) := by rw [cF_xor, hz, Nat.xor_comm]
end Go.Proofs.Ytenahnbfaekljaa
