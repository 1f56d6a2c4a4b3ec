/-
  THE DOCUMENT's SUMS (castellanref03.bit, Sum, Put, Open): the remainder, one function of the bytes. Conditions: the bytes' cells hold them, no more than ten thousand.
-/
import Derived.Test.YtenahnbfaekljaaProg
import Derived.Test.YtenahnbfaekljaaSlc
import Derived.Test.YtenahnbfaekljaaWnum
import Derived.Test.YtenahnbfaekljaaCrcM
import Derived.WalkKit
import Derived.WalkSpells
import Derived.WalkSmall
import Derived.Laws.BitsAllLaws
import Derived.Deep.QuietTactic
import Derived.BigQuiet
namespace Go.Proofs.Ytenahnbfaekljaa
open Go.RowKit

/-- A text's bits: byte by byte, the lowest first; noughts behind. -/
def gb (l : List Int) (i : Nat) : Nat := ((l.getD (i / 8) 0).toNat / 2 ^ (i % 8)) % 2
theorem gb_bit (l : List Int) : Bit (gb l) := fun i => by unfold gb; omega
theorem gb_none {l : List Int} {i : Nat} (h : 8 * l.length ≤ i) : gb l i = 0 := by
  unfold gb
  rw [List.getD_eq_getElem?_getD, List.getElem?_eq_none (by omega)]
  simp
theorem and_one32 {x : Int} (h0 : 0 ≤ x) (h1 : x < 4294967296) : bits .and .u32 x 1 = x % 2 := by
  rw [u32_and x 1 h0 h1 (by omega) (by omega)]
  show ((x.toNat &&& 1 : Nat) : Int) = _
  rw [Nat.and_one_is_mod]
  omega
theorem flip_bit {g : Nat → Nat} (h : Bit g) : Bit (flip g) := fun i => by
  unfold flip
  rcases h i with e | e <;> rw [e] <;> split <;> simp
theorem cT_lt {g : Nat → Nat} (h : Bit g) (i : Nat) : cT g i < 4294967296 := by
  induction i with
  | zero => exact (by decide : (0 : Nat) < 4294967296)
  | succ i ih =>
    refine Nat.xor_lt_two_pow (n := 32) (cs_lt ih) ?_
    rcases h i with e | e <;> rw [e] <;> decide
/-- A step as it is reckoned. -/
theorem cT_next {g : Nat → Nat} (h : Bit g) (i : Nat) : cT g (i + 1) = (cT g i / 2 + g i * 2147483648) ^^^ (if cT g i % 2 = 1 then 2197175160 else 0) := by
  have hl := cT_lt h i
  have hh : cT g i / 2 < 2 ^ 31 := by omega
  show (cT g i / 2 ^^^ _) ^^^ (g i * 2147483648) = _
  rw [Nat.xor_assoc, Nat.xor_comm _ (g i * 2147483648), ← Nat.xor_assoc]
  congr 1
  rcases h i with e | e
  · rw [e, Nat.zero_mul, Nat.xor_zero, Nat.add_zero]
  · rw [e, Nat.one_mul]
    refine Nat.eq_of_testBit_eq fun j => ?_
    rw [Nat.testBit_xor, Nat.add_comm, show (2147483648 : Nat) = 2 ^ 31 by rfl, Nat.testBit_two_pow]
    by_cases hj : j < 31
    · rw [Nat.testBit_two_pow_add_gt hj]
      simp [show ¬ 31 = j by omega]
    · by_cases hj2 : j = 31
      · subst hj2
        rw [Nat.testBit_two_pow_add_eq]
        simp
      · rw [Nat.testBit_lt_two_pow (show cT g i / 2 < 2 ^ j from Nat.lt_of_lt_of_le hh (Nat.pow_le_pow_right (by decide) (by omega))), Nat.testBit_lt_two_pow (show 2 ^ 31 + cT g i / 2 < 2 ^ j from Nat.lt_of_lt_of_le (show _ < 2 ^ 32 by omega) (Nat.pow_le_pow_right (by decide) (by omega)))]
        simp [show ¬ 31 = j by omega]
/-- The chapter's sum of bytes. -/
def crcL (l : List Int) : Nat := 4294967295 - cT (flip (gb l)) (8 * l.length + 32)
end Go.Proofs.Ytenahnbfaekljaa
