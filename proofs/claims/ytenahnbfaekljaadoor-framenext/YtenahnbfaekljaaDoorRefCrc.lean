/-
  THE DOCUMENT's SUMS (castellanref03.bit, Sum, Put, Open): the remainder, one function of the bytes. Conditions: the bytes' cells hold them, no more than ten thousand.
-/
import Derived.Test.YtenahnbfaekljaaDoorProg
import Derived.Test.YtenahnbfaekljaaDoorSlc
import Derived.Test.YtenahnbfaekljaaDoorWnum
import Derived.Test.YtenahnbfaekljaaDoorCrcM
import Derived.WalkKit
import Derived.WalkSpells
import Derived.WalkSmall
import Derived.Laws.BitsAllLaws
import Derived.Deep.QuietTactic
import Derived.BigQuiet
namespace Go.Proofs.YtenahnbfaekljaaDoor
open Go.RowKit

/-- A text's bits: byte by byte, the lowest first; noughts behind. -/
def gb (l : List Int) (i : Nat) : Nat := ((l.getD (i / 8) 0).toNat / 2 ^ (i % 8)) % 2
theorem gb_bit (l : List Int) : Bit (gb l) := fun i => by unfold gb; omega
theorem gb_none {l : List Int} {i : Nat} (h : 8 * l.length ≤ i) : gb l i = 0 := by
  unfold gb
  rw [List.getD_eq_getElem?_getD, List.getElem?_eq_none (by omega)]
  simp
theorem and_one32 {x : Int} (h0 : 0 ≤ x) (h1 : x < 4294967296) : bits .and .u32 x 1 = x % 2 := by
  rw [u32_and x 1 h0 h1 (by omega) (by omega)]
  show ((x.toNat &&& 1 : Nat) : Int) = _
  rw [Nat.and_one_is_mod]
  omega
set_option maxRecDepth 100000 in
set_option maxHeartbeats 4000000 in
theorem bit_in (b o cap i : Nat) (l : List Int) (w : World) (hl : l.length ≤ 10000) (hby : Byt l) (h3 : ∀ i (h : i < l.length), w.cell? ⟨b, o + i, none⟩ = some (bc l[i])) (hi : i < 8 * l.length) :
    Calls Tryd.prog 67 #[.slice (some ⟨b, o, none⟩) l.length cap, .int .i64 i] w fun e w' => e = .returned (.int .u32 (flip (gb l) i : Nat)) ∧ w' = w := by
  have hj : i / 8 < l.length := by omega
  have hc : w.cell? ⟨b, o + i / 8, none⟩ = some (.int .u8 l[i / 8]) := h3 (i / 8) hj
  have hx := hby _ (List.getElem_mem hj)
  obtain ⟨x0, x1⟩ := hx
  have hg : gb l i = (l[i / 8].toNat / 2 ^ (i % 8)) % 2 := by
    unfold gb
    rw [List.getD_eq_getElem?_getD, List.getElem?_eq_getElem hj]
    rfl
  generalize l[i / 8] = x at *
  have hlt : (i : Int) < 8 * (l.length : Int) := by omega
  have hand : bits .and .u32 (x / 2 ^ (i % 8)) 1 = ((gb l i : Nat) : Int) := by
    obtain ⟨X, rfl⟩ := Int.eq_ofNat_of_zero_le x0
    have e : ((X : Int) / 2 ^ (i % 8)) = ((X / 2 ^ (i % 8) : Nat) : Int) := by simp
    have hle : X / 2 ^ (i % 8) ≤ X := Nat.div_le_self _ _
    rw [e, hg]
    simp only [Int.toNat_natCast]
    generalize X / 2 ^ (i % 8) = Y at *
    rw [and_one32 (by omega) (by omega)]
    rfl
  have hG := gb_bit l i
  have HF : Hid (flip (gb l) i = if i < 32 then 1 - gb l i else gb l i) := hide rfl
  clear h3 hby hg
  generalize gb l i = G at *
  by_cases h32 : (i : Int) < 32
  · go_enter Tryd.func67, Tryd.ntmps67
    go_wp2
    go_ret
    refine ⟨?_, rfl⟩
    rw [HF.out, if_pos (by omega)]
    rcases hG with rfl | rfl <;> rfl
  · go_enter Tryd.func67, Tryd.ntmps67
    go_wp2
    go_ret
    refine ⟨?_, rfl⟩
    rw [HF.out, if_neg (by omega)]
    rfl
set_option maxRecDepth 100000 in
set_option maxHeartbeats 4000000 in
theorem bit_out (ao : Option Addr) (cap i : Nat) (l : List Int) (w : World) (hl : l.length ≤ 10000) (hi : ¬ i < 8 * l.length) :
    Calls Tryd.prog 67 #[.slice ao l.length cap, .int .i64 i] w fun e w' => e = .returned (.int .u32 (flip (gb l) i : Nat)) ∧ w' = w := by
  have hlt : ¬ (i : Int) < 8 * (l.length : Int) := by omega
  have hG : gb l i = 0 := gb_none (by omega)
  have HF : Hid (flip (gb l) i = if i < 32 then 1 - 0 else 0) := hide (by unfold flip; rw [hG])
  clear hG
  by_cases h32 : (i : Int) < 32
  · go_enter Tryd.func67, Tryd.ntmps67
    go_wp2
    go_ret
    refine ⟨?_, rfl⟩
    rw [HF.out, if_pos (by omega)]
    rfl
  · go_enter Tryd.func67, Tryd.ntmps67
    go_wp2
    go_ret
    refine ⟨?_, rfl⟩
    rw [HF.out, if_neg (by omega)]
    rfl
theorem bit_any (v : Value) (l : List Int) (i : Nat) (w : World) (hv : Sl bc w v l) (hl : l.length ≤ 10000) (hby : Byt l) :
    Calls Tryd.prog 67 #[v, .int .i64 i] w fun e w' => e = .returned (.int .u32 (flip (gb l) i : Nat)) ∧ w' = w := by
  by_cases hi : i < 8 * l.length
  · rcases hv with ⟨ao, cap, rfl, rfl⟩ | ⟨b, o, cap, rfl, h2, h3⟩
    · simp at hi
    · exact bit_in b o cap i l w hl hby h3 hi
  · obtain ⟨ao, cap, rfl⟩ := hv.form
    exact bit_out ao cap i l w hl hi
theorem flip_bit {g : Nat → Nat} (h : Bit g) : Bit (flip g) := fun i => by
  unfold flip
  rcases h i with e | e <;> rw [e] <;> split <;> simp
theorem cT_lt {g : Nat → Nat} (h : Bit g) (i : Nat) : cT g i < 4294967296 := by
  induction i with
  | zero => exact (by decide : (0 : Nat) < 4294967296)
  | succ i ih =>
    refine Nat.xor_lt_two_pow (n := 32) (cs_lt ih) ?_
    rcases h i with e | e <;> rw [e] <;> decide
/-- A step as it is reckoned. -/
theorem cT_next {g : Nat → Nat} (h : Bit g) (i : Nat) : cT g (i + 1) = (cT g i / 2 + g i * 2147483648) ^^^ (if cT g i % 2 = 1 then 2197175160 else 0) := by
  have hl := cT_lt h i
  have hh : cT g i / 2 < 2 ^ 31 := by omega
  show (cT g i / 2 ^^^ _) ^^^ (g i * 2147483648) = _
  rw [Nat.xor_assoc, Nat.xor_comm _ (g i * 2147483648), ← Nat.xor_assoc]
  congr 1
  rcases h i with e | e
  · rw [e, Nat.zero_mul, Nat.xor_zero, Nat.add_zero]
  · rw [e, Nat.one_mul]
    refine Nat.eq_of_testBit_eq fun j => ?_
    rw [Nat.testBit_xor, Nat.add_comm, show (2147483648 : Nat) = 2 ^ 31 by rfl, Nat.testBit_two_pow]
    by_cases hj : j < 31
    · rw [Nat.testBit_two_pow_add_gt hj]
      simp [show ¬ 31 = j by omega]
    · by_cases hj2 : j = 31
      · subst hj2
        rw [Nat.testBit_two_pow_add_eq]
        simp
      · rw [Nat.testBit_lt_two_pow (show cT g i / 2 < 2 ^ j from Nat.lt_of_lt_of_le hh (Nat.pow_le_pow_right (by decide) (by omega))), Nat.testBit_lt_two_pow (show 2 ^ 31 + cT g i / 2 < 2 ^ j from Nat.lt_of_lt_of_le (show _ < 2 ^ 32 by omega) (Nat.pow_le_pow_right (by decide) (by omega)))]
        simp [show ¬ 31 = j by omega]
/-- The chapter's sum of bytes. -/
def crcL (l : List Int) : Nat := 4294967295 - cT (flip (gb l)) (8 * l.length + 32)
set_option maxRecDepth 100000 in
set_option maxHeartbeats 4000000 in
theorem refSum_any (v : Value) (l : List Int) (w : World) (hv : Sl bc w v l) (hl : l.length ≤ 10000) (hby : Byt l) :
    Calls Tryd.prog 46 #[v] w fun e w' => e = .returned (.int .u32 (crcL l : Nat)) ∧ w' = w := by
  have HB := hide (fun i : Nat => bit_any v l i w hv hl hby)
  have hg := flip_bit (gb_bit l)
  have HX := hide (cT_next hg)
  have HT := hide (cT_lt hg)
  have HG := hide hg
  obtain ⟨ao, cap, rfl⟩ := hv.form
  clear hv hby hg
  go_enter Tryd.func46, Tryd.ntmps46
  go_wp2_with fail
  go_loopw [3, 4] (fun s i wr => ∃ j : Nat, j ≤ 8 * l.length + 32 ∧ i = .int .i64 j ∧ s = .int .u32 (cT (flip (gb l)) j : Nat) ∧ wr = w) (fun _ i _ => 8 * l.length + 32 - (intOf i).toNat)
  case atStart => exact ⟨0, Nat.zero_le _, rfl, rfl, rfl⟩
  case round =>
    obtain ⟨j, hj, rfl, rfl, rfl⟩ := hrel
    have h1 := HT.out j
    have h2 := HT.out (j + 1)
    have hb := HG.out j
    have HN := hide (HX.out j)
    by_cases hlt : j < 8 * l.length + 32
    · have hlt' : (j : Int) < 8 * (l.length : Int) + 32 := by omega
      have HBj := hide (HB.out j)
      generalize flip (gb l) j = G at *
      generalize hs : cT (flip (gb l)) j = s at *
      have hand : bits .and .u32 (s : Int) 1 = (s : Int) % 2 := and_one32 (by omega) (by omega)
      clear hs
      by_cases ho : (s : Int) % 2 = 1
      · have hxor : bits .xor .u32 ((s : Int) / 2 + (G : Int) * 2147483648) 2197175160 = ((cT (flip (gb l)) (j + 1) : Nat) : Int) := by
          rw [HN.out, if_pos (by omega), u32_xor _ _ (by omega) (by rcases hb with e | e <;> rw [e] <;> omega) (by omega) (by omega)]
          congr 2
        go_wp2_with (first | (go_at_call 67; refine (HBj.out).mono ?_; rintro e w' ⟨rfl, rfl⟩))
        go_roundw
        case rel => exact ⟨j + 1, by omega, by go_num, rfl, by trivial⟩
        case measure => simp [intOf]; omega
      · have hstep : (s : Int) / 2 + (G : Int) * 2147483648 = ((cT (flip (gb l)) (j + 1) : Nat) : Int) := by
          rw [HN.out, if_neg (by omega), Nat.xor_zero]
          simp
        have ho2 : (s : Int) % 2 = 0 := by omega
        go_wp2_with (first | (go_at_call 67; refine (HBj.out).mono ?_; rintro e w' ⟨rfl, rfl⟩))
        go_roundw
        case rel => exact ⟨j + 1, by omega, by go_num, by go_num, by trivial⟩
        case measure => simp [intOf]; omega
    · obtain rfl : j = 8 * l.length + 32 := by omega
      have HC : Hid (crcL l = 4294967295 - cT (flip (gb l)) (8 * l.length + 32)) := hide rfl
      generalize cT (flip (gb l)) (8 * l.length + 32) = s at *
      go_wp2_with fail
      go_ret
      refine ⟨?_, rfl⟩
      rw [HC.out, show ((4294967295 - s : Nat) : Int) = (4294967295 : Int) - (s : Int) by omega]
      rfl
end Go.Proofs.YtenahnbfaekljaaDoor
