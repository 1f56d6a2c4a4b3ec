/-
  THE SUM OF BYTES, AND FOUR BYTES AS A NUMBER (crc.More, Sum, number): what the document says of them. Conditions: the bytes' cells hold them, no more than a hundred thousand.
-/
import Derived.Test.YtenahnbfaekljaaCrcSum
namespace Go.Proofs.Ytenahnbfaekljaa
open Go.RowKit

set_option maxRecDepth 100000 in
set_option maxHeartbeats 4000000 in
theorem more_none (ao : Option Addr) (cap : Nat) (S : Nat) (w : World) (hS : S < 4294967296) :
    Calls Try.prog 38 #[.int .u32 S, .slice ao 0 cap] w fun e w' => e = .returned (.int .u32 (S : Int)) ∧ Below w.heap.size w w' := by
  have hn := not_32 S hS
  have hsg : IntKind.u32.signed = false := rfl
  have hS1 : S ^^^ 4294967295 < 4294967296 := Nat.xor_lt_two_pow (n := 32) hS (by decide)
  have hn2 := not_32 _ hS1
  rw [Nat.xor_assoc, Nat.xor_self, Nat.xor_zero] at hn2
  generalize S ^^^ 4294967295 = s at *
  go_enter Try.func38, Try.ntmps38
  go_wp2_with fail
  refine wp_loop_rounds 1 ?_
  rw [rounds_succ]
  go_wp2
  go_ret
  exact ⟨rfl, (Below.refl _ _).alloc (Nat.le_refl _) _⟩
/-- The sum of bytes, and of bytes behind them. -/
theorem more_any (v : Value) (S : Nat) (l : List Int) (w : World) (hv : Sl bc w v l) (hS : S < 4294967296) (hl : l.length ≤ 100000) (hby : Byt l) :
    Calls Try.prog 38 #[.int .u32 S, v] w fun e w' => e = .returned (.int .u32 ((crF (S ^^^ 4294967295) l ^^^ 4294967295 : Nat) : Int)) ∧ Below w.heap.size w w' := by
  rcases hv with ⟨ao, cap, rfl, rfl⟩ | ⟨b, o, cap, rfl, _, h3⟩
  · have h := more_none ao cap S w hS
    rw [show crF (S ^^^ 4294967295) [] = S ^^^ 4294967295 from rfl, Nat.xor_assoc, Nat.xor_self, Nat.xor_zero]
    exact h
  · exact more_some b o cap S l w hS hl hby h3
set_option maxRecDepth 100000 in
set_option maxHeartbeats 4000000 in
theorem sum_any (v : Value) (l : List Int) (w : World) (hv : Sl bc w v l) (hl : l.length ≤ 100000) (hby : Byt l) :
    Calls Try.prog 26 #[v] w fun e w' => e = .returned (.int .u32 ((crcL l : Nat) : Int)) ∧ Below w.heap.size w w' := by
  have HM := hide (more_any v 0 l w hv (by decide) hl hby)
  rw [Nat.zero_xor, ← crcL_eq hby] at HM
  clear hv hby
  go_enter Try.func26, Try.ntmps26
  go_wp2_with fail
  refine HM.out.mono ?_
  rintro e w' ⟨rfl, hb⟩
  go_wp2_with fail
  go_ret
  exact ⟨rfl, hb⟩
theorem or_u32 (j a y : Nat) (hy : y < 2 ^ j) (hs : 2 ^ j * a + y < 4294967296) : bits .or .u32 (y : Int) ((2 ^ j * a : Nat) : Int) = ((2 ^ j * a + y : Nat) : Int) := by
  rw [u32_or_nat _ _ (by omega) (by omega), Nat.or_comm, (Nat.two_pow_add_eq_or_of_lt hy a).symm]
/-- Two numbers that share no bit: the lower one lies below 2^j, the higher one is a multiple of it. -/
theorem or_add32 {x y P : Int} (j : Nat) (q : Int) (hP : P = ((2 ^ j : Nat) : Int)) (hx : x = q * P) (hq : 0 ≤ q) (h0 : 0 ≤ y) (hy : y < P) (hs : x + y < 4294967296) : bits .or .u32 y x = y + x := by
  have e1 : x = ((2 ^ j * q.toNat : Nat) : Int) := by rw [hx, hP, Int.natCast_mul, Int.mul_comm]; congr 1; omega
  have e2 : y = (y.toNat : Int) := by omega
  have e3 := or_u32 j q.toNat y.toNat (by omega) (by omega)
  rw [← e1, ← e2] at e3
  rw [e3]
  omega
set_option maxRecDepth 100000 in
set_option maxHeartbeats 4000000 in
theorem number_four (b o cap : Nat) (x0 x1 x2 x3 : Int) (w : World) (h0 : 0 ≤ x0) (g0 : x0 ≤ 255) (h1 : 0 ≤ x1) (g1 : x1 ≤ 255) (h2 : 0 ≤ x2) (g2 : x2 ≤ 255) (h3 : 0 ≤ x3) (g3 : x3 ≤ 255)
    (c0 : w.cell? ⟨b, o, none⟩ = some (.int .u8 x0)) (c1 : w.cell? ⟨b, o + 1, none⟩ = some (.int .u8 x1)) (c2 : w.cell? ⟨b, o + 2, none⟩ = some (.int .u8 x2)) (c3 : w.cell? ⟨b, o + 3, none⟩ = some (.int .u8 x3)) :
    Calls Try.prog 35 #[.slice (some ⟨b, o, none⟩) 4 cap] w fun e w' => e = .returned (.int .u32 (x0 + x1 * 256 + x2 * 65536 + x3 * 16777216)) ∧ Below w.heap.size w w' := by
  have e1 : bits .or .u32 x0 (x1 * 256) = x0 + x1 * 256 := or_add32 8 x1 (P := 256) rfl (by omega) (by omega) (by omega) (by omega) (by omega)
  have e2 : bits .or .u32 (x0 + x1 * 256) (x2 * 65536) = x0 + x1 * 256 + x2 * 65536 := or_add32 16 x2 (P := 65536) rfl (by omega) (by omega) (by omega) (by omega) (by omega)
  have e3 : bits .or .u32 (x0 + x1 * 256 + x2 * 65536) (x3 * 16777216) = x0 + x1 * 256 + x2 * 65536 + x3 * 16777216 := or_add32 24 x3 (P := 16777216) rfl (by omega) (by omega) (by omega) (by omega) (by omega)
  go_enter Try.func35, Try.ntmps35
  go_wp2_with fail
  go_quiet (fail)
  go_wp2
  go_ret
  exact ⟨rfl, below_drewN (Below.refl _ _) _⟩
end Go.Proofs.Ytenahnbfaekljaa
