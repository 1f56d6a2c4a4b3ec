/-
  NUMBERS OF BYTES, AND OF BYTES ALONE (wire.size, natural, announced, number): at every number, and at one, two, four and eight bytes. Conditions: the bytes' cells hold them, and bytes are bytes.
-/
import Derived.Test.YthoeajiojdfgdaaDoorProg
import Derived.Test.YthoeajiojdfgdaaDoorSlc
import Derived.Test.YthoeajiojdfgdaaDoorWnum
import Derived.WalkKit
import Derived.WalkSpells
import Derived.WalkSmall
import Derived.Deep.QuietTactic
import Derived.BigQuiet
namespace Go.Proofs.YthoeajiojdfgdaaDoor
open Go.RowKit

theorem or_nat (j a y : Nat) (hy : y < 2 ^ j) : 2 ^ j * a ||| y = 2 ^ j * a + y := (Nat.two_pow_add_eq_or_of_lt hy a).symm
theorem or_u64 (j a y : Nat) (hy : y < 2 ^ j) (hs : 2 ^ j * a + y < 18446744073709551616) : bits .or .u64 ((2 ^ j * a : Nat) : Int) (y : Int) = ((2 ^ j * a + y : Nat) : Int) := by
  have h1 : 2 ^ j * a < 2 ^ 64 := by omega
  have h2 : y < 2 ^ 64 := by omega
  have e : (BitVec.ofInt 64 ((2 ^ j * a : Nat) : Int) ||| BitVec.ofInt 64 (y : Int)).toNat = 2 ^ j * a + y := by
    rw [BitVec.toNat_or, BitVec.ofInt_natCast, BitVec.ofInt_natCast, BitVec.toNat_ofNat, BitVec.toNat_ofNat, Nat.mod_eq_of_lt h1, Nat.mod_eq_of_lt h2]
    exact or_nat j a y hy
  show IntKind.u64.wrap ((BitVec.ofInt 64 ((2 ^ j * a : Nat) : Int) ||| BitVec.ofInt 64 (y : Int)).toNat : Int) = _
  rw [e, IntKind.wrap_u64]
  omega
theorem or_u8 (j a y : Nat) (hy : y < 2 ^ j) (hs : 2 ^ j * a + y < 256) : bits .or .u8 (y : Int) ((2 ^ j * a : Nat) : Int) = ((2 ^ j * a + y : Nat) : Int) := by
  have h1 : 2 ^ j * a < 2 ^ 8 := by omega
  have h2 : y < 2 ^ 8 := by omega
  have e : (BitVec.ofInt 8 (y : Int) ||| BitVec.ofInt 8 ((2 ^ j * a : Nat) : Int)).toNat = 2 ^ j * a + y := by
    rw [BitVec.toNat_or, BitVec.ofInt_natCast, BitVec.ofInt_natCast, BitVec.toNat_ofNat, BitVec.toNat_ofNat, Nat.mod_eq_of_lt h1, Nat.mod_eq_of_lt h2, Nat.or_comm]
    exact or_nat j a y hy
  show IntKind.u8.wrap ((BitVec.ofInt 8 (y : Int) ||| BitVec.ofInt 8 ((2 ^ j * a : Nat) : Int)).toNat : Int) = _
  rw [e, IntKind.wrap_u8]
  omega
/-- Two numbers that share no bit: the lower one lies below 2^j, the higher one is a multiple of it. -/
theorem or_add {x y P : Int} (j : Nat) (q : Int) (hP : P = ((2 ^ j : Nat) : Int)) (hx : x = P * q) (hq : 0 ≤ q) (h0 : 0 ≤ y) (hy : y < P) (hs : x + y < 18446744073709551616) : bits .or .u64 x y = x + y := by
  have e1 : x = ((2 ^ j * q.toNat : Nat) : Int) := by rw [hx, hP, Int.natCast_mul]; congr 1; omega
  have e2 : y = (y.toNat : Int) := by omega
  have e3 := or_u64 j q.toNat y.toNat (by omega) (by omega)
  rw [← e1, ← e2] at e3
  rw [e3]
  omega
/-- A byte below 64 with its two highest bits. -/
theorem or_head {x : Int} (q : Nat) (h0 : 0 ≤ x) (h1 : x < 64) (hq : q < 4) : bits .or .u8 x ((64 * q : Nat) : Int) = x + 64 * q := by
  have e2 : x = (x.toNat : Int) := by omega
  have e3 := or_u8 6 q x.toNat (by omega) (by omega)
  rw [← e2] at e3
  rw [show 64 * q = 2 ^ 6 * q by omega, e3]
  omega
set_option maxRecDepth 100000 in
set_option maxHeartbeats 4000000 in
theorem number_1 (b o cap : Nat) (x0 : Int) (w : World) (h0 : 0 ≤ x0) (g0 : x0 ≤ 255) (c0 : w.cell? ⟨b, o, none⟩ = some (.int .u8 x0)) :
    Calls Tryd.prog 64 #[.slice (some ⟨b, o, none⟩) 1 cap] w fun e w' => e = .returned (.int .u64 (x0 % 64)) ∧ Below w.heap.size w w' := by
  go_enter Tryd.func64, Tryd.ntmps64
  go_wp2_with fail
  go_quiet (fail)
  go_wp2
  all_goals go_ret
  all_goals exact ⟨rfl, below_drewN (Below.refl _ _) _⟩
set_option maxRecDepth 100000 in
set_option maxHeartbeats 4000000 in
theorem number_2 (b o cap : Nat) (x0 x1 : Int) (w : World) (h0 : 0 ≤ x0) (g0 : x0 ≤ 255) (h1 : 0 ≤ x1) (g1 : x1 ≤ 255) (hc : 2 ≤ cap)
    (c0 : w.cell? ⟨b, o, none⟩ = some (.int .u8 x0)) (c1 : w.cell? ⟨b, o + 1, none⟩ = some (.int .u8 x1)) :
    Calls Tryd.prog 64 #[.slice (some ⟨b, o, none⟩) 2 cap] w fun e w' => e = .returned (.int .u64 (x0 % 64 * 256 + x1)) ∧ Below w.heap.size w w' := by
  have e1 : bits .or .u64 (x0 % 64 * 256) x1 = x0 % 64 * 256 + x1 := or_add 8 (x0 % 64) (P := 256) rfl (by omega) (by omega) (by omega) (by omega) (by omega)
  go_enter Tryd.func64, Tryd.ntmps64
  go_wp2_with fail
  go_quiet (fail)
  go_wp2
  go_ret
  exact ⟨rfl, below_drewN (Below.refl _ _) _⟩
set_option maxRecDepth 100000 in
set_option maxHeartbeats 4000000 in
theorem number_4 (b o cap : Nat) (x0 x1 x2 x3 : Int) (w : World) (h0 : 0 ≤ x0) (g0 : x0 ≤ 255) (h1 : 0 ≤ x1) (g1 : x1 ≤ 255) (h2 : 0 ≤ x2) (g2 : x2 ≤ 255) (h3 : 0 ≤ x3) (g3 : x3 ≤ 255) (hc : 4 ≤ cap)
    (c0 : w.cell? ⟨b, o, none⟩ = some (.int .u8 x0)) (c1 : w.cell? ⟨b, o + 1, none⟩ = some (.int .u8 x1)) (c2 : w.cell? ⟨b, o + 2, none⟩ = some (.int .u8 x2)) (c3 : w.cell? ⟨b, o + 3, none⟩ = some (.int .u8 x3)) :
    Calls Tryd.prog 64 #[.slice (some ⟨b, o, none⟩) 4 cap] w fun e w' => e = .returned (.int .u64 (((x0 % 64 * 256 + x1) * 256 + x2) * 256 + x3)) ∧ Below w.heap.size w w' := by
  have e1 : bits .or .u64 (x0 % 64 * 65536) (x1 * 256) = x0 % 64 * 65536 + x1 * 256 := or_add 16 (x0 % 64) (P := 65536) rfl (by omega) (by omega) (by omega) (by omega) (by omega)
  have e2 : bits .or .u64 (x0 % 64 * 65536 + x1 * 256) x2 = x0 % 64 * 65536 + x1 * 256 + x2 := or_add 8 (x0 % 64 * 256 + x1) (P := 256) rfl (by omega) (by omega) (by omega) (by omega) (by omega)
  have e3 : bits .or .u64 ((x0 % 64 * 65536 + x1 * 256 + x2) * 256) x3 = (x0 % 64 * 65536 + x1 * 256 + x2) * 256 + x3 := or_add 8 (x0 % 64 * 65536 + x1 * 256 + x2) (P := 256) rfl (by omega) (by omega) (by omega) (by omega) (by omega)
  have e4 : ((x0 % 64 * 256 + x1) * 256 + x2) * 256 + x3 = (x0 % 64 * 65536 + x1 * 256 + x2) * 256 + x3 := by omega
  rw [e4]
  clear e4
  go_enter Tryd.func64, Tryd.ntmps64
  go_wp2_with fail
  go_quiet (fail)
  go_wp2_with fail
  go_quiet (fail)
  go_wp2
  go_ret
  exact ⟨rfl, below_drewN (Below.refl _ _) _⟩
set_option maxRecDepth 100000 in
set_option maxHeartbeats 4000000 in
theorem number_8 (b o cap : Nat) (x0 x1 x2 x3 x4 x5 x6 x7 : Int) (w : World) (h0 : 0 ≤ x0) (g0 : x0 ≤ 255) (h1 : 0 ≤ x1) (g1 : x1 ≤ 255) (h2 : 0 ≤ x2) (g2 : x2 ≤ 255) (h3 : 0 ≤ x3) (g3 : x3 ≤ 255) (h4 : 0 ≤ x4) (g4 : x4 ≤ 255) (h5 : 0 ≤ x5) (g5 : x5 ≤ 255) (h6 : 0 ≤ x6) (g6 : x6 ≤ 255) (h7 : 0 ≤ x7) (g7 : x7 ≤ 255) (hc : 8 ≤ cap)
    (c0 : w.cell? ⟨b, o, none⟩ = some (.int .u8 x0)) (c1 : w.cell? ⟨b, o + 1, none⟩ = some (.int .u8 x1)) (c2 : w.cell? ⟨b, o + 2, none⟩ = some (.int .u8 x2)) (c3 : w.cell? ⟨b, o + 3, none⟩ = some (.int .u8 x3)) (c4 : w.cell? ⟨b, o + 4, none⟩ = some (.int .u8 x4)) (c5 : w.cell? ⟨b, o + 5, none⟩ = some (.int .u8 x5)) (c6 : w.cell? ⟨b, o + 6, none⟩ = some (.int .u8 x6)) (c7 : w.cell? ⟨b, o + 7, none⟩ = some (.int .u8 x7)) :
    Calls Tryd.prog 64 #[.slice (some ⟨b, o, none⟩) 8 cap] w fun e w' => e = .returned (.int .u64 (((((((x0 % 64 * 256 + x1) * 256 + x2) * 256 + x3) * 256 + x4) * 256 + x5) * 256 + x6) * 256 + x7)) ∧ Below w.heap.size w w' := by
  have e1 : bits .or .u64 (x0 % 64 * 4294967296) (x1 * 16777216) = x0 % 64 * 4294967296 + x1 * 16777216 := or_add 32 (x0 % 64) (P := 4294967296) rfl (by omega) (by omega) (by omega) (by omega) (by omega)
  have e2 : bits .or .u64 (x0 % 64 * 4294967296 + x1 * 16777216) (x2 * 65536) = x0 % 64 * 4294967296 + x1 * 16777216 + x2 * 65536 := or_add 24 (x0 % 64 * 256 + x1) (P := 16777216) rfl (by omega) (by omega) (by omega) (by omega) (by omega)
  have e3 : bits .or .u64 (x0 % 64 * 4294967296 + x1 * 16777216 + x2 * 65536) (x3 * 256) = x0 % 64 * 4294967296 + x1 * 16777216 + x2 * 65536 + x3 * 256 := or_add 16 ((x0 % 64 * 256 + x1) * 256 + x2) (P := 65536) rfl (by omega) (by omega) (by omega) (by omega) (by omega)
  have e4 : bits .or .u64 (x0 % 64 * 4294967296 + x1 * 16777216 + x2 * 65536 + x3 * 256) x4 = x0 % 64 * 4294967296 + x1 * 16777216 + x2 * 65536 + x3 * 256 + x4 := or_add 8 (((x0 % 64 * 256 + x1) * 256 + x2) * 256 + x3) (P := 256) rfl (by omega) (by omega) (by omega) (by omega) (by omega)
  have e5 : bits .or .u64 ((x0 % 64 * 4294967296 + x1 * 16777216 + x2 * 65536 + x3 * 256 + x4) * 65536) (x5 * 256) = (x0 % 64 * 4294967296 + x1 * 16777216 + x2 * 65536 + x3 * 256 + x4) * 65536 + x5 * 256 := or_add 16 (x0 % 64 * 4294967296 + x1 * 16777216 + x2 * 65536 + x3 * 256 + x4) (P := 65536) rfl (by omega) (by omega) (by omega) (by omega) (by omega)
  have e6 : bits .or .u64 ((x0 % 64 * 4294967296 + x1 * 16777216 + x2 * 65536 + x3 * 256 + x4) * 65536 + x5 * 256) x6 = (x0 % 64 * 4294967296 + x1 * 16777216 + x2 * 65536 + x3 * 256 + x4) * 65536 + x5 * 256 + x6 := or_add 8 ((x0 % 64 * 4294967296 + x1 * 16777216 + x2 * 65536 + x3 * 256 + x4) * 256 + x5) (P := 256) rfl (by omega) (by omega) (by omega) (by omega) (by omega)
  have e7 : bits .or .u64 (((x0 % 64 * 4294967296 + x1 * 16777216 + x2 * 65536 + x3 * 256 + x4) * 65536 + x5 * 256 + x6) * 256) x7 = ((x0 % 64 * 4294967296 + x1 * 16777216 + x2 * 65536 + x3 * 256 + x4) * 65536 + x5 * 256 + x6) * 256 + x7 := or_add 8 ((x0 % 64 * 4294967296 + x1 * 16777216 + x2 * 65536 + x3 * 256 + x4) * 65536 + x5 * 256 + x6) (P := 256) rfl (by omega) (by omega) (by omega) (by omega) (by omega)
  have e8 : ((((((x0 % 64 * 256 + x1) * 256 + x2) * 256 + x3) * 256 + x4) * 256 + x5) * 256 + x6) * 256 + x7 = ((x0 % 64 * 4294967296 + x1 * 16777216 + x2 * 65536 + x3 * 256 + x4) * 65536 + x5 * 256 + x6) * 256 + x7 := by omega
  rw [e8]
  clear e8
  go_enter Tryd.func64, Tryd.ntmps64
  go_wp2_with fail
  go_quiet (fail)
  go_wp2_with fail
  go_quiet (fail)
  go_wp2_with fail
  go_quiet (fail)
  go_wp2
  go_ret
  exact ⟨rfl, below_drewN (Below.refl _ _) _⟩

/-- In how many bytes a number stands. -/
def szL (n : Int) : Int := (numL n).length
theorem wsize_any (n : Int) (w : World) : Calls Tryd.prog 51 #[.int .u64 n] w fun e w' => e = .returned (.int .i64 (szL n)) ∧ w' = w := by
  unfold szL numL
  by_cases h1 : n < 64
  · rw [if_pos h1]
    go_enter Tryd.func51, Tryd.ntmps51
    go_wp2
    go_ret
    exact ⟨rfl, rfl⟩
  · rw [if_neg h1]
    by_cases h2 : n < 16384
    · rw [if_pos h2]
      go_enter Tryd.func51, Tryd.ntmps51
      go_wp2
      go_ret
      exact ⟨rfl, rfl⟩
    · rw [if_neg h2]
      by_cases h3 : n < 1073741824
      · rw [if_pos h3]
        go_enter Tryd.func51, Tryd.ntmps51
        go_wp2
        go_ret
        exact ⟨rfl, rfl⟩
      · rw [if_neg h3]
        go_enter Tryd.func51, Tryd.ntmps51
        go_wp2
        go_ret
        exact ⟨rfl, rfl⟩
/-- A number as one that is not below 0. -/
def abv' (n : Int) : Int := if n < 0 then 0 else n
theorem natural_any (n : Int) (w : World) (h1 : n ≤ 9223372036854775807) : Calls Tryd.prog 50 #[.int .i64 n] w fun e w' => e = .returned (.int .u64 (abv' n)) ∧ w' = w := by
  by_cases h : n < 0
  · rw [show abv' n = 0 from if_pos h]
    go_enter Tryd.func50, Tryd.ntmps50
    go_wp2
    all_goals go_ret
    all_goals exact ⟨rfl, rfl⟩
  · rw [show abv' n = n from if_neg h]
    go_enter Tryd.func50, Tryd.ntmps50
    go_wp2
    all_goals go_ret
    all_goals exact ⟨rfl, rfl⟩
theorem announced_none (ao : Option Addr) (cap : Nat) (w : World) : Calls Tryd.prog 63 #[.slice ao 0 cap] w fun e w' => e = .returned (.int .i64 1) ∧ w' = w := by
  go_enter Tryd.func63, Tryd.ntmps63
  go_wp2
  go_ret
  exact ⟨rfl, rfl⟩
/-- How many bytes a first byte announces. -/
def annL (x : Int) : Int := if x / 64 = 0 then 1 else if x / 64 = 1 then 2 else if x / 64 = 2 then 4 else 8
theorem annL_pow (x : Int) (h0 : 0 ≤ x) (g0 : x ≤ 255) : wrap64 (2 ^ (x / 64).toNat) = annL x := by
  have hq : x / 64 = 0 ∨ x / 64 = 1 ∨ x / 64 = 2 ∨ x / 64 = 3 := by omega
  unfold annL
  rcases hq with h | h | h | h <;> rw [h] <;> simp [wrap64]
theorem announced_some (b o n cap : Nat) (x0 : Int) (w : World) (hn : 0 < n) (h0 : 0 ≤ x0) (g0 : x0 ≤ 255) (c0 : w.cell? ⟨b, o, none⟩ = some (.int .u8 x0)) :
    Calls Tryd.prog 63 #[.slice (some ⟨b, o, none⟩) n cap] w fun e w' => e = .returned (.int .i64 (annL x0)) ∧ w' = w := by
  have hn' : ¬ n = 0 := by omega
  have hp := annL_pow x0 h0 g0
  go_enter Tryd.func63, Tryd.ntmps63
  go_wp2
  go_ret
  exact ⟨by rw [← hp]; rfl, rfl⟩
end Go.Proofs.YthoeajiojdfgdaaDoor
