/-
  NUMBERS AS BYTES, on lists alone (no program in sight): how a number is written, what is read at the head of bytes, that what is written is read as what it was, and that what is read was written in just that way. Conditions: bytes are bytes, numbers are at most 2^62 - 1.
  NUMBERS OF BYTES, AND OF BYTES ALONE (wire.size, natural, announced, number): at every number, and at one, two, four and eight bytes. Conditions: the bytes' cells hold them, and bytes are bytes.
  TEXTS, BYTE BY BYTE (castellanref02.Same): two slices with the same bytes are the same. Condition: no more than forty thousand.
-/
import Derived.WalkKit
import Derived.Below
import Derived.Test.YtgbcjmpnkejpeaaGreatDoorProg
import Derived.Test.YtgbcjmpnkejpeaaGreatDoorJSlca2
import Derived.WalkSpells
import Derived.WalkSmall
import Derived.Deep.QuietTactic
import Derived.BigQuiet
namespace Go.Proofs.YtgbcjmpnkejpeaaGreatDoor
open Go.RowKit
/-- A byte, an int as a cell. -/
def bc (x : Int) : Value := .int .u8 x
def ic (x : Int) : Value := .int .i64 x
/-- Bytes as cells. -/
def bv (l : List Int) : List Value := l.map fun x => Value.int .u8 x
theorem bv_eq (l : List Int) : bv l = l.map bc := rfl
/-- A number's bytes, the highest first. -/
def numL (n : Int) : List Int :=
  if n < 64 then [n] else if n < 16384 then [n / 256 + 64, n % 256] else if n < 1073741824 then [n / 16777216 + 128, n / 65536 % 256, n / 256 % 256, n % 256]
  else [n / 72057594037927936 + 192, n / 281474976710656 % 256, n / 1099511627776 % 256, n / 4294967296 % 256, n / 16777216 % 256, n / 65536 % 256, n / 256 % 256, n % 256]
/-- The greatest number is 2^62 - 1. -/
def capN (n : Int) : Int := if 4611686018427387903 < n then 4611686018427387903 else n
/-- An int's bytes: of 0, if it is below 0. -/
def intL (n : Int) : List Int := if n < 0 then [0] else numL (capN n)
/-- What a number of k bytes comes to: 5, it could stand in fewer; 6, it is above the most; 0, it is read. -/
def finN (k : Nat) (lo n most : Int) : Int × Nat × Int := if n < lo then (5, 0, 0) else if most < n then (6, 0, 0) else (0, k, n)
/-- The next number at the head of the bytes r: a code (3: too short), how many bytes, the number. -/
def numS (r : List Int) (most : Int) : Int × Nat × Int := match r with
  | [] => (3, 0, 0)
  | x0 :: r =>
    if x0 / 64 = 0 then finN 1 0 (x0 % 64) most
    else if x0 / 64 = 1 then (match r with
      | x1 :: _ => finN 2 64 (x0 % 64 * 256 + x1) most
      | _ => (3, 0, 0))
    else if x0 / 64 = 2 then (match r with
      | x1 :: x2 :: x3 :: _ => finN 4 16384 (((x0 % 64 * 256 + x1) * 256 + x2) * 256 + x3) most
      | _ => (3, 0, 0))
    else (match r with
      | x1 :: x2 :: x3 :: x4 :: x5 :: x6 :: x7 :: _ => finN 8 1073741824 (((((((x0 % 64 * 256 + x1) * 256 + x2) * 256 + x3) * 256 + x4) * 256 + x5) * 256 + x6) * 256 + x7) most
      | _ => (3, 0, 0))
theorem numL_le (n : Int) : (numL n).length ≤ 8 := by
  unfold numL; split
  · simp
  · split
    · simp
    · split <;> simp
theorem intL_le (n : Int) : (intL n).length ≤ 8 := by
  unfold intL; split
  · simp
  · exact numL_le _

/-- All are bytes. -/
def Byt (l : List Int) : Prop := ∀ x ∈ l, 0 ≤ x ∧ x ≤ 255
theorem numL_byt {n : Int} (h0 : 0 ≤ n) (h1 : n ≤ 4611686018427387903) : Byt (numL n) := by
  unfold numL Byt
  intro x hx
  split at hx
  · simp at hx; omega
  · split at hx
    · simp at hx; rcases hx with rfl | rfl <;> omega
    · split at hx
      · simp at hx; rcases hx with rfl | rfl | rfl | rfl <;> omega
      · simp at hx; rcases hx with rfl | rfl | rfl | rfl | rfl | rfl | rfl | rfl <;> omega
theorem fin_ok {k : Nat} {lo n m most : Int} (h : n = m) (h0 : lo ≤ m) (h1 : m ≤ most) : finN k lo n most = (0, k, m) := by
  subst h
  rw [finN, if_neg (by omega), if_neg (by omega)]
/-- What was written is read. -/
theorem numS_numL {n most : Int} (r : List Int) (h0 : 0 ≤ n) (h1 : n ≤ 4611686018427387903) (hm : n ≤ most) : numS (numL n ++ r) most = (0, (numL n).length, n) := by
  by_cases a : n < 64
  · simp only [numL, if_pos a, List.cons_append, List.nil_append, numS, List.length_cons, List.length_nil]
    rw [if_pos (by omega)]
    exact fin_ok (by omega) (by omega) hm
  · by_cases b : n < 16384
    · simp only [numL, if_neg a, if_pos b, List.cons_append, List.nil_append, numS, List.length_cons, List.length_nil]
      rw [if_neg (by omega), if_pos (by omega)]
      exact fin_ok (by omega) (by omega) hm
    · by_cases c : n < 1073741824
      · simp only [numL, if_neg a, if_neg b, if_pos c, List.cons_append, List.nil_append, numS, List.length_cons, List.length_nil]
        rw [if_neg (by omega), if_neg (by omega), if_pos (by omega)]
        exact fin_ok (by omega) (by omega) hm
      · simp only [numL, if_neg a, if_neg b, if_neg c, List.cons_append, List.nil_append, numS, List.length_cons, List.length_nil]
        rw [if_neg (by omega), if_neg (by omega), if_neg (by omega)]
        exact fin_ok (by omega) (by omega) hm
theorem fin_inv {k : Nat} {lo n most : Int} {j : Nat} {m : Int} (h : finN k lo n most = (0, j, m)) : j = k ∧ m = n ∧ lo ≤ n ∧ n ≤ most := by
  unfold finN at h
  split at h
  · simp at h
  · split at h
    · simp at h
    · simp at h; omega
/-- What is read was written in just that way. -/
theorem numS_once {r : List Int} {most : Int} {k : Nat} {n : Int} (hb : Byt r) (h : numS r most = (0, k, n)) : r.take k = numL n ∧ k = (numL n).length ∧ 0 ≤ n ∧ n ≤ 4611686018427387903 ∧ n ≤ most ∧ k ≤ r.length := by
  rcases r with _ | ⟨x0, r⟩
  · simp [numS] at h
  have b0 := hb x0 (by simp)
  unfold numS at h
  simp only at h
  split at h
  · obtain ⟨rfl, rfl, h1, h2⟩ := fin_inv h
    have e : numL (x0 % 64) = [x0] := by rw [numL, if_pos (by omega)]; congr 1; omega
    rw [e]
    refine ⟨by simp, by simp, by omega, by omega, h2, by simp⟩
  · split at h
    · rcases r with _ | ⟨x1, r⟩
      · simp at h
      have b1 := hb x1 (by simp)
      obtain ⟨rfl, rfl, h1, h2⟩ := fin_inv h
      have e : numL (x0 % 64 * 256 + x1) = [x0, x1] := by
        rw [numL, if_neg (by omega), if_pos (by omega)]
        simp only [List.cons.injEq, and_true]; refine ⟨?_, ?_⟩ <;> omega
      rw [e]
      refine ⟨by simp, by simp, by omega, by omega, h2, by simp⟩
    · split at h
      · rcases r with _ | ⟨x1, _ | ⟨x2, _ | ⟨x3, r⟩⟩⟩
        · simp at h
        · simp at h
        · simp at h
        have b1 := hb x1 (by simp)
        have b2 := hb x2 (by simp)
        have b3 := hb x3 (by simp)
        obtain ⟨rfl, rfl, h1, h2⟩ := fin_inv h
        have e : numL (((x0 % 64 * 256 + x1) * 256 + x2) * 256 + x3) = [x0, x1, x2, x3] := by
          rw [numL, if_neg (by omega), if_neg (by omega), if_pos (by omega)]
          simp only [List.cons.injEq, and_true]; refine ⟨?_, ?_, ?_, ?_⟩ <;> omega
        rw [e]
        refine ⟨by simp, by simp, by omega, by omega, h2, by simp⟩
      · rcases r with _ | ⟨x1, _ | ⟨x2, _ | ⟨x3, _ | ⟨x4, _ | ⟨x5, _ | ⟨x6, _ | ⟨x7, r⟩⟩⟩⟩⟩⟩⟩
        · simp at h
        · simp at h
        · simp at h
        · simp at h
        · simp at h
        · simp at h
        · simp at h
        have b1 := hb x1 (by simp)
        have b2 := hb x2 (by simp)
        have b3 := hb x3 (by simp)
        have b4 := hb x4 (by simp)
        have b5 := hb x5 (by simp)
        have b6 := hb x6 (by simp)
        have b7 := hb x7 (by simp)
        obtain ⟨rfl, rfl, h1, h2⟩ := fin_inv h
        have e : numL (((((((x0 % 64 * 256 + x1) * 256 + x2) * 256 + x3) * 256 + x4) * 256 + x5) * 256 + x6) * 256 + x7) = [x0, x1, x2, x3, x4, x5, x6, x7] := by
          rw [numL, if_neg (by omega), if_neg (by omega), if_neg (by omega)]
          simp only [List.cons.injEq, and_true]; refine ⟨?_, ?_, ?_, ?_, ?_, ?_, ?_, ?_⟩ <;> omega
        rw [e]
        refine ⟨by simp, by simp, by omega, by omega, h2, by simp⟩
end Go.Proofs.YtgbcjmpnkejpeaaGreatDoor
namespace Go.Proofs.YtgbcjmpnkejpeaaGreatDoor
open Go.RowKit

theorem or_nat (j a y : Nat) (hy : y < 2 ^ j) : 2 ^ j * a ||| y = 2 ^ j * a + y := (Nat.two_pow_add_eq_or_of_lt hy a).symm
theorem or_u64 (j a y : Nat) (hy : y < 2 ^ j) (hs : 2 ^ j * a + y < 18446744073709551616) : bits .or .u64 ((2 ^ j * a : Nat) : Int) (y : Int) = ((2 ^ j * a + y : Nat) : Int) := by
  have h1 : 2 ^ j * a < 2 ^ 64 := by omega
  have h2 : y < 2 ^ 64 := by omega
  have e : (BitVec.ofInt 64 ((2 ^ j * a : Nat) : Int) ||| BitVec.ofInt 64 (y : Int)).toNat = 2 ^ j * a + y := by
    rw [BitVec.toNat_or, BitVec.ofInt_natCast, BitVec.ofInt_natCast, BitVec.toNat_ofNat, BitVec.toNat_ofNat, Nat.mod_eq_of_lt h1, Nat.mod_eq_of_lt h2]
    exact or_nat j a y hy
  show IntKind.u64.wrap ((BitVec.ofInt 64 ((2 ^ j * a : Nat) : Int) ||| BitVec.ofInt 64 (y : Int)).toNat : Int) = _
  rw [e, IntKind.wrap_u64]
  omega
theorem or_u8 (j a y : Nat) (hy : y < 2 ^ j) (hs : 2 ^ j * a + y < 256) : bits .or .u8 (y : Int) ((2 ^ j * a : Nat) : Int) = ((2 ^ j * a + y : Nat) : Int) := by
  have h1 : 2 ^ j * a < 2 ^ 8 := by omega
  have h2 : y < 2 ^ 8 := by omega
  have e : (BitVec.ofInt 8 (y : Int) ||| BitVec.ofInt 8 ((2 ^ j * a : Nat) : Int)).toNat = 2 ^ j * a + y := by
    rw [BitVec.toNat_or, BitVec.ofInt_natCast, BitVec.ofInt_natCast, BitVec.toNat_ofNat, BitVec.toNat_ofNat, Nat.mod_eq_of_lt h1, Nat.mod_eq_of_lt h2, Nat.or_comm]
    exact or_nat j a y hy
  show IntKind.u8.wrap ((BitVec.ofInt 8 (y : Int) ||| BitVec.ofInt 8 ((2 ^ j * a : Nat) : Int)).toNat : Int) = _
  rw [e, IntKind.wrap_u8]
  omega
/-- Two numbers that share no bit: the lower one lies below 2^j, the higher one is a multiple of it. -/
theorem or_add {x y P : Int} (j : Nat) (q : Int) (hP : P = ((2 ^ j : Nat) : Int)) (hx : x = P * q) (hq : 0 ≤ q) (h0 : 0 ≤ y) (hy : y < P) (hs : x + y < 18446744073709551616) : bits .or .u64 x y = x + y := by
  have e1 : x = ((2 ^ j * q.toNat : Nat) : Int) := by rw [hx, hP, Int.natCast_mul]; congr 1; omega
  have e2 : y = (y.toNat : Int) := by omega
  have e3 := or_u64 j q.toNat y.toNat (by omega) (by omega)
  rw [← e1, ← e2] at e3
  rw [e3]
  omega
/-- A byte below 64 with its two highest bits. -/
theorem or_head {x : Int} (q : Nat) (h0 : 0 ≤ x) (h1 : x < 64) (hq : q < 4) : bits .or .u8 x ((64 * q : Nat) : Int) = x + 64 * q := by
  have e2 : x = (x.toNat : Int) := by omega
  have e3 := or_u8 6 q x.toNat (by omega) (by omega)
  rw [← e2] at e3
  rw [show 64 * q = 2 ^ 6 * q by omega, e3]
  omega
set_option maxRecDepth 100000 in
set_option maxHeartbeats 4000000 in
theorem number_1 (b o cap : Nat) (x0 : Int) (w : World) (h0 : 0 ≤ x0) (g0 : x0 ≤ 255) (c0 : w.cell? ⟨b, o, none⟩ = some (.int .u8 x0)) :
    Calls Tryz.prog 119 #[.slice (some ⟨b, o, none⟩) 1 cap] w fun e w' => e = .returned (.int .u64 (x0 % 64)) ∧ Below w.heap.size w w' := by
  go_enter Tryz.func119, Tryz.ntmps119
  go_wp2_with fail
  go_quiet (fail)
  go_wp2
  all_goals go_ret
  all_goals exact ⟨rfl, below_drewN (Below.refl _ _) _⟩
set_option maxRecDepth 100000 in
set_option maxHeartbeats 4000000 in
theorem number_2 (b o cap : Nat) (x0 x1 : Int) (w : World) (h0 : 0 ≤ x0) (g0 : x0 ≤ 255) (h1 : 0 ≤ x1) (g1 : x1 ≤ 255) (hc : 2 ≤ cap)
    (c0 : w.cell? ⟨b, o, none⟩ = some (.int .u8 x0)) (c1 : w.cell? ⟨b, o + 1, none⟩ = some (.int .u8 x1)) :
    Calls Tryz.prog 119 #[.slice (some ⟨b, o, none⟩) 2 cap] w fun e w' => e = .returned (.int .u64 (x0 % 64 * 256 + x1)) ∧ Below w.heap.size w w' := by
  have e1 : bits .or .u64 (x0 % 64 * 256) x1 = x0 % 64 * 256 + x1 := or_add 8 (x0 % 64) (P := 256) rfl (by omega) (by omega) (by omega) (by omega) (by omega)
  go_enter Tryz.func119, Tryz.ntmps119
  go_wp2_with fail
  go_quiet (fail)
  go_wp2
  go_ret
  exact ⟨rfl, below_drewN (Below.refl _ _) _⟩
set_option maxRecDepth 100000 in
set_option maxHeartbeats 4000000 in
theorem number_4 (b o cap : Nat) (x0 x1 x2 x3 : Int) (w : World) (h0 : 0 ≤ x0) (g0 : x0 ≤ 255) (h1 : 0 ≤ x1) (g1 : x1 ≤ 255) (h2 : 0 ≤ x2) (g2 : x2 ≤ 255) (h3 : 0 ≤ x3) (g3 : x3 ≤ 255) (hc : 4 ≤ cap)
    (c0 : w.cell? ⟨b, o, none⟩ = some (.int .u8 x0)) (c1 : w.cell? ⟨b, o + 1, none⟩ = some (.int .u8 x1)) (c2 : w.cell? ⟨b, o + 2, none⟩ = some (.int .u8 x2)) (c3 : w.cell? ⟨b, o + 3, none⟩ = some (.int .u8 x3)) :
    Calls Tryz.prog 119 #[.slice (some ⟨b, o, none⟩) 4 cap] w fun e w' => e = .returned (.int .u64 (((x0 % 64 * 256 + x1) * 256 + x2) * 256 + x3)) ∧ Below w.heap.size w w' := by
  have e1 : bits .or .u64 (x0 % 64 * 65536) (x1 * 256) = x0 % 64 * 65536 + x1 * 256 := or_add 16 (x0 % 64) (P := 65536) rfl (by omega) (by omega) (by omega) (by omega) (by omega)
  have e2 : bits .or .u64 (x0 % 64 * 65536 + x1 * 256) x2 = x0 % 64 * 65536 + x1 * 256 + x2 := or_add 8 (x0 % 64 * 256 + x1) (P := 256) rfl (by omega) (by omega) (by omega) (by omega) (by omega)
  have e3 : bits .or .u64 ((x0 % 64 * 65536 + x1 * 256 + x2) * 256) x3 = (x0 % 64 * 65536 + x1 * 256 + x2) * 256 + x3 := or_add 8 (x0 % 64 * 65536 + x1 * 256 + x2) (P := 256) rfl (by omega) (by omega) (by omega) (by omega) (by omega)
  have e4 : ((x0 % 64 * 256 + x1) * 256 + x2) * 256 + x3 = (x0 % 64 * 65536 + x1 * 256 + x2) * 256 + x3 := by omega
  rw [e4]
  clear e4
  go_enter Tryz.func119, Tryz.ntmps119
  go_wp2_with fail
  go_quiet (fail)
  go_wp2_with fail
  go_quiet (fail)
  go_wp2
  go_ret
  exact ⟨rfl, below_drewN (Below.refl _ _) _⟩
set_option maxRecDepth 100000 in
set_option maxHeartbeats 4000000 in
theorem number_8 (b o cap : Nat) (x0 x1 x2 x3 x4 x5 x6 x7 : Int) (w : World) (h0 : 0 ≤ x0) (g0 : x0 ≤ 255) (h1 : 0 ≤ x1) (g1 : x1 ≤ 255) (h2 : 0 ≤ x2) (g2 : x2 ≤ 255) (h3 : 0 ≤ x3) (g3 : x3 ≤ 255) (h4 : 0 ≤ x4) (g4 : x4 ≤ 255) (h5 : 0 ≤ x5) (g5 : x5 ≤ 255) (h6 : 0 ≤ x6) (g6 : x6 ≤ 255) (h7 : 0 ≤ x7) (g7 : x7 ≤ 255) (hc : 8 ≤ cap)
    (c0 : w.cell? ⟨b, o, none⟩ = some (.int .u8 x0)) (c1 : w.cell? ⟨b, o + 1, none⟩ = some (.int .u8 x1)) (c2 : w.cell? ⟨b, o + 2, none⟩ = some (.int .u8 x2)) (c3 : w.cell? ⟨b, o + 3, none⟩ = some (.int .u8 x3)) (c4 : w.cell? ⟨b, o + 4, none⟩ = some (.int .u8 x4)) (c5 : w.cell? ⟨b, o + 5, none⟩ = some (.int .u8 x5)) (c6 : w.cell? ⟨b, o + 6, none⟩ = some (.int .u8 x6)) (c7 : w.cell? ⟨b, o + 7, none⟩ = some (.int .u8 x7)) :
    Calls Tryz.prog 119 #[.slice (some ⟨b, o, none⟩) 8 cap] w fun e w' => e = .returned (.int .u64 (((((((x0 % 64 * 256 + x1) * 256 + x2) * 256 + x3) * 256 + x4) * 256 + x5) * 256 + x6) * 256 + x7)) ∧ Below w.heap.size w w' := by
  have e1 : bits .or .u64 (x0 % 64 * 4294967296) (x1 * 16777216) = x0 % 64 * 4294967296 + x1 * 16777216 := or_add 32 (x0 % 64) (P := 4294967296) rfl (by omega) (by omega) (by omega) (by omega) (by omega)
  have e2 : bits .or .u64 (x0 % 64 * 4294967296 + x1 * 16777216) (x2 * 65536) = x0 % 64 * 4294967296 + x1 * 16777216 + x2 * 65536 := or_add 24 (x0 % 64 * 256 + x1) (P := 16777216) rfl (by omega) (by omega) (by omega) (by omega) (by omega)
  have e3 : bits .or .u64 (x0 % 64 * 4294967296 + x1 * 16777216 + x2 * 65536) (x3 * 256) = x0 % 64 * 4294967296 + x1 * 16777216 + x2 * 65536 + x3 * 256 := or_add 16 ((x0 % 64 * 256 + x1) * 256 + x2) (P := 65536) rfl (by omega) (by omega) (by omega) (by omega) (by omega)
  have e4 : bits .or .u64 (x0 % 64 * 4294967296 + x1 * 16777216 + x2 * 65536 + x3 * 256) x4 = x0 % 64 * 4294967296 + x1 * 16777216 + x2 * 65536 + x3 * 256 + x4 := or_add 8 (((x0 % 64 * 256 + x1) * 256 + x2) * 256 + x3) (P := 256) rfl (by omega) (by omega) (by omega) (by omega) (by omega)
  have e5 : bits .or .u64 ((x0 % 64 * 4294967296 + x1 * 16777216 + x2 * 65536 + x3 * 256 + x4) * 65536) (x5 * 256) = (x0 % 64 * 4294967296 + x1 * 16777216 + x2 * 65536 + x3 * 256 + x4) * 65536 + x5 * 256 := or_add 16 (x0 % 64 * 4294967296 + x1 * 16777216 + x2 * 65536 + x3 * 256 + x4) (P := 65536) rfl (by omega) (by omega) (by omega) (by omega) (by omega)
  have e6 : bits .or .u64 ((x0 % 64 * 4294967296 + x1 * 16777216 + x2 * 65536 + x3 * 256 + x4) * 65536 + x5 * 256) x6 = (x0 % 64 * 4294967296 + x1 * 16777216 + x2 * 65536 + x3 * 256 + x4) * 65536 + x5 * 256 + x6 := or_add 8 ((x0 % 64 * 4294967296 + x1 * 16777216 + x2 * 65536 + x3 * 256 + x4) * 256 + x5) (P := 256) rfl (by omega) (by omega) (by omega) (by omega) (by omega)
  have e7 : bits .or .u64 (((x0 % 64 * 4294967296 + x1 * 16777216 + x2 * 65536 + x3 * 256 + x4) * 65536 + x5 * 256 + x6) * 256) x7 = ((x0 % 64 * 4294967296 + x1 * 16777216 + x2 * 65536 + x3 * 256 + x4) * 65536 + x5 * 256 + x6) * 256 + x7 := or_add 8 ((x0 % 64 * 4294967296 + x1 * 16777216 + x2 * 65536 + x3 * 256 + x4) * 65536 + x5 * 256 + x6) (P := 256) rfl (by omega) (by omega) (by omega) (by omega) (by omega)
  have e8 : ((((((x0 % 64 * 256 + x1) * 256 + x2) * 256 + x3) * 256 + x4) * 256 + x5) * 256 + x6) * 256 + x7 = ((x0 % 64 * 4294967296 + x1 * 16777216 + x2 * 65536 + x3 * 256 + x4) * 65536 + x5 * 256 + x6) * 256 + x7 := by omega
  rw [e8]
  clear e8
  go_enter Tryz.func119, Tryz.ntmps119
  go_wp2_with fail
  go_quiet (fail)
  go_wp2_with fail
  go_quiet (fail)
  go_wp2_with fail
  go_quiet (fail)
  go_wp2
  go_ret
  exact ⟨rfl, below_drewN (Below.refl _ _) _⟩

/-- In how many bytes a number stands. -/
def szL (n : Int) : Int := (numL n).length
theorem wsize_any (n : Int) (w : World) : Calls Tryz.prog 112 #[.int .u64 n] w fun e w' => e = .returned (.int .i64 (szL n)) ∧ w' = w := by
  unfold szL numL
  by_cases h1 : n < 64
  · rw [if_pos h1]
    go_enter Tryz.func112, Tryz.ntmps112
    go_wp2
    go_ret
    exact ⟨rfl, rfl⟩
  · rw [if_neg h1]
    by_cases h2 : n < 16384
    · rw [if_pos h2]
      go_enter Tryz.func112, Tryz.ntmps112
      go_wp2
      go_ret
      exact ⟨rfl, rfl⟩
    · rw [if_neg h2]
      by_cases h3 : n < 1073741824
      · rw [if_pos h3]
        go_enter Tryz.func112, Tryz.ntmps112
        go_wp2
        go_ret
        exact ⟨rfl, rfl⟩
      · rw [if_neg h3]
        go_enter Tryz.func112, Tryz.ntmps112
        go_wp2
        go_ret
        exact ⟨rfl, rfl⟩
/-- A number as one that is not below 0. -/
def abv' (n : Int) : Int := if n < 0 then 0 else n
theorem natural_any (n : Int) (w : World) (h1 : n ≤ 9223372036854775807) : Calls Tryz.prog 92 #[.int .i64 n] w fun e w' => e = .returned (.int .u64 (abv' n)) ∧ w' = w := by
  by_cases h : n < 0
  · rw [show abv' n = 0 from if_pos h]
    go_enter Tryz.func92, Tryz.ntmps92
    go_wp2
    all_goals go_ret
    all_goals exact ⟨rfl, rfl⟩
  · rw [show abv' n = n from if_neg h]
    go_enter Tryz.func92, Tryz.ntmps92
    go_wp2
    all_goals go_ret
    all_goals exact ⟨rfl, rfl⟩
theorem announced_none (ao : Option Addr) (cap : Nat) (w : World) : Calls Tryz.prog 118 #[.slice ao 0 cap] w fun e w' => e = .returned (.int .i64 1) ∧ w' = w := by
  go_enter Tryz.func118, Tryz.ntmps118
  go_wp2
  go_ret
  exact ⟨rfl, rfl⟩
/-- How many bytes a first byte announces. -/
def annL (x : Int) : Int := if x / 64 = 0 then 1 else if x / 64 = 1 then 2 else if x / 64 = 2 then 4 else 8
theorem annL_pow (x : Int) (h0 : 0 ≤ x) (g0 : x ≤ 255) : wrap64 (2 ^ (x / 64).toNat) = annL x := by
  have hq : x / 64 = 0 ∨ x / 64 = 1 ∨ x / 64 = 2 ∨ x / 64 = 3 := by omega
  unfold annL
  rcases hq with h | h | h | h <;> rw [h] <;> simp [wrap64]
theorem announced_some (b o n cap : Nat) (x0 : Int) (w : World) (hn : 0 < n) (h0 : 0 ≤ x0) (g0 : x0 ≤ 255) (c0 : w.cell? ⟨b, o, none⟩ = some (.int .u8 x0)) :
    Calls Tryz.prog 118 #[.slice (some ⟨b, o, none⟩) n cap] w fun e w' => e = .returned (.int .i64 (annL x0)) ∧ w' = w := by
  have hn' : ¬ n = 0 := by omega
  have hp := annL_pow x0 h0 g0
  go_enter Tryz.func118, Tryz.ntmps118
  go_wp2
  go_ret
  exact ⟨by rw [← hp]; rfl, rfl⟩
end Go.Proofs.YtgbcjmpnkejpeaaGreatDoor
namespace Go.Proofs.YtgbcjmpnkejpeaaGreatDoor
open Go.RowKit

set_option maxRecDepth 100000 in
set_option maxHeartbeats 4000000 in
theorem same_bytes (v u : Value) (a : List Int) (w : World) (hv : Sl bc w v a) (hu : Sl bc w u a) (hl : a.length ≤ 40000) :
    Calls Tryz.prog 29 #[v, u] w fun e w' => e = .returned (.bool true) ∧ Below w.heap.size w w' := by
  rcases hv with ⟨ao, cap, rfl, rfl⟩ | ⟨b, o, cap, rfl, h2, h3⟩
  · rcases hu with ⟨ao', cap', _, rfl⟩ | ⟨b, o, cap', rfl, h2, h3⟩
    all_goals
      go_enter Tryz.func29, Tryz.ntmps29
      go_wp2
      refine wp_loop_rounds 1 ?_
      rw [rounds_succ]
      go_wp2
      go_ret
      exact ⟨rfl, Below.refl _ _⟩
  · rcases hu with ⟨ao', cap', rfl, rfl⟩ | ⟨b', o', cap', rfl, h2', h3'⟩
    · go_enter Tryz.func29, Tryz.ntmps29
      go_wp2
      refine wp_loop_rounds 1 ?_
      rw [rounds_succ]
      go_wp2
      go_ret
      exact ⟨rfl, Below.refl _ _⟩
    · have H3 := hide h3
      have H3' := hide h3'
      clear h3 h3'
      go_enter Tryz.func29, Tryz.ntmps29
      go_wp2
      go_loopw [5] (fun i W => ∃ k : Nat, k ≤ a.length ∧ i = .int .i64 k ∧ Below w.heap.size w W) (fun i _ => a.length - (intOf i).toNat)
      case atStart => exact ⟨0, Nat.zero_le _, rfl, Below.refl _ _⟩
      case round =>
        obtain ⟨k, hk, rfl, hb⟩ := hrel
        by_cases hlt : k < a.length
        · have hc : wr.cell? ⟨b, o + k, none⟩ = some (.int .u8 a[k]) := by rw [hb.cell (p := ⟨b, o + k, none⟩) (cell_block (H3.out k hlt))]; exact H3.out k hlt
          have hc' : wr.cell? ⟨b', o' + k, none⟩ = some (.int .u8 a[k]) := by rw [hb.cell (p := ⟨b', o' + k, none⟩) (cell_block (H3'.out k hlt))]; exact H3'.out k hlt
          generalize a[k] = sk at *
          go_wp2_with fail
          go_quiet (fail)
          go_wp2
          exact ⟨⟨k + 1, by omega, by go_num, below_drewN hb _⟩, by simp [intOf]; omega⟩
        · go_wp2
          go_ret
          exact ⟨rfl, hb⟩

set_option maxRecDepth 100000 in
set_option maxHeartbeats 4000000 in
theorem same_len (ao bo : Option Addr) (L M c d : Nat) (w : World) (h : L ≠ M) : Calls Tryz.prog 29 #[.slice ao L c, .slice bo M d] w fun e w' => e = .returned (.bool false) ∧ Below w.heap.size w w' := by
  have h' : ((L : Int) != (M : Int)) = true := by simpa using fun e => h (by omega)
  go_enter Tryz.func29, Tryz.ntmps29
  go_wp2
  go_ret
  exact ⟨rfl, Below.refl _ _⟩
set_option maxRecDepth 100000 in
set_option maxHeartbeats 4000000 in
theorem same_diff (b o cap b' o' cap' : Nat) (a c : List Int) (w : World) (hac : c.length = a.length) (hne : a ≠ c) (hl : a.length ≤ 40000) (h3 : ∀ i (h : i < a.length), w.cell? ⟨b, o + i, none⟩ = some (bc a[i])) (h3' : ∀ i (h : i < c.length), w.cell? ⟨b', o' + i, none⟩ = some (bc c[i])) :
    Calls Tryz.prog 29 #[.slice (some ⟨b, o, none⟩) a.length cap, .slice (some ⟨b', o', none⟩) a.length cap'] w fun e w' => e = .returned (.bool false) ∧ Below w.heap.size w w' := by
  have H3 := hide h3
  have H3' := hide h3'
  clear h3 h3'
  go_enter Tryz.func29, Tryz.ntmps29
  go_wp2
  go_loopw [5] (fun i W => ∃ k : Nat, k ≤ a.length ∧ i = .int .i64 k ∧ (∀ t (h : t < a.length) (h' : t < c.length), t < k → a[t] = c[t]) ∧ Below w.heap.size w W) (fun i _ => a.length - (intOf i).toNat)
  case atStart => exact ⟨0, Nat.zero_le _, rfl, fun t _ _ h => by omega, Below.refl _ _⟩
  case round =>
    obtain ⟨k, hk, rfl, hall, hb⟩ := hrel
    by_cases hlt : k < a.length
    · have hlt2 : k < c.length := by omega
      have hc : wr.cell? ⟨b, o + k, none⟩ = some (.int .u8 a[k]) := by rw [hb.cell (p := ⟨b, o + k, none⟩) (cell_block (H3.out k hlt))]; exact H3.out k hlt
      have hc' : wr.cell? ⟨b', o' + k, none⟩ = some (.int .u8 c[k]) := by rw [hb.cell (p := ⟨b', o' + k, none⟩) (cell_block (H3'.out k hlt2))]; exact H3'.out k hlt2
      by_cases he : a[k] = c[k]
      · have HN := hide (fun t (h : t < a.length) (h' : t < c.length) (ht : t < k + 1) => show a[t] = c[t] by
          by_cases e : t = k
          · subst e; exact he
          · exact hall t h h' (by omega))
        rw [he] at hc
        clear hall he
        generalize c[k] = sk at *
        go_wp2_with fail
        go_quiet (fail)
        go_wp2
        exact ⟨⟨k + 1, by omega, by go_num, HN.out, below_drewN hb _⟩, by simp [intOf]; omega⟩
      · have hx : (a[k] != c[k]) = true := by simpa using he
        clear hall he
        generalize a[k] = x at *
        generalize c[k] = y at *
        go_wp2_with fail
        go_quiet (fail)
        go_wp2
        go_ret
        exact ⟨rfl, below_drewN hb _⟩
    · exact absurd (List.ext_getElem hac.symm fun t h h' => hall t h h' (by omega)) hne
/-- Two texts: are they the same? -/
theorem same_any (v u : Value) (a c : List Int) (w : World) (hv : Sl bc w v a) (hu : Sl bc w u c) (hl : a.length ≤ 40000) :
    Calls Tryz.prog 29 #[v, u] w fun e w' => e = .returned (.bool (decide (a = c))) ∧ Below w.heap.size w w' := by
  by_cases h : a = c
  · subst h
    rw [decide_eq_true rfl]
    exact same_bytes v u a w hv hu hl
  · rw [decide_eq_false h]
    by_cases hlen : a.length = c.length
    · rcases hv with ⟨ao, cap, rfl, rfl⟩ | ⟨b, o, cap, rfl, h2, h3⟩
      · exact absurd (List.length_eq_zero_iff.1 hlen.symm).symm h
      · rcases hu with ⟨ao', cap', rfl, rfl⟩ | ⟨b', o', cap', rfl, h2', h3'⟩
        · exact absurd (List.length_eq_zero_iff.1 hlen) h
        · rw [← hlen]
          exact same_diff b o cap b' o' cap' a c w hlen.symm h hl h3 h3'
    · obtain ⟨ao, cap, rfl⟩ := hv.form
      obtain ⟨bo, dap, rfl⟩ := hu.form
      exact same_len ao bo _ _ _ _ w hlen
end Go.Proofs.YtgbcjmpnkejpeaaGreatDoor
