/-
  NUMBERS AS BYTES, on lists alone (no program in sight): how a number is written, what is read at the head of bytes, that what is written is read as what it was, and that what is read was written in just that way. Conditions: bytes are bytes, numbers are at most 2^62 - 1.
  NUMBERS OF BYTES, AND OF BYTES ALONE (wire.size, natural, announced, number): at every number, and at one, two, four and eight bytes. Conditions: the bytes' cells hold them, and bytes are bytes.
  A ROW OF BYTES THAT IS WRITTEN ON, WITH ALL ITS CELLS: what an append leaves of it, of any bytes, none among them. Condition: fewer than a million bytes.
  THE DOCUMENT's NUMBERS AS BYTES (castellanref02.size, Num, Int, Flag): at every number. No condition but that a number fits its kind.
  TEXTS, BYTE BY BYTE (castellanref02.Same): two slices with the same bytes are the same. Condition: no more than forty thousand.
-/
import Derived.WalkKit
import Derived.Below
import Derived.Test.YtkpknkhacmggnaaGreatDoorProg
import Derived.Test.YtkpknkhacmggnaaGreatDoorJKSlca2
import Derived.WalkSpells
import Derived.WalkSmall
import Derived.Deep.QuietTactic
import Derived.BigQuiet
import Derived.Laws.CopyOwn
import Derived.Deep.AppendSrc
namespace Go.Proofs.YtkpknkhacmggnaaGreatDoor
open Go.RowKit
/-- A byte, an int as a cell. -/
def bc (x : Int) : Value := .int .u8 x
def ic (x : Int) : Value := .int .i64 x
/-- Bytes as cells. -/
def bv (l : List Int) : List Value := l.map fun x => Value.int .u8 x
theorem bv_eq (l : List Int) : bv l = l.map bc := rfl
/-- A number's bytes, the highest first. -/
def numL (n : Int) : List Int :=
  if n < 64 then [n] else if n < 16384 then [n / 256 + 64, n % 256] else if n < 1073741824 then [n / 16777216 + 128, n / 65536 % 256, n / 256 % 256, n % 256]
  else [n / 72057594037927936 + 192, n / 281474976710656 % 256, n / 1099511627776 % 256, n / 4294967296 % 256, n / 16777216 % 256, n / 65536 % 256, n / 256 % 256, n % 256]
/-- The greatest number is 2^62 - 1. -/
def capN (n : Int) : Int := if 4611686018427387903 < n then 4611686018427387903 else n
/-- An int's bytes: of 0, if it is below 0. -/
def intL (n : Int) : List Int := if n < 0 then [0] else numL (capN n)
/-- What a number of k bytes comes to: 5, it could stand in fewer; 6, it is above the most; 0, it is read. -/
def finN (k : Nat) (lo n most : Int) : Int × Nat × Int := if n < lo then (5, 0, 0) else if most < n then (6, 0, 0) else (0, k, n)
/-- The next number at the head of the bytes r: a code (3: too short), how many bytes, the number. -/
def numS (r : List Int) (most : Int) : Int × Nat × Int := match r with
  | [] => (3, 0, 0)
  | x0 :: r =>
    if x0 / 64 = 0 then finN 1 0 (x0 % 64) most
    else if x0 / 64 = 1 then (match r with
      | x1 :: _ => finN 2 64 (x0 % 64 * 256 + x1) most
      | _ => (3, 0, 0))
    else if x0 / 64 = 2 then (match r with
      | x1 :: x2 :: x3 :: _ => finN 4 16384 (((x0 % 64 * 256 + x1) * 256 + x2) * 256 + x3) most
      | _ => (3, 0, 0))
    else (match r with
      | x1 :: x2 :: x3 :: x4 :: x5 :: x6 :: x7 :: _ => finN 8 1073741824 (((((((x0 % 64 * 256 + x1) * 256 + x2) * 256 + x3) * 256 + x4) * 256 + x5) * 256 + x6) * 256 + x7) most
      | _ => (3, 0, 0))
theorem numL_le (n : Int) : (numL n).length ≤ 8 := by
  unfold numL; split
  · simp
  · split
    · simp
    · split <;> simp
theorem intL_le (n : Int) : (intL n).length ≤ 8 := by
  unfold intL; split
  · simp
  · exact numL_le _

/-- All are bytes. -/
def Byt (l : List Int) : Prop := ∀ x ∈ l, 0 ≤ x ∧ x ≤ 255
theorem numL_byt {n : Int} (h0 : 0 ≤ n) (h1 : n ≤ 4611686018427387903) : Byt (numL n) := by
  unfold numL Byt
  intro x hx
  split at hx
  · simp at hx; omega
  · split at hx
    · simp at hx; rcases hx with rfl | rfl <;> omega
    · split at hx
      · simp at hx; rcases hx with rfl | rfl | rfl | rfl <;> omega
      · simp at hx; rcases hx with rfl | rfl | rfl | rfl | rfl | rfl | rfl | rfl <;> omega
theorem fin_ok {k : Nat} {lo n m most : Int} (h : n = m) (h0 : lo ≤ m) (h1 : m ≤ most) : finN k lo n most = (0, k, m) := by
  subst h
  rw [finN, if_neg (by omega), if_neg (by omega)]
/-- What was written is read. -/
theorem numS_numL {n most : Int} (r : List Int) (h0 : 0 ≤ n) (h1 : n ≤ 4611686018427387903) (hm : n ≤ most) : numS (numL n ++ r) most = (0, (numL n).length, n) := by
  by_cases a : n < 64
  · simp only [numL, if_pos a, List.cons_append, List.nil_append, numS, List.length_cons, List.length_nil]
    rw [if_pos (by omega)]
    exact fin_ok (by omega) (by omega) hm
  · by_cases b : n < 16384
    · simp only [numL, if_neg a, if_pos b, List.cons_append, List.nil_append, numS, List.length_cons, List.length_nil]
      rw [if_neg (by omega), if_pos (by omega)]
      exact fin_ok (by omega) (by omega) hm
    · by_cases c : n < 1073741824
      · simp only [numL, if_neg a, if_neg b, if_pos c, List.cons_append, List.nil_append, numS, List.length_cons, List.length_nil]
        rw [if_neg (by omega), if_neg (by omega), if_pos (by omega)]
        exact fin_ok (by omega) (by omega) hm
      · simp only [numL, if_neg a, if_neg b, if_neg c, List.cons_append, List.nil_append, numS, List.length_cons, List.length_nil]
        rw [if_neg (by omega), if_neg (by omega), if_neg (by omega)]
        exact fin_ok (by omega) (by omega) hm
theorem fin_inv {k : Nat} {lo n most : Int} {j : Nat} {m : Int} (h : finN k lo n most = (0, j, m)) : j = k ∧ m = n ∧ lo ≤ n ∧ n ≤ most := by
  unfold finN at h
  split at h
  · simp at h
  · split at h
    · simp at h
    · simp at h; omega
/-- What is read was written in just that way. -/
theorem numS_once {r : List Int} {most : Int} {k : Nat} {n : Int} (hb : Byt r) (h : numS r most = (0, k, n)) : r.take k = numL n ∧ k = (numL n).length ∧ 0 ≤ n ∧ n ≤ 4611686018427387903 ∧ n ≤ most ∧ k ≤ r.length := by
  rcases r with _ | ⟨x0, r⟩
  · simp [numS] at h
  have b0 := hb x0 (by simp)
  unfold numS at h
  simp only at h
  split at h
  · obtain ⟨rfl, rfl, h1, h2⟩ := fin_inv h
    have e : numL (x0 % 64) = [x0] := by rw [numL, if_pos (by omega)]; congr 1; omega
    rw [e]
    refine ⟨by simp, by simp, by omega, by omega, h2, by simp⟩
  · split at h
    · rcases r with _ | ⟨x1, r⟩
      · simp at h
      have b1 := hb x1 (by simp)
      obtain ⟨rfl, rfl, h1, h2⟩ := fin_inv h
      have e : numL (x0 % 64 * 256 + x1) = [x0, x1] := by
        rw [numL, if_neg (by omega), if_pos (by omega)]
        simp only [List.cons.injEq, and_true]; refine ⟨?_, ?_⟩ <;> omega
      rw [e]
      refine ⟨by simp, by simp, by omega, by omega, h2, by simp⟩
    · split at h
      · rcases r with _ | ⟨x1, _ | ⟨x2, _ | ⟨x3, r⟩⟩⟩
        · simp at h
        · simp at h
        · simp at h
        have b1 := hb x1 (by simp)
        have b2 := hb x2 (by simp)
        have b3 := hb x3 (by simp)
        obtain ⟨rfl, rfl, h1, h2⟩ := fin_inv h
        have e : numL (((x0 % 64 * 256 + x1) * 256 + x2) * 256 + x3) = [x0, x1, x2, x3] := by
          rw [numL, if_neg (by omega), if_neg (by omega), if_pos (by omega)]
          simp only [List.cons.injEq, and_true]; refine ⟨?_, ?_, ?_, ?_⟩ <;> omega
        rw [e]
        refine ⟨by simp, by simp, by omega, by omega, h2, by simp⟩
      · rcases r with _ | ⟨x1, _ | ⟨x2, _ | ⟨x3, _ | ⟨x4, _ | ⟨x5, _ | ⟨x6, _ | ⟨x7, r⟩⟩⟩⟩⟩⟩⟩
        · simp at h
        · simp at h
        · simp at h
        · simp at h
        · simp at h
        · simp at h
        · simp at h
        have b1 := hb x1 (by simp)
        have b2 := hb x2 (by simp)
        have b3 := hb x3 (by simp)
        have b4 := hb x4 (by simp)
        have b5 := hb x5 (by simp)
        have b6 := hb x6 (by simp)
        have b7 := hb x7 (by simp)
        obtain ⟨rfl, rfl, h1, h2⟩ := fin_inv h
        have e : numL (((((((x0 % 64 * 256 + x1) * 256 + x2) * 256 + x3) * 256 + x4) * 256 + x5) * 256 + x6) * 256 + x7) = [x0, x1, x2, x3, x4, x5, x6, x7] := by
          rw [numL, if_neg (by omega), if_neg (by omega), if_neg (by omega)]
          simp only [List.cons.injEq, and_true]; refine ⟨?_, ?_, ?_, ?_, ?_, ?_, ?_, ?_⟩ <;> omega
        rw [e]
        refine ⟨by simp, by simp, by omega, by omega, h2, by simp⟩
end Go.Proofs.YtkpknkhacmggnaaGreatDoor
namespace Go.Proofs.YtkpknkhacmggnaaGreatDoor
open Go.RowKit

theorem or_nat (j a y : Nat) (hy : y < 2 ^ j) : 2 ^ j * a ||| y = 2 ^ j * a + y := (Nat.two_pow_add_eq_or_of_lt hy a).symm
theorem or_u64 (j a y : Nat) (hy : y < 2 ^ j) (hs : 2 ^ j * a + y < 18446744073709551616) : bits .or .u64 ((2 ^ j * a : Nat) : Int) (y : Int) = ((2 ^ j * a + y : Nat) : Int) := by
  have h1 : 2 ^ j * a < 2 ^ 64 := by omega
  have h2 : y < 2 ^ 64 := by omega
  have e : (BitVec.ofInt 64 ((2 ^ j * a : Nat) : Int) ||| BitVec.ofInt 64 (y : Int)).toNat = 2 ^ j * a + y := by
    rw [BitVec.toNat_or, BitVec.ofInt_natCast, BitVec.ofInt_natCast, BitVec.toNat_ofNat, BitVec.toNat_ofNat, Nat.mod_eq_of_lt h1, Nat.mod_eq_of_lt h2]
    exact or_nat j a y hy
  show IntKind.u64.wrap ((BitVec.ofInt 64 ((2 ^ j * a : Nat) : Int) ||| BitVec.ofInt 64 (y : Int)).toNat : Int) = _
  rw [e, IntKind.wrap_u64]
  omega
theorem or_u8 (j a y : Nat) (hy : y < 2 ^ j) (hs : 2 ^ j * a + y < 256) : bits .or .u8 (y : Int) ((2 ^ j * a : Nat) : Int) = ((2 ^ j * a + y : Nat) : Int) := by
  have h1 : 2 ^ j * a < 2 ^ 8 := by omega
  have h2 : y < 2 ^ 8 := by omega
  have e : (BitVec.ofInt 8 (y : Int) ||| BitVec.ofInt 8 ((2 ^ j * a : Nat) : Int)).toNat = 2 ^ j * a + y := by
    rw [BitVec.toNat_or, BitVec.ofInt_natCast, BitVec.ofInt_natCast, BitVec.toNat_ofNat, BitVec.toNat_ofNat, Nat.mod_eq_of_lt h1, Nat.mod_eq_of_lt h2, Nat.or_comm]
    exact or_nat j a y hy
  show IntKind.u8.wrap ((BitVec.ofInt 8 (y : Int) ||| BitVec.ofInt 8 ((2 ^ j * a : Nat) : Int)).toNat : Int) = _
  rw [e, IntKind.wrap_u8]
  omega
/-- Two numbers that share no bit: the lower one lies below 2^j, the higher one is a multiple of it. -/
theorem or_add {x y P : Int} (j : Nat) (q : Int) (hP : P = ((2 ^ j : Nat) : Int)) (hx : x = P * q) (hq : 0 ≤ q) (h0 : 0 ≤ y) (hy : y < P) (hs : x + y < 18446744073709551616) : bits .or .u64 x y = x + y := by
  have e1 : x = ((2 ^ j * q.toNat : Nat) : Int) := by rw [hx, hP, Int.natCast_mul]; congr 1; omega
  have e2 : y = (y.toNat : Int) := by omega
  have e3 := or_u64 j q.toNat y.toNat (by omega) (by omega)
  rw [← e1, ← e2] at e3
  rw [e3]
  omega
/-- A byte below 64 with its two highest bits. -/
theorem or_head {x : Int} (q : Nat) (h0 : 0 ≤ x) (h1 : x < 64) (hq : q < 4) : bits .or .u8 x ((64 * q : Nat) : Int) = x + 64 * q := by
  have e2 : x = (x.toNat : Int) := by omega
  have e3 := or_u8 6 q x.toNat (by omega) (by omega)
  rw [← e2] at e3
  rw [show 64 * q = 2 ^ 6 * q by omega, e3]
  omega
set_option maxRecDepth 100000 in
set_option maxHeartbeats 4000000 in
theorem number_1 (b o cap : Nat) (x0 : Int) (w : World) (h0 : 0 ≤ x0) (g0 : x0 ≤ 255) (c0 : w.cell? ⟨b, o, none⟩ = some (.int .u8 x0)) :
    Calls Tryz.prog 158 #[.slice (some ⟨b, o, none⟩) 1 cap] w fun e w' => e = .returned (.int .u64 (x0 % 64)) ∧ Below w.heap.size w w' := by
  go_enter Tryz.func158, Tryz.ntmps158
  go_wp2_with fail
  go_quiet (fail)
  go_wp2
  all_goals go_ret
  all_goals exact ⟨rfl, below_drewN (Below.refl _ _) _⟩
set_option maxRecDepth 100000 in
set_option maxHeartbeats 4000000 in
theorem number_2 (b o cap : Nat) (x0 x1 : Int) (w : World) (h0 : 0 ≤ x0) (g0 : x0 ≤ 255) (h1 : 0 ≤ x1) (g1 : x1 ≤ 255) (hc : 2 ≤ cap)
    (c0 : w.cell? ⟨b, o, none⟩ = some (.int .u8 x0)) (c1 : w.cell? ⟨b, o + 1, none⟩ = some (.int .u8 x1)) :
    Calls Tryz.prog 158 #[.slice (some ⟨b, o, none⟩) 2 cap] w fun e w' => e = .returned (.int .u64 (x0 % 64 * 256 + x1)) ∧ Below w.heap.size w w' := by
  have e1 : bits .or .u64 (x0 % 64 * 256) x1 = x0 % 64 * 256 + x1 := or_add 8 (x0 % 64) (P := 256) rfl (by omega) (by omega) (by omega) (by omega) (by omega)
  go_enter Tryz.func158, Tryz.ntmps158
  go_wp2_with fail
  go_quiet (fail)
  go_wp2
  go_ret
  exact ⟨rfl, below_drewN (Below.refl _ _) _⟩
set_option maxRecDepth 100000 in
set_option maxHeartbeats 4000000 in
theorem number_4 (b o cap : Nat) (x0 x1 x2 x3 : Int) (w : World) (h0 : 0 ≤ x0) (g0 : x0 ≤ 255) (h1 : 0 ≤ x1) (g1 : x1 ≤ 255) (h2 : 0 ≤ x2) (g2 : x2 ≤ 255) (h3 : 0 ≤ x3) (g3 : x3 ≤ 255) (hc : 4 ≤ cap)
    (c0 : w.cell? ⟨b, o, none⟩ = some (.int .u8 x0)) (c1 : w.cell? ⟨b, o + 1, none⟩ = some (.int .u8 x1)) (c2 : w.cell? ⟨b, o + 2, none⟩ = some (.int .u8 x2)) (c3 : w.cell? ⟨b, o + 3, none⟩ = some (.int .u8 x3)) :
    Calls Tryz.prog 158 #[.slice (some ⟨b, o, none⟩) 4 cap] w fun e w' => e = .returned (.int .u64 (((x0 % 64 * 256 + x1) * 256 + x2) * 256 + x3)) ∧ Below w.heap.size w w' := by
  have e1 : bits .or .u64 (x0 % 64 * 65536) (x1 * 256) = x0 % 64 * 65536 + x1 * 256 := or_add 16 (x0 % 64) (P := 65536) rfl (by omega) (by omega) (by omega) (by omega) (by omega)
  have e2 : bits .or .u64 (x0 % 64 * 65536 + x1 * 256) x2 = x0 % 64 * 65536 + x1 * 256 + x2 := or_add 8 (x0 % 64 * 256 + x1) (P := 256) rfl (by omega) (by omega) (by omega) (by omega) (by omega)
  have e3 : bits .or .u64 ((x0 % 64 * 65536 + x1 * 256 + x2) * 256) x3 = (x0 % 64 * 65536 + x1 * 256 + x2) * 256 + x3 := or_add 8 (x0 % 64 * 65536 + x1 * 256 + x2) (P := 256) rfl (by omega) (by omega) (by omega) (by omega) (by omega)
  have e4 : ((x0 % 64 * 256 + x1) * 256 + x2) * 256 + x3 = (x0 % 64 * 65536 + x1 * 256 + x2) * 256 + x3 := by omega
  rw [e4]
  clear e4
  go_enter Tryz.func158, Tryz.ntmps158
  go_wp2_with fail
  go_quiet (fail)
  go_wp2_with fail
  go_quiet (fail)
  go_wp2
  go_ret
  exact ⟨rfl, below_drewN (Below.refl _ _) _⟩
set_option maxRecDepth 100000 in
set_option maxHeartbeats 4000000 in
theorem number_8 (b o cap : Nat) (x0 x1 x2 x3 x4 x5 x6 x7 : Int) (w : World) (h0 : 0 ≤ x0) (g0 : x0 ≤ 255) (h1 : 0 ≤ x1) (g1 : x1 ≤ 255) (h2 : 0 ≤ x2) (g2 : x2 ≤ 255) (h3 : 0 ≤ x3) (g3 : x3 ≤ 255) (h4 : 0 ≤ x4) (g4 : x4 ≤ 255) (h5 : 0 ≤ x5) (g5 : x5 ≤ 255) (h6 : 0 ≤ x6) (g6 : x6 ≤ 255) (h7 : 0 ≤ x7) (g7 : x7 ≤ 255) (hc : 8 ≤ cap)
    (c0 : w.cell? ⟨b, o, none⟩ = some (.int .u8 x0)) (c1 : w.cell? ⟨b, o + 1, none⟩ = some (.int .u8 x1)) (c2 : w.cell? ⟨b, o + 2, none⟩ = some (.int .u8 x2)) (c3 : w.cell? ⟨b, o + 3, none⟩ = some (.int .u8 x3)) (c4 : w.cell? ⟨b, o + 4, none⟩ = some (.int .u8 x4)) (c5 : w.cell? ⟨b, o + 5, none⟩ = some (.int .u8 x5)) (c6 : w.cell? ⟨b, o + 6, none⟩ = some (.int .u8 x6)) (c7 : w.cell? ⟨b, o + 7, none⟩ = some (.int .u8 x7)) :
    Calls Tryz.prog 158 #[.slice (some ⟨b, o, none⟩) 8 cap] w fun e w' => e = .returned (.int .u64 (((((((x0 % 64 * 256 + x1) * 256 + x2) * 256 + x3) * 256 + x4) * 256 + x5) * 256 + x6) * 256 + x7)) ∧ Below w.heap.size w w' := by
  have e1 : bits .or .u64 (x0 % 64 * 4294967296) (x1 * 16777216) = x0 % 64 * 4294967296 + x1 * 16777216 := or_add 32 (x0 % 64) (P := 4294967296) rfl (by omega) (by omega) (by omega) (by omega) (by omega)
  have e2 : bits .or .u64 (x0 % 64 * 4294967296 + x1 * 16777216) (x2 * 65536) = x0 % 64 * 4294967296 + x1 * 16777216 + x2 * 65536 := or_add 24 (x0 % 64 * 256 + x1) (P := 16777216) rfl (by omega) (by omega) (by omega) (by omega) (by omega)
  have e3 : bits .or .u64 (x0 % 64 * 4294967296 + x1 * 16777216 + x2 * 65536) (x3 * 256) = x0 % 64 * 4294967296 + x1 * 16777216 + x2 * 65536 + x3 * 256 := or_add 16 ((x0 % 64 * 256 + x1) * 256 + x2) (P := 65536) rfl (by omega) (by omega) (by omega) (by omega) (by omega)
  have e4 : bits .or .u64 (x0 % 64 * 4294967296 + x1 * 16777216 + x2 * 65536 + x3 * 256) x4 = x0 % 64 * 4294967296 + x1 * 16777216 + x2 * 65536 + x3 * 256 + x4 := or_add 8 (((x0 % 64 * 256 + x1) * 256 + x2) * 256 + x3) (P := 256) rfl (by omega) (by omega) (by omega) (by omega) (by omega)
  have e5 : bits .or .u64 ((x0 % 64 * 4294967296 + x1 * 16777216 + x2 * 65536 + x3 * 256 + x4) * 65536) (x5 * 256) = (x0 % 64 * 4294967296 + x1 * 16777216 + x2 * 65536 + x3 * 256 + x4) * 65536 + x5 * 256 := or_add 16 (x0 % 64 * 4294967296 + x1 * 16777216 + x2 * 65536 + x3 * 256 + x4) (P := 65536) rfl (by omega) (by omega) (by omega) (by omega) (by omega)
  have e6 : bits .or .u64 ((x0 % 64 * 4294967296 + x1 * 16777216 + x2 * 65536 + x3 * 256 + x4) * 65536 + x5 * 256) x6 = (x0 % 64 * 4294967296 + x1 * 16777216 + x2 * 65536 + x3 * 256 + x4) * 65536 + x5 * 256 + x6 := or_add 8 ((x0 % 64 * 4294967296 + x1 * 16777216 + x2 * 65536 + x3 * 256 + x4) * 256 + x5) (P := 256) rfl (by omega) (by omega) (by omega) (by omega) (by omega)
  have e7 : bits .or .u64 (((x0 % 64 * 4294967296 + x1 * 16777216 + x2 * 65536 + x3 * 256 + x4) * 65536 + x5 * 256 + x6) * 256) x7 = ((x0 % 64 * 4294967296 + x1 * 16777216 + x2 * 65536 + x3 * 256 + x4) * 65536 + x5 * 256 + x6) * 256 + x7 := or_add 8 ((x0 % 64 * 4294967296 + x1 * 16777216 + x2 * 65536 + x3 * 256 + x4) * 65536 + x5 * 256 + x6) (P := 256) rfl (by omega) (by omega) (by omega) (by omega) (by omega)
  have e8 : ((((((x0 % 64 * 256 + x1) * 256 + x2) * 256 + x3) * 256 + x4) * 256 + x5) * 256 + x6) * 256 + x7 = ((x0 % 64 * 4294967296 + x1 * 16777216 + x2 * 65536 + x3 * 256 + x4) * 65536 + x5 * 256 + x6) * 256 + x7 := by omega
  rw [e8]
  clear e8
  go_enter Tryz.func158, Tryz.ntmps158
  go_wp2_with fail
  go_quiet (fail)
  go_wp2_with fail
  go_quiet (fail)
  go_wp2_with fail
  go_quiet (fail)
  go_wp2
  go_ret
  exact ⟨rfl, below_drewN (Below.refl _ _) _⟩

/-- In how many bytes a number stands. -/
def szL (n : Int) : Int := (numL n).length
theorem wsize_any (n : Int) (w : World) : Calls Tryz.prog 112 #[.int .u64 n] w fun e w' => e = .returned (.int .i64 (szL n)) ∧ w' = w := by
  unfold szL numL
  by_cases h1 : n < 64
  · rw [if_pos h1]
    go_enter Tryz.func112, Tryz.ntmps112
    go_wp2
    go_ret
    exact ⟨rfl, rfl⟩
  · rw [if_neg h1]
    by_cases h2 : n < 16384
    · rw [if_pos h2]
      go_enter Tryz.func112, Tryz.ntmps112
      go_wp2
      go_ret
      exact ⟨rfl, rfl⟩
    · rw [if_neg h2]
      by_cases h3 : n < 1073741824
      · rw [if_pos h3]
        go_enter Tryz.func112, Tryz.ntmps112
        go_wp2
        go_ret
        exact ⟨rfl, rfl⟩
      · rw [if_neg h3]
        go_enter Tryz.func112, Tryz.ntmps112
        go_wp2
        go_ret
        exact ⟨rfl, rfl⟩
/-- A number as one that is not below 0. -/
def abv' (n : Int) : Int := if n < 0 then 0 else n
theorem natural_any (n : Int) (w : World) (h1 : n ≤ 9223372036854775807) : Calls Tryz.prog 111 #[.int .i64 n] w fun e w' => e = .returned (.int .u64 (abv' n)) ∧ w' = w := by
  by_cases h : n < 0
  · rw [show abv' n = 0 from if_pos h]
    go_enter Tryz.func111, Tryz.ntmps111
    go_wp2
    all_goals go_ret
    all_goals exact ⟨rfl, rfl⟩
  · rw [show abv' n = n from if_neg h]
    go_enter Tryz.func111, Tryz.ntmps111
    go_wp2
    all_goals go_ret
    all_goals exact ⟨rfl, rfl⟩
theorem announced_none (ao : Option Addr) (cap : Nat) (w : World) : Calls Tryz.prog 157 #[.slice ao 0 cap] w fun e w' => e = .returned (.int .i64 1) ∧ w' = w := by
  go_enter Tryz.func157, Tryz.ntmps157
  go_wp2
  go_ret
  exact ⟨rfl, rfl⟩
/-- How many bytes a first byte announces. -/
def annL (x : Int) : Int := if x / 64 = 0 then 1 else if x / 64 = 1 then 2 else if x / 64 = 2 then 4 else 8
theorem annL_pow (x : Int) (h0 : 0 ≤ x) (g0 : x ≤ 255) : wrap64 (2 ^ (x / 64).toNat) = annL x := by
  have hq : x / 64 = 0 ∨ x / 64 = 1 ∨ x / 64 = 2 ∨ x / 64 = 3 := by omega
  unfold annL
  rcases hq with h | h | h | h <;> rw [h] <;> simp [wrap64]
theorem announced_some (b o n cap : Nat) (x0 : Int) (w : World) (hn : 0 < n) (h0 : 0 ≤ x0) (g0 : x0 ≤ 255) (c0 : w.cell? ⟨b, o, none⟩ = some (.int .u8 x0)) :
    Calls Tryz.prog 157 #[.slice (some ⟨b, o, none⟩) n cap] w fun e w' => e = .returned (.int .i64 (annL x0)) ∧ w' = w := by
  have hn' : ¬ n = 0 := by omega
  have hp := annL_pow x0 h0 g0
  go_enter Tryz.func157, Tryz.ntmps157
  go_wp2
  go_ret
  exact ⟨by rw [← hp]; rfl, rfl⟩
end Go.Proofs.YtkpknkhacmggnaaGreatDoor
namespace Go.Proofs.YtkpknkhacmggnaaGreatDoor
open Go.RowKit

theorem infoB : (Tryz.prog.info? 5).map (fun i => (i.zero, i.size, i.bytes)) = some (some (.int .u8 0), 1, 1) := by kernel_rfl
/-- The slice v, of length n, is nil or the head of a row of its own with the cells cur. -/
def Rw (B : Nat) (w : World) (v : Value) (n : Nat) (cur : List Value) : Prop :=
  n ≤ cur.length ∧ cur.length ≤ maxLen ∧ ((v = .slice none 0 0 ∧ cur = []) ∨ ∃ g, v = .slice (some ⟨g, 0, none⟩) n cur.length ∧ B ≤ g ∧ w.heap[g]? = some (.cells cur.toArray 5 (0, 0)))
theorem rw_nil (B : Nat) (w : World) : Rw B w (.slice none 0 0) 0 [] := ⟨Nat.le_refl _, Nat.zero_le _, .inl ⟨rfl, rfl⟩⟩
theorem Rw.below {B : Nat} {w w' : World} {v : Value} {n : Nat} {cur : List Value} (h : Rw B w v n cur) (hb : Below w.heap.size w w') : Rw B w' v n cur := by
  obtain ⟨h1, h2, h3⟩ := h
  refine ⟨h1, h2, ?_⟩
  rcases h3 with h3 | ⟨g, a1, a2, a3⟩
  · exact .inl h3
  · refine .inr ⟨g, a1, a2, ?_⟩
    rw [hb.block g (Array.getElem?_eq_some_iff.1 a3).1]
    exact a3
theorem Rw.owns {B : Nat} {w : World} {v : Value} {n : Nat} {cur : List Value} (h : Rw B w v n cur) : w.ownsRow B 5 1 v n (cur.take n) := by
  obtain ⟨h1, h2, h3⟩ := h
  refine ⟨by rw [List.length_take]; omega, ?_⟩
  rcases h3 with ⟨rfl, rfl⟩ | ⟨g, a1, a2, a3⟩
  · exact .inl ⟨rfl, by simpa using h1⟩
  · exact .inr ⟨g, cur.length, cur.toArray, a1, a2, a3, h1, h2, by simp, by simp⟩
theorem Rw.of {B : Nat} {w : World} {v : Value} {n : Nat} {xs : List Value} (h : w.ownsRow B 5 1 v n xs) : ∃ cur, Rw B w v n cur ∧ cur.take n = xs := by
  obtain ⟨h1, h2⟩ := h
  rcases h2 with ⟨rfl, rfl⟩ | ⟨g, cap, cur, rfl, a2, a3, a4, a5, a6, a7⟩
  · exact ⟨[], rw_nil _ _, by simp at h1; simp [h1]⟩
  · have e1 : cur.toList.length = cap := by simpa using a6
    exact ⟨cur.toList, ⟨by omega, by omega, .inr ⟨g, by rw [e1], a2, by simpa using a3⟩⟩, by simpa using a7⟩
/-- What was written behind: the bytes news. Where there was room for them the row is the same one, and what lies behind them has stayed. -/
structure Put (B : Nat) (w : World) (v : Value) (n : Nat) (cur : List Value) (w' : World) (v' : Value) (m : Nat) (cur' news : List Value) : Prop where
  rw : Rw B w' v' (n + m) cur'
  tk : cur'.take (n + m) = cur.take n ++ news
  len : news.length = m
  fit : n + m ≤ cur.length → v'.ownBlock = v.ownBlock ∧ cur'.length = cur.length ∧ cur'.drop (n + m) = cur.drop (n + m)
  below : Below B w w'
  grown : w.grownBy w' v.ownBlock
  blk : v'.ownBlock = v.ownBlock ∨ ∀ g, v'.ownBlock = some g → w.heap.size ≤ g
theorem Put.pre {B : Nat} {w W : World} {v : Value} {n : Nat} {cur : List Value} {w' : World} {v' : Value} {m : Nat} {cur' news : List Value} (h : Put B W v n cur w' v' m cur' news) (hB : B ≤ w.heap.size) (hb : Below w.heap.size w W) : Put B w v n cur w' v' m cur' news :=
  ⟨h.rw, h.tk, h.len, h.fit, (hb.mono hB).trans h.below, ⟨h.grown.os.trans hb.os, h.grown.tape.trans hb.tape, h.grown.output.trans hb.output, Nat.le_trans hb.size h.grown.size, fun k hk hp => (h.grown.block k (Nat.lt_of_lt_of_le hk hb.size) hp).trans (hb.block k hk)⟩,
    h.blk.imp id (fun q g hg => Nat.le_trans hb.size (q g hg))⟩
theorem Put.trans {B : Nat} {w w1 w2 : World} {v v1 v2 : Value} {n m1 m2 : Nat} {cur cur1 cur2 x1 x2 : List Value} (h : Put B w v n cur w1 v1 m1 cur1 x1) (k : Put B w1 v1 (n + m1) cur1 w2 v2 m2 cur2 x2) : Put B w v n cur w2 v2 (m1 + m2) cur2 (x1 ++ x2) := by
  refine ⟨by rw [← Nat.add_assoc]; exact k.rw, ?_, by rw [List.length_append, h.len, k.len], ?_, h.below.trans k.below, ⟨k.grown.os.trans h.grown.os, k.grown.tape.trans h.grown.tape, k.grown.output.trans h.grown.output, Nat.le_trans h.grown.size k.grown.size, fun i hi hp => ?_⟩, ?_⟩
  · rw [← Nat.add_assoc, k.tk, h.tk, List.append_assoc]
  · intro hf
    obtain ⟨a1, a2, a3⟩ := h.fit (by omega)
    obtain ⟨b1, b2, b3⟩ := k.fit (by omega)
    refine ⟨b1.trans a1, b2.trans a2, ?_⟩
    rw [← Nat.add_assoc, b3]
    have := congrArg (List.drop m2) a3
    rw [List.drop_drop, List.drop_drop] at this
    exact this
  · refine (k.grown.block i (Nat.lt_of_lt_of_le hi h.grown.size) ?_).trans (h.grown.block i hi hp)
    rcases h.blk with q | q
    · rw [q]; exact hp
    · intro e
      have := q i e.symm
      omega
  · rcases k.blk with q | q
    · rw [q]; exact h.blk
    · exact .inr fun g hg => Nat.le_trans h.grown.size (q g hg)
theorem run_append_rw (w : World) (ty : TypeId) (B : Nat) (v : Value) (n : Nat) (cur : List Value) (hr : Rw B w v n cur) (hB : B ≤ w.heap.size) (ad : Addr) (m c : Nat) (news : List Value) (hl : news.length = m) (hm : 0 < m)
    (hnews : ∀ j u, news[j]? = some u → w.cell? (ad.add j) = some u) (h1 : ∀ u ∈ news, u.oneCell' = true) (hn : n + m ≤ 1000000) :
    ∃ w' v' cur', (Builtin.append_ #[23, 23] ty #[v, .slice (some ad) m c]).run Tryz.prog w = .ok v' w' ∧ Put B w v n cur w' v' m cur' news := by
  obtain ⟨i0, hi, hz0, hz1, hz2⟩ := info_parts infoB
  obtain ⟨r1, r2, r3⟩ := id hr
  by_cases hf : n + m ≤ cur.length
  · rcases r3 with ⟨_, rfl⟩ | ⟨g, rfl, a2, a3⟩
    · simp at hf; omega
    · have e := run_append_room (P := Tryz.prog) w 23 ty 5 i0 Tryz.underlying23 hi g n cur.length cur.toArray a3 ad m c news (by rw [hz1]; omega) hnews h1 hf (by rw [hz1, hl]; simp; omega)
      rw [hz1] at e
      simp only [Nat.mul_one] at e
      have hlen : (cur.take n ++ news ++ cur.drop (n + news.length)).length = cur.length := by simp; omega
      refine ⟨_, _, cur.take n ++ news ++ cur.drop (n + news.length), e, ⟨by omega, by omega, .inr ⟨g, by rw [hlen], a2, setRow_heap w g _ _ 5 _ a3⟩⟩, ?_, hl, ?_, ?_, ?_, ?_⟩
      · rw [List.take_append_of_le_length (by simp; omega)]
        exact List.take_of_length_le (by simp; omega)
      · intro _
        refine ⟨rfl, hlen, ?_⟩
        rw [List.drop_append, List.drop_eq_nil_of_le (by simp; omega), List.nil_append, hl]
        have : n + m - (cur.take n ++ news).length = 0 := by simp; omega
        rw [this, List.drop_zero]
      · exact below_setRow (Below.refl _ _) a2 _
      · exact ⟨rfl, rfl, rfl, by simp, fun k _ hk => setRow_other w g k _ (fun e => hk (by rw [e]; rfl))⟩
      · exact .inl rfl
  · obtain ⟨v', w', e, hown, hg, _⟩ := run_append_own (P := Tryz.prog) w B 23 ty 5 i0 (.int .u8 0) 1 1 Tryz.underlying23 hi hz0 hz1 hz2 rfl (by decide) v n (cur.take n) hr.owns ad m c news (by omega) hnews h1 (by unfold maxLen; omega) (by omega) hB
    obtain ⟨cur', k1, k2⟩ := Rw.of hown
    refine ⟨w', v', cur', e, k1, k2, hl, fun h => absurd h hf, (Below.refl _ _).grown hg hB (fun j hj => (hr.owns.lt j hj).1), hg, .inr ?_⟩
    have hsrc : Src Tryz.prog i0.size 23 (.slice (some ad) m c) m news w := Src.ofSlice w Tryz.underlying23 ad m c news (by rw [hz1]; omega) hnews h1
    have hnew : ∃ G W, (Builtin.append_ #[23, 23] ty #[v, .slice (some ad) m c]).run Tryz.prog w = .ok (.slice (some ⟨w.heap.size, 0, none⟩) (n + m) G) W := by
      rcases r3 with ⟨rfl, rfl⟩ | ⟨g, rfl, a2, a3⟩
      · have hn0 : n = 0 := by simpa using r1
        subst hn0
        exact ⟨_, _, run_append_grow_src w 23 23 ty 5 i0 (.int .u8 0) Tryz.underlying23 hi hz0 none 0 0 [] (run_firstCells_none _ _ _ _ _) _ m news hsrc (by omega) (by omega) (growslice_fits (by omega) (by rw [hz2]; omega))⟩
      · refine ⟨_, _, run_append_grow_src w 23 23 ty 5 i0 (.int .u8 0) Tryz.underlying23 hi hz0 (some ⟨g, 0, none⟩) n cur.length (cur.take n) (run_firstCells_some _ _ _ _ _ _ _ (by rw [hz1, List.length_take]; omega) ?_) _ m news hsrc (by omega) (by omega) (growslice_fits (by omega) (by rw [hz2]; omega))⟩
        intro j u hj
        rw [Addr.add_lit]
        have hj' : cur[j]? = some u := by
          rw [List.getElem?_take] at hj
          split at hj
          · exact hj
          · simp at hj
        simp only [World.cell?, World.drew, a3, Nat.zero_add]
        simpa using hj'
    obtain ⟨G, W, e2⟩ := hnew
    rw [e] at e2
    cases e2
    intro g hg
    cases hg
    exact Nat.le_refl _
theorem wpList_append_rw (w : World) {ops : Array Oper} {rest : List Oper} {o : Oper} {a : Act} {Q : Exit → Act → World → Prop} (hgd : o.guard = none) (s x : Operand)
    (ho : o.op = .call { callee := .builtin .append, args := #[s, x], argTypes := #[23, 23] }) (B : Nat) (v : Value) (n : Nat) (cur : List Value) (hs : a.eval s = v) (hr : Rw B w v n cur) (hB : B ≤ w.heap.size) (ad : Addr) (m c : Nat) (news : List Value)
    (hx : a.eval x = .slice (some ad) m c) (hl : news.length = m) (hm : 0 < m) (hnews : ∀ j u, news[j]? = some u → w.cell? (ad.add j) = some u) (h1 : ∀ u ∈ news, u.oneCell' = true) (hn : n + m ≤ 1000000)
    (h : ∀ w' v' cur', Put B w v n cur w' v' m cur' news → wpList Tryz.prog ops Q rest (a.put o.dst v') w') : wpList Tryz.prog ops Q (o :: rest) a w := by
  refine wpList_plain hgd fun K hK => ?_
  obtain ⟨w', v', cur', hrun, hp⟩ := run_append_rw w o.type B v n cur hr hB ad m c news hl hm hnews h1 hn
  unfold Oper.wp
  simp [execOp, ho, resolve, invoke, builtin, hs, hx, hrun, Result.andThen]
  exact hK _ _ (h w' v' cur' hp)
theorem Put.post {B : Nat} {w : World} {v : Value} {n : Nat} {cur : List Value} {w' w2 : World} {v' : Value} {m : Nat} {cur' news : List Value} (h : Put B w v n cur w' v' m cur' news) (hB : B ≤ w'.heap.size) (hb : Below w'.heap.size w' w2) : Put B w v n cur w2 v' m cur' news :=
  ⟨h.rw.below hb, h.tk, h.len, h.fit, h.below.trans (hb.mono hB), ⟨hb.os.trans h.grown.os, hb.tape.trans h.grown.tape, hb.output.trans h.grown.output, Nat.le_trans h.grown.size hb.size, fun k hk hp => (hb.block k (Nat.lt_of_lt_of_le hk h.grown.size)).trans (h.grown.block k hk hp)⟩, h.blk⟩
theorem cells_at (w : World) (xs : List Value) (t : TypeId) : ∀ j u, xs[j]? = some u → (w.alloc (.cells xs.toArray t)).cell? ((⟨w.heap.size, 0, none⟩ : Addr).add j) = some u := by
  intro j u hj
  rw [Addr.add_lit, World.cell?_alloc_at _ _ _ _ rfl]
  simpa using hj
theorem one_bytes (l : List Int) : ∀ u ∈ bv l, u.oneCell' = true := Sl.one (f := bc) (fun _ => rfl) l
theorem Put.idle {B : Nat} {w : World} {v : Value} {n : Nat} {cur : List Value} (hr : Rw B w v n cur) : Put B w v n cur w v 0 cur (bv []) :=
  ⟨hr, by simp [bv_eq], rfl, fun _ => ⟨rfl, rfl, rfl⟩, Below.refl _ _, ⟨rfl, rfl, rfl, Nat.le_refl _, fun _ _ _ => rfl⟩, .inl rfl⟩
theorem run_append_sl (w : World) (ty : TypeId) (B : Nat) (v : Value) (n : Nat) (cur : List Value) (hr : Rw B w v n cur) (hB : B ≤ w.heap.size) (u : Value) (l : List Int) (hu : Sl bc w u l) (hn : n + l.length ≤ 1000000) :
    ∃ w' v' cur', (Builtin.append_ #[23, 23] ty #[v, u]).run Tryz.prog w = .ok v' w' ∧ Put B w v n cur w' v' l.length cur' (bv l) := by
  by_cases h0 : 0 < l.length
  · rcases hu with ⟨ao, cap, rfl, rfl⟩ | ⟨b, o, cap, rfl, h2, h3⟩
    · simp at h0
    · exact run_append_rw w ty B v n cur hr hB ⟨b, o, none⟩ l.length cap (bv l) (by simp [bv_eq]) h0 (by rw [bv_eq]; exact Sl.news h3) (one_bytes l) hn
  · obtain ⟨ao, cap, rfl⟩ := hu.form
    obtain rfl : l = [] := List.length_eq_zero_iff.1 (by omega)
    refine ⟨w, v, cur, ?_, Put.idle hr⟩
    obtain ⟨i0, hi, hz0, hz1, hz2⟩ := info_parts infoB
    have hl0 : ∀ a : Addr, (loadCells a 0).run Tryz.prog w = .ok #[] w := fun a => by simp [loadCells, loadCellsFrom]
    rcases hr.2.2 with ⟨rfl, rfl⟩ | ⟨g, rfl, _⟩
    · cases ao <;> simp [Builtin.append_, run_underlying Tryz.underlying23, sizeOf, typeInfo, hi, Builtin.lenOf, Builtin.firstCells, hl0]
    · have hle := hr.1
      cases ao <;> simp [Builtin.append_, run_underlying Tryz.underlying23, sizeOf, typeInfo, hi, Builtin.lenOf, Builtin.firstCells, hle, hl0, storeCells]
theorem wpList_append_sl (w : World) {ops : Array Oper} {rest : List Oper} {o : Oper} {a : Act} {Q : Exit → Act → World → Prop} (hgd : o.guard = none) (s x : Operand)
    (ho : o.op = .call { callee := .builtin .append, args := #[s, x], argTypes := #[23, 23] }) (B : Nat) (v : Value) (n : Nat) (cur : List Value) (hs : a.eval s = v) (hr : Rw B w v n cur) (hB : B ≤ w.heap.size) (u : Value) (l : List Int)
    (hx : a.eval x = u) (hu : Sl bc w u l) (hn : n + l.length ≤ 1000000)
    (h : ∀ w' v' cur', Put B w v n cur w' v' l.length cur' (bv l) → wpList Tryz.prog ops Q rest (a.put o.dst v') w') : wpList Tryz.prog ops Q (o :: rest) a w := by
  refine wpList_plain hgd fun K hK => ?_
  obtain ⟨w', v', cur', hrun, hp⟩ := run_append_sl w o.type B v n cur hr hB u l hu hn
  unfold Oper.wp
  simp [execOp, ho, resolve, invoke, builtin, hs, hx, hrun, Result.andThen]
  exact hK _ _ (h w' v' cur' hp)
end Go.Proofs.YtkpknkhacmggnaaGreatDoor
namespace Go.Proofs.YtkpknkhacmggnaaGreatDoor
open Go.RowKit



end Go.Proofs.YtkpknkhacmggnaaGreatDoor
namespace Go.Proofs.YtkpknkhacmggnaaGreatDoor
open Go.RowKit

set_option maxRecDepth 100000 in
set_option maxHeartbeats 4000000 in
theorem same_bytes (v u : Value) (a : List Int) (w : World) (hv : Sl bc w v a) (hu : Sl bc w u a) (hl : a.length ≤ 40000) :
    Calls Tryz.prog 18 #[v, u] w fun e w' => e = .returned (.bool true) ∧ Below w.heap.size w w' := by
  rcases hv with ⟨ao, cap, rfl, rfl⟩ | ⟨b, o, cap, rfl, h2, h3⟩
  · rcases hu with ⟨ao', cap', _, rfl⟩ | ⟨b, o, cap', rfl, h2, h3⟩
    all_goals
      go_enter Tryz.func18, Tryz.ntmps18
      go_wp2
      refine wp_loop_rounds 1 ?_
      rw [rounds_succ]
      go_wp2
      go_ret
      exact ⟨rfl, Below.refl _ _⟩
  · rcases hu with ⟨ao', cap', rfl, rfl⟩ | ⟨b', o', cap', rfl, h2', h3'⟩
    · go_enter Tryz.func18, Tryz.ntmps18
      go_wp2
      refine wp_loop_rounds 1 ?_
      rw [rounds_succ]
      go_wp2
      go_ret
      exact ⟨rfl, Below.refl _ _⟩
    · have H3 := hide h3
      have H3' := hide h3'
      clear h3 h3'
      go_enter Tryz.func18, Tryz.ntmps18
      go_wp2
      go_loopw [5] (fun i W => ∃ k : Nat, k ≤ a.length ∧ i = .int .i64 k ∧ Below w.heap.size w W) (fun i _ => a.length - (intOf i).toNat)
      case atStart => exact ⟨0, Nat.zero_le _, rfl, Below.refl _ _⟩
      case round =>
        obtain ⟨k, hk, rfl, hb⟩ := hrel
        by_cases hlt : k < a.length
        · have hc : wr.cell? ⟨b, o + k, none⟩ = some (.int .u8 a[k]) := by rw [hb.cell (p := ⟨b, o + k, none⟩) (cell_block (H3.out k hlt))]; exact H3.out k hlt
          have hc' : wr.cell? ⟨b', o' + k, none⟩ = some (.int .u8 a[k]) := by rw [hb.cell (p := ⟨b', o' + k, none⟩) (cell_block (H3'.out k hlt))]; exact H3'.out k hlt
          generalize a[k] = sk at *
          go_wp2_with fail
          go_quiet (fail)
          go_wp2
          exact ⟨⟨k + 1, by omega, by go_num, below_drewN hb _⟩, by simp [intOf]; omega⟩
        · go_wp2
          go_ret
          exact ⟨rfl, hb⟩

set_option maxRecDepth 100000 in
set_option maxHeartbeats 4000000 in
theorem same_len (ao bo : Option Addr) (L M c d : Nat) (w : World) (h : L ≠ M) : Calls Tryz.prog 18 #[.slice ao L c, .slice bo M d] w fun e w' => e = .returned (.bool false) ∧ Below w.heap.size w w' := by
  have h' : ((L : Int) != (M : Int)) = true := by simpa using fun e => h (by omega)
  go_enter Tryz.func18, Tryz.ntmps18
  go_wp2
  go_ret
  exact ⟨rfl, Below.refl _ _⟩
set_option maxRecDepth 100000 in
set_option maxHeartbeats 4000000 in
theorem same_diff (b o cap b' o' cap' : Nat) (a c : List Int) (w : World) (hac : c.length = a.length) (hne : a ≠ c) (hl : a.length ≤ 40000) (h3 : ∀ i (h : i < a.length), w.cell? ⟨b, o + i, none⟩ = some (bc a[i])) (h3' : ∀ i (h : i < c.length), w.cell? ⟨b', o' + i, none⟩ = some (bc c[i])) :
    Calls Tryz.prog 18 #[.slice (some ⟨b, o, none⟩) a.length cap, .slice (some ⟨b', o', none⟩) a.length cap'] w fun e w' => e = .returned (.bool false) ∧ Below w.heap.size w w' := by
  have H3 := hide h3
  have H3' := hide h3'
  clear h3 h3'
  go_enter Tryz.func18, Tryz.ntmps18
  go_wp2
  go_loopw [5] (fun i W => ∃ k : Nat, k ≤ a.length ∧ i = .int .i64 k ∧ (∀ t (h : t < a.length) (h' : t < c.length), t < k → a[t] = c[t]) ∧ Below w.heap.size w W) (fun i _ => a.length - (intOf i).toNat)
  case atStart => exact ⟨0, Nat.zero_le _, rfl, fun t _ _ h => by omega, Below.refl _ _⟩
  case round =>
    obtain ⟨k, hk, rfl, hall, hb⟩ := hrel
    by_cases hlt : k < a.length
    · have hlt2 : k < c.length := by omega
      have hc : wr.cell? ⟨b, o + k, none⟩ = some (.int .u8 a[k]) := by rw [hb.cell (p := ⟨b, o + k, none⟩) (cell_block (H3.out k hlt))]; exact H3.out k hlt
      have hc' : wr.cell? ⟨b', o' + k, none⟩ = some (.int .u8 c[k]) := by rw [hb.cell (p := ⟨b', o' + k, none⟩) (cell_block (H3'.out k hlt2))]; exact H3'.out k hlt2
      by_cases he : a[k] = c[k]
      · have HN := hide (fun t (h : t < a.length) (h' : t < c.length) (ht : t < k + 1) => show a[t] = c[t] by
          by_cases e : t = k
          · subst e; exact he
          · exact hall t h h' (by omega))
        rw [he] at hc
        clear hall he
        generalize c[k] = sk at *
        go_wp2_with fail
        go_quiet (fail)
        go_wp2
        exact ⟨⟨k + 1, by omega, by go_num, HN.out, below_drewN hb _⟩, by simp [intOf]; omega⟩
      · have hx : (a[k] != c[k]) = true := by simpa using he
        clear hall he
        generalize a[k] = x at *
        generalize c[k] = y at *
        go_wp2_with fail
        go_quiet (fail)
        go_wp2
        go_ret
        exact ⟨rfl, below_drewN hb _⟩
    · exact absurd (List.ext_getElem hac.symm fun t h h' => hall t h h' (by omega)) hne
/-- Two texts: are they the same? -/
theorem same_any (v u : Value) (a c : List Int) (w : World) (hv : Sl bc w v a) (hu : Sl bc w u c) (hl : a.length ≤ 40000) :
    Calls Tryz.prog 18 #[v, u] w fun e w' => e = .returned (.bool (decide (a = c))) ∧ Below w.heap.size w w' := by
  by_cases h : a = c
  · subst h
    rw [decide_eq_true rfl]
    exact same_bytes v u a w hv hu hl
  · rw [decide_eq_false h]
    by_cases hlen : a.length = c.length
    · rcases hv with ⟨ao, cap, rfl, rfl⟩ | ⟨b, o, cap, rfl, h2, h3⟩
      · exact absurd (List.length_eq_zero_iff.1 hlen.symm).symm h
      · rcases hu with ⟨ao', cap', rfl, rfl⟩ | ⟨b', o', cap', rfl, h2', h3'⟩
        · exact absurd (List.length_eq_zero_iff.1 hlen) h
        · rw [← hlen]
          exact same_diff b o cap b' o' cap' a c w hlen.symm h hl h3 h3'
    · obtain ⟨ao, cap, rfl⟩ := hv.form
      obtain ⟨bo, dap, rfl⟩ := hu.form
      exact same_len ao bo _ _ _ _ w hlen
end Go.Proofs.YtkpknkhacmggnaaGreatDoor
