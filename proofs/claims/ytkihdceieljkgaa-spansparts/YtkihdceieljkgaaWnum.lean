/-
  NUMBERS AS BYTES, on lists alone (no program in sight): how a number is written, what is read at the head of bytes, that what is written is read as what it was, and that what is read was written in just that way. Conditions: bytes are bytes, numbers are at most 2^62 - 1.
-/
import Derived.WalkKit
import Derived.Below
namespace Go.Proofs.Ytkihdceieljkgaa
open Go.RowKit
/-- A byte, an int as a cell. -/
def bc (x : Int) : Value := .int .u8 x
def ic (x : Int) : Value := .int .i64 x
/-- Bytes as cells. -/
def bv (l : List Int) : List Value := l.map fun x => Value.int .u8 x
theorem bv_eq (l : List Int) : bv l = l.map bc := rfl
/-- A number's bytes, the highest first. -/
def numL (n : Int) : List Int :=
  if n < 64 then [n] else if n < 16384 then [n / 256 + 64, n % 256] else if n < 1073741824 then [n / 16777216 + 128, n / 65536 % 256, n / 256 % 256, n % 256]
  else [n / 72057594037927936 + 192, n / 281474976710656 % 256, n / 1099511627776 % 256, n / 4294967296 % 256, n / 16777216 % 256, n / 65536 % 256, n / 256 % 256, n % 256]
/-- The greatest number is 2^62 - 1. -/
def capN (n : Int) : Int := if 4611686018427387903 < n then 4611686018427387903 else n
/-- An int's bytes: of 0, if it is below 0. -/
def intL (n : Int) : List Int := if n < 0 then [0] else numL (capN n)
/-- What a number of k bytes comes to: 5, it could stand in fewer; 6, it is above the most; 0, it is read. -/
def finN (k : Nat) (lo n most : Int) : Int × Nat × Int := if n < lo then (5, 0, 0) else if most < n then (6, 0, 0) else (0, k, n)
/-- The next number at the head of the bytes r: a code (3: too short), how many bytes, the number. -/
def numS (r : List Int) (most : Int) : Int × Nat × Int := match r with
  | [] => (3, 0, 0)
  | x0 :: r =>
    if x0 / 64 = 0 then finN 1 0 (x0 % 64) most
    else if x0 / 64 = 1 then (match r with
      | x1 :: _ => finN 2 64 (x0 % 64 * 256 + x1) most
      | _ => (3, 0, 0))
    else if x0 / 64 = 2 then (match r with
      | x1 :: x2 :: x3 :: _ => finN 4 16384 (((x0 % 64 * 256 + x1) * 256 + x2) * 256 + x3) most
      | _ => (3, 0, 0))
    else (match r with
      | x1 :: x2 :: x3 :: x4 :: x5 :: x6 :: x7 :: _ => finN 8 1073741824 (((((((x0 % 64 * 256 + x1) * 256 + x2) * 256 + x3) * 256 + x4) * 256 + x5) * 256 + x6) * 256 + x7) most
      | _ => (3, 0, 0))
theorem numL_le (n : Int) : (numL n).length ≤ 8 := by
  unfold numL; split
  · simp
  · split
    · simp
    · split <;> simp
theorem intL_le (n : Int) : (intL n).length ≤ 8 := by
  unfold intL; split
  · simp
  · exact numL_le _

/-- All are bytes. -/
def Byt (l : List Int) : Prop := ∀ x ∈ l, 0 ≤ x ∧ x ≤ 255
theorem numL_byt {n : Int} (h0 : 0 ≤ n) (h1 : n ≤ 4611686018427387903) : Byt (numL n) := by
  unfold numL Byt
  intro x hx
  split at hx
  · simp at hx; omega
  · split at hx
    · simp at hx; rcases hx with rfl | rfl <;> omega
    · split at hx
      · simp at hx; rcases hx with rfl | rfl | rfl | rfl <;> omega
      · simp at hx; rcases hx with rfl | rfl | rfl | rfl | rfl | rfl | rfl | rfl <;> omega
theorem fin_ok {k : Nat} {lo n m most : Int} (h : n = m) (h0 : lo ≤ m) (h1 : m ≤ most) : finN k lo n most = (0, k, m) := by
  subst h
  rw [finN, if_neg (by omega), if_neg (by omega)]
/-- What was written is read. -/
theorem numS_numL {n most : Int} (r : List Int) (h0 : 0 ≤ n) (h1 : n ≤ 4611686018427387903) (hm : n ≤ most) : numS (numL n ++ r) most = (0, (numL n).length, n) := by
  by_cases a : n < 64
  · simp only [numL, if_pos a, List.cons_append, List.nil_append, numS, List.length_cons, List.length_nil]
    rw [if_pos (by omega)]
    exact fin_ok (by omega) (by omega) hm
  · by_cases b : n < 16384
    · simp only [numL, if_neg a, if_pos b, List.cons_append, List.nil_append, numS, List.length_cons, List.length_nil]
      rw [if_neg (by omega), if_pos (by omega)]
      exact fin_ok (by omega) (by omega) hm
    · by_cases c : n < 1073741824
      · simp only [numL, if_neg a, if_neg b, if_pos c, List.cons_append, List.nil_append, numS, List.length_cons, List.length_nil]
        rw [if_neg (by omega), if_neg (by omega), if_pos (by omega)]
        exact fin_ok (by omega) (by omega) hm
      · simp only [numL, if_neg a, if_neg b, if_neg c, List.cons_append, List.nil_append, numS, List.length_cons, List.length_nil]
        rw [if_neg (by omega), if_neg (by omega), if_neg (by omega)]
        exact fin_ok (by omega) (by omega) hm
theorem fin_inv {k : Nat} {lo n most : Int} {j : Nat} {m : Int} (h : finN k lo n most = (0, j, m)) : j = k ∧ m = n ∧ lo ≤ n ∧ n ≤ most := by
  unfold finN at h
  split at h
  · simp at h
  · split at h
    · simp at h
    · simp at h; omega
/-- What is read was written in just that way. -/
theorem numS_once {r : List Int} {most : Int} {k : Nat} {n : Int} (hb : Byt r) (h : numS r most = (0, k, n)) : r.take k = numL n ∧ k = (numL n).length ∧ 0 ≤ n ∧ n ≤ 4611686018427387903 ∧ n ≤ most ∧ k ≤ r.length := by
  rcases r with _ | ⟨x0, r⟩
  · simp [numS] at h
  have b0 := hb x0 (by simp)
  unfold numS at h
  simp only at h
  split at h
  · obtain ⟨rfl, rfl, h1, h2⟩ := fin_inv h
    have e : numL (x0 % 64) = [x0] := by rw [numL, if_pos (by omega)]; congr 1; omega
    rw [e]
    refine ⟨by simp, by simp, by omega, by omega, h2, by simp⟩
  · split at h
    · rcases r with _ | ⟨x1, r⟩
      · simp at h
      have b1 := hb x1 (by simp)
      obtain ⟨rfl, rfl, h1, h2⟩ := fin_inv h
      have e : numL (x0 % 64 * 256 + x1) = [x0, x1] := by
        rw [numL, if_neg (by omega), if_pos (by omega)]
        simp only [List.cons.injEq, and_true]; refine ⟨?_, ?_⟩ <;> omega
      rw [e]
      refine ⟨by simp, by simp, by omega, by omega, h2, by simp⟩
    · split at h
      · rcases r with _ | ⟨x1, _ | ⟨x2, _ | ⟨x3, r⟩⟩⟩
        · simp at h
        · simp at h
        · simp at h
        have b1 := hb x1 (by simp)
        have b2 := hb x2 (by simp)
        have b3 := hb x3 (by simp)
        obtain ⟨rfl, rfl, h1, h2⟩ := fin_inv h
        have e : numL (((x0 % 64 * 256 + x1) * 256 + x2) * 256 + x3) = [x0, x1, x2, x3] := by
          rw [numL, if_neg (by omega), if_neg (by omega), if_pos (by omega)]
          simp only [List.cons.injEq, and_true]; refine ⟨?_, ?_, ?_, ?_⟩ <;> omega
        rw [e]
        refine ⟨by simp, by simp, by omega, by omega, h2, by simp⟩
      · rcases r with _ | ⟨x1, _ | ⟨x2, _ | ⟨x3, _ | ⟨x4, _ | ⟨x5, _ | ⟨x6, _ | ⟨x7, r⟩⟩⟩⟩⟩⟩⟩
        · simp at h
        · simp at h
        · simp at h
        · simp at h
        · simp at h
        · simp at h
        · simp at h
        have b1 := hb x1 (by simp)
        have b2 := hb x2 (by simp)
        have b3 := hb x3 (by simp)
        have b4 := hb x4 (by simp)
        have b5 := hb x5 (by simp)
        have b6 := hb x6 (by simp)
        have b7 := hb x7 (by simp)
        obtain ⟨rfl, rfl, h1, h2⟩ := fin_inv h
        have e : numL (((((((x0 % 64 * 256 + x1) * 256 + x2) * 256 + x3) * 256 + x4) * 256 + x5) * 256 + x6) * 256 + x7) = [x0, x1, x2, x3, x4, x5, x6, x7] := by
          rw [numL, if_neg (by omega), if_neg (by omega), if_neg (by omega)]
          simp only [List.cons.injEq, and_true]; refine ⟨?_, ?_, ?_, ?_, ?_, ?_, ?_, ?_⟩ <;> omega
        rw [e]
        refine ⟨by simp, by simp, by omega, by omega, h2, by simp⟩
end Go.Proofs.Ytkihdceieljkgaa
