/-
  NUMBERS AS BYTES, on lists alone (no program in sight): how a number is written, what is read at the head of bytes, that what is written is read as what it was, and that what is read was written in just that way. Conditions: bytes are bytes, numbers are at most 2^62 - 1.
  WHAT A KIND IS ABOUT, NAMES AND BROKERS (castellanref05.has, Name, Brokers, num, name, row): as functions of numbers, letters and lists. Conditions: no more than a thousand letters, a thousand brokers.
  BROKERS (castellanref05.Brokers, row, name): as functions of lists. Conditions: the numbers' cells hold them, no more than a thousand.
-/
import Derived.WalkKit
import Derived.Below
import Derived.Test.YtfnemlbkmhcodaaGreatProg
import Derived.Test.YtfnemlbkmhcodaaGreatJSlca3
import Derived.WalkSpells
import Derived.BigQuiet
import Derived.Deep.CutRange
import Derived.WalkSmall
namespace Go.Proofs.YtfnemlbkmhcodaaGreat
open Go.RowKit
/-- A byte, an int as a cell. -/
def bc (x : Int) : Value := .int .u8 x
def ic (x : Int) : Value := .int .i64 x
/-- Bytes as cells. -/
def bv (l : List Int) : List Value := l.map fun x => Value.int .u8 x
theorem bv_eq (l : List Int) : bv l = l.map bc := rfl
/-- A number's bytes, the highest first. -/
def numL (n : Int) : List Int :=
  if n < 64 then [n] else if n < 16384 then [n / 256 + 64, n % 256] else if n < 1073741824 then [n / 16777216 + 128, n / 65536 % 256, n / 256 % 256, n % 256]
  else [n / 72057594037927936 + 192, n / 281474976710656 % 256, n / 1099511627776 % 256, n / 4294967296 % 256, n / 16777216 % 256, n / 65536 % 256, n / 256 % 256, n % 256]
/-- The greatest number is 2^62 - 1. -/
def capN (n : Int) : Int := if 4611686018427387903 < n then 4611686018427387903 else n
/-- An int's bytes: of 0, if it is below 0. -/
def intL (n : Int) : List Int := if n < 0 then [0] else numL (capN n)
/-- What a number of k bytes comes to: 5, it could stand in fewer; 6, it is above the most; 0, it is read. -/
def finN (k : Nat) (lo n most : Int) : Int × Nat × Int := if n < lo then (5, 0, 0) else if most < n then (6, 0, 0) else (0, k, n)
/-- The next number at the head of the bytes r: a code (3: too short), how many bytes, the number. -/
def numS (r : List Int) (most : Int) : Int × Nat × Int := match r with
  | [] => (3, 0, 0)
  | x0 :: r =>
    if x0 / 64 = 0 then finN 1 0 (x0 % 64) most
    else if x0 / 64 = 1 then (match r with
      | x1 :: _ => finN 2 64 (x0 % 64 * 256 + x1) most
      | _ => (3, 0, 0))
    else if x0 / 64 = 2 then (match r with
      | x1 :: x2 :: x3 :: _ => finN 4 16384 (((x0 % 64 * 256 + x1) * 256 + x2) * 256 + x3) most
      | _ => (3, 0, 0))
    else (match r with
      | x1 :: x2 :: x3 :: x4 :: x5 :: x6 :: x7 :: _ => finN 8 1073741824 (((((((x0 % 64 * 256 + x1) * 256 + x2) * 256 + x3) * 256 + x4) * 256 + x5) * 256 + x6) * 256 + x7) most
      | _ => (3, 0, 0))
theorem numL_le (n : Int) : (numL n).length ≤ 8 := by
  unfold numL; split
  · simp
  · split
    · simp
    · split <;> simp
theorem intL_le (n : Int) : (intL n).length ≤ 8 := by
  unfold intL; split
  · simp
  · exact numL_le _

/-- All are bytes. -/
def Byt (l : List Int) : Prop := ∀ x ∈ l, 0 ≤ x ∧ x ≤ 255
theorem numL_byt {n : Int} (h0 : 0 ≤ n) (h1 : n ≤ 4611686018427387903) : Byt (numL n) := by
  unfold numL Byt
  intro x hx
  split at hx
  · simp at hx; omega
  · split at hx
    · simp at hx; rcases hx with rfl | rfl <;> omega
    · split at hx
      · simp at hx; rcases hx with rfl | rfl | rfl | rfl <;> omega
      · simp at hx; rcases hx with rfl | rfl | rfl | rfl | rfl | rfl | rfl | rfl <;> omega
theorem fin_ok {k : Nat} {lo n m most : Int} (h : n = m) (h0 : lo ≤ m) (h1 : m ≤ most) : finN k lo n most = (0, k, m) := by
  subst h
  rw [finN, if_neg (by omega), if_neg (by omega)]
/-- What was written is read. -/
theorem numS_numL {n most : Int} (r : List Int) (h0 : 0 ≤ n) (h1 : n ≤ 4611686018427387903) (hm : n ≤ most) : numS (numL n ++ r) most = (0, (numL n).length, n) := by
  by_cases a : n < 64
  · simp only [numL, if_pos a, List.cons_append, List.nil_append, numS, List.length_cons, List.length_nil]
    rw [if_pos (by omega)]
    exact fin_ok (by omega) (by omega) hm
  · by_cases b : n < 16384
    · simp only [numL, if_neg a, if_pos b, List.cons_append, List.nil_append, numS, List.length_cons, List.length_nil]
      rw [if_neg (by omega), if_pos (by omega)]
      exact fin_ok (by omega) (by omega) hm
    · by_cases c : n < 1073741824
      · simp only [numL, if_neg a, if_neg b, if_pos c, List.cons_append, List.nil_append, numS, List.length_cons, List.length_nil]
        rw [if_neg (by omega), if_neg (by omega), if_pos (by omega)]
        exact fin_ok (by omega) (by omega) hm
      · simp only [numL, if_neg a, if_neg b, if_neg c, List.cons_append, List.nil_append, numS, List.length_cons, List.length_nil]
        rw [if_neg (by omega), if_neg (by omega), if_neg (by omega)]
        exact fin_ok (by omega) (by omega) hm
theorem fin_inv {k : Nat} {lo n most : Int} {j : Nat} {m : Int} (h : finN k lo n most = (0, j, m)) : j = k ∧ m = n ∧ lo ≤ n ∧ n ≤ most := by
  unfold finN at h
  split at h
  · simp at h
  · split at h
    · simp at h
    · simp at h; omega
/-- What is read was written in just that way. -/
theorem numS_once {r : List Int} {most : Int} {k : Nat} {n : Int} (hb : Byt r) (h : numS r most = (0, k, n)) : r.take k = numL n ∧ k = (numL n).length ∧ 0 ≤ n ∧ n ≤ 4611686018427387903 ∧ n ≤ most ∧ k ≤ r.length := by
  rcases r with _ | ⟨x0, r⟩
  · simp [numS] at h
  have b0 := hb x0 (by simp)
  unfold numS at h
  simp only at h
  split at h
  · obtain ⟨rfl, rfl, h1, h2⟩ := fin_inv h
    have e : numL (x0 % 64) = [x0] := by rw [numL, if_pos (by omega)]; congr 1; omega
    rw [e]
    refine ⟨by simp, by simp, by omega, by omega, h2, by simp⟩
  · split at h
    · rcases r with _ | ⟨x1, r⟩
      · simp at h
      have b1 := hb x1 (by simp)
      obtain ⟨rfl, rfl, h1, h2⟩ := fin_inv h
      have e : numL (x0 % 64 * 256 + x1) = [x0, x1] := by
        rw [numL, if_neg (by omega), if_pos (by omega)]
        simp only [List.cons.injEq, and_true]; refine ⟨?_, ?_⟩ <;> omega
      rw [e]
      refine ⟨by simp, by simp, by omega, by omega, h2, by simp⟩
    · split at h
      · rcases r with _ | ⟨x1, _ | ⟨x2, _ | ⟨x3, r⟩⟩⟩
        · simp at h
        · simp at h
        · simp at h
        have b1 := hb x1 (by simp)
        have b2 := hb x2 (by simp)
        have b3 := hb x3 (by simp)
        obtain ⟨rfl, rfl, h1, h2⟩ := fin_inv h
        have e : numL (((x0 % 64 * 256 + x1) * 256 + x2) * 256 + x3) = [x0, x1, x2, x3] := by
          rw [numL, if_neg (by omega), if_neg (by omega), if_pos (by omega)]
          simp only [List.cons.injEq, and_true]; refine ⟨?_, ?_, ?_, ?_⟩ <;> omega
        rw [e]
        refine ⟨by simp, by simp, by omega, by omega, h2, by simp⟩
      · rcases r with _ | ⟨x1, _ | ⟨x2, _ | ⟨x3, _ | ⟨x4, _ | ⟨x5, _ | ⟨x6, _ | ⟨x7, r⟩⟩⟩⟩⟩⟩⟩
        · simp at h
        · simp at h
        · simp at h
        · simp at h
        · simp at h
        · simp at h
        · simp at h
        have b1 := hb x1 (by simp)
        have b2 := hb x2 (by simp)
        have b3 := hb x3 (by simp)
        have b4 := hb x4 (by simp)
        have b5 := hb x5 (by simp)
        have b6 := hb x6 (by simp)
        have b7 := hb x7 (by simp)
        obtain ⟨rfl, rfl, h1, h2⟩ := fin_inv h
        have e : numL (((((((x0 % 64 * 256 + x1) * 256 + x2) * 256 + x3) * 256 + x4) * 256 + x5) * 256 + x6) * 256 + x7) = [x0, x1, x2, x3, x4, x5, x6, x7] := by
          rw [numL, if_neg (by omega), if_neg (by omega), if_neg (by omega)]
          simp only [List.cons.injEq, and_true]; refine ⟨?_, ?_, ?_, ?_, ?_, ?_, ?_, ?_⟩ <;> omega
        rw [e]
        refine ⟨by simp, by simp, by omega, by omega, h2, by simp⟩
end Go.Proofs.YtfnemlbkmhcodaaGreat
namespace Go.Proofs.YtfnemlbkmhcodaaGreat
open Go.RowKit

/-- What a kind is about, by letters. -/
def letters (k : Int) : List UInt8 :=
  if k = 2 then [98, 101, 114] else if k = 3 ∨ k = 4 ∨ k = 5 ∨ k = 6 then [98, 101] else if k = 7 then [116, 110] else if k = 8 then [116, 112, 108, 105, 109] else if k = 9 then [116, 101, 112, 108, 105, 109, 120] else if k = 10 then [116, 107, 118, 102] else if k = 11 then [116] else if k = 12 then [97] else []
def hasL (k : Int) (c : Int) : Bool := (letters k).any fun y => decide ((y.toNat : Int) = c)
theorem letters_none {k : Int} (h : ¬ (2 ≤ k ∧ k ≤ 12)) : letters k = [] := by
  unfold letters
  rw [if_neg (by omega), if_neg (by omega), if_neg (by omega), if_neg (by omega), if_neg (by omega), if_neg (by omega), if_neg (by omega), if_neg (by omega)]
theorem let_no {S : List UInt8} {c : Int} (h : ∀ x ∈ S, ¬ ((x.toNat : Int) = c)) : (S.any fun y => decide ((y.toNat : Int) = c)) = false := by
  rw [List.any_eq_false]
  intro x hx
  simp [h x hx]
theorem let_yes {S : List UInt8} {c : Int} {j : Nat} (hj : j < S.length) (h : (S[j].toNat : Int) = c) : (S.any fun y => decide ((y.toNat : Int) = c)) = true := by
  rw [List.any_eq_true]
  exact ⟨S[j], List.getElem_mem hj, by simp [h]⟩
theorem let_snoc {S : List UInt8} {c : Int} {j : Nat} (hj : j < S.length) (h : ∀ x ∈ S.take j, ¬ ((x.toNat : Int) = c)) (hn : ¬ ((S[j].toNat : Int) = c)) : ∀ x ∈ S.take (j + 1), ¬ ((x.toNat : Int) = c) := by
  intro x hx
  rw [List.take_succ_eq_append_getElem hj] at hx
  rcases List.mem_append.1 hx with q | q
  · exact h x q
  · simp at q; rw [q]; exact hn
set_option maxRecDepth 100000 in
set_option maxHeartbeats 4000000 in
theorem has_any (k : Int) (c : Int) (w : World) : Calls Tryz.prog 110 #[.int .i64 k, .int .u8 c] w fun e w' => e = .returned (.bool (hasL k c)) ∧ w' = w := by
  by_cases hk : 2 ≤ k ∧ k ≤ 12
  · have hk' : k = 2 ∨ k = 3 ∨ k = 4 ∨ k = 5 ∨ k = 6 ∨ k = 7 ∨ k = 8 ∨ k = 9 ∨ k = 10 ∨ k = 11 ∨ k = 12 := by omega
    clear hk
    rcases hk' with rfl | rfl | rfl | rfl | rfl | rfl | rfl | rfl | rfl | rfl | rfl
    all_goals
      generalize hR : hasL _ c = R
      unfold hasL at hR
      try rw [show letters 4 = letters 3 from rfl] at hR
      try rw [show letters 5 = letters 3 from rfl] at hR
      try rw [show letters 6 = letters 3 from rfl] at hR
      have HR := hide hR
      clear hR
      go_enter Tryz.func110, Tryz.ntmps110
      go_wp2_with fail
      first | (rw [show (⟨#[98, 101, 114]⟩ : ByteArray) = ⟨(letters 2).toArray⟩ from rfl]) | (rw [show (⟨#[98, 101]⟩ : ByteArray) = ⟨(letters 3).toArray⟩ from rfl]) | (rw [show (⟨#[98, 101]⟩ : ByteArray) = ⟨(letters 4).toArray⟩ from rfl]) | (rw [show (⟨#[98, 101]⟩ : ByteArray) = ⟨(letters 5).toArray⟩ from rfl]) | (rw [show (⟨#[98, 101]⟩ : ByteArray) = ⟨(letters 6).toArray⟩ from rfl]) | (rw [show (⟨#[116, 110]⟩ : ByteArray) = ⟨(letters 7).toArray⟩ from rfl]) | (rw [show (⟨#[116, 112, 108, 105, 109]⟩ : ByteArray) = ⟨(letters 8).toArray⟩ from rfl]) | (rw [show (⟨#[116, 101, 112, 108, 105, 109, 120]⟩ : ByteArray) = ⟨(letters 9).toArray⟩ from rfl]) | (rw [show (⟨#[116, 107, 118, 102]⟩ : ByteArray) = ⟨(letters 10).toArray⟩ from rfl]) | (rw [show (⟨#[116]⟩ : ByteArray) = ⟨(letters 11).toArray⟩ from rfl]) | (rw [show (⟨#[97]⟩ : ByteArray) = ⟨(letters 12).toArray⟩ from rfl])
      generalize hS : letters _ = S
      have HS := hide hS
      have hSl : S.length ≤ 7 := by rw [← hS]; decide
      have hidx : ∀ (j : Nat) (hj : j < S.length) h, (⟨S.toArray⟩ : ByteArray)[j]'h = S[j]'hj := fun _ _ _ => rfl
      clear hS
      go_loop [6] (fun i => ∃ j : Nat, j ≤ S.length ∧ i = .int .i64 (j : Int) ∧ Hid (∀ x ∈ S.take j, ¬ ((x.toNat : Int) = c))) (fun i => S.length - (intOf i).toNat)
      case atStart => exact ⟨0, Nat.zero_le _, rfl, hide (fun x hx => by simp at hx)⟩
      case round =>
        obtain ⟨j, hj, rfl, HN⟩ := hrel
        by_cases hlt : j < S.length
        · have hltI : (j : Int) < (S.length : Int) := by omega
          have hix : ∀ h, (⟨S.toArray⟩ : ByteArray)[j]'h = S[j] := hidx j hlt
          have HSN := hide (fun hn => let_snoc hlt HN.out hn)
          have HSY := hide (fun he => let_yes (c := c) hlt he)
          clear hidx
          by_cases he : (S[j].toNat : Int) = c
          · go_wp2_with fail
            go_ret
            exact ⟨by rw [show R = true by rw [← HR.out, HS.out, HSY.out he]]; rfl, rfl⟩
          · go_wp2_with fail
            go_round
            case rel => exact ⟨j + 1, by omega, by go_num, hide (HSN.out he)⟩
            case measure => simp [intOf]; omega
        · obtain rfl : j = S.length := by omega
          clear hlt
          go_wp2_with fail
          go_ret
          exact ⟨by rw [show R = false by rw [← HR.out, HS.out, let_no (by have := HN.out; rw [List.take_length] at this; exact this)]]; rfl, rfl⟩
  · generalize hR : hasL k c = R
    have HR := hide (show R = false by rw [← hR]; unfold hasL; rw [letters_none hk]; simp)
    clear hR
    have n2 : ¬ k = 2 := by omega
    have n3 : ¬ k = 3 := by omega
    have n4 : ¬ k = 4 := by omega
    have n5 : ¬ k = 5 := by omega
    have n6 : ¬ k = 6 := by omega
    have n7 : ¬ k = 7 := by omega
    have n8 : ¬ k = 8 := by omega
    have n9 : ¬ k = 9 := by omega
    have n10 : ¬ k = 10 := by omega
    have n11 : ¬ k = 11 := by omega
    have n12 : ¬ k = 12 := by omega
    clear hk
    go_enter Tryz.func110, Tryz.ntmps110
    go_wp2_with fail
    refine wp_loop_rounds 1 ?_
    rw [rounds_succ]
    go_wp2_with fail
    go_ret
    exact ⟨by rw [HR.out]; rfl, rfl⟩
/-- A number in its range, if it is asked for; else 0. -/
def numB (n : Int) (asks : Bool) (lo hi : Int) : Bool := if asks then decide (lo ≤ n ∧ n ≤ hi) else decide (n = 0)
theorem num_any (n : Int) (asks : Bool) (lo hi : Int) (w : World) : Calls Tryz.prog 138 #[.int .i64 n, .bool asks, .int .i64 lo, .int .i64 hi] w fun e w' => e = .returned (.bool (numB n asks lo hi)) ∧ w' = w := by
  obtain ⟨R, hR⟩ : ∃ R, R = numB n asks lo hi := ⟨_, rfl⟩
  rw [← hR]
  have HR := hide hR
  clear hR
  cases asks with
  | true =>
    by_cases h1 : lo ≤ n
    · by_cases h2 : n ≤ hi
      · have HE : Hid (R = true) := hide (by rw [HR.out]; simp [numB, h1, h2])
        go_enter Tryz.func138, Tryz.ntmps138
        go_wp2
        go_ret
        exact ⟨by rw [HE.out]; rfl, rfl⟩
      · have HE : Hid (R = false) := hide (by rw [HR.out]; simp [numB]; omega)
        go_enter Tryz.func138, Tryz.ntmps138
        go_wp2
        go_ret
        exact ⟨by rw [HE.out]; rfl, rfl⟩
    · have HE : Hid (R = false) := hide (by rw [HR.out]; simp [numB]; omega)
      go_enter Tryz.func138, Tryz.ntmps138
      go_wp2
      go_ret
      exact ⟨by rw [HE.out]; rfl, rfl⟩
  | false =>
    have HE : Hid (R = (n == 0)) := hide (by rw [HR.out]; simp only [numB]; rfl)
    go_enter Tryz.func138, Tryz.ntmps138
    go_wp2
    go_ret
    exact ⟨by rw [HE.out]; rfl, rfl⟩
/-- A letter that may be in a name. -/
def okc (x : UInt8) : Bool := decide (97 ≤ (x.toNat : Int) ∧ (x.toNat : Int) ≤ 122) || decide (48 ≤ (x.toNat : Int) ∧ (x.toNat : Int) ≤ 57) || decide ((x.toNat : Int) = 46) || decide ((x.toNat : Int) = 45)
def nameB (S : List UInt8) : Bool := decide (1 ≤ S.length ∧ S.length ≤ 40) && !decide (S = [46]) && !decide (S = [46, 46]) && S.all okc
theorem okc_cases (x : Int) : (97 ≤ x ∧ x ≤ 122) ∨ (97 ≤ x ∧ ¬ x ≤ 122 ∧ 48 ≤ x ∧ ¬ x ≤ 57 ∧ ¬ x = 46 ∧ ¬ x = 45) ∨ (¬ 97 ≤ x ∧ 48 ≤ x ∧ x ≤ 57) ∨ (¬ 97 ≤ x ∧ 48 ≤ x ∧ ¬ x ≤ 57 ∧ ¬ x = 46 ∧ ¬ x = 45) ∨ (¬ 97 ≤ x ∧ ¬ 48 ≤ x ∧ x = 46) ∨ (¬ 97 ≤ x ∧ ¬ 48 ≤ x ∧ ¬ x = 46 ∧ x = 45) ∨ (¬ 97 ≤ x ∧ ¬ 48 ≤ x ∧ ¬ x = 46 ∧ ¬ x = 45) := by omega
theorem all_snoc {S : List UInt8} {j : Nat} (hj : j < S.length) (h : (S.take j).all okc = true) (hn : okc S[j] = true) : (S.take (j + 1)).all okc = true := by
  rw [List.take_succ_eq_append_getElem hj, List.all_append, h]
  simp [hn]
theorem all_no {S : List UInt8} {j : Nat} (hj : j < S.length) (hn : okc S[j] = false) : S.all okc = false := by
  rw [List.all_eq_false]
  exact ⟨S[j], List.getElem_mem hj, by simp [hn]⟩
set_option maxRecDepth 100000 in
set_option maxHeartbeats 4000000 in
theorem name_any (S : List UInt8) (w : World) (hS : S.length ≤ 1000) : Calls Tryz.prog 139 #[.string ⟨S.toArray⟩] w fun e w' => e = .returned (.bool (nameB S)) ∧ w' = w := by
  have hdot : (⟨S.toArray⟩ : ByteArray).toList = S := by simp
  obtain ⟨R, hR⟩ : ∃ R, R = nameB S := ⟨_, rfl⟩
  rw [← hR]
  have HR := hide hR
  clear hR
  by_cases h1 : S.length < 1
  · have HE : Hid (R = false) := hide (by rw [HR.out]; simp [nameB]; omega)
    have h1' : (S.length : Int) < 1 := by omega
    go_enter Tryz.func139, Tryz.ntmps139
    go_wp2_with fail
    go_ret
    exact ⟨by rw [HE.out]; rfl, rfl⟩
  have h1' : ¬ (S.length : Int) < 1 := by omega
  by_cases h2 : 40 < S.length
  · have HE : Hid (R = false) := hide (by rw [HR.out]; simp [nameB]; omega)
    have h2' : (40 : Int) < (S.length : Int) := by omega
    go_enter Tryz.func139, Tryz.ntmps139
    go_wp2_with fail
    go_ret
    exact ⟨by rw [HE.out]; rfl, rfl⟩
  have h2' : ¬ (40 : Int) < (S.length : Int) := by omega
  by_cases h3 : S = [46]
  · have HE : Hid (R = false) := hide (by rw [HR.out]; simp [nameB, h3])
    subst h3
    go_enter Tryz.func139, Tryz.ntmps139
    go_wp2_with fail
    go_ret
    exact ⟨by rw [HE.out]; rfl, rfl⟩
  by_cases h4 : S = [46, 46]
  · have HE : Hid (R = false) := hide (by rw [HR.out]; simp [nameB, h4])
    subst h4
    go_enter Tryz.func139, Tryz.ntmps139
    go_wp2_with fail
    go_ret
    exact ⟨by rw [HE.out]; rfl, rfl⟩
  have h3' : (S == [46]) = false := by simpa using h3
  have h4' : (S == [46, 46]) = false := by simpa using h4
  go_enter Tryz.func139, Tryz.ntmps139
  go_wp2_with fail
  go_loop [3] (fun i => ∃ j : Nat, j ≤ S.length ∧ i = .int .i64 (j : Int) ∧ Hid ((S.take j).all okc = true)) (fun i => S.length - (intOf i).toNat)
  case atStart => exact ⟨0, Nat.zero_le _, rfl, hide rfl⟩
  case round =>
        obtain ⟨j, hj, rfl, HN⟩ := hrel
        by_cases hlt : j < S.length
        · have hltI : (j : Int) < (S.length : Int) := by omega
          have hix : ∀ h, (⟨S.toArray⟩ : ByteArray)[j]'h = S[j] := fun _ => rfl
          rcases okc_cases (S[j].toNat : Int) with ⟨a, b⟩ | ⟨a, b, c, d, e, f⟩ | ⟨a, b, c⟩ | ⟨a, b, c, e, f⟩ | ⟨a, b, e⟩ | ⟨a, b, e, f⟩ | ⟨a, b, e, f⟩
          · have HO : Hid (okc S[j] = true) := hide (by simp [okc]; omega)
            go_wp2_with fail
            go_round
            case rel => exact ⟨j + 1, by omega, by go_num, hide (all_snoc hlt HN.out HO.out)⟩
            case measure => simp [intOf]; omega
          · have HO : Hid (okc S[j] = false) := hide (by simp [okc]; omega)
            have e2 : ((S[j].toNat : Int) == 46) = false := by simpa using e
            have f2 : ((S[j].toNat : Int) == 45) = false := by simpa using f
            have HE : Hid (R = false) := hide (by rw [HR.out]; unfold nameB; rw [all_no hlt HO.out, Bool.and_false])
            go_wp2_with fail
            go_ret
            exact ⟨by rw [HE.out]; rfl, rfl⟩
          · have HO : Hid (okc S[j] = true) := hide (by simp [okc]; omega)
            go_wp2_with fail
            go_round
            case rel => exact ⟨j + 1, by omega, by go_num, hide (all_snoc hlt HN.out HO.out)⟩
            case measure => simp [intOf]; omega
          · have HO : Hid (okc S[j] = false) := hide (by simp [okc]; omega)
            have e2 : ((S[j].toNat : Int) == 46) = false := by simpa using e
            have f2 : ((S[j].toNat : Int) == 45) = false := by simpa using f
            have HE : Hid (R = false) := hide (by rw [HR.out]; unfold nameB; rw [all_no hlt HO.out, Bool.and_false])
            go_wp2_with fail
            go_ret
            exact ⟨by rw [HE.out]; rfl, rfl⟩
          · have HO : Hid (okc S[j] = true) := hide (by simp [okc]; omega)
            go_wp2_with fail
            go_round
            case rel => exact ⟨j + 1, by omega, by go_num, hide (all_snoc hlt HN.out HO.out)⟩
            case measure => simp [intOf]; omega
          · have HO : Hid (okc S[j] = true) := hide (by simp [okc]; omega)
            go_wp2_with fail
            go_round
            case rel => exact ⟨j + 1, by omega, by go_num, hide (all_snoc hlt HN.out HO.out)⟩
            case measure => simp [intOf]; omega
          · have HO : Hid (okc S[j] = false) := hide (by simp [okc]; omega)
            have e2 : ((S[j].toNat : Int) == 46) = false := by simpa using e
            have f2 : ((S[j].toNat : Int) == 45) = false := by simpa using f
            have HE : Hid (R = false) := hide (by rw [HR.out]; unfold nameB; rw [all_no hlt HO.out, Bool.and_false])
            go_wp2_with fail
            go_ret
            exact ⟨by rw [HE.out]; rfl, rfl⟩
        · obtain rfl : j = S.length := by omega
          have HE : Hid (R = true) := hide (by
            have h9 := HN.out
            rw [List.take_length] at h9
            rw [HR.out]; unfold nameB
            rw [h9]; simp [h3, h4]; omega)
          clear hlt
          go_wp2_with fail
          go_ret
          exact ⟨by rw [HE.out]; rfl, rfl⟩
end Go.Proofs.YtfnemlbkmhcodaaGreat
namespace Go.Proofs.YtfnemlbkmhcodaaGreat
open Go.RowKit

/-- The j-th broker may be, and is none of those ahead. -/
def okJ (l : List Int) (j : Nat) : Bool := decide (1 ≤ l.getD j 0 ∧ l.getD j 0 ≤ 64) && (List.range j).all fun k => decide (¬ l.getD k 0 = l.getD j 0)
def brokB (l : List Int) : Bool := decide (l.length ≤ 7) && (List.range l.length).all (okJ l)
theorem okJ_no {l : List Int} {j : Nat} (h : ¬ (1 ≤ l.getD j 0 ∧ l.getD j 0 ≤ 64)) : okJ l j = false := by
  unfold okJ; rw [decide_eq_false h, Bool.false_and]
theorem okJ_twice {l : List Int} {j k : Nat} (hk : k < j) (h : l.getD k 0 = l.getD j 0) : okJ l j = false := by
  unfold okJ
  rw [show ((List.range j).all fun k => decide (¬ l.getD k 0 = l.getD j 0)) = false by
    rw [List.all_eq_false]
    exact ⟨k, List.mem_range.2 hk, by rw [decide_eq_false (fun q => q h)]; decide⟩, Bool.and_false]
theorem okJ_yes {l : List Int} {j : Nat} (h : 1 ≤ l.getD j 0 ∧ l.getD j 0 ≤ 64) (hk : ∀ k, k < j → ¬ l.getD k 0 = l.getD j 0) : okJ l j = true := by
  unfold okJ
  rw [decide_eq_true h, Bool.true_and, List.all_eq_true]
  intro k hk'
  exact decide_eq_true (hk k (List.mem_range.1 hk'))
theorem brokB_no {l : List Int} {j : Nat} (hj : j < l.length) (h : okJ l j = false) : brokB l = false := by
  unfold brokB
  rw [show (List.range l.length).all (okJ l) = false by
    rw [List.all_eq_false]
    exact ⟨j, List.mem_range.2 hj, by simp [h]⟩, Bool.and_false]
theorem brokB_yes {l : List Int} (h7 : l.length ≤ 7) (h : ∀ j, j < l.length → okJ l j = true) : brokB l = true := by
  unfold brokB
  rw [decide_eq_true h7, Bool.true_and, List.all_eq_true]
  intro j hj
  exact h j (List.mem_range.1 hj)
/-- Nothing but draws of an order. -/
def Qt (w W : World) : Prop := ∃ n, W = w.drewN n
theorem Qt.refl (w : World) : Qt w w := ⟨0, rfl⟩
theorem Qt.drewN {w W : World} (h : Qt w W) (n : Nat) : Qt w (W.drewN n) := by
  obtain ⟨m, rfl⟩ := h
  exact ⟨m + n, by rw [World.drewN_drewN]⟩
theorem Qt.below {w W : World} (h : Qt w W) : Below w.heap.size w W := by
  obtain ⟨m, rfl⟩ := h
  exact below_drewN (Below.refl _ _) m
/-- A call that only reads, as a step of a region that only reads. -/
theorem Calls.quiet_qt {P : Program} {f : FuncId} {args : Array Value} {w : World} {n : Nat} {v : Value} (h : Calls P f args (w.drewN n) fun e w' => e = .returned v ∧ Qt (w.drewN n) w') : Calls P f args (w.drewN n) fun e w'' => e = .returned v ∧ ∃ m, w'' = w.drewN m :=
  Calls.quiet_of h
set_option maxRecDepth 100000 in
set_option maxHeartbeats 4000000 in
theorem brok_some (b o cap : Nat) (l : List Int) (w : World) (h3 : ∀ i (h : i < l.length), w.cell? ⟨b, o + i, none⟩ = some (ic l[i])) :
    Calls Tryz.prog 66 #[.slice (some ⟨b, o, none⟩) l.length cap] w fun e w' => e = .returned (.bool (brokB l)) ∧ Qt w w' := by
  obtain ⟨R, hR⟩ : ∃ R, R = brokB l := ⟨_, rfl⟩
  rw [← hR]
  have HR := hide hR
  clear hR
  by_cases h7 : 7 < l.length
  · have HE : Hid (R = false) := hide (by rw [HR.out]; unfold brokB; rw [decide_eq_false (by omega), Bool.false_and])
    have h7' : (7 : Int) < (l.length : Int) := by omega
    clear h3
    go_enter Tryz.func66, Tryz.ntmps66
    go_wp2_with fail
    go_ret
    exact ⟨by rw [HE.out]; rfl, Qt.refl _⟩
  have h7' : ¬ (7 : Int) < (l.length : Int) := by omega
  have H3 : Hid (∀ W, Qt w W → ∀ i, i < l.length → W.cell? ⟨b, o + i, none⟩ = some (.int .i64 (l.getD i 0))) := hide (fun W hW i hi => by
    have := h3 i hi
    rw [hW.below.cell (p := ⟨b, o + i, none⟩) (cell_block this), this]
    simp [List.getD, hi, ic])
  clear h3
  go_enter Tryz.func66, Tryz.ntmps66
  go_wp2_with fail
  go_loopw [3] (fun i wr => ∃ j : Nat, j ≤ l.length ∧ i = .int .i64 (j : Int) ∧ Hid (∀ m, m < j → okJ l m = true) ∧ Qt w wr) (fun i _ => l.length - (intOf i).toNat)
  case atStart => exact ⟨0, Nat.zero_le _, rfl, hide (fun m hm => absurd hm (Nat.not_lt_zero _)), Qt.refl _⟩
  case round =>
    obtain ⟨j, hj, rfl, HN, hb⟩ := hrel
    have HB := hide hb
    clear hb
    by_cases hlt : j < l.length
    · have hltI : (j : Int) < (l.length : Int) := by omega
      have cj := H3.out wr HB.out j hlt
      by_cases hlo : l.getD j 0 < 1 ∨ (¬ l.getD j 0 < 1 ∧ 64 < l.getD j 0)
      · have HE : Hid (R = false) := hide (by rw [HR.out]; exact brokB_no hlt (okJ_no (by omega)))
        generalize l.getD j 0 = x at *
        rcases hlo with h1 | ⟨h1, h2⟩
        all_goals
          go_wp2_with fail
          go_ret
          exact ⟨by rw [HE.out]; rfl, HB.out⟩
      · have h1 : ¬ l.getD j 0 < 1 := by omega
        have h2 : ¬ 64 < l.getD j 0 := by omega
        clear hlo
        obtain ⟨x, hx⟩ : ∃ x, x = l.getD j 0 := ⟨_, rfl⟩
        rw [← hx] at cj h1 h2
        have HX := hide hx
        clear hx
        go_wp2_with fail
        obtain ⟨wo, rfl⟩ : ∃ wo : World, wo = wr := ⟨_, rfl⟩
        go_loopw [4] (fun i wr => ∃ k : Nat, k ≤ j ∧ i = .int .i64 (k : Int) ∧ Hid (∀ m, m < k → ¬ l.getD m 0 = x) ∧ Qt w wr) (fun i _ => j - (intOf i).toNat)
        case atStart => exact ⟨0, Nat.zero_le _, rfl, hide (fun m hm => absurd hm (Nat.not_lt_zero _)), HB.out⟩
        case round =>
          obtain ⟨k, hk, rfl, HK, hbk⟩ := hrel
          have HBK := hide hbk
          clear hbk
          by_cases hkj : k < j
          · have hkI : (k : Int) < (j : Int) := by omega
            have hkl : (k : Int) < (l.length : Int) := by omega
            have ck := H3.out wr HBK.out k (by omega)
            have cj2 := H3.out wr HBK.out j hlt
            rw [← HX.out] at cj2
            obtain ⟨y, hy⟩ : ∃ y, y = l.getD k 0 := ⟨_, rfl⟩
            rw [← hy] at ck
            have HY := hide hy
            clear hy cj
            by_cases he : y = x
            · have HE : Hid (R = false) := hide (by rw [HR.out]; exact brokB_no hlt (okJ_twice hkj (by rw [← HY.out, ← HX.out]; exact he)))
              go_wp2_with fail
              go_quiet (fail)
              go_wp2_with fail
              go_ret
              exact ⟨by rw [HE.out]; rfl, HBK.out.drewN _⟩
            · go_wp2_with fail
              go_quiet (fail)
              go_wp2_with fail
              go_roundw
              case rel => exact ⟨k + 1, by omega, by go_num, hide (fun m hm => by by_cases e : m = k; (subst e; rw [← HY.out]; exact he); exact HK.out m (by omega)), HBK.out.drewN _⟩
              case measure => simp [intOf]; omega
          · obtain rfl : k = j := by omega
            have HJ : Hid (okJ l k = true) := hide (okJ_yes (by rw [← HX.out]; omega) (fun m hm => by rw [← HX.out]; exact HK.out m hm))
            clear hkj
            go_wp2_with fail
            go_roundw
            case rel => exact ⟨k + 1, by omega, by go_num, hide (fun m hm => by by_cases e : m = k; (subst e; exact HJ.out); exact HN.out m (by omega)), HBK.out⟩
            case measure => simp [intOf]; omega
    · obtain rfl : j = l.length := by omega
      have HE : Hid (R = true) := hide (by rw [HR.out]; exact brokB_yes (by omega) HN.out)
      clear hlt
      go_wp2_with fail
      go_ret
      exact ⟨by rw [HE.out]; rfl, HB.out⟩
set_option maxHeartbeats 4000000 in
theorem brok_none (ao : Option Addr) (cap : Nat) (w : World) : Calls Tryz.prog 66 #[.slice ao 0 cap] w fun e w' => e = .returned (.bool (brokB [])) ∧ Qt w w' := by
  go_enter Tryz.func66, Tryz.ntmps66
  go_wp2_with fail
  refine wp_loop_rounds 1 ?_
  rw [rounds_succ]
  go_wp2_with fail
  go_ret
  exact ⟨rfl, Qt.refl _⟩
theorem brok_any (v : Value) (l : List Int) (w : World) (hv : Sl ic w v l) : Calls Tryz.prog 66 #[v] w fun e w' => e = .returned (.bool (brokB l)) ∧ Qt w w' := by
  rcases hv with ⟨ao, cap, rfl, rfl⟩ | ⟨b, o, cap, rfl, _, h3⟩
  · exact brok_none ao cap w
  · exact brok_some b o cap l w h3
/-- Brokers that may be, if they are asked for; else none. -/
def rowB (l : List Int) (asks : Bool) : Bool := if asks then brokB l else ((l.length : Int) == 0)
theorem row_any (v : Value) (l : List Int) (asks : Bool) (w : World) (hv : Sl ic w v l) : Calls Tryz.prog 112 #[v, .bool asks] w fun e w' => e = .returned (.bool (rowB l asks)) ∧ Qt w w' := by
  obtain ⟨R, hR⟩ : ∃ R, R = rowB l asks := ⟨_, rfl⟩
  rw [← hR]
  have HR := hide hR
  have HB := hide (brok_any v l w hv)
  obtain ⟨ao, cap, rfl⟩ := hv.form
  clear hR hv
  cases asks with
  | true =>
    have HE : Hid (R = brokB l) := hide HR.out
    go_enter Tryz.func112, Tryz.ntmps112
    go_wp2_with fail
    refine HB.out.mono ?_
    rintro e w1 ⟨rfl, hb⟩
    go_wp2_with fail
    go_ret
    exact ⟨by rw [HE.out]; rfl, hb⟩
  | false =>
    have HE : Hid (R = ((l.length : Int) == 0)) := hide HR.out
    go_enter Tryz.func112, Tryz.ntmps112
    go_wp2_with fail
    go_ret
    exact ⟨by rw [HE.out]; rfl, Qt.refl _⟩
/-- A name, if it is asked for; else nothing. -/
def nameA (S : List UInt8) (asks : Bool) : Bool := if asks then nameB S else S.isEmpty
theorem namea_any (S : List UInt8) (asks : Bool) (w : World) (hS : S.length ≤ 1000) : Calls Tryz.prog 111 #[.string ⟨S.toArray⟩, .bool asks] w fun e w' => e = .returned (.bool (nameA S asks)) ∧ w' = w := by
  obtain ⟨R, hR⟩ : ∃ R, R = nameA S asks := ⟨_, rfl⟩
  rw [← hR]
  have HR := hide hR
  have HB := hide (name_any S w hS)
  have hdot : (⟨S.toArray⟩ : ByteArray).toList = S := by simp
  clear hR
  cases asks with
  | true =>
    have HE : Hid (R = nameB S) := hide HR.out
    go_enter Tryz.func111, Tryz.ntmps111
    go_wp2_with fail
    refine HB.out.mono ?_
    rintro e w1 ⟨rfl, rfl⟩
    go_wp2_with fail
    go_ret
    exact ⟨by rw [HE.out]; rfl, rfl⟩
  | false =>
    have HE : Hid (R = S.isEmpty) := hide HR.out
    go_enter Tryz.func111, Tryz.ntmps111
    go_wp2_with fail
    go_ret
    exact ⟨by rw [HE.out]; rfl, rfl⟩
end Go.Proofs.YtfnemlbkmhcodaaGreat
