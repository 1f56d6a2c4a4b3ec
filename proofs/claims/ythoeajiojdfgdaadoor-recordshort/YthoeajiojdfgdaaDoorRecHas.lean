/-
  WHAT A KIND IS ABOUT, NAMES AND BROKERS (castellanref05.has, Name, Brokers, num, name, row): as functions of numbers, letters and lists. Conditions: no more than a thousand letters, a thousand brokers.
-/
import Derived.Test.YthoeajiojdfgdaaDoorProg
import Derived.Test.YthoeajiojdfgdaaDoorMA
import Derived.WalkKit
import Derived.WalkSpells
import Derived.Below
import Derived.BigQuiet
import Derived.Deep.CutRange
namespace Go.Proofs.YthoeajiojdfgdaaDoor
open Go.RowKit

/-- What a kind is about, by letters. -/
def letters (k : Int) : List UInt8 :=
  if k = 2 then [98, 101, 114] else if k = 3 ∨ k = 4 ∨ k = 5 ∨ k = 6 then [98, 101] else if k = 7 then [116, 110] else if k = 8 then [116, 112, 108, 105, 109] else if k = 9 then [116, 101, 112, 108, 105, 109, 120] else if k = 10 then [116, 107, 118, 102] else if k = 11 then [116] else if k = 12 then [97] else []
def hasL (k : Int) (c : Int) : Bool := (letters k).any fun y => decide ((y.toNat : Int) = c)
theorem letters_none {k : Int} (h : ¬ (2 ≤ k ∧ k ≤ 12)) : letters k = [] := by
  unfold letters
  rw [if_neg (by omega), if_neg (by omega), if_neg (by omega), if_neg (by omega), if_neg (by omega), if_neg (by omega), if_neg (by omega), if_neg (by omega)]
theorem let_no {S : List UInt8} {c : Int} (h : ∀ x ∈ S, ¬ ((x.toNat : Int) = c)) : (S.any fun y => decide ((y.toNat : Int) = c)) = false := by
  rw [List.any_eq_false]
  intro x hx
  simp [h x hx]
theorem let_yes {S : List UInt8} {c : Int} {j : Nat} (hj : j < S.length) (h : (S[j].toNat : Int) = c) : (S.any fun y => decide ((y.toNat : Int) = c)) = true := by
  rw [List.any_eq_true]
  exact ⟨S[j], List.getElem_mem hj, by simp [h]⟩
theorem let_snoc {S : List UInt8} {c : Int} {j : Nat} (hj : j < S.length) (h : ∀ x ∈ S.take j, ¬ ((x.toNat : Int) = c)) (hn : ¬ ((S[j].toNat : Int) = c)) : ∀ x ∈ S.take (j + 1), ¬ ((x.toNat : Int) = c) := by
  intro x hx
  rw [List.take_succ_eq_append_getElem hj] at hx
  rcases List.mem_append.1 hx with q | q
  · exact h x q
  · simp at q; rw [q]; exact hn
/-- A number in its range, if it is asked for; else 0. -/
def numB (n : Int) (asks : Bool) (lo hi : Int) : Bool := if asks then decide (lo ≤ n ∧ n ≤ hi) else decide (n = 0)
/-- A letter that may be in a name. -/
def okc (x : UInt8) : Bool := decide (97 ≤ (x.toNat : Int) ∧ (x.toNat : Int) ≤ 122) || decide (48 ≤ (x.toNat : Int) ∧ (x.toNat : Int) ≤ 57) || decide ((x.toNat : Int) = 46) || decide ((x.toNat : Int) = 45)
def nameB (S : List UInt8) : Bool := decide (1 ≤ S.length ∧ S.length ≤ 40) && !decide (S = [46]) && !decide (S = [46, 46]) && S.all okc
theorem okc_cases (x : Int) : (97 ≤ x ∧ x ≤ 122) ∨ (97 ≤ x ∧ ¬ x ≤ 122 ∧ 48 ≤ x ∧ ¬ x ≤ 57 ∧ ¬ x = 46 ∧ ¬ x = 45) ∨ (¬ 97 ≤ x ∧ 48 ≤ x ∧ x ≤ 57) ∨ (¬ 97 ≤ x ∧ 48 ≤ x ∧ ¬ x ≤ 57 ∧ ¬ x = 46 ∧ ¬ x = 45) ∨ (¬ 97 ≤ x ∧ ¬ 48 ≤ x ∧ x = 46) ∨ (¬ 97 ≤ x ∧ ¬ 48 ≤ x ∧ ¬ x = 46 ∧ x = 45) ∨ (¬ 97 ≤ x ∧ ¬ 48 ≤ x ∧ ¬ x = 46 ∧ ¬ x = 45) := by omega
theorem all_snoc {S : List UInt8} {j : Nat} (hj : j < S.length) (h : (S.take j).all okc = true) (hn : okc S[j] = true) : (S.take (j + 1)).all okc = true := by
  rw [List.take_succ_eq_append_getElem hj, List.all_append, h]
  simp [hn]
theorem all_no {S : List UInt8} {j : Nat} (hj : j < S.length) (hn : okc S[j] = false) : S.all okc = false := by
  rw [List.all_eq_false]
  exact ⟨S[j], List.getElem_mem hj, by simp [hn]⟩
end Go.Proofs.YthoeajiojdfgdaaDoor
