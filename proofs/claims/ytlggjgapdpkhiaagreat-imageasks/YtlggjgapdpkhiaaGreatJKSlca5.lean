/-
  SLICES WHOSE ELEMENTS ARE ONE CELL EACH, as lists.
  THE FRAME OF THE LAWS' PROOFS where no package variable is laid.
  THE FRAME where no package variable is laid. No condition.
  NUMBERS AS BYTES, on lists alone (no program in sight).
  WHAT A KIND IS ABOUT, NAMES AND BROKERS (castellanref05.has, Name, Brokers, num, name, row).
-/
import Derived.WalkKit
import Derived.Below
import Derived.Test.YtlggjgapdpkhiaaGreatRows
import Derived.ProofKit
import Derived.OpenShut
import Derived.ShutString
import Derived.ChangeOld
import Derived.Lib.SmallJoins
import Derived.Deep.Slices
import Derived.Deep.DeepHandedRow
import Derived.Test.YtlggjgapdpkhiaaGreatProg
import Derived.WalkSpells
import Derived.BigQuiet
import Derived.Deep.CutRange
namespace Go.Proofs.YtlggjgapdpkhiaaGreat
open Go.RowKit
theorem Hd {p : Prop} (h : p) : Hid p := h
theorem cB {w : World} {v : Value} {a : Addr} (h : w.cell? a = some v) : a.block < w.heap.size := by
 rcases Nat.lt_or_ge a.block w.heap.size with hl | hl
 ·exact hl
 ·simp [World.cell?, Array.getElem?_eq_none hl] at h
def Sl {α : Type} (f : α → Value) (W : World) (v : Value) (l : List α) : Prop :=
 (∃ ao cap, l = [] ∧ v = .slice ao 0 cap) ∨
 (∃ b o cap, v = .slice (some ⟨b, o, none⟩) l.length cap ∧ l.length ≤ cap ∧ ∀ i (h : i < l.length), W.cell? ⟨b, o + i, none⟩ = some (f l[i]))
theorem Sl.below {α : Type} {f : α → Value} {w w' : World} {v : Value} {l : List α} (h : Sl f w v l) (hb : Below w.heap.size w w') : Sl f w' v l := by
 rcases h with h | ⟨b, o, cap, h1, h2, h3⟩
 ·exact .inl h
 ·refine .inr ⟨b, o, cap, h1, h2, fun i hi => ?_⟩
  rw [hb.cell (p := ⟨b, o + i, none⟩) (cB (h3 i hi))]
  exact h3 i hi
theorem Sl.form {α : Type} {f : α → Value} {w : World} {v : Value} {l : List α} (h : Sl f w v l) : ∃ ao cap, v = .slice ao l.length cap := by
 rcases h with ⟨ao, cap, rfl, rfl⟩ | ⟨b, o, cap, rfl, h2, h3⟩ <;> exact ⟨_, _, rfl⟩
theorem Sl.nil {α : Type} (f : α → Value) (w : World) (ao : Option Addr) (cap : Nat) : Sl f w (.slice ao 0 cap) [] := .inl ⟨_, _, rfl, rfl⟩
theorem Sl.one {α : Type} {f : α → Value} (hf : ∀ x, (f x).oneCell' = true) (l : List α) : ∀ u ∈ l.map f, u.oneCell' = true := by
 intro u hu
 obtain ⟨x, _, rfl⟩ := List.mem_map.1 hu
 exact hf x
theorem owns_below {w w' : World} {base n size : Nat} {e : TypeId} {v : Value} {xs : List Value} (h : w.ownsRow base e size v n xs) (hb : Below w.heap.size w w') : w'.ownsRow base e size v n xs := by
 obtain ⟨h1, h2⟩ := h
 refine ⟨h1, ?_⟩
 rcases h2 with h2 | ⟨g, cap, cur, a1, a2, a3, a4⟩
 ·exact .inl h2
 ·refine .inr ⟨g, cap, cur, a1, a2, ?_, a4⟩
  rw [hb.block g (Array.getElem?_eq_some_iff.1 a3).1]
  exact a3
theorem owns_mono {w : World} {base base' n size : Nat} {e : TypeId} {v : Value} {xs : List Value} (h : w.ownsRow base e size v n xs) (hb : base' ≤ base) : w.ownsRow base' e size v n xs := by
 obtain ⟨h1, h2⟩ := h
 refine ⟨h1, ?_⟩
 rcases h2 with h2 | ⟨g, cap, cur, a1, a2, a3⟩
 ·exact .inl h2
 ·exact .inr ⟨g, cap, cur, a1, Nat.le_trans hb a2, a3⟩
theorem bt {a b c : World} (h1 : Below a.heap.size a b) (h2 : Below b.heap.size b c) : Below a.heap.size a c := h1.trans (h2.mono h1.size)
theorem bcell {W w1 : World} (hb : Below W.heap.size W w1) : (∀ b o, b < W.heap.size → w1.cell? ⟨b, o, none⟩ = W.cell? ⟨b, o, none⟩) ∧ (∀ b o, b < W.heap.size → w1.frozen? ⟨b, o, none⟩ = W.frozen? ⟨b, o, none⟩) :=
 ⟨fun b o h => hb.cell (p := ⟨b, o, none⟩) h, fun b o h => hb.frozen (p := ⟨b, o, none⟩) h⟩
end Go.Proofs.YtlggjgapdpkhiaaGreat
namespace Go.Proofs.YtlggjgapdpkhiaaGreat
open Go.ChangeShapes Go.WideShapes Go.ChangeAt Go.RowKit Go.Joins
set_option maxRecDepth 100000
theorem own : ownKnob Tryz.prog.godebug = none := by kernel_rfl
theorem laidOut : laidOutB Tryz.prog = true := by kernel_rfl
section
variable {H : Type} {enc : TypeId × Value → H}
end
end Go.Proofs.YtlggjgapdpkhiaaGreat

namespace Go.Proofs.YtlggjgapdpkhiaaGreat
open Go.RowKit
def ic (x : Int) : Value := .int .i64 x
def bv (l : List Int) : List Value := l.map fun x => Value.int .u8 x
end Go.Proofs.YtlggjgapdpkhiaaGreat
namespace Go.Proofs.YtlggjgapdpkhiaaGreat
open Go.RowKit
set_option maxRecDepth 100000
set_option maxHeartbeats 4000000
def letters (k : Int) : List UInt8 :=
 if k = 2 then [98, 101, 114] else if k = 3 ∨ k = 4 ∨ k = 5 ∨ k = 6 then [98, 101] else if k = 7 then [116, 110] else if k = 8 then [116, 112, 108, 105, 109] else if k = 9 then [116, 101, 112, 108, 105, 109, 120] else if k = 10 then [116, 107, 118, 102] else if k = 11 then [116] else if k = 12 then [97] else []
def hasL (k : Int) (c : Int) : Bool := (letters k).any fun y => decide ((y.toNat : Int) = c)
theorem letters_none {k : Int} (h : ¬ (2 ≤ k ∧ k ≤ 12)) : letters k = [] := by
 unfold letters
 rw [if_neg (by omega), if_neg (by omega), if_neg (by omega), if_neg (by omega), if_neg (by omega), if_neg (by omega), if_neg (by omega), if_neg (by omega)]
theorem let_no {S : List UInt8} {c : Int} (h : ∀ x ∈ S, ¬ ((x.toNat : Int) = c)) : (S.any fun y => decide ((y.toNat : Int) = c)) = false := by
 rw [List.any_eq_false]
 intro x hx
 simp [h x hx]
theorem let_yes {S : List UInt8} {c : Int} {j : Nat} (hj : j < S.length) (h : (S[j].toNat : Int) = c) : (S.any fun y => decide ((y.toNat : Int) = c)) = true := by
 rw [List.any_eq_true]
 exact ⟨S[j], List.getElem_mem hj, by simp [h]⟩
theorem let_snoc {S : List UInt8} {c : Int} {j : Nat} (hj : j < S.length) (h : ∀ x ∈ S.take j, ¬ ((x.toNat : Int) = c)) (hn : ¬ ((S[j].toNat : Int) = c)) : ∀ x ∈ S.take (j + 1), ¬ ((x.toNat : Int) = c) := by
 intro x hx
 rw [List.take_succ_eq_append_getElem hj] at hx
 rcases List.mem_append.1 hx with q | q
 ·exact h x q
 ·simp at q; rw [q]; exact hn
theorem has_any (k : Int) (c : Int) (w : World) : Calls Tryz.prog 103 #[.int .i64 k, .int .u8 c] w fun e w' => e = .returned (.bool (hasL k c)) ∧ w' = w := by
 by_cases hk : 2 ≤ k ∧ k ≤ 12
 ·have hk' : k = 2 ∨ k = 3 ∨ k = 4 ∨ k = 5 ∨ k = 6 ∨ k = 7 ∨ k = 8 ∨ k = 9 ∨ k = 10 ∨ k = 11 ∨ k = 12 := by omega
  clear hk
  rcases hk' with rfl | rfl | rfl | rfl | rfl | rfl | rfl | rfl | rfl | rfl | rfl
  all_goals
   generalize hR : hasL _ c = R
   unfold hasL at hR
   try rw [show letters 4 = letters 3 from rfl] at hR
   try rw [show letters 5 = letters 3 from rfl] at hR
   try rw [show letters 6 = letters 3 from rfl] at hR
   have HR := Hd hR
   clear hR
   go_enter Tryz.func103, Tryz.ntmps103
   go_wp2_with fail
   first | (rw [show (⟨#[98, 101, 114]⟩ : ByteArray) = ⟨(letters 2).toArray⟩ from rfl]) | (rw [show (⟨#[98, 101]⟩ : ByteArray) = ⟨(letters 3).toArray⟩ from rfl]) | (rw [show (⟨#[98, 101]⟩ : ByteArray) = ⟨(letters 4).toArray⟩ from rfl]) | (rw [show (⟨#[98, 101]⟩ : ByteArray) = ⟨(letters 5).toArray⟩ from rfl]) | (rw [show (⟨#[98, 101]⟩ : ByteArray) = ⟨(letters 6).toArray⟩ from rfl]) | (rw [show (⟨#[116, 110]⟩ : ByteArray) = ⟨(letters 7).toArray⟩ from rfl]) | (rw [show (⟨#[116, 112, 108, 105, 109]⟩ : ByteArray) = ⟨(letters 8).toArray⟩ from rfl]) | (rw [show (⟨#[116, 101, 112, 108, 105, 109, 120]⟩ : ByteArray) = ⟨(letters 9).toArray⟩ from rfl]) | (rw [show (⟨#[116, 107, 118, 102]⟩ : ByteArray) = ⟨(letters 10).toArray⟩ from rfl]) | (rw [show (⟨#[116]⟩ : ByteArray) = ⟨(letters 11).toArray⟩ from rfl]) | (rw [show (⟨#[97]⟩ : ByteArray) = ⟨(letters 12).toArray⟩ from rfl])
   generalize hS : letters _ = S
   have HS := Hd hS
   have hSl : S.length ≤ 7 := by rw [← hS]; decide
   have hidx : ∀ (j : Nat) (hj : j < S.length) h, (⟨S.toArray⟩ : ByteArray)[j]'h = S[j]'hj := fun _ _ _ => rfl
   clear hS
   go_loop [6] (fun i => ∃ j : Nat, j ≤ S.length ∧ i = .int .i64 (j : Int) ∧ Hid (∀ x ∈ S.take j, ¬ ((x.toNat : Int) = c))) (fun i => S.length - (intOf i).toNat)
   case atStart => exact ⟨0, Nat.zero_le _, rfl, Hd (fun x hx => by simp at hx)⟩
   case round =>
    obtain ⟨j, hj, rfl, HN⟩ := hrel
    by_cases hlt : j < S.length
    ·have hltI : (j : Int) < (S.length : Int) := by omega
     have hix : ∀ h, (⟨S.toArray⟩ : ByteArray)[j]'h = S[j] := hidx j hlt
     have HSN := Hd (fun hn => let_snoc hlt HN.out hn)
     have HSY := Hd (fun he => let_yes (c := c) hlt he)
     clear hidx
     by_cases he : (S[j].toNat : Int) = c
     ·go_wp2_with fail
      go_ret
      exact ⟨by rw [show R = true by rw [← HR.out, HS.out, HSY.out he]]; rfl, rfl⟩
     ·go_wp2_with fail
      go_round
      case rel => exact ⟨j + 1, by omega, by go_num, Hd (HSN.out he)⟩
      case measure => simp [intOf]; omega
    ·obtain rfl : j = S.length := by omega
     clear hlt
     go_wp2_with fail
     go_ret
     exact ⟨by rw [show R = false by rw [← HR.out, HS.out, let_no (by have := HN.out; rw [List.take_length] at this; exact this)]]; rfl, rfl⟩
 ·generalize hR : hasL k c = R
  have HR := Hd (show R = false by rw [← hR]; unfold hasL; rw [letters_none hk]; simp)
  clear hR
  have n2 : ¬ k = 2 := by omega
  have n3 : ¬ k = 3 := by omega
  have n4 : ¬ k = 4 := by omega
  have n5 : ¬ k = 5 := by omega
  have n6 : ¬ k = 6 := by omega
  have n7 : ¬ k = 7 := by omega
  have n8 : ¬ k = 8 := by omega
  have n9 : ¬ k = 9 := by omega
  have n10 : ¬ k = 10 := by omega
  have n11 : ¬ k = 11 := by omega
  have n12 : ¬ k = 12 := by omega
  clear hk
  go_enter Tryz.func103, Tryz.ntmps103
  go_wp2_with fail
  refine wp_loop_rounds 1 ?_
  rw [rounds_succ]
  go_wp2_with fail
  go_ret
  exact ⟨by rw [HR.out]; rfl, rfl⟩
def numB (n : Int) (asks : Bool) (lo hi : Int) : Bool := if asks then decide (lo ≤ n ∧ n ≤ hi) else decide (n = 0)
theorem num_any (n : Int) (asks : Bool) (lo hi : Int) (w : World) : Calls Tryz.prog 132 #[.int .i64 n, .bool asks, .int .i64 lo, .int .i64 hi] w fun e w' => e = .returned (.bool (numB n asks lo hi)) ∧ w' = w := by
 obtain ⟨R, hR⟩ : ∃ R, R = numB n asks lo hi := ⟨_, rfl⟩
 rw [← hR]
 have HR := Hd hR
 clear hR
 cases asks with
 | true =>
  by_cases h1 : lo ≤ n
  ·by_cases h2 : n ≤ hi
   ·have HE : Hid (R = true) := Hd (by rw [HR.out]; simp [numB, h1, h2])
    go_enter Tryz.func132, Tryz.ntmps132
    go_wp2
    go_ret
    exact ⟨by rw [HE.out]; rfl, rfl⟩
   ·have HE : Hid (R = false) := Hd (by rw [HR.out]; simp [numB]; omega)
    go_enter Tryz.func132, Tryz.ntmps132
    go_wp2
    go_ret
    exact ⟨by rw [HE.out]; rfl, rfl⟩
  ·have HE : Hid (R = false) := Hd (by rw [HR.out]; simp [numB]; omega)
   go_enter Tryz.func132, Tryz.ntmps132
   go_wp2
   go_ret
   exact ⟨by rw [HE.out]; rfl, rfl⟩
 | false =>
  have HE : Hid (R = (n == 0)) := Hd (by rw [HR.out]; simp only [numB]; rfl)
  go_enter Tryz.func132, Tryz.ntmps132
  go_wp2
  go_ret
  exact ⟨by rw [HE.out]; rfl, rfl⟩
def okc (x : UInt8) : Bool := decide (97 ≤ (x.toNat : Int) ∧ (x.toNat : Int) ≤ 122) || decide (48 ≤ (x.toNat : Int) ∧ (x.toNat : Int) ≤ 57) || decide ((x.toNat : Int) = 46) || decide ((x.toNat : Int) = 45)
def nameB (S : List UInt8) : Bool := decide (1 ≤ S.length ∧ S.length ≤ 40) && !decide (S = [46]) && !decide (S = [46, 46]) && S.all okc
theorem okc_cases (x : Int) : (97 ≤ x ∧ x ≤ 122) ∨ (97 ≤ x ∧ ¬ x ≤ 122 ∧ 48 ≤ x ∧ ¬ x ≤ 57 ∧ ¬ x = 46 ∧ ¬ x = 45) ∨ (¬ 97 ≤ x ∧ 48 ≤ x ∧ x ≤ 57) ∨ (¬ 97 ≤ x ∧ 48 ≤ x ∧ ¬ x ≤ 57 ∧ ¬ x = 46 ∧ ¬ x = 45) ∨ (¬ 97 ≤ x ∧ ¬ 48 ≤ x ∧ x = 46) ∨ (¬ 97 ≤ x ∧ ¬ 48 ≤ x ∧ ¬ x = 46 ∧ x = 45) ∨ (¬ 97 ≤ x ∧ ¬ 48 ≤ x ∧ ¬ x = 46 ∧ ¬ x = 45) := by omega
theorem all_snoc {S : List UInt8} {j : Nat} (hj : j < S.length) (h : (S.take j).all okc = true) (hn : okc S[j] = true) : (S.take (j + 1)).all okc = true := by
 rw [List.take_succ_eq_append_getElem hj, List.all_append, h]
 simp [hn]
theorem all_no {S : List UInt8} {j : Nat} (hj : j < S.length) (hn : okc S[j] = false) : S.all okc = false := by
 rw [List.all_eq_false]
 exact ⟨S[j], List.getElem_mem hj, by simp [hn]⟩
theorem name_any (S : List UInt8) (w : World) (hS : S.length ≤ 1000) : Calls Tryz.prog 133 #[.string ⟨S.toArray⟩] w fun e w' => e = .returned (.bool (nameB S)) ∧ w' = w := by
 have hdot : (⟨S.toArray⟩ : ByteArray).toList = S := by simp
 obtain ⟨R, hR⟩ : ∃ R, R = nameB S := ⟨_, rfl⟩
 rw [← hR]
 have HR := Hd hR
 clear hR
 by_cases h1 : S.length < 1
 ·have HE : Hid (R = false) := Hd (by rw [HR.out]; simp [nameB]; omega)
  have h1' : (S.length : Int) < 1 := by omega
  go_enter Tryz.func133, Tryz.ntmps133
  go_wp2_with fail
  go_ret
  exact ⟨by rw [HE.out]; rfl, rfl⟩
 have h1' : ¬ (S.length : Int) < 1 := by omega
 by_cases h2 : 40 < S.length
 ·have HE : Hid (R = false) := Hd (by rw [HR.out]; simp [nameB]; omega)
  have h2' : (40 : Int) < (S.length : Int) := by omega
  go_enter Tryz.func133, Tryz.ntmps133
  go_wp2_with fail
  go_ret
  exact ⟨by rw [HE.out]; rfl, rfl⟩
 have h2' : ¬ (40 : Int) < (S.length : Int) := by omega
 by_cases h3 : S = [46]
 ·have HE : Hid (R = false) := Hd (by rw [HR.out]; simp [nameB, h3])
  subst h3
  go_enter Tryz.func133, Tryz.ntmps133
  go_wp2_with fail
  go_ret
  exact ⟨by rw [HE.out]; rfl, rfl⟩
 by_cases h4 : S = [46, 46]
 ·have HE : Hid (R = false) := Hd (by rw [HR.out]; simp [nameB, h4])
  subst h4
  go_enter Tryz.func133, Tryz.ntmps133
  go_wp2_with fail
  go_ret
  exact ⟨by rw [HE.out]; rfl, rfl⟩
 have h3' : (S == [46]) = false := by simpa using h3
 have h4' : (S == [46, 46]) = false := by simpa using h4
 go_enter Tryz.func133, Tryz.ntmps133
 go_wp2_with fail
 go_loop [3] (fun i => ∃ j : Nat, j ≤ S.length ∧ i = .int .i64 (j : Int) ∧ Hid ((S.take j).all okc = true)) (fun i => S.length - (intOf i).toNat)
 case atStart => exact ⟨0, Nat.zero_le _, rfl, Hd rfl⟩
 case round =>
    obtain ⟨j, hj, rfl, HN⟩ := hrel
    by_cases hlt : j < S.length
    ·have hltI : (j : Int) < (S.length : Int) := by omega
     have hix : ∀ h, (⟨S.toArray⟩ : ByteArray)[j]'h = S[j] := fun _ => rfl
     rcases okc_cases (S[j].toNat : Int) with ⟨a, b⟩ | ⟨a, b, c, d, e, f⟩ | ⟨a, b, c⟩ | ⟨a, b, c, e, f⟩ | ⟨a, b, e⟩ | ⟨a, b, e, f⟩ | ⟨a, b, e, f⟩
     ·have HO : Hid (okc S[j] = true) := Hd (by simp [okc]; omega)
      go_wp2_with fail
      go_round
      case rel => exact ⟨j + 1, by omega, by go_num, Hd (all_snoc hlt HN.out HO.out)⟩
      case measure => simp [intOf]; omega
     ·have HO : Hid (okc S[j] = false) := Hd (by simp [okc]; omega)
      have e2 : ((S[j].toNat : Int) == 46) = false := by simpa using e
      have f2 : ((S[j].toNat : Int) == 45) = false := by simpa using f
      have HE : Hid (R = false) := Hd (by rw [HR.out]; unfold nameB; rw [all_no hlt HO.out, Bool.and_false])
      go_wp2_with fail
      go_ret
      exact ⟨by rw [HE.out]; rfl, rfl⟩
     ·have HO : Hid (okc S[j] = true) := Hd (by simp [okc]; omega)
      go_wp2_with fail
      go_round
      case rel => exact ⟨j + 1, by omega, by go_num, Hd (all_snoc hlt HN.out HO.out)⟩
      case measure => simp [intOf]; omega
     ·have HO : Hid (okc S[j] = false) := Hd (by simp [okc]; omega)
      have e2 : ((S[j].toNat : Int) == 46) = false := by simpa using e
      have f2 : ((S[j].toNat : Int) == 45) = false := by simpa using f
      have HE : Hid (R = false) := Hd (by rw [HR.out]; unfold nameB; rw [all_no hlt HO.out, Bool.and_false])
      go_wp2_with fail
      go_ret
      exact ⟨by rw [HE.out]; rfl, rfl⟩
     ·have HO : Hid (okc S[j] = true) := Hd (by simp [okc]; omega)
      go_wp2_with fail
      go_round
      case rel => exact ⟨j + 1, by omega, by go_num, Hd (all_snoc hlt HN.out HO.out)⟩
      case measure => simp [intOf]; omega
     ·have HO : Hid (okc S[j] = true) := Hd (by simp [okc]; omega)
      go_wp2_with fail
      go_round
      case rel => exact ⟨j + 1, by omega, by go_num, Hd (all_snoc hlt HN.out HO.out)⟩
      case measure => simp [intOf]; omega
     ·have HO : Hid (okc S[j] = false) := Hd (by simp [okc]; omega)
      have e2 : ((S[j].toNat : Int) == 46) = false := by simpa using e
      have f2 : ((S[j].toNat : Int) == 45) = false := by simpa using f
      have HE : Hid (R = false) := Hd (by rw [HR.out]; unfold nameB; rw [all_no hlt HO.out, Bool.and_false])
      go_wp2_with fail
      go_ret
      exact ⟨by rw [HE.out]; rfl, rfl⟩
    ·obtain rfl : j = S.length := by omega
     have HE : Hid (R = true) := Hd (by
      have h9 := HN.out
      rw [List.take_length] at h9
      rw [HR.out]; unfold nameB
      rw [h9]; simp [h3, h4]; omega)
     clear hlt
     go_wp2_with fail
     go_ret
     exact ⟨by rw [HE.out]; rfl, rfl⟩
end Go.Proofs.YtlggjgapdpkhiaaGreat
