/-
  RECORDS, on lists alone (no program in sight): a record, what is wrong with one, and what one keeps to that may be.
  WHAT A DRAWN REGION WITH CALLS KEEPS, FOR ANY FACTS ON CELLS OF OLD MEMORY: no program in it. Conditions: a call writes only new memory.
  WHAT A KIND IS ABOUT, BIT BY BIT, NAMES AND BROKERS (record.subjects, has, within, Name, Brokers, named, listed, leastTopic, mostValue): as functions of numbers, letters and lists. Conditions: no more than a thousand letters; the brokers' cells hold them.
  BROKERS (slices.Index, slices.Contains, record.Brokers, named, listed): as functions of lists. Conditions: no more than a thousand letters; the brokers' cells hold them.
-/
import Derived.Test.YtlggjgapdpkhiaaGreatDoorJKRecWrg
import Derived.Test.YtlggjgapdpkhiaaGreatDoorJKSlca4
import Derived.Laws.IdiomStrings
namespace Go.Proofs.YtlggjgapdpkhiaaGreatDoor
open Go.RowKit
structure Rc where
 k : Int
 br : Int
 ep : Int
 tp : Int
 pa : Int
 le : Int
 cl : Int
 se : Int
 co : Int
 fl : Bool
 nm : List UInt8
 ky : List UInt8
 va : List UInt8
 rk : List UInt8
 ids : List Int
 isr : List Int
 ad : List Int
 dr : List Int
def Rc.zero : Rc := ⟨0, 0, 0, 0, 0, 0, 0, 0, 0, false, [], [], [], [], [], [], [], []⟩
def chk (r : Rc) : ByteArray × Int × Int := checkR r.k r.br r.ep r.tp r.pa r.le r.cl r.se r.co r.fl r.nm r.ky r.va r.rk r.ids r.isr r.ad r.dr
theorem numB_asks {n lo hi : Int} {h : Bool} (e : numB n h lo hi = true) : if h then lo ≤ n ∧ n ≤ hi else n = 0 := by
 cases h with
 | true => simpa [numB] using e
 | false => simpa [numB] using e
theorem brokB_all {l : List Int} (h : brokB l = true) : l.length ≤ 7 ∧ ∀ x ∈ l, 1 ≤ x ∧ x ≤ 64 := by
 unfold brokB at h
 simp only [Bool.and_eq_true, decide_eq_true_eq, List.all_eq_true, List.mem_range] at h
 refine ⟨h.1, fun x hx => ?_⟩
 obtain ⟨i, hi, rfl⟩ := List.getElem_of_mem hx
 have := h.2 i hi
 unfold okJ at this
 simp only [Bool.and_eq_true, decide_eq_true_eq] at this
 have e : l.getD i 0 = l[i] := by simp [List.getD, hi]
 rw [e] at this
 exact this.1
theorem rowB_asks {l : List Int} {h : Bool} (e : rowB l h = true) : if h then l.length ≤ 7 ∧ ∀ x ∈ l, 0 ≤ x ∧ x ≤ 64 else l = [] := by
 cases h with
 | true =>
  have := brokB_all (show brokB l = true from e)
  exact ⟨this.1, fun x hx => by have := this.2 x hx; omega⟩
 | false =>
  have e' : ((l.length : Int) == 0) = true := e
  simp only [beq_iff_eq] at e'
  exact List.length_eq_zero_iff.1 (by omega)
structure RcIs (r : Rc) : Prop where
 k1 : 1 ≤ r.k
 k2 : r.k ≤ 12
 br : numB r.br (hasL r.k 98) 1 64 = true
 ep : numB r.ep (hasL r.k 101) 0 1073741824 = true
 tp : numB r.tp (hasL r.k 116) (if r.k = 10 then 0 else 1) 1073741824 = true
 pa : numB r.pa (hasL r.k 112) 0 255 = true
 le : numB r.le (hasL r.k 108) 0 64 = true
 cl : numB r.cl (hasL r.k 97) 1 1073741824 = true
 se : numB r.se (hasL r.k 97) 1 1073741824 = true
 co : numB r.co (hasL r.k 97) 0 21 = true
 fl : r.fl = true → hasL r.k 102 = true
 nm : nameA r.nm (hasL r.k 110) = true
 ky : nameA r.ky (hasL r.k 107) = true
 rk : nameA r.rk (hasL r.k 114) = true
 va : r.va.length ≤ 256
 vb : r.va.isEmpty = false → r.fl = false ∧ hasL r.k 118 = true
 ids : rowB r.ids (hasL r.k 105) = true
 isr : rowB r.isr (hasL r.k 109) = true
 ad : rowB r.ad (hasL r.k 120) = true
 dr : rowB r.dr (hasL r.k 120) = true
theorem nums_ok {k br ep tp pa le cl se co : Int} (h : (numsR k br ep tp pa le cl se co).2.2 = 0) : numB br (hasL k 98) 1 64 = true ∧ numB ep (hasL k 101) 0 1073741824 = true ∧ numB tp (hasL k 116) (if k = 10 then 0 else 1) 1073741824 = true ∧ numB pa (hasL k 112) 0 255 = true ∧ numB le (hasL k 108) 0 64 = true ∧ numB cl (hasL k 97) 1 1073741824 = true ∧ numB se (hasL k 97) 1 1073741824 = true ∧ numB co (hasL k 97) 0 21 = true := by
 unfold numsR at h
 generalize (if k = 10 then (0 : Int) else 1) = lo at *
 split at h
 ·simp at h
 split at h
 ·simp at h
 split at h
 ·simp at h
 split at h
 ·simp at h
 split at h
 ·simp at h
 split at h
 ·simp at h
 rename_i h1 h2 h3 h4 h5 h6
 simp only [Bool.not_eq_false, not_or] at h1 h2 h3 h4 h5 h6
 exact ⟨h1, h2, h3, h4, h5, h6⟩
theorem chk_is {r : Rc} (h : (chk r).2.2 = 0) : RcIs r := by
 unfold chk checkR at h
 split at h
 ·simp at h
 split at h
 ·rename_i q; exact absurd h q
 split at h
 ·simp at h
 split at h
 ·simp at h
 split at h
 ·simp at h
 split at h
 ·simp at h
 rename_i h1 h2 h3 h4 h5 h6
 obtain ⟨n1, n2, n3, n4, n5, n6, n7, n8⟩ := nums_ok (Decidable.not_not.1 h2)
 simp only [Bool.not_eq_false, not_or, not_and] at h3 h4 h5 h6
 exact ⟨by omega, by omega, n1, n2, n3, n4, n5, n6, n7, n8, h3, h4.1, h4.2.1, h4.2.2, by omega, fun q => by
  have := h5.2 q
  exact ⟨by simpa using this.1, by simpa using this.2⟩, h6.1, h6.2.1, h6.2.2.1, h6.2.2.2⟩
end Go.Proofs.YtlggjgapdpkhiaaGreatDoor
namespace Go.Proofs.YtlggjgapdpkhiaaGreatDoor
open Go.RowKit
def Sld {α : Type} (lo hi : Nat) (f : α → Value) (W : World) (v : Value) (l : List α) : Prop :=
 (∃ ao cap, l = [] ∧ v = .slice ao 0 cap) ∨
 (∃ b o cap, v = .slice (some ⟨b, o, none⟩) l.length cap ∧ l.length ≤ cap ∧ (b < lo ∨ hi ≤ b) ∧ ∀ i (h : i < l.length), W.cell? ⟨b, o + i, none⟩ = some (f l[i]))
theorem Sld.nil {α : Type} (lo hi : Nat) (f : α → Value) (w : World) (ao : Option Addr) (cap : Nat) : Sld lo hi f w (.slice ao 0 cap) [] := .inl ⟨_, _, rfl, rfl⟩
theorem Sld.sl {α : Type} {lo hi : Nat} {f : α → Value} {W : World} {v : Value} {l : List α} (h : Sld lo hi f W v l) : Sl f W v l := by
 rcases h with h | ⟨b, o, cap, h1, h2, _, h3⟩
 ·exact .inl h
 ·exact .inr ⟨b, o, cap, h1, h2, h3⟩
theorem Sld.below {α : Type} {lo hi : Nat} {f : α → Value} {W W' : World} {v : Value} {l : List α} (h : Sld lo hi f W v l) (hb : Below W.heap.size W W') : Sld lo hi f W' v l := by
 rcases h with h | ⟨b, o, cap, h1, h2, hp, h3⟩
 ·exact .inl h
 ·exact .inr ⟨b, o, cap, h1, h2, hp, fun i hi => (hb.cell (p := ⟨b, o + i, none⟩) (cell_block (h3 i hi))).trans (h3 i hi)⟩
theorem Sld.set {α : Type} {lo hi : Nat} {f : α → Value} {W : World} {v : Value} {l : List α} (h : Sld lo hi f W v l) {q : Nat} (i : Nat) (x : Value) (h1 : lo ≤ q) (h2 : q < hi) : Sld lo hi f (W.setCell ⟨q, i, none⟩ x) v l := by
 rcases h with h | ⟨b, o, cap, e1, e2, hp, h3⟩
 ·exact .inl h
 ·refine .inr ⟨b, o, cap, e1, e2, hp, fun j hj => ?_⟩
  rw [World.cell?_setCell_other _ _ _ _ (fun e => by have := congrArg Addr.block e; simp at this; omega)]
  exact h3 j hj
theorem Sld.more {α : Type} {lo hi hi' : Nat} {f : α → Value} {W : World} {v : Value} {l : List α} (h : Sld lo hi f W v l) (hh : hi' ≤ hi) : Sld lo hi' f W v l := by
 rcases h with h | ⟨b, o, cap, h1, h2, hp, h3⟩
 ·exact .inl h
 ·exact .inr ⟨b, o, cap, h1, h2, hp.imp id (fun q => Nat.le_trans hh q), h3⟩
theorem Sl.old {α : Type} {f : α → Value} {W : World} {v : Value} {l : List α} (h : Sl f W v l) (hi : Nat) : Sld W.heap.size hi f W v l := by
 rcases h with h | ⟨b, o, cap, h1, h2, h3⟩
 ·exact .inl h
 ·by_cases hl : 0 < l.length
  ·exact .inr ⟨b, o, cap, h1, h2, .inl (cell_block (h3 0 hl)), h3⟩
  ·exact .inl ⟨_, _, List.length_eq_zero_iff.1 (by omega), by rw [h1, show l.length = 0 by omega]⟩
end Go.Proofs.YtlggjgapdpkhiaaGreatDoor
namespace Go.Proofs.YtlggjgapdpkhiaaGreatDoor
open Go.RowKit
set_option maxRecDepth 100000
set_option maxHeartbeats 4000000
def sbj (k : Int) : Int :=
 if k = 2 then 4099 else if k = 3 ∨ k = 4 ∨ k = 5 ∨ k = 6 then 3 else if k = 7 then 516 else if k = 8 then 24604 else if k = 9 then 122910 else if k = 10 then 3332 else if k = 11 then 4 else if k = 12 then 224 else 0
def knd (k : Int) : Bool := decide (1 ≤ k ∧ k ≤ 12)
def bitB (a o : Int) : Bool := (bits .and .u32 a o != 0)
theorem sbj_none {k : Int} (h : ¬ (1 ≤ k ∧ k ≤ 12)) : sbj k = 0 := by
 unfold sbj
 rw [if_neg (by omega), if_neg (by omega), if_neg (by omega), if_neg (by omega), if_neg (by omega), if_neg (by omega), if_neg (by omega), if_neg (by omega)]
theorem kinds {k : Int} (h : 1 ≤ k ∧ k ≤ 12) : k = 1 ∨ k = 2 ∨ k = 3 ∨ k = 4 ∨ k = 5 ∨ k = 6 ∨ k = 7 ∨ k = 8 ∨ k = 9 ∨ k = 10 ∨ k = 11 ∨ k = 12 := by omega
theorem bit_has {k : Int} (h : 1 ≤ k ∧ k ≤ 12) : bitB (sbj k) 1 = hasL k 98 ∧ bitB (sbj k) 2 = hasL k 101 ∧ bitB (sbj k) 4 = hasL k 116 ∧ bitB (sbj k) 8 = hasL k 112 ∧ bitB (sbj k) 16 = hasL k 108 ∧ bitB (sbj k) 32 = hasL k 97 ∧ bitB (sbj k) 64 = hasL k 97 ∧ bitB (sbj k) 128 = hasL k 97 ∧ bitB (sbj k) 256 = hasL k 102 ∧ bitB (sbj k) 512 = hasL k 110 ∧ bitB (sbj k) 1024 = hasL k 107 ∧ bitB (sbj k) 2048 = hasL k 118 ∧ bitB (sbj k) 4096 = hasL k 114 ∧ bitB (sbj k) 8192 = hasL k 105 ∧ bitB (sbj k) 16384 = hasL k 109 ∧ bitB (sbj k) 32768 = hasL k 120 ∧ bitB (sbj k) 65536 = hasL k 120 := by
 rcases kinds h with rfl | rfl | rfl | rfl | rfl | rfl | rfl | rfl | rfl | rfl | rfl | rfl <;> exact ⟨by decide, by decide, by decide, by decide, by decide, by decide, by decide, by decide, by decide, by decide, by decide, by decide, by decide, by decide, by decide, by decide, by decide⟩
theorem subj_any (k : Int) (w : World) : Calls Tryz.prog 44 #[.int .i64 k] w fun e w' => e = .returned (.tuple #[.int .u32 (sbj k), .bool (knd k)]) ∧ w' = w := by
 by_cases hk : 1 ≤ k ∧ k ≤ 12
 ·rcases kinds hk with rfl | rfl | rfl | rfl | rfl | rfl | rfl | rfl | rfl | rfl | rfl | rfl
  all_goals
   go_enter Tryz.func44, Tryz.ntmps44
   go_wp2_with fail
   go_ret2
   exact ⟨rfl, rfl⟩
 ·rw [sbj_none hk, show knd k = false from decide_eq_false hk]
  have n1 : ¬ k = 1 := by omega
  have n2 : ¬ k = 2 := by omega
  have n3 : ¬ k = 3 := by omega
  have n4 : ¬ k = 4 := by omega
  have n5 : ¬ k = 5 := by omega
  have n6 : ¬ k = 6 := by omega
  have n7 : ¬ k = 7 := by omega
  have n8 : ¬ k = 8 := by omega
  have n9 : ¬ k = 9 := by omega
  have n10 : ¬ k = 10 := by omega
  have n11 : ¬ k = 11 := by omega
  have n12 : ¬ k = 12 := by omega
  clear hk
  go_enter Tryz.func44, Tryz.ntmps44
  go_wp2_with fail
  go_ret2
  exact ⟨rfl, rfl⟩
theorem bhas_any (a o : Int) (w : World) : Calls Tryz.prog 49 #[.int .u32 a, .int .u32 o] w fun e w' => e = .returned (.bool (bitB a o)) ∧ w' = w := by
 go_enter Tryz.func49, Tryz.ntmps49
 go_wp2_with fail
 go_ret
 exact ⟨rfl, rfl⟩
theorem within_any (a o n lo hi : Int) (w : World) : Calls Tryz.prog 46 #[.int .u32 a, .int .u32 o, .int .i64 n, .int .i64 lo, .int .i64 hi] w fun e w' => e = .returned (.bool (numB n (bitB a o) lo hi)) ∧ w' = w := by
 have HC := hide (bhas_any a o w)
 obtain ⟨R, hR⟩ : ∃ R, R = numB n (bitB a o) lo hi := ⟨_, rfl⟩
 rw [← hR]
 have HR := hide hR
 clear hR
 cases hb : bitB a o with
 | true =>
  rw [hb] at HC HR
  by_cases h1 : lo ≤ n
  ·by_cases h2 : n ≤ hi
   ·have HE : Hid (R = true) := hide (by rw [HR.out]; simp [numB, h1, h2])
    go_enter Tryz.func46, Tryz.ntmps46
    go_wp2_with (first | (go_at_call 49; refine HC.out.mono ?_; rintro e w' ⟨rfl, rfl⟩))
    go_ret
    exact ⟨by rw [HE.out]; rfl, rfl⟩
   ·have HE : Hid (R = decide (n ≤ hi)) := hide (by rw [HR.out]; simp [numB, h1])
    go_enter Tryz.func46, Tryz.ntmps46
    go_wp2_with (first | (go_at_call 49; refine HC.out.mono ?_; rintro e w' ⟨rfl, rfl⟩))
    go_ret
    exact ⟨by rw [HE.out]; rfl, rfl⟩
  ·have HE : Hid (R = false) := hide (by rw [HR.out]; simp [numB]; omega)
   go_enter Tryz.func46, Tryz.ntmps46
   go_wp2_with (first | (go_at_call 49; refine HC.out.mono ?_; rintro e w' ⟨rfl, rfl⟩))
   go_ret
   exact ⟨by rw [HE.out]; rfl, rfl⟩
 | false =>
  rw [hb] at HC HR
  have HE : Hid (R = (n == 0)) := hide (by rw [HR.out]; simp only [numB]; rfl)
  go_enter Tryz.func46, Tryz.ntmps46
  go_wp2_with (first | (go_at_call 49; refine HC.out.mono ?_; rintro e w' ⟨rfl, rfl⟩))
  go_ret
  exact ⟨by rw [HE.out]; rfl, rfl⟩
theorem least_any (k : Int) (w : World) : Calls Tryz.prog 47 #[.int .i64 k] w fun e w' => e = .returned (.int .i64 (if k = 10 then 0 else 1)) ∧ w' = w := by
 by_cases h : k = 10
 ·rw [if_pos h]
  go_enter Tryz.func47, Tryz.ntmps47
  go_wp2_with fail
  go_ret
  exact ⟨rfl, rfl⟩
 ·rw [if_neg h]
  go_enter Tryz.func47, Tryz.ntmps47
  go_wp2_with fail
  go_ret
  exact ⟨rfl, rfl⟩
def mostV (h fl : Bool) : Int := if fl = true ∨ h = false then 0 else 256
theorem most_any (a : Int) (fl : Bool) (w : World) : Calls Tryz.prog 51 #[.int .u32 a, .bool fl] w fun e w' => e = .returned (.int .i64 (mostV (bitB a 2048) fl)) ∧ w' = w := by
 have HC := hide (bhas_any a 2048 w)
 cases hb : bitB a 2048 <;> cases fl <;> rw [hb] at HC
 all_goals
  go_enter Tryz.func51, Tryz.ntmps51
  go_wp2_with (first | (go_at_call 49; refine HC.out.mono ?_; rintro e w' ⟨rfl, rfl⟩))
  go_ret
  exact ⟨rfl, rfl⟩
theorem foreign_any (x : UInt8) (w : World) : Calls Tryz.prog 124 #[.int .u8 (x.toNat : Int)] w fun e w' => e = .returned (.bool (!okc x)) ∧ w' = w := by
 obtain ⟨R, hR⟩ : ∃ R, R = okc x := ⟨_, rfl⟩
 rw [← hR]
 rcases okc_cases (x.toNat : Int) with ⟨a, b⟩ | ⟨a, b, c, d, e, f⟩ | ⟨a, b, c⟩ | ⟨a, b, c, e, f⟩ | ⟨a, b, e⟩ | ⟨a, b, e, f⟩ | ⟨a, b, e, f⟩
 ·have HE : Hid (R = true) := hide (by rw [hR]; simp [okc]; omega)
  clear hR
  generalize (x.toNat : Int) = n at *
  go_enter Tryz.func124, Tryz.ntmps124
  go_wp2_with fail
  go_ret
  exact ⟨by rw [HE.out]; rfl, rfl⟩
 ·have HE : Hid (R = false) := hide (by rw [hR]; simp [okc]; omega)
  clear hR
  generalize (x.toNat : Int) = n at *
  go_enter Tryz.func124, Tryz.ntmps124
  go_wp2_with fail
  go_ret
  exact ⟨by rw [HE.out]; rfl, rfl⟩
 ·have HE : Hid (R = true) := hide (by rw [hR]; simp [okc]; omega)
  clear hR
  generalize (x.toNat : Int) = n at *
  go_enter Tryz.func124, Tryz.ntmps124
  go_wp2_with fail
  go_ret
  exact ⟨by rw [HE.out]; rfl, rfl⟩
 ·have HE : Hid (R = false) := hide (by rw [hR]; simp [okc]; omega)
  clear hR
  generalize (x.toNat : Int) = n at *
  go_enter Tryz.func124, Tryz.ntmps124
  go_wp2_with fail
  go_ret
  exact ⟨by rw [HE.out]; rfl, rfl⟩
 ·have HE : Hid (R = true) := hide (by rw [hR]; simp [okc]; omega)
  clear hR
  generalize (x.toNat : Int) = n at *
  go_enter Tryz.func124, Tryz.ntmps124
  go_wp2_with fail
  go_ret
  exact ⟨by rw [HE.out]; rfl, rfl⟩
 ·have HE : Hid (R = true) := hide (by rw [hR]; simp [okc]; omega)
  clear hR
  generalize (x.toNat : Int) = n at *
  go_enter Tryz.func124, Tryz.ntmps124
  go_wp2_with fail
  go_ret
  exact ⟨by rw [HE.out]; rfl, rfl⟩
 ·have HE : Hid (R = false) := hide (by rw [hR]; simp [okc]; omega)
  clear hR
  generalize (x.toNat : Int) = n at *
  go_enter Tryz.func124, Tryz.ntmps124
  go_wp2_with fail
  go_ret
  exact ⟨by rw [HE.out]; rfl, rfl⟩
def uc (x : UInt8) : Value := .int .u8 (x.toNat : Int)
theorem bytes_of (S : List UInt8) (w : World) : ∃ cap w1, (convert 9 171 (.string ⟨S.toArray⟩)).run Tryz.prog w = .ok (.slice (some ⟨w.heap.size, 0, none⟩) S.length cap) w1 ∧ (∀ i (h : i < S.length), w1.cell? ⟨w.heap.size, 0 + i, none⟩ = some (uc S[i])) ∧ Below w.heap.size w w1 ∧ w1.heap.size = w.heap.size + 1 ∧ S.length ≤ cap := by
 have h := run_bytes_of_string (P := Tryz.prog) w 9 171 5 ⟨S.toArray⟩ Tryz.underlying9 Tryz.underlying171 Tryz.underlying5
 have hz : (⟨S.toArray⟩ : ByteArray).size = S.length := by simp [ByteArray.size]
 rw [hz] at h
 refine ⟨_, _, h, fun i hi => ?_, ?_, ?_, ?_⟩
 ·have hi' : i < (⟨S.toArray⟩ : ByteArray).data.size := by simpa using hi
  have := bytesRow_at ⟨S.toArray⟩ (grownCap w S.length 0 5) i hi'
  rw [Nat.zero_add]
  have h2 := World.cell?_alloc_mark w.drew (bytesRow ⟨S.toArray⟩ (grownCap w S.length 0 5)) 5 ((bytesRow ⟨S.toArray⟩ (grownCap w S.length 0 5)).size, (bytesRow ⟨S.toArray⟩ (grownCap w S.length 0 5)).size + 1) i
  refine (h2.trans this).trans ?_
  simp [uc]
 ·exact (Below.refl _ _).drew.alloc (Nat.le_refl _) _
 ·simp
 ·exact Nat.le_trans (Nat.le_refl _) (grownCap_ge w S.length 0 5)
def alc (S : List UInt8) : Bool := S.all okc
theorem idxf_some (b o cap : Nat) (S : List UInt8) (w : World) (hl : S.length ≤ 1000) (h3 : ∀ i (h : i < S.length), w.cell? ⟨b, o + i, none⟩ = some (uc S[i])) :
  Calls Tryz.prog 153 #[.slice (some ⟨b, o, none⟩) S.length cap, .func (.func 124) #[] #[]] w fun e w' => (∃ n : Int, e = .returned (.int .i64 n) ∧ ((alc S = false ∧ 0 ≤ n) ∨ (alc S = true ∧ n = -1))) ∧ w' = w := by
 have H3 := hide h3
 clear h3
 go_enter Tryz.func153, Tryz.ntmps153
 go_wp2
 go_loop [8] (fun i => ∃ k : Nat, k ≤ S.length ∧ i = .int .i64 (k : Int) ∧ Hid ((S.take k).all okc = true)) (fun i => S.length - (intOf i).toNat)
 case atStart => exact ⟨0, Nat.zero_le _, rfl, hide rfl⟩
 case round =>
  obtain ⟨k, hk, rfl, HN⟩ := hrel
  by_cases hlt : k < S.length
  ·have hltI : (k : Int) < (S.length : Int) := by omega
   have hc := H3.out k hlt
   unfold uc at hc
   have HF := hide (foreign_any S[k] w)
   have HSN := hide (fun hn => all_snoc hlt HN.out hn)
   have HNO := hide (fun hn => (all_no hlt hn : alc S = false))
   generalize S[k] = x at *
   cases hx : okc x with
   | true =>
    rw [hx] at HF
    have HX := hide hx
    clear hx
    go_wp2_with (first | (go_at_call 124; refine HF.out.mono ?_; rintro e w' ⟨rfl, rfl⟩))
    go_round
    case rel => exact ⟨k + 1, by omega, by go_num, hide (HSN.out HX.out)⟩
    case measure => simp [intOf]; omega
   | false =>
    rw [hx] at HF
    have HX := hide hx
    clear hx
    go_wp2_with (first | (go_at_call 124; refine HF.out.mono ?_; rintro e w' ⟨rfl, rfl⟩))
    go_ret
    exact ⟨⟨_, rfl, .inl ⟨HNO.out HX.out, by omega⟩⟩, rfl⟩
  ·obtain rfl : k = S.length := by omega
   have HA : Hid (alc S = true) := hide (by have := HN.out; rw [List.take_length] at this; exact this)
   clear hlt
   go_wp2_with fail
   go_ret
   exact ⟨⟨_, rfl, .inr ⟨HA.out, rfl⟩⟩, rfl⟩
theorem ctnf_some (b o cap : Nat) (S : List UInt8) (w : World) (hl : S.length ≤ 1000) (h3 : ∀ i (h : i < S.length), w.cell? ⟨b, o + i, none⟩ = some (uc S[i])) :
  Calls Tryz.prog 123 #[.slice (some ⟨b, o, none⟩) S.length cap, .func (.func 124) #[] #[]] w fun e w' => e = .returned (.bool (!alc S)) ∧ w' = w := by
 have HC := hide (idxf_some b o cap S w hl h3)
 clear h3
 go_enter Tryz.func123, Tryz.ntmps123
 go_wp2_with fail
 refine (HC.out).mono ?_
 rintro e w' ⟨⟨n, rfl, ⟨hy, hn⟩ | ⟨hy, rfl⟩⟩, rfl⟩
 ·have HY := hide hy
  clear hy
  go_wp2
  go_ret
  exact ⟨by rw [HY.out]; rfl, rfl⟩
 ·have HY := hide hy
  clear hy
  go_wp2
  go_ret
  exact ⟨by rw [HY.out]; rfl, rfl⟩
theorem cname_any (S : List UInt8) (w : World) (hS : S.length ≤ 1000) : Calls Tryz.prog 86 #[.string ⟨S.toArray⟩] w fun e w' => e = .returned (.bool (nameB S)) ∧ Below w.heap.size w w' := by
 have hdot : (⟨S.toArray⟩ : ByteArray).toList = S := by simp
 obtain ⟨R, hR⟩ : ∃ R, R = nameB S := ⟨_, rfl⟩
 rw [← hR]
 have HR := hide hR
 clear hR
 by_cases h1 : S.length < 1
 ·have HE : Hid (R = false) := hide (by rw [HR.out]; simp [nameB]; omega)
  have h1' : (S.length : Int) < 1 := by omega
  go_enter Tryz.func86, Tryz.ntmps86
  go_wp2_with fail
  go_ret
  exact ⟨by rw [HE.out]; rfl, Below.refl _ _⟩
 have h1' : ¬ (S.length : Int) < 1 := by omega
 by_cases h2 : 40 < S.length
 ·have HE : Hid (R = false) := hide (by rw [HR.out]; simp [nameB]; omega)
  have h2' : (40 : Int) < (S.length : Int) := by omega
  go_enter Tryz.func86, Tryz.ntmps86
  go_wp2_with fail
  go_ret
  exact ⟨by rw [HE.out]; rfl, Below.refl _ _⟩
 have h2' : ¬ (40 : Int) < (S.length : Int) := by omega
 by_cases h3 : S = [46]
 ·have HE : Hid (R = false) := hide (by rw [HR.out]; simp [nameB, h3])
  subst h3
  go_enter Tryz.func86, Tryz.ntmps86
  go_wp2_with fail
  go_ret
  exact ⟨by rw [HE.out]; rfl, Below.refl _ _⟩
 by_cases h4 : S = [46, 46]
 ·have HE : Hid (R = false) := hide (by rw [HR.out]; simp [nameB, h4])
  subst h4
  go_enter Tryz.func86, Tryz.ntmps86
  go_wp2_with fail
  go_ret
  exact ⟨by rw [HE.out]; rfl, Below.refl _ _⟩
 have h3' : (S == [46]) = false := by simpa using h3
 have h4' : (S == [46, 46]) = false := by simpa using h4
 have HE : Hid (R = alc S) := hide (by rw [HR.out]; unfold nameB alc; simp [h3, h4]; omega)
 obtain ⟨cap, w1, hcv, hcell, hbl, _⟩ := bytes_of S w
 have HC := hide hcell
 have HB := hide hbl
 clear hcell hbl
 go_enter Tryz.func86, Tryz.ntmps86
 go_wp2_with fail
 refine (ctnf_some _ _ _ S _ hS HC.out).mono ?_
 rintro e w2 ⟨rfl, rfl⟩
 go_wp2_with fail
 go_ret
 exact ⟨by rw [HE.out]; simp, HB.out⟩
end Go.Proofs.YtlggjgapdpkhiaaGreatDoor
namespace Go.Proofs.YtlggjgapdpkhiaaGreatDoor
open Go.RowKit
set_option maxRecDepth 100000
set_option maxHeartbeats 4000000
def inB (l : List Int) (j : Nat) (x : Int) : Bool := (List.range j).any fun k => decide (l.getD k 0 = x)
theorem in_yes {l : List Int} {j k : Nat} {x : Int} (hk : k < j) (h : x = l.getD k 0) : inB l j x = true := by
 unfold inB
 rw [List.any_eq_true]
 exact ⟨k, List.mem_range.2 hk, decide_eq_true h.symm⟩
theorem in_no {l : List Int} {j : Nat} {x : Int} (h : ∀ k, k < j → ¬ l.getD k 0 = x) : inB l j x = false := by
 unfold inB
 rw [List.any_eq_false]
 intro k hk
 simpa using h k (List.mem_range.1 hk)
theorem in_okJ {l : List Int} {j : Nat} (h : 1 ≤ l.getD j 0 ∧ l.getD j 0 ≤ 64) : okJ l j = !inB l j (l.getD j 0) := by
 cases hi : inB l j (l.getD j 0) with
 | true =>
  unfold inB at hi
  rw [List.any_eq_true] at hi
  obtain ⟨k, hk, e⟩ := hi
  exact okJ_twice (List.mem_range.1 hk) (of_decide_eq_true e)
 | false =>
  unfold inB at hi
  rw [List.any_eq_false] at hi
  exact okJ_yes h (fun k hk e => hi k (List.mem_range.2 hk) (decide_eq_true e))
theorem idxi_some (b o cap : Nat) (l : List Int) (j : Nat) (x : Int) (w : World) (hj : j ≤ l.length) (hl : l.length ≤ 7) (h3 : ∀ i, i < l.length → w.cell? ⟨b, o + i, none⟩ = some (.int .i64 (l.getD i 0))) :
  Calls Tryz.prog 154 #[.slice (some ⟨b, o, none⟩) j cap, .int .i64 x] w fun e w' => (∃ n : Int, e = .returned (.int .i64 n) ∧ ((inB l j x = true ∧ 0 ≤ n) ∨ (inB l j x = false ∧ n = -1))) ∧ w' = w := by
 have H3 := hide h3
 clear h3
 go_enter Tryz.func154, Tryz.ntmps154
 go_wp2
 go_loop [8] (fun i => ∃ k : Nat, k ≤ j ∧ i = .int .i64 (k : Int) ∧ Hid (∀ m, m < k → ¬ l.getD m 0 = x)) (fun i => j - (intOf i).toNat)
 case atStart => exact ⟨0, Nat.zero_le _, rfl, hide (fun m hm => absurd hm (Nat.not_lt_zero _))⟩
 case round =>
  obtain ⟨k, hk, rfl, HN⟩ := hrel
  by_cases hlt : k < j
  ·have hltI : (k : Int) < (j : Int) := by omega
   have hc := H3.out k (by omega)
   obtain ⟨y, hy⟩ : ∃ y, y = l.getD k 0 := ⟨_, rfl⟩
   rw [← hy] at hc
   have HY := hide hy
   clear hy
   by_cases he : x = y
   ·have HI := hide (in_yes (x := x) hlt (he.trans HY.out))
    go_wp2_with fail
    go_ret
    exact ⟨⟨_, rfl, .inl ⟨he ▸ HI.out, by omega⟩⟩, rfl⟩
   ·go_wp2_with fail
    go_round
    case rel => exact ⟨k + 1, by omega, by go_num, hide (fun m hm => by by_cases e : m = k; (subst e; rw [← HY.out]; exact fun q => he q.symm); exact HN.out m (by omega))⟩
    case measure => simp [intOf]; omega
  ·obtain rfl : k = j := by omega
   clear hlt
   go_wp2_with fail
   go_ret
   exact ⟨⟨_, rfl, .inr ⟨in_no HN.out, rfl⟩⟩, rfl⟩
theorem ctni_some (b o cap : Nat) (l : List Int) (j : Nat) (x : Int) (w : World) (hj : j ≤ l.length) (hl : l.length ≤ 7) (h3 : ∀ i, i < l.length → w.cell? ⟨b, o + i, none⟩ = some (.int .i64 (l.getD i 0))) :
  Calls Tryz.prog 125 #[.slice (some ⟨b, o, none⟩) j cap, .int .i64 x] w fun e w' => e = .returned (.bool (inB l j x)) ∧ w' = w := by
 have HC := hide (idxi_some b o cap l j x w hj hl h3)
 clear h3
 go_enter Tryz.func125, Tryz.ntmps125
 go_wp2_with fail
 refine (HC.out).mono ?_
 rintro e w' ⟨⟨n, rfl, ⟨hy, hn⟩ | ⟨hy, rfl⟩⟩, rfl⟩
 ·have HY := hide hy
  clear hy
  go_wp2
  go_ret
  exact ⟨by rw [HY.out]; rfl, rfl⟩
 ·have HY := hide hy
  clear hy
  go_wp2
  go_ret
  exact ⟨by rw [HY.out]; rfl, rfl⟩
theorem cbrok_some (b o cap : Nat) (l : List Int) (w : World) (hcap : l.length ≤ cap) (h3 : ∀ i (h : i < l.length), w.cell? ⟨b, o + i, none⟩ = some (ic l[i])) :
  Calls Tryz.prog 87 #[.slice (some ⟨b, o, none⟩) l.length cap] w fun e w' => e = .returned (.bool (brokB l)) ∧ w' = w := by
 obtain ⟨R, hR⟩ : ∃ R, R = brokB l := ⟨_, rfl⟩
 rw [← hR]
 have HR := hide hR
 clear hR
 by_cases h7 : 7 < l.length
 ·have HE : Hid (R = false) := hide (by rw [HR.out]; unfold brokB; rw [decide_eq_false (by omega), Bool.false_and])
  have h7' : (7 : Int) < (l.length : Int) := by omega
  clear h3
  go_enter Tryz.func87, Tryz.ntmps87
  go_wp2_with fail
  go_ret
  exact ⟨by rw [HE.out]; rfl, rfl⟩
 have h7' : ¬ (7 : Int) < (l.length : Int) := by omega
 have H3 : Hid (∀ i, i < l.length → w.cell? ⟨b, o + i, none⟩ = some (.int .i64 (l.getD i 0))) := hide (fun i hi => by
  rw [h3 i hi]
  simp [List.getD, hi, ic])
 clear h3
 go_enter Tryz.func87, Tryz.ntmps87
 go_wp2_with fail
 go_loop [10] (fun i => ∃ j : Nat, j ≤ l.length ∧ i = .int .i64 (j : Int) ∧ Hid (∀ m, m < j → okJ l m = true)) (fun i => l.length - (intOf i).toNat)
 case atStart => exact ⟨0, Nat.zero_le _, rfl, hide (fun m hm => absurd hm (Nat.not_lt_zero _))⟩
 case round =>
  obtain ⟨j, hj, rfl, HN⟩ := hrel
  by_cases hlt : j < l.length
  ·have hltI : (j : Int) < (l.length : Int) := by omega
   have cj := H3.out j hlt
   have hjc : j ≤ cap := by omega
   by_cases hlo : l.getD j 0 < 1 ∨ (¬ l.getD j 0 < 1 ∧ 64 < l.getD j 0)
   ·have HE : Hid (R = false) := hide (by rw [HR.out]; exact brokB_no hlt (okJ_no (by omega)))
    generalize l.getD j 0 = x at *
    rcases hlo with h1 | ⟨h1, h2⟩
    all_goals
     go_wp2_with fail
     go_ret
     exact ⟨by rw [HE.out]; rfl, rfl⟩
   ·have h1 : ¬ l.getD j 0 < 1 := by omega
    have h2 : ¬ 64 < l.getD j 0 := by omega
    clear hlo
    have HCT := hide (ctni_some b o cap l j (l.getD j 0) w hj (by omega) H3.out)
    have HJ := hide (in_okJ (l := l) (j := j) ⟨by omega, by omega⟩)
    generalize hx : l.getD j 0 = x at *
    generalize inB l j x = t at *
    have HX := hide hx
    clear hx
    cases t with
    | true =>
     have HE : Hid (R = false) := hide (by rw [HR.out]; exact brokB_no hlt HJ.out)
     go_wp2_with (first | (go_at_call 125; refine HCT.out.mono ?_; rintro e w' ⟨rfl, rfl⟩))
     go_ret
     exact ⟨by rw [HE.out]; rfl, rfl⟩
    | false =>
     go_wp2_with (first | (go_at_call 125; refine HCT.out.mono ?_; rintro e w' ⟨rfl, rfl⟩))
     go_round
     case rel => exact ⟨j + 1, by omega, by go_num, hide (fun m hm => by by_cases e : m = j; (subst e; exact HJ.out); exact HN.out m (by omega))⟩
     case measure => simp [intOf]; omega
  ·obtain rfl : j = l.length := by omega
   have HE : Hid (R = true) := hide (by rw [HR.out]; exact brokB_yes (by omega) HN.out)
   clear hlt
   go_wp2_with fail
   go_ret
   exact ⟨by rw [HE.out]; rfl, rfl⟩
theorem cbrok_none (ao : Option Addr) (cap : Nat) (w : World) : Calls Tryz.prog 87 #[.slice ao 0 cap] w fun e w' => e = .returned (.bool (brokB [])) ∧ w' = w := by
 go_enter Tryz.func87, Tryz.ntmps87
 go_wp2_with fail
 refine wp_loop_rounds 1 ?_
 rw [rounds_succ]
 go_wp2_with fail
 go_ret
 exact ⟨rfl, rfl⟩
theorem cbrok_any (v : Value) (l : List Int) (w : World) (hv : Sl ic w v l) : Calls Tryz.prog 87 #[v] w fun e w' => e = .returned (.bool (brokB l)) ∧ w' = w := by
 rcases hv with ⟨ao, cap, rfl, rfl⟩ | ⟨b, o, cap, rfl, hc, h3⟩
 ·exact cbrok_none ao cap w
 ·exact cbrok_some b o cap l w hc h3
theorem listed_any (a o : Int) (v : Value) (l : List Int) (w : World) (hv : Sl ic w v l) : Calls Tryz.prog 52 #[.int .u32 a, .int .u32 o, v] w fun e w' => e = .returned (.bool (rowB l (bitB a o))) ∧ w' = w := by
 have HC := hide (bhas_any a o w)
 have HB := hide (cbrok_any v l w hv)
 obtain ⟨R, hR⟩ : ∃ R, R = rowB l (bitB a o) := ⟨_, rfl⟩
 rw [← hR]
 have HR := hide hR
 obtain ⟨ao, cap, rfl⟩ := hv.form
 clear hR hv
 cases hb : bitB a o with
 | true =>
  rw [hb] at HC HR
  have HE : Hid (R = brokB l) := hide HR.out
  go_enter Tryz.func52, Tryz.ntmps52
  go_wp2_with (first | (go_at_call 49; refine HC.out.mono ?_; rintro e w' ⟨rfl, rfl⟩) | (go_at_call 87; refine HB.out.mono ?_; rintro e w' ⟨rfl, rfl⟩))
  go_ret
  exact ⟨by rw [HE.out]; rfl, rfl⟩
 | false =>
  rw [hb] at HC HR
  have HE : Hid (R = ((l.length : Int) == 0)) := hide HR.out
  go_enter Tryz.func52, Tryz.ntmps52
  go_wp2_with (first | (go_at_call 49; refine HC.out.mono ?_; rintro e w' ⟨rfl, rfl⟩))
  go_ret
  exact ⟨by rw [HE.out]; rfl, rfl⟩
theorem named_any (a o : Int) (S : List UInt8) (w : World) (hS : S.length ≤ 1000) : Calls Tryz.prog 50 #[.int .u32 a, .int .u32 o, .string ⟨S.toArray⟩] w fun e w' => e = .returned (.bool (nameA S (bitB a o))) ∧ Below w.heap.size w w' := by
 have HC := hide (bhas_any a o w)
 have HB := hide (cname_any S w hS)
 have hdot : (⟨S.toArray⟩ : ByteArray).toList = S := by simp
 obtain ⟨R, hR⟩ : ∃ R, R = nameA S (bitB a o) := ⟨_, rfl⟩
 rw [← hR]
 have HR := hide hR
 clear hR
 cases hb : bitB a o with
 | true =>
  rw [hb] at HC HR
  have HE : Hid (R = nameB S) := hide HR.out
  go_enter Tryz.func50, Tryz.ntmps50
  go_wp2_with (first | (go_at_call 49; refine HC.out.mono ?_; rintro e w' ⟨rfl, rfl⟩) | (go_at_call 86; refine HB.out.mono ?_; rintro e w' ⟨rfl, hbl⟩))
  go_ret
  exact ⟨by rw [HE.out]; rfl, hbl⟩
 | false =>
  rw [hb] at HC HR
  have HE : Hid (R = S.isEmpty) := hide HR.out
  go_enter Tryz.func50, Tryz.ntmps50
  go_wp2_with (first | (go_at_call 49; refine HC.out.mono ?_; rintro e w' ⟨rfl, rfl⟩))
  go_ret
  exact ⟨by rw [HE.out]; rfl, Below.refl _ _⟩
end Go.Proofs.YtlggjgapdpkhiaaGreatDoor
