/-
  RECORDS, on lists alone (no program in sight): a record, what is wrong with one, and what one keeps to that may be.
  WHAT A DRAWN REGION WITH CALLS KEEPS, FOR ANY FACTS ON CELLS OF OLD MEMORY.
  WHAT A KIND IS ABOUT, BIT BY BIT, NAMES AND BROKERS (record.subjects, has, within, Name, Brokers, named, listed, leastTopic, mostValue).
  BROKERS (slices.Index, slices.Contains, record.Brokers, named, listed).
  A RECORD AS A VALUE, AND IN ITS CELLS.
-/
import Derived.Test.YtlggjgapdpkhiaaGreatJKRecWrg
import Derived.Test.YtlggjgapdpkhiaaGreatJKSlca5
import Derived.Test.YtlggjgapdpkhiaaGreatJKRecBroa2
import Derived.Laws.IdiomStrings
import Derived.Test.YtlggjgapdpkhiaaGreatJKIsca5
namespace Go.Proofs.YtlggjgapdpkhiaaGreat
open Go.RowKit
structure Rc where
 k : Int
 br : Int
 ep : Int
 tp : Int
 pa : Int
 le : Int
 cl : Int
 se : Int
 co : Int
 fl : Bool
 nm : List UInt8
 ky : List UInt8
 va : List UInt8
 rk : List UInt8
 ids : List Int
 isr : List Int
 ad : List Int
 dr : List Int
def Rc.zero : Rc := ⟨0, 0, 0, 0, 0, 0, 0, 0, 0, false, [], [], [], [], [], [], [], []⟩
def chk (r : Rc) : ByteArray × Int × Int := checkR r.k r.br r.ep r.tp r.pa r.le r.cl r.se r.co r.fl r.nm r.ky r.va r.rk r.ids r.isr r.ad r.dr
theorem numB_asks {n lo hi : Int} {h : Bool} (e : numB n h lo hi = true) : if h then lo ≤ n ∧ n ≤ hi else n = 0 := by
 cases h with
 | true => simpa [numB] using e
 | false => simpa [numB] using e
theorem brokB_all {l : List Int} (h : brokB l = true) : l.length ≤ 7 ∧ ∀ x ∈ l, 1 ≤ x ∧ x ≤ 64 := by
 unfold brokB at h
 simp only [Bool.and_eq_true, decide_eq_true_eq, List.all_eq_true, List.mem_range] at h
 refine ⟨h.1, fun x hx => ?_⟩
 obtain ⟨i, hi, rfl⟩ := List.getElem_of_mem hx
 have := h.2 i hi
 unfold okJ at this
 simp only [Bool.and_eq_true, decide_eq_true_eq] at this
 have e : l.getD i 0 = l[i] := by simp [List.getD, hi]
 rw [e] at this
 exact this.1
theorem rowB_asks {l : List Int} {h : Bool} (e : rowB l h = true) : if h then l.length ≤ 7 ∧ ∀ x ∈ l, 0 ≤ x ∧ x ≤ 64 else l = [] := by
 cases h with
 | true =>
  have := brokB_all (show brokB l = true from e)
  exact ⟨this.1, fun x hx => by have := this.2 x hx; omega⟩
 | false =>
  have e' : ((l.length : Int) == 0) = true := e
  simp only [beq_iff_eq] at e'
  exact List.length_eq_zero_iff.1 (by omega)
structure RcIs (r : Rc) : Prop where
 k1 : 1 ≤ r.k
 k2 : r.k ≤ 12
 br : numB r.br (hasL r.k 98) 1 64 = true
 ep : numB r.ep (hasL r.k 101) 0 1073741824 = true
 tp : numB r.tp (hasL r.k 116) (if r.k = 10 then 0 else 1) 1073741824 = true
 pa : numB r.pa (hasL r.k 112) 0 255 = true
 le : numB r.le (hasL r.k 108) 0 64 = true
 cl : numB r.cl (hasL r.k 97) 1 1073741824 = true
 se : numB r.se (hasL r.k 97) 1 1073741824 = true
 co : numB r.co (hasL r.k 97) 0 21 = true
 fl : r.fl = true → hasL r.k 102 = true
 nm : nameA r.nm (hasL r.k 110) = true
 ky : nameA r.ky (hasL r.k 107) = true
 rk : nameA r.rk (hasL r.k 114) = true
 va : r.va.length ≤ 256
 vb : r.va.isEmpty = false → r.fl = false ∧ hasL r.k 118 = true
 ids : rowB r.ids (hasL r.k 105) = true
 isr : rowB r.isr (hasL r.k 109) = true
 ad : rowB r.ad (hasL r.k 120) = true
 dr : rowB r.dr (hasL r.k 120) = true
theorem nums_ok {k br ep tp pa le cl se co : Int} (h : (numsR k br ep tp pa le cl se co).2.2 = 0) : numB br (hasL k 98) 1 64 = true ∧ numB ep (hasL k 101) 0 1073741824 = true ∧ numB tp (hasL k 116) (if k = 10 then 0 else 1) 1073741824 = true ∧ numB pa (hasL k 112) 0 255 = true ∧ numB le (hasL k 108) 0 64 = true ∧ numB cl (hasL k 97) 1 1073741824 = true ∧ numB se (hasL k 97) 1 1073741824 = true ∧ numB co (hasL k 97) 0 21 = true := by
 unfold numsR at h
 generalize (if k = 10 then (0 : Int) else 1) = lo at *
 split at h
 ·simp at h
 split at h
 ·simp at h
 split at h
 ·simp at h
 split at h
 ·simp at h
 split at h
 ·simp at h
 split at h
 ·simp at h
 rename_i h1 h2 h3 h4 h5 h6
 simp only [Bool.not_eq_false, not_or] at h1 h2 h3 h4 h5 h6
 exact ⟨h1, h2, h3, h4, h5, h6⟩
theorem chk_is {r : Rc} (h : (chk r).2.2 = 0) : RcIs r := by
 unfold chk checkR at h
 split at h
 ·simp at h
 split at h
 ·rename_i q; exact absurd h q
 split at h
 ·simp at h
 split at h
 ·simp at h
 split at h
 ·simp at h
 split at h
 ·simp at h
 rename_i h1 h2 h3 h4 h5 h6
 obtain ⟨n1, n2, n3, n4, n5, n6, n7, n8⟩ := nums_ok (Decidable.not_not.1 h2)
 simp only [Bool.not_eq_false, not_or, not_and] at h3 h4 h5 h6
 exact ⟨by omega, by omega, n1, n2, n3, n4, n5, n6, n7, n8, h3, h4.1, h4.2.1, h4.2.2, by omega, fun q => by
  have := h5.2 q
  exact ⟨by simpa using this.1, by simpa using this.2⟩, h6.1, h6.2.1, h6.2.2.1, h6.2.2.2⟩
end Go.Proofs.YtlggjgapdpkhiaaGreat
namespace Go.Proofs.YtlggjgapdpkhiaaGreat
open Go.RowKit
theorem hs_call {F : World → Prop} {N : Nat} {w0 W W' : World} (hF : ∀ W, Below N w0 W → F W) (hb : Below W.heap.size W W') (h : F W ∧ Below N w0 W ∧ N ≤ W.heap.size) : F W' ∧ Below N w0 W' ∧ N ≤ W'.heap.size :=
 have k := h.2.1.trans (hb.mono h.2.2)
 ⟨hF _ k, k, Nat.le_trans h.2.2 hb.size⟩
theorem hs_drew {F : World → Prop} {N : Nat} {w0 : World} (hF : ∀ W, Below N w0 W → F W) (hN : N ≤ w0.heap.size) : F w0.drew ∧ Below N w0 w0.drew ∧ N ≤ w0.drew.heap.size :=
 have k := (Below.refl N w0).drew
 ⟨hF _ k, k, hN⟩
def Sld {α : Type} (lo hi : Nat) (f : α → Value) (W : World) (v : Value) (l : List α) : Prop :=
 (∃ ao cap, l = [] ∧ v = .slice ao 0 cap) ∨
 (∃ b o cap, v = .slice (some ⟨b, o, none⟩) l.length cap ∧ l.length ≤ cap ∧ (b < lo ∨ hi ≤ b) ∧ ∀ i (h : i < l.length), W.cell? ⟨b, o + i, none⟩ = some (f l[i]))
theorem Sld.nil {α : Type} (lo hi : Nat) (f : α → Value) (w : World) (ao : Option Addr) (cap : Nat) : Sld lo hi f w (.slice ao 0 cap) [] := .inl ⟨_, _, rfl, rfl⟩
theorem Sld.sl {α : Type} {lo hi : Nat} {f : α → Value} {W : World} {v : Value} {l : List α} (h : Sld lo hi f W v l) : Sl f W v l := by
 rcases h with h | ⟨b, o, cap, h1, h2, _, h3⟩
 ·exact .inl h
 ·exact .inr ⟨b, o, cap, h1, h2, h3⟩
theorem Sld.below {α : Type} {lo hi : Nat} {f : α → Value} {W W' : World} {v : Value} {l : List α} (h : Sld lo hi f W v l) (hb : Below W.heap.size W W') : Sld lo hi f W' v l := by
 rcases h with h | ⟨b, o, cap, h1, h2, hp, h3⟩
 ·exact .inl h
 ·exact .inr ⟨b, o, cap, h1, h2, hp, fun i hi => (hb.cell (p := ⟨b, o + i, none⟩) (cB (h3 i hi))).trans (h3 i hi)⟩
theorem Sld.set {α : Type} {lo hi : Nat} {f : α → Value} {W : World} {v : Value} {l : List α} (h : Sld lo hi f W v l) {q : Nat} (i : Nat) (x : Value) (h1 : lo ≤ q) (h2 : q < hi) : Sld lo hi f (W.setCell ⟨q, i, none⟩ x) v l := by
 rcases h with h | ⟨b, o, cap, e1, e2, hp, h3⟩
 ·exact .inl h
 ·refine .inr ⟨b, o, cap, e1, e2, hp, fun j hj => ?_⟩
  rw [World.cell?_setCell_other _ _ _ _ (fun e => by have := congrArg Addr.block e; simp at this; omega)]
  exact h3 j hj
theorem Sld.more {α : Type} {lo hi hi' : Nat} {f : α → Value} {W : World} {v : Value} {l : List α} (h : Sld lo hi f W v l) (hh : hi' ≤ hi) : Sld lo hi' f W v l := by
 rcases h with h | ⟨b, o, cap, h1, h2, hp, h3⟩
 ·exact .inl h
 ·exact .inr ⟨b, o, cap, h1, h2, hp.imp id (fun q => Nat.le_trans hh q), h3⟩
theorem Sl.old {α : Type} {f : α → Value} {W : World} {v : Value} {l : List α} (h : Sl f W v l) (hi : Nat) : Sld W.heap.size hi f W v l := by
 rcases h with h | ⟨b, o, cap, h1, h2, h3⟩
 ·exact .inl h
 ·by_cases hl : 0 < l.length
  ·exact .inr ⟨b, o, cap, h1, h2, .inl (cB (h3 0 hl)), h3⟩
  ·exact .inl ⟨_, _, List.length_eq_zero_iff.1 (by omega), by rw [h1, show l.length = 0 by omega]⟩
end Go.Proofs.YtlggjgapdpkhiaaGreat
namespace Go.Proofs.YtlggjgapdpkhiaaGreat
open Go.RowKit
set_option maxRecDepth 100000
set_option maxHeartbeats 4000000
def sbj (k : Int) : Int :=
 if k = 2 then 4099 else if k = 3 ∨ k = 4 ∨ k = 5 ∨ k = 6 then 3 else if k = 7 then 516 else if k = 8 then 24604 else if k = 9 then 122910 else if k = 10 then 3332 else if k = 11 then 4 else if k = 12 then 224 else 0
def knd (k : Int) : Bool := decide (1 ≤ k ∧ k ≤ 12)
def bitB (a o : Int) : Bool := (bits .and .u32 a o != 0)
theorem sbj_none {k : Int} (h : ¬ (1 ≤ k ∧ k ≤ 12)) : sbj k = 0 := by
 unfold sbj
 rw [if_neg (by omega), if_neg (by omega), if_neg (by omega), if_neg (by omega), if_neg (by omega), if_neg (by omega), if_neg (by omega), if_neg (by omega)]
theorem kinds {k : Int} (h : 1 ≤ k ∧ k ≤ 12) : k = 1 ∨ k = 2 ∨ k = 3 ∨ k = 4 ∨ k = 5 ∨ k = 6 ∨ k = 7 ∨ k = 8 ∨ k = 9 ∨ k = 10 ∨ k = 11 ∨ k = 12 := by omega
theorem bit_has {k : Int} (h : 1 ≤ k ∧ k ≤ 12) : bitB (sbj k) 1 = hasL k 98 ∧ bitB (sbj k) 2 = hasL k 101 ∧ bitB (sbj k) 4 = hasL k 116 ∧ bitB (sbj k) 8 = hasL k 112 ∧ bitB (sbj k) 16 = hasL k 108 ∧ bitB (sbj k) 32 = hasL k 97 ∧ bitB (sbj k) 64 = hasL k 97 ∧ bitB (sbj k) 128 = hasL k 97 ∧ bitB (sbj k) 256 = hasL k 102 ∧ bitB (sbj k) 512 = hasL k 110 ∧ bitB (sbj k) 1024 = hasL k 107 ∧ bitB (sbj k) 2048 = hasL k 118 ∧ bitB (sbj k) 4096 = hasL k 114 ∧ bitB (sbj k) 8192 = hasL k 105 ∧ bitB (sbj k) 16384 = hasL k 109 ∧ bitB (sbj k) 32768 = hasL k 120 ∧ bitB (sbj k) 65536 = hasL k 120 := by
 rcases kinds h with rfl | rfl | rfl | rfl | rfl | rfl | rfl | rfl | rfl | rfl | rfl | rfl <;> exact ⟨by decide, by decide, by decide, by decide, by decide, by decide, by decide, by decide, by decide, by decide, by decide, by decide, by decide, by decide, by decide, by decide, by decide⟩
theorem subj_any (k : Int) (w : World) : Calls Tryz.prog 84 #[.int .i64 k] w fun e w' => e = .returned (.tuple #[.int .u32 (sbj k), .bool (knd k)]) ∧ w' = w := by
 by_cases hk : 1 ≤ k ∧ k ≤ 12
 ·rcases kinds hk with rfl | rfl | rfl | rfl | rfl | rfl | rfl | rfl | rfl | rfl | rfl | rfl
  all_goals
   go_enter Tryz.func84, Tryz.ntmps84
   go_wp2_with fail
   go_ret2
   exact ⟨rfl, rfl⟩
 ·rw [sbj_none hk, show knd k = false from decide_eq_false hk]
  have n1 : ¬ k = 1 := by omega
  have n2 : ¬ k = 2 := by omega
  have n3 : ¬ k = 3 := by omega
  have n4 : ¬ k = 4 := by omega
  have n5 : ¬ k = 5 := by omega
  have n6 : ¬ k = 6 := by omega
  have n7 : ¬ k = 7 := by omega
  have n8 : ¬ k = 8 := by omega
  have n9 : ¬ k = 9 := by omega
  have n10 : ¬ k = 10 := by omega
  have n11 : ¬ k = 11 := by omega
  have n12 : ¬ k = 12 := by omega
  clear hk
  go_enter Tryz.func84, Tryz.ntmps84
  go_wp2_with fail
  go_ret2
  exact ⟨rfl, rfl⟩
theorem bhas_any (a o : Int) (w : World) : Calls Tryz.prog 89 #[.int .u32 a, .int .u32 o] w fun e w' => e = .returned (.bool (bitB a o)) ∧ w' = w := by
 go_enter Tryz.func89, Tryz.ntmps89
 go_wp2_with fail
 go_ret
 exact ⟨rfl, rfl⟩
theorem within_any (a o n lo hi : Int) (w : World) : Calls Tryz.prog 86 #[.int .u32 a, .int .u32 o, .int .i64 n, .int .i64 lo, .int .i64 hi] w fun e w' => e = .returned (.bool (numB n (bitB a o) lo hi)) ∧ w' = w := by
 have HC := Hd (bhas_any a o w)
 obtain ⟨R, hR⟩ : ∃ R, R = numB n (bitB a o) lo hi := ⟨_, rfl⟩
 rw [← hR]
 have HR := Hd hR
 clear hR
 cases hb : bitB a o with
 | true =>
  rw [hb] at HC HR
  by_cases h1 : lo ≤ n
  ·by_cases h2 : n ≤ hi
   ·have HE : Hid (R = true) := Hd (by rw [HR.out]; simp [numB, h1, h2])
    go_enter Tryz.func86, Tryz.ntmps86
    go_wp2_with (first | (go_at_call 89; refine HC.out.mono ?_; rintro e w' ⟨rfl, rfl⟩))
    go_ret
    exact ⟨by rw [HE.out]; rfl, rfl⟩
   ·have HE : Hid (R = decide (n ≤ hi)) := Hd (by rw [HR.out]; simp [numB, h1])
    go_enter Tryz.func86, Tryz.ntmps86
    go_wp2_with (first | (go_at_call 89; refine HC.out.mono ?_; rintro e w' ⟨rfl, rfl⟩))
    go_ret
    exact ⟨by rw [HE.out]; rfl, rfl⟩
  ·have HE : Hid (R = false) := Hd (by rw [HR.out]; simp [numB]; omega)
   go_enter Tryz.func86, Tryz.ntmps86
   go_wp2_with (first | (go_at_call 89; refine HC.out.mono ?_; rintro e w' ⟨rfl, rfl⟩))
   go_ret
   exact ⟨by rw [HE.out]; rfl, rfl⟩
 | false =>
  rw [hb] at HC HR
  have HE : Hid (R = (n == 0)) := Hd (by rw [HR.out]; simp only [numB]; rfl)
  go_enter Tryz.func86, Tryz.ntmps86
  go_wp2_with (first | (go_at_call 89; refine HC.out.mono ?_; rintro e w' ⟨rfl, rfl⟩))
  go_ret
  exact ⟨by rw [HE.out]; rfl, rfl⟩
theorem least_any (k : Int) (w : World) : Calls Tryz.prog 87 #[.int .i64 k] w fun e w' => e = .returned (.int .i64 (if k = 10 then 0 else 1)) ∧ w' = w := by
 by_cases h : k = 10
 ·rw [if_pos h]
  go_enter Tryz.func87, Tryz.ntmps87
  go_wp2_with fail
  go_ret
  exact ⟨rfl, rfl⟩
 ·rw [if_neg h]
  go_enter Tryz.func87, Tryz.ntmps87
  go_wp2_with fail
  go_ret
  exact ⟨rfl, rfl⟩
def mostV (h fl : Bool) : Int := if fl = true ∨ h = false then 0 else 256
theorem most_any (a : Int) (fl : Bool) (w : World) : Calls Tryz.prog 91 #[.int .u32 a, .bool fl] w fun e w' => e = .returned (.int .i64 (mostV (bitB a 2048) fl)) ∧ w' = w := by
 have HC := Hd (bhas_any a 2048 w)
 cases hb : bitB a 2048 <;> cases fl <;> rw [hb] at HC
 all_goals
  go_enter Tryz.func91, Tryz.ntmps91
  go_wp2_with (first | (go_at_call 89; refine HC.out.mono ?_; rintro e w' ⟨rfl, rfl⟩))
  go_ret
  exact ⟨rfl, rfl⟩
theorem foreign_any (x : UInt8) (w : World) : Calls Tryz.prog 137 #[.int .u8 (x.toNat : Int)] w fun e w' => e = .returned (.bool (!okc x)) ∧ w' = w := by
 obtain ⟨R, hR⟩ : ∃ R, R = okc x := ⟨_, rfl⟩
 rw [← hR]
 rcases okc_cases (x.toNat : Int) with ⟨a, b⟩ | ⟨a, b, c, d, e, f⟩ | ⟨a, b, c⟩ | ⟨a, b, c, e, f⟩ | ⟨a, b, e⟩ | ⟨a, b, e, f⟩ | ⟨a, b, e, f⟩
 ·have HE : Hid (R = true) := Hd (by rw [hR]; simp [okc]; omega)
  clear hR
  generalize (x.toNat : Int) = n at *
  go_enter Tryz.func137, Tryz.ntmps137
  go_wp2_with fail
  go_ret
  exact ⟨by rw [HE.out]; rfl, rfl⟩
 ·have HE : Hid (R = false) := Hd (by rw [hR]; simp [okc]; omega)
  clear hR
  generalize (x.toNat : Int) = n at *
  go_enter Tryz.func137, Tryz.ntmps137
  go_wp2_with fail
  go_ret
  exact ⟨by rw [HE.out]; rfl, rfl⟩
 ·have HE : Hid (R = true) := Hd (by rw [hR]; simp [okc]; omega)
  clear hR
  generalize (x.toNat : Int) = n at *
  go_enter Tryz.func137, Tryz.ntmps137
  go_wp2_with fail
  go_ret
  exact ⟨by rw [HE.out]; rfl, rfl⟩
 ·have HE : Hid (R = false) := Hd (by rw [hR]; simp [okc]; omega)
  clear hR
  generalize (x.toNat : Int) = n at *
  go_enter Tryz.func137, Tryz.ntmps137
  go_wp2_with fail
  go_ret
  exact ⟨by rw [HE.out]; rfl, rfl⟩
 ·have HE : Hid (R = true) := Hd (by rw [hR]; simp [okc]; omega)
  clear hR
  generalize (x.toNat : Int) = n at *
  go_enter Tryz.func137, Tryz.ntmps137
  go_wp2_with fail
  go_ret
  exact ⟨by rw [HE.out]; rfl, rfl⟩
 ·have HE : Hid (R = true) := Hd (by rw [hR]; simp [okc]; omega)
  clear hR
  generalize (x.toNat : Int) = n at *
  go_enter Tryz.func137, Tryz.ntmps137
  go_wp2_with fail
  go_ret
  exact ⟨by rw [HE.out]; rfl, rfl⟩
 ·have HE : Hid (R = false) := Hd (by rw [hR]; simp [okc]; omega)
  clear hR
  generalize (x.toNat : Int) = n at *
  go_enter Tryz.func137, Tryz.ntmps137
  go_wp2_with fail
  go_ret
  exact ⟨by rw [HE.out]; rfl, rfl⟩
def uc (x : UInt8) : Value := .int .u8 (x.toNat : Int)
theorem bytes_of (S : List UInt8) (w : World) : ∃ cap w1, (convert 9 175 (.string ⟨S.toArray⟩)).run Tryz.prog w = .ok (.slice (some ⟨w.heap.size, 0, none⟩) S.length cap) w1 ∧ (∀ i (h : i < S.length), w1.cell? ⟨w.heap.size, 0 + i, none⟩ = some (uc S[i])) ∧ Below w.heap.size w w1 ∧ w1.heap.size = w.heap.size + 1 ∧ S.length ≤ cap := by
 have h := run_bytes_of_string (P := Tryz.prog) w 9 175 5 ⟨S.toArray⟩ Tryz.underlying9 Tryz.underlying175 Tryz.underlying5
 have hz : (⟨S.toArray⟩ : ByteArray).size = S.length := by simp [ByteArray.size]
 rw [hz] at h
 refine ⟨_, _, h, fun i hi => ?_, ?_, ?_, ?_⟩
 ·have hi' : i < (⟨S.toArray⟩ : ByteArray).data.size := by simpa using hi
  have := bytesRow_at ⟨S.toArray⟩ (grownCap w S.length 0 5) i hi'
  rw [Nat.zero_add]
  have h2 := World.cell?_alloc_mark w.drew (bytesRow ⟨S.toArray⟩ (grownCap w S.length 0 5)) 5 ((bytesRow ⟨S.toArray⟩ (grownCap w S.length 0 5)).size, (bytesRow ⟨S.toArray⟩ (grownCap w S.length 0 5)).size + 1) i
  refine (h2.trans this).trans ?_
  simp [uc]
 ·exact (Below.refl _ _).drew.alloc (Nat.le_refl _) _
 ·simp
 ·exact Nat.le_trans (Nat.le_refl _) (grownCap_ge w S.length 0 5)
def alc (S : List UInt8) : Bool := S.all okc
theorem idxf_some (b o cap : Nat) (S : List UInt8) (w : World) (hl : S.length ≤ 1000) (h3 : ∀ i (h : i < S.length), w.cell? ⟨b, o + i, none⟩ = some (uc S[i])) :
  Calls Tryz.prog 151 #[.slice (some ⟨b, o, none⟩) S.length cap, .func (.func 137) #[] #[]] w fun e w' => (∃ n : Int, e = .returned (.int .i64 n) ∧ ((alc S = false ∧ 0 ≤ n) ∨ (alc S = true ∧ n = -1))) ∧ w' = w := by
 have H3 := Hd h3
 clear h3
 go_enter Tryz.func151, Tryz.ntmps151
 go_wp2
 go_loop [8] (fun i => ∃ k : Nat, k ≤ S.length ∧ i = .int .i64 (k : Int) ∧ Hid ((S.take k).all okc = true)) (fun i => S.length - (intOf i).toNat)
 case atStart => exact ⟨0, Nat.zero_le _, rfl, Hd rfl⟩
 case round =>
  obtain ⟨k, hk, rfl, HN⟩ := hrel
  by_cases hlt : k < S.length
  ·have hltI : (k : Int) < (S.length : Int) := by omega
   have hc := H3.out k hlt
   unfold uc at hc
   have HF := Hd (foreign_any S[k] w)
   have HSN := Hd (fun hn => all_snoc hlt HN.out hn)
   have HNO := Hd (fun hn => (all_no hlt hn : alc S = false))
   generalize S[k] = x at *
   cases hx : okc x with
   | true =>
    rw [hx] at HF
    have HX := Hd hx
    clear hx
    go_wp2_with (first | (go_at_call 137; refine HF.out.mono ?_; rintro e w' ⟨rfl, rfl⟩))
    go_round
    case rel => exact ⟨k + 1, by omega, by go_num, Hd (HSN.out HX.out)⟩
    case measure => simp [intOf]; omega
   | false =>
    rw [hx] at HF
    have HX := Hd hx
    clear hx
    go_wp2_with (first | (go_at_call 137; refine HF.out.mono ?_; rintro e w' ⟨rfl, rfl⟩))
    go_ret
    exact ⟨⟨_, rfl, .inl ⟨HNO.out HX.out, by omega⟩⟩, rfl⟩
  ·obtain rfl : k = S.length := by omega
   have HA : Hid (alc S = true) := Hd (by have := HN.out; rw [List.take_length] at this; exact this)
   clear hlt
   go_wp2_with fail
   go_ret
   exact ⟨⟨_, rfl, .inr ⟨HA.out, rfl⟩⟩, rfl⟩
theorem ctnf_some (b o cap : Nat) (S : List UInt8) (w : World) (hl : S.length ≤ 1000) (h3 : ∀ i (h : i < S.length), w.cell? ⟨b, o + i, none⟩ = some (uc S[i])) :
  Calls Tryz.prog 136 #[.slice (some ⟨b, o, none⟩) S.length cap, .func (.func 137) #[] #[]] w fun e w' => e = .returned (.bool (!alc S)) ∧ w' = w := by
 have HC := Hd (idxf_some b o cap S w hl h3)
 clear h3
 go_enter Tryz.func136, Tryz.ntmps136
 go_wp2_with fail
 refine (HC.out).mono ?_
 rintro e w' ⟨⟨n, rfl, ⟨hy, hn⟩ | ⟨hy, rfl⟩⟩, rfl⟩
 ·have HY := Hd hy
  clear hy
  go_wp2
  go_ret
  exact ⟨by rw [HY.out]; rfl, rfl⟩
 ·have HY := Hd hy
  clear hy
  go_wp2
  go_ret
  exact ⟨by rw [HY.out]; rfl, rfl⟩
theorem cname_any (S : List UInt8) (w : World) (hS : S.length ≤ 1000) : Calls Tryz.prog 117 #[.string ⟨S.toArray⟩] w fun e w' => e = .returned (.bool (nameB S)) ∧ Below w.heap.size w w' := by
 have hdot : (⟨S.toArray⟩ : ByteArray).toList = S := by simp
 obtain ⟨R, hR⟩ : ∃ R, R = nameB S := ⟨_, rfl⟩
 rw [← hR]
 have HR := Hd hR
 clear hR
 by_cases h1 : S.length < 1
 ·have HE : Hid (R = false) := Hd (by rw [HR.out]; simp [nameB]; omega)
  have h1' : (S.length : Int) < 1 := by omega
  go_enter Tryz.func117, Tryz.ntmps117
  go_wp2_with fail
  go_ret
  exact ⟨by rw [HE.out]; rfl, Below.refl _ _⟩
 have h1' : ¬ (S.length : Int) < 1 := by omega
 by_cases h2 : 40 < S.length
 ·have HE : Hid (R = false) := Hd (by rw [HR.out]; simp [nameB]; omega)
  have h2' : (40 : Int) < (S.length : Int) := by omega
  go_enter Tryz.func117, Tryz.ntmps117
  go_wp2_with fail
  go_ret
  exact ⟨by rw [HE.out]; rfl, Below.refl _ _⟩
 have h2' : ¬ (40 : Int) < (S.length : Int) := by omega
 by_cases h3 : S = [46]
 ·have HE : Hid (R = false) := Hd (by rw [HR.out]; simp [nameB, h3])
  subst h3
  go_enter Tryz.func117, Tryz.ntmps117
  go_wp2_with fail
  go_ret
  exact ⟨by rw [HE.out]; rfl, Below.refl _ _⟩
 by_cases h4 : S = [46, 46]
 ·have HE : Hid (R = false) := Hd (by rw [HR.out]; simp [nameB, h4])
  subst h4
  go_enter Tryz.func117, Tryz.ntmps117
  go_wp2_with fail
  go_ret
  exact ⟨by rw [HE.out]; rfl, Below.refl _ _⟩
 have h3' : (S == [46]) = false := by simpa using h3
 have h4' : (S == [46, 46]) = false := by simpa using h4
 have HE : Hid (R = alc S) := Hd (by rw [HR.out]; unfold nameB alc; simp [h3, h4]; omega)
 obtain ⟨cap, w1, hcv, hcell, hbl, _⟩ := bytes_of S w
 have HC := Hd hcell
 have HB := Hd hbl
 clear hcell hbl
 go_enter Tryz.func117, Tryz.ntmps117
 go_wp2_with fail
 refine (ctnf_some _ _ _ S _ hS HC.out).mono ?_
 rintro e w2 ⟨rfl, rfl⟩
 go_wp2_with fail
 go_ret
 exact ⟨by rw [HE.out]; simp, HB.out⟩
end Go.Proofs.YtlggjgapdpkhiaaGreat
namespace Go.Proofs.YtlggjgapdpkhiaaGreat
open Go.RowKit
set_option maxRecDepth 100000
set_option maxHeartbeats 4000000
def inB (l : List Int) (j : Nat) (x : Int) : Bool := (List.range j).any fun k => decide (l.getD k 0 = x)
theorem in_yes {l : List Int} {j k : Nat} {x : Int} (hk : k < j) (h : x = l.getD k 0) : inB l j x = true := by
 unfold inB
 rw [List.any_eq_true]
 exact ⟨k, List.mem_range.2 hk, decide_eq_true h.symm⟩
theorem in_no {l : List Int} {j : Nat} {x : Int} (h : ∀ k, k < j → ¬ l.getD k 0 = x) : inB l j x = false := by
 unfold inB
 rw [List.any_eq_false]
 intro k hk
 simpa using h k (List.mem_range.1 hk)
theorem in_okJ {l : List Int} {j : Nat} (h : 1 ≤ l.getD j 0 ∧ l.getD j 0 ≤ 64) : okJ l j = !inB l j (l.getD j 0) := by
 cases hi : inB l j (l.getD j 0) with
 | true =>
  unfold inB at hi
  rw [List.any_eq_true] at hi
  obtain ⟨k, hk, e⟩ := hi
  exact okJ_twice (List.mem_range.1 hk) (of_decide_eq_true e)
 | false =>
  unfold inB at hi
  rw [List.any_eq_false] at hi
  exact okJ_yes h (fun k hk e => hi k (List.mem_range.2 hk) (decide_eq_true e))
theorem idxi_some (b o cap : Nat) (l : List Int) (j : Nat) (x : Int) (w : World) (hj : j ≤ l.length) (hl : l.length ≤ 7) (h3 : ∀ i, i < l.length → w.cell? ⟨b, o + i, none⟩ = some (.int .i64 (l.getD i 0))) :
  Calls Tryz.prog 152 #[.slice (some ⟨b, o, none⟩) j cap, .int .i64 x] w fun e w' => (∃ n : Int, e = .returned (.int .i64 n) ∧ ((inB l j x = true ∧ 0 ≤ n) ∨ (inB l j x = false ∧ n = -1))) ∧ w' = w := by
 have H3 := Hd h3
 clear h3
 go_enter Tryz.func152, Tryz.ntmps152
 go_wp2
 go_loop [8] (fun i => ∃ k : Nat, k ≤ j ∧ i = .int .i64 (k : Int) ∧ Hid (∀ m, m < k → ¬ l.getD m 0 = x)) (fun i => j - (intOf i).toNat)
 case atStart => exact ⟨0, Nat.zero_le _, rfl, Hd (fun m hm => absurd hm (Nat.not_lt_zero _))⟩
 case round =>
  obtain ⟨k, hk, rfl, HN⟩ := hrel
  by_cases hlt : k < j
  ·have hltI : (k : Int) < (j : Int) := by omega
   have hc := H3.out k (by omega)
   obtain ⟨y, hy⟩ : ∃ y, y = l.getD k 0 := ⟨_, rfl⟩
   rw [← hy] at hc
   have HY := Hd hy
   clear hy
   by_cases he : x = y
   ·have HI := Hd (in_yes (x := x) hlt (he.trans HY.out))
    go_wp2_with fail
    go_ret
    exact ⟨⟨_, rfl, .inl ⟨he ▸ HI.out, by omega⟩⟩, rfl⟩
   ·go_wp2_with fail
    go_round
    case rel => exact ⟨k + 1, by omega, by go_num, Hd (fun m hm => by by_cases e : m = k; (subst e; rw [← HY.out]; exact fun q => he q.symm); exact HN.out m (by omega))⟩
    case measure => simp [intOf]; omega
  ·obtain rfl : k = j := by omega
   clear hlt
   go_wp2_with fail
   go_ret
   exact ⟨⟨_, rfl, .inr ⟨in_no HN.out, rfl⟩⟩, rfl⟩
theorem ctni_some (b o cap : Nat) (l : List Int) (j : Nat) (x : Int) (w : World) (hj : j ≤ l.length) (hl : l.length ≤ 7) (h3 : ∀ i, i < l.length → w.cell? ⟨b, o + i, none⟩ = some (.int .i64 (l.getD i 0))) :
  Calls Tryz.prog 138 #[.slice (some ⟨b, o, none⟩) j cap, .int .i64 x] w fun e w' => e = .returned (.bool (inB l j x)) ∧ w' = w := by
 have HC := Hd (idxi_some b o cap l j x w hj hl h3)
 clear h3
 go_enter Tryz.func138, Tryz.ntmps138
 go_wp2_with fail
 refine (HC.out).mono ?_
 rintro e w' ⟨⟨n, rfl, ⟨hy, hn⟩ | ⟨hy, rfl⟩⟩, rfl⟩
 ·have HY := Hd hy
  clear hy
  go_wp2
  go_ret
  exact ⟨by rw [HY.out]; rfl, rfl⟩
 ·have HY := Hd hy
  clear hy
  go_wp2
  go_ret
  exact ⟨by rw [HY.out]; rfl, rfl⟩
theorem cbrok_some (b o cap : Nat) (l : List Int) (w : World) (hcap : l.length ≤ cap) (h3 : ∀ i (h : i < l.length), w.cell? ⟨b, o + i, none⟩ = some (ic l[i])) :
  Calls Tryz.prog 118 #[.slice (some ⟨b, o, none⟩) l.length cap] w fun e w' => e = .returned (.bool (brokB l)) ∧ w' = w := by
 obtain ⟨R, hR⟩ : ∃ R, R = brokB l := ⟨_, rfl⟩
 rw [← hR]
 have HR := Hd hR
 clear hR
 by_cases h7 : 7 < l.length
 ·have HE : Hid (R = false) := Hd (by rw [HR.out]; unfold brokB; rw [decide_eq_false (by omega), Bool.false_and])
  have h7' : (7 : Int) < (l.length : Int) := by omega
  clear h3
  go_enter Tryz.func118, Tryz.ntmps118
  go_wp2_with fail
  go_ret
  exact ⟨by rw [HE.out]; rfl, rfl⟩
 have h7' : ¬ (7 : Int) < (l.length : Int) := by omega
 have H3 : Hid (∀ i, i < l.length → w.cell? ⟨b, o + i, none⟩ = some (.int .i64 (l.getD i 0))) := Hd (fun i hi => by
  rw [h3 i hi]
  simp [List.getD, hi, ic])
 clear h3
 go_enter Tryz.func118, Tryz.ntmps118
 go_wp2_with fail
 go_loop [10] (fun i => ∃ j : Nat, j ≤ l.length ∧ i = .int .i64 (j : Int) ∧ Hid (∀ m, m < j → okJ l m = true)) (fun i => l.length - (intOf i).toNat)
 case atStart => exact ⟨0, Nat.zero_le _, rfl, Hd (fun m hm => absurd hm (Nat.not_lt_zero _))⟩
 case round =>
  obtain ⟨j, hj, rfl, HN⟩ := hrel
  by_cases hlt : j < l.length
  ·have hltI : (j : Int) < (l.length : Int) := by omega
   have cj := H3.out j hlt
   have hjc : j ≤ cap := by omega
   by_cases hlo : l.getD j 0 < 1 ∨ (¬ l.getD j 0 < 1 ∧ 64 < l.getD j 0)
   ·have HE : Hid (R = false) := Hd (by rw [HR.out]; exact brokB_no hlt (okJ_no (by omega)))
    generalize l.getD j 0 = x at *
    rcases hlo with h1 | ⟨h1, h2⟩
    all_goals
     go_wp2_with fail
     go_ret
     exact ⟨by rw [HE.out]; rfl, rfl⟩
   ·have h1 : ¬ l.getD j 0 < 1 := by omega
    have h2 : ¬ 64 < l.getD j 0 := by omega
    clear hlo
    have HCT := Hd (ctni_some b o cap l j (l.getD j 0) w hj (by omega) H3.out)
    have HJ := Hd (in_okJ (l := l) (j := j) ⟨by omega, by omega⟩)
    generalize hx : l.getD j 0 = x at *
    generalize inB l j x = t at *
    have HX := Hd hx
    clear hx
    cases t with
    | true =>
     have HE : Hid (R = false) := Hd (by rw [HR.out]; exact brokB_no hlt HJ.out)
     go_wp2_with (first | (go_at_call 138; refine HCT.out.mono ?_; rintro e w' ⟨rfl, rfl⟩))
     go_ret
     exact ⟨by rw [HE.out]; rfl, rfl⟩
    | false =>
     go_wp2_with (first | (go_at_call 138; refine HCT.out.mono ?_; rintro e w' ⟨rfl, rfl⟩))
     go_round
     case rel => exact ⟨j + 1, by omega, by go_num, Hd (fun m hm => by by_cases e : m = j; (subst e; exact HJ.out); exact HN.out m (by omega))⟩
     case measure => simp [intOf]; omega
  ·obtain rfl : j = l.length := by omega
   have HE : Hid (R = true) := Hd (by rw [HR.out]; exact brokB_yes (by omega) HN.out)
   clear hlt
   go_wp2_with fail
   go_ret
   exact ⟨by rw [HE.out]; rfl, rfl⟩
theorem cbrok_none (ao : Option Addr) (cap : Nat) (w : World) : Calls Tryz.prog 118 #[.slice ao 0 cap] w fun e w' => e = .returned (.bool (brokB [])) ∧ w' = w := by
 go_enter Tryz.func118, Tryz.ntmps118
 go_wp2_with fail
 refine wp_loop_rounds 1 ?_
 rw [rounds_succ]
 go_wp2_with fail
 go_ret
 exact ⟨rfl, rfl⟩
theorem cbrok_any (v : Value) (l : List Int) (w : World) (hv : Sl ic w v l) : Calls Tryz.prog 118 #[v] w fun e w' => e = .returned (.bool (brokB l)) ∧ w' = w := by
 rcases hv with ⟨ao, cap, rfl, rfl⟩ | ⟨b, o, cap, rfl, hc, h3⟩
 ·exact cbrok_none ao cap w
 ·exact cbrok_some b o cap l w hc h3
theorem listed_any (a o : Int) (v : Value) (l : List Int) (w : World) (hv : Sl ic w v l) : Calls Tryz.prog 92 #[.int .u32 a, .int .u32 o, v] w fun e w' => e = .returned (.bool (rowB l (bitB a o))) ∧ w' = w := by
 have HC := Hd (bhas_any a o w)
 have HB := Hd (cbrok_any v l w hv)
 obtain ⟨R, hR⟩ : ∃ R, R = rowB l (bitB a o) := ⟨_, rfl⟩
 rw [← hR]
 have HR := Hd hR
 obtain ⟨ao, cap, rfl⟩ := hv.form
 clear hR hv
 cases hb : bitB a o with
 | true =>
  rw [hb] at HC HR
  have HE : Hid (R = brokB l) := Hd HR.out
  go_enter Tryz.func92, Tryz.ntmps92
  go_wp2_with (first | (go_at_call 89; refine HC.out.mono ?_; rintro e w' ⟨rfl, rfl⟩) | (go_at_call 118; refine HB.out.mono ?_; rintro e w' ⟨rfl, rfl⟩))
  go_ret
  exact ⟨by rw [HE.out]; rfl, rfl⟩
 | false =>
  rw [hb] at HC HR
  have HE : Hid (R = ((l.length : Int) == 0)) := Hd HR.out
  go_enter Tryz.func92, Tryz.ntmps92
  go_wp2_with (first | (go_at_call 89; refine HC.out.mono ?_; rintro e w' ⟨rfl, rfl⟩))
  go_ret
  exact ⟨by rw [HE.out]; rfl, rfl⟩
theorem named_any (a o : Int) (S : List UInt8) (w : World) (hS : S.length ≤ 1000) : Calls Tryz.prog 90 #[.int .u32 a, .int .u32 o, .string ⟨S.toArray⟩] w fun e w' => e = .returned (.bool (nameA S (bitB a o))) ∧ Below w.heap.size w w' := by
 have HC := Hd (bhas_any a o w)
 have HB := Hd (cname_any S w hS)
 have hdot : (⟨S.toArray⟩ : ByteArray).toList = S := by simp
 obtain ⟨R, hR⟩ : ∃ R, R = nameA S (bitB a o) := ⟨_, rfl⟩
 rw [← hR]
 have HR := Hd hR
 clear hR
 cases hb : bitB a o with
 | true =>
  rw [hb] at HC HR
  have HE : Hid (R = nameB S) := Hd HR.out
  go_enter Tryz.func90, Tryz.ntmps90
  go_wp2_with (first | (go_at_call 89; refine HC.out.mono ?_; rintro e w' ⟨rfl, rfl⟩) | (go_at_call 117; refine HB.out.mono ?_; rintro e w' ⟨rfl, hbl⟩))
  go_ret
  exact ⟨by rw [HE.out]; rfl, hbl⟩
 | false =>
  rw [hb] at HC HR
  have HE : Hid (R = S.isEmpty) := Hd HR.out
  go_enter Tryz.func90, Tryz.ntmps90
  go_wp2_with (first | (go_at_call 89; refine HC.out.mono ?_; rintro e w' ⟨rfl, rfl⟩))
  go_ret
  exact ⟨by rw [HE.out]; rfl, Below.refl _ _⟩
end Go.Proofs.YtlggjgapdpkhiaaGreat
namespace Go.Proofs.YtlggjgapdpkhiaaGreat
open Go.RowKit
def Sli (ok : Nat → Prop) (W : World) (v : Value) (l : List Int) : Prop :=
 (∃ ao cap, l = [] ∧ v = .slice ao 0 cap) ∨
 (∃ b o cap, v = .slice (some ⟨b, o, none⟩) l.length cap ∧ l.length ≤ cap ∧ ok b ∧ ∀ i (h : i < l.length), W.cell? ⟨b, o + i, none⟩ = some (ic l[i]))
theorem Sli.sl {ok : Nat → Prop} {W : World} {v : Value} {l : List Int} (h : Sli ok W v l) : Sl ic W v l := by
 rcases h with h | ⟨b, o, cap, h1, h2, _, h3⟩
 ·exact .inl h
 ·exact .inr ⟨b, o, cap, h1, h2, h3⟩
theorem Sli.nil (ok : Nat → Prop) (w : World) (ao : Option Addr) (cap : Nat) : Sli ok w (.slice ao 0 cap) [] := .inl ⟨_, _, rfl, rfl⟩
theorem Sli.imp {ok ok' : Nat → Prop} {W W' : World} {v : Value} {l : List Int} (h : Sli ok W v l) (hk : ∀ b, b < W.heap.size → ok b → ok' b) (hc : ∀ b i, b < W.heap.size → ok b → W'.cell? ⟨b, i, none⟩ = W.cell? ⟨b, i, none⟩) : Sli ok' W' v l := by
 rcases h with h | ⟨b, o, cap, h1, h2, h0, h3⟩
 ·exact .inl h
 ·rcases l with _ | ⟨x, l⟩
  ·exact .inl ⟨_, _, rfl, h1⟩
  ·have hb := cB (h3 0 (by simp))
   exact .inr ⟨b, o, cap, h1, h2, hk b hb h0, fun i hi => (hc b _ hb h0).trans (h3 i hi)⟩
theorem Sli.below {ok : Nat → Prop} {W W' : World} {v : Value} {l : List Int} (h : Sli ok W v l) (hb : Below W.heap.size W W') : Sli ok W' v l :=
 h.imp (fun _ _ q => q) (fun b i hl _ => hb.cell (p := ⟨b, i, none⟩) hl)
theorem Sl.li {W : World} {v : Value} {l : List Int} (h : Sl ic W v l) : Sli (fun b => b < W.heap.size) W v l := by
 rcases h with h | ⟨b, o, cap, h1, h2, h3⟩
 ·exact .inl h
 ·rcases l with _ | ⟨x, l⟩
  ·exact .inl ⟨_, _, rfl, h1⟩
  ·exact .inr ⟨b, o, cap, h1, h2, cB (h3 0 (by simp)), h3⟩
def cR (r : Rc) (a14 a15 a16 a17 : Option Addr) (c14 c15 c16 c17 : Nat) : List Value :=
 [.int .i64 r.k, .int .i64 r.br, .int .i64 r.ep, .int .i64 r.tp, .int .i64 r.pa, .int .i64 r.le, .int .i64 r.cl, .int .i64 r.se, .int .i64 r.co, .bool r.fl, .string ⟨r.nm.toArray⟩, .string ⟨r.ky.toArray⟩, .string ⟨r.va.toArray⟩, .string ⟨r.rk.toArray⟩, .slice a14 r.ids.length c14, .slice a15 r.isr.length c15, .slice a16 r.ad.length c16, .slice a17 r.dr.length c17]
structure RwsR (ok : Nat → Prop) (W : World) (r : Rc) (a14 a15 a16 a17 : Option Addr) (c14 c15 c16 c17 : Nat) : Prop where
 h14 : Sli ok W (.slice a14 r.ids.length c14) r.ids
 h15 : Sli ok W (.slice a15 r.isr.length c15) r.isr
 h16 : Sli ok W (.slice a16 r.ad.length c16) r.ad
 h17 : Sli ok W (.slice a17 r.dr.length c17) r.dr
theorem RwsR.below {ok : Nat → Prop} {W W' : World} {r : Rc} {a14 a15 a16 a17 : Option Addr} {c14 c15 c16 c17 : Nat} (h : RwsR ok W r a14 a15 a16 a17 c14 c15 c16 c17) (hb : Below W.heap.size W W') : RwsR ok W' r a14 a15 a16 a17 c14 c15 c16 c17 :=
 ⟨h.h14.below hb, h.h15.below hb, h.h16.below hb, h.h17.below hb⟩
def IsR (ok : Nat → Prop) (W : World) (v : Value) (r : Rc) : Prop :=
 ∃ a14 a15 a16 a17 c14 c15 c16 c17, v = .agg (cR r a14 a15 a16 a17 c14 c15 c16 c17).toArray ∧ RwsR ok W r a14 a15 a16 a17 c14 c15 c16 c17
theorem IsR.below {ok : Nat → Prop} {W W' : World} {v : Value} {r : Rc} (h : IsR ok W v r) (hb : Below W.heap.size W W') : IsR ok W' v r := by
 obtain ⟨a14, a15, a16, a17, c14, c15, c16, c17, h1, h2⟩ := h
 exact ⟨a14, a15, a16, a17, c14, c15, c16, c17, h1, h2.below hb⟩
structure TxR (r : Rc) : Prop where
 nm : r.nm.length ≤ 1000
 ky : r.ky.length ≤ 1000
 va : r.va.length ≤ 1000
 rk : r.rk.length ≤ 1000
structure C18 (W : World) (p : Nat) (x0 x1 x2 x3 x4 x5 x6 x7 x8 x9 x10 x11 x12 x13 x14 x15 x16 x17 : Value) : Prop where
 c0 : W.cell? ⟨p, 0, none⟩ = some x0
 c1 : W.cell? ⟨p, 1, none⟩ = some x1
 c2 : W.cell? ⟨p, 2, none⟩ = some x2
 c3 : W.cell? ⟨p, 3, none⟩ = some x3
 c4 : W.cell? ⟨p, 4, none⟩ = some x4
 c5 : W.cell? ⟨p, 5, none⟩ = some x5
 c6 : W.cell? ⟨p, 6, none⟩ = some x6
 c7 : W.cell? ⟨p, 7, none⟩ = some x7
 c8 : W.cell? ⟨p, 8, none⟩ = some x8
 c9 : W.cell? ⟨p, 9, none⟩ = some x9
 c10 : W.cell? ⟨p, 10, none⟩ = some x10
 c11 : W.cell? ⟨p, 11, none⟩ = some x11
 c12 : W.cell? ⟨p, 12, none⟩ = some x12
 c13 : W.cell? ⟨p, 13, none⟩ = some x13
 c14 : W.cell? ⟨p, 14, none⟩ = some x14
 c15 : W.cell? ⟨p, 15, none⟩ = some x15
 c16 : W.cell? ⟨p, 16, none⟩ = some x16
 c17 : W.cell? ⟨p, 17, none⟩ = some x17
theorem C18.of {W : World} {p : Nat} {x0 x1 x2 x3 x4 x5 x6 x7 x8 x9 x10 x11 x12 x13 x14 x15 x16 x17 : Value} (h : W.rangeAt p 0 [x0, x1, x2, x3, x4, x5, x6, x7, x8, x9, x10, x11, x12, x13, x14, x15, x16, x17]) : C18 W p x0 x1 x2 x3 x4 x5 x6 x7 x8 x9 x10 x11 x12 x13 x14 x15 x16 x17 :=
 ⟨h 0 _ rfl, h 1 _ rfl, h 2 _ rfl, h 3 _ rfl, h 4 _ rfl, h 5 _ rfl, h 6 _ rfl, h 7 _ rfl, h 8 _ rfl, h 9 _ rfl, h 10 _ rfl, h 11 _ rfl, h 12 _ rfl, h 13 _ rfl, h 14 _ rfl, h 15 _ rfl, h 16 _ rfl, h 17 _ rfl⟩
theorem range_below {W W' : World} {p : Nat} {x : Value} {xs : List Value} (h : W.rangeAt p 0 (x :: xs)) (hb : Below W.heap.size W W') : W'.rangeAt p 0 (x :: xs) := fun j v hv =>
 (hb.cell (p := ⟨p, 0 + j, none⟩) (cB (h 0 _ rfl) : p < W.heap.size)).trans (h j v hv)
theorem range_new (w : World) (xs : List Value) (t : TypeId) : (w.alloc (.cells xs.toArray t)).rangeAt w.heap.size 0 xs := fun j v hv => by
 have := cells_at w xs t j v hv
 rw [Addr.add_lit] at this
 exact this
def checkB (br ep tp pa le cl nl vl il : Int) (b0 b1 b2 b3 b4 b5 b6 b7 ff n0 n1 n2 vv r0 r1 r2 r3 : Bool) : ByteArray × Int × Int :=
 if b0 = false then (⟨#[98, 114, 111, 107, 101, 114]⟩, br, 2)
 else if b1 = false then (⟨#[101, 112, 111, 99, 104]⟩, ep, 2)
 else if b2 = false then (⟨#[116, 111, 112, 105, 99]⟩, tp, 2)
 else if b3 = false then (⟨#[112, 97, 114, 116]⟩, pa, 2)
 else if b4 = false then (⟨#[108, 101, 97, 100, 101, 114]⟩, le, 2)
 else if b5 = false ∨ b6 = false ∨ b7 = false then (⟨#[97, 115, 107, 101, 114]⟩, cl, 2)
 else if ff = true then (⟨#[102, 108, 97, 103]⟩, 1, 1)
 else if n0 = false ∨ n1 = false ∨ n2 = false then (⟨#[110, 97, 109, 101]⟩, nl, 1)
 else if vv = true then (⟨#[118, 97, 108, 117, 101]⟩, vl, 6)
 else if r0 = false ∨ r1 = false ∨ r2 = false ∨ r3 = false then (⟨#[114, 111, 119]⟩, il, 18)
 else (⟨#[]⟩, 0, 0)
theorem chk_kind {r : Rc} (h : ¬ (1 ≤ r.k ∧ r.k ≤ 12)) : chk r = (⟨#[107, 105, 110, 100]⟩, r.k, 5) := by
 unfold chk checkR
 rw [if_pos (by omega)]
theorem chk_eq {r : Rc} (h : 1 ≤ r.k ∧ r.k ≤ 12) : chk r = checkB r.br r.ep r.tp r.pa r.le r.cl r.nm.length r.va.length r.ids.length
  (numB r.br (hasL r.k 98) 1 64) (numB r.ep (hasL r.k 101) 0 1073741824) (numB r.tp (hasL r.k 116) (if r.k = 10 then 0 else 1) 1073741824) (numB r.pa (hasL r.k 112) 0 255) (numB r.le (hasL r.k 108) 0 64)
  (numB r.cl (hasL r.k 97) 1 1073741824) (numB r.se (hasL r.k 97) 1 1073741824) (numB r.co (hasL r.k 97) 0 21) (r.fl && !hasL r.k 102)
  (nameA r.nm (hasL r.k 110)) (nameA r.ky (hasL r.k 107)) (nameA r.rk (hasL r.k 114)) (decide (mostV (hasL r.k 118) r.fl < (r.va.length : Int)))
  (rowB r.ids (hasL r.k 105)) (rowB r.isr (hasL r.k 109)) (rowB r.ad (hasL r.k 120)) (rowB r.dr (hasL r.k 120)) := by
 unfold chk checkR
 rw [if_neg (by omega)]
 unfold numsR
 have hv : (256 < r.va.length ∨ (r.va.isEmpty = false ∧ (r.fl = true ∨ hasL r.k 118 = false))) ↔ decide (mostV (hasL r.k 118) r.fl < (r.va.length : Int)) = true := by
  rw [decide_eq_true_iff]
  unfold mostV
  have he : r.va.isEmpty = false ↔ 0 < r.va.length := by
   cases r.va <;> simp
  rw [he]
  by_cases q : r.fl = true ∨ hasL r.k 118 = false
  ·rw [if_pos q]
   constructor
   ·intro h; omega
   ·intro h; exact .inr ⟨by omega, q⟩
  ·rw [if_neg q]
   constructor
   ·rintro (h | h)
    ·omega
    ·exact absurd h.2 q
   ·intro h; exact .inl (by omega)
 have hf : (r.fl = true ∧ hasL r.k 102 = false) ↔ (r.fl && !hasL r.k 102) = true := by
  cases r.fl <;> cases hasL r.k 102 <;> simp
 simp only [hv, hf]
 generalize (r.fl && !hasL r.k 102) = ff
 generalize decide (mostV (hasL r.k 118) r.fl < (r.va.length : Int)) = vv
 generalize numB r.br (hasL r.k 98) 1 64 = b0
 generalize numB r.ep (hasL r.k 101) 0 1073741824 = b1
 generalize numB r.tp (hasL r.k 116) (if r.k = 10 then 0 else 1) 1073741824 = b2
 generalize numB r.pa (hasL r.k 112) 0 255 = b3
 generalize numB r.le (hasL r.k 108) 0 64 = b4
 generalize numB r.cl (hasL r.k 97) 1 1073741824 = b5
 generalize numB r.se (hasL r.k 97) 1 1073741824 = b6
 generalize numB r.co (hasL r.k 97) 0 21 = b7
 unfold checkB
 cases b0
 ·simp
 cases b1
 ·simp
 cases b2
 ·simp
 cases b3
 ·simp
 cases b4
 ·simp
 cases b5
 ·simp
 cases b6
 ·simp
 cases b7
 ·simp
 simp
end Go.Proofs.YtlggjgapdpkhiaaGreat
