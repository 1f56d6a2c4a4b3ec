/-
  WHAT A KIND IS ABOUT, BIT BY BIT, NAMES AND BROKERS (record.subjects, has, within, Name, Brokers, named, listed, leastTopic, mostValue): as functions of numbers, letters and lists. Conditions: no more than a thousand letters; the brokers' cells hold them.
  BROKERS (slices.Index, slices.Contains, record.Brokers, named, listed): as functions of lists. Conditions: no more than a thousand letters; the brokers' cells hold them.
  WHAT A READER READS NEXT (castellanlaw02.got), out of what its calls tell. Conditions: the bytes' cells hold them, they lie off the reader, no more than ten thousand.
  WHATEVER IS ASKED OF A READER: what it tells, one function 'askS' of the bytes, where nothing was wrong; nothing, where something was. Conditions: the bytes' cells hold them, they lie off the reader, no more than a hundred thousand.
  A READER's NEXT ROW LIES IN NEW MEMORY; what is asked of a reader, told so. Conditions: the bytes' cells hold them, they lie off the reader, no more than a hundred thousand.
-/
import Derived.Test.YtjjpfajbljbelaaGreatDoorJKRecChka2
import Derived.Test.YtjjpfajbljbelaaGreatDoorJKWrowa5
import Derived.Laws.IdiomStrings
namespace Go.Proofs.YtjjpfajbljbelaaGreatDoor
open Go.RowKit
set_option maxRecDepth 100000
set_option maxHeartbeats 4000000
def sbj (k : Int) : Int :=
 if k = 2 then 4099 else if k = 3 ∨ k = 4 ∨ k = 5 ∨ k = 6 then 3 else if k = 7 then 516 else if k = 8 then 24604 else if k = 9 then 122910 else if k = 10 then 3332 else if k = 11 then 4 else if k = 12 then 224 else 0
def knd (k : Int) : Bool := decide (1 ≤ k ∧ k ≤ 12)
def bitB (a o : Int) : Bool := (bits .and .u32 a o != 0)
theorem sbj_none {k : Int} (h : ¬ (1 ≤ k ∧ k ≤ 12)) : sbj k = 0 := by
 unfold sbj
 rw [if_neg (by omega), if_neg (by omega), if_neg (by omega), if_neg (by omega), if_neg (by omega), if_neg (by omega), if_neg (by omega), if_neg (by omega)]
theorem kinds {k : Int} (h : 1 ≤ k ∧ k ≤ 12) : k = 1 ∨ k = 2 ∨ k = 3 ∨ k = 4 ∨ k = 5 ∨ k = 6 ∨ k = 7 ∨ k = 8 ∨ k = 9 ∨ k = 10 ∨ k = 11 ∨ k = 12 := by omega
theorem bit_has {k : Int} (h : 1 ≤ k ∧ k ≤ 12) : bitB (sbj k) 1 = hasL k 98 ∧ bitB (sbj k) 2 = hasL k 101 ∧ bitB (sbj k) 4 = hasL k 116 ∧ bitB (sbj k) 8 = hasL k 112 ∧ bitB (sbj k) 16 = hasL k 108 ∧ bitB (sbj k) 32 = hasL k 97 ∧ bitB (sbj k) 64 = hasL k 97 ∧ bitB (sbj k) 128 = hasL k 97 ∧ bitB (sbj k) 256 = hasL k 102 ∧ bitB (sbj k) 512 = hasL k 110 ∧ bitB (sbj k) 1024 = hasL k 107 ∧ bitB (sbj k) 2048 = hasL k 118 ∧ bitB (sbj k) 4096 = hasL k 114 ∧ bitB (sbj k) 8192 = hasL k 105 ∧ bitB (sbj k) 16384 = hasL k 109 ∧ bitB (sbj k) 32768 = hasL k 120 ∧ bitB (sbj k) 65536 = hasL k 120 := by
 rcases kinds h with rfl | rfl | rfl | rfl | rfl | rfl | rfl | rfl | rfl | rfl | rfl | rfl <;> exact ⟨by decide, by decide, by decide, by decide, by decide, by decide, by decide, by decide, by decide, by decide, by decide, by decide, by decide, by decide, by decide, by decide, by decide⟩
theorem subj_any (k : Int) (w : World) : Calls Tryz.prog 112 #[.int .i64 k] w fun e w' => e = .returned (.tuple #[.int .u32 (sbj k), .bool (knd k)]) ∧ w' = w := by
 by_cases hk : 1 ≤ k ∧ k ≤ 12
 ·rcases kinds hk with rfl | rfl | rfl | rfl | rfl | rfl | rfl | rfl | rfl | rfl | rfl | rfl
  all_goals
   go_enter Tryz.func112, Tryz.ntmps112
   go_wp2_with fail
   go_ret2
   exact ⟨rfl, rfl⟩
 ·rw [sbj_none hk, show knd k = false from decide_eq_false hk]
  have n1 : ¬ k = 1 := by omega
  have n2 : ¬ k = 2 := by omega
  have n3 : ¬ k = 3 := by omega
  have n4 : ¬ k = 4 := by omega
  have n5 : ¬ k = 5 := by omega
  have n6 : ¬ k = 6 := by omega
  have n7 : ¬ k = 7 := by omega
  have n8 : ¬ k = 8 := by omega
  have n9 : ¬ k = 9 := by omega
  have n10 : ¬ k = 10 := by omega
  have n11 : ¬ k = 11 := by omega
  have n12 : ¬ k = 12 := by omega
  clear hk
  go_enter Tryz.func112, Tryz.ntmps112
  go_wp2_with fail
  go_ret2
  exact ⟨rfl, rfl⟩
theorem bhas_any (a o : Int) (w : World) : Calls Tryz.prog 126 #[.int .u32 a, .int .u32 o] w fun e w' => e = .returned (.bool (bitB a o)) ∧ w' = w := by
 go_enter Tryz.func126, Tryz.ntmps126
 go_wp2_with fail
 go_ret
 exact ⟨rfl, rfl⟩
theorem within_any (a o n lo hi : Int) (w : World) : Calls Tryz.prog 130 #[.int .u32 a, .int .u32 o, .int .i64 n, .int .i64 lo, .int .i64 hi] w fun e w' => e = .returned (.bool (numB n (bitB a o) lo hi)) ∧ w' = w := by
 have HC := hide (bhas_any a o w)
 obtain ⟨R, hR⟩ : ∃ R, R = numB n (bitB a o) lo hi := ⟨_, rfl⟩
 rw [← hR]
 have HR := hide hR
 clear hR
 cases hb : bitB a o with
 | true =>
  rw [hb] at HC HR
  by_cases h1 : lo ≤ n
  ·by_cases h2 : n ≤ hi
   ·have HE : Hid (R = true) := hide (by rw [HR.out]; simp [numB, h1, h2])
    go_enter Tryz.func130, Tryz.ntmps130
    go_wp2_with (first | (go_at_call 126; refine HC.out.mono ?_; rintro e w' ⟨rfl, rfl⟩))
    go_ret
    exact ⟨by rw [HE.out]; rfl, rfl⟩
   ·have HE : Hid (R = decide (n ≤ hi)) := hide (by rw [HR.out]; simp [numB, h1])
    go_enter Tryz.func130, Tryz.ntmps130
    go_wp2_with (first | (go_at_call 126; refine HC.out.mono ?_; rintro e w' ⟨rfl, rfl⟩))
    go_ret
    exact ⟨by rw [HE.out]; rfl, rfl⟩
  ·have HE : Hid (R = false) := hide (by rw [HR.out]; simp [numB]; omega)
   go_enter Tryz.func130, Tryz.ntmps130
   go_wp2_with (first | (go_at_call 126; refine HC.out.mono ?_; rintro e w' ⟨rfl, rfl⟩))
   go_ret
   exact ⟨by rw [HE.out]; rfl, rfl⟩
 | false =>
  rw [hb] at HC HR
  have HE : Hid (R = (n == 0)) := hide (by rw [HR.out]; simp only [numB]; rfl)
  go_enter Tryz.func130, Tryz.ntmps130
  go_wp2_with (first | (go_at_call 126; refine HC.out.mono ?_; rintro e w' ⟨rfl, rfl⟩))
  go_ret
  exact ⟨by rw [HE.out]; rfl, rfl⟩
theorem least_any (k : Int) (w : World) : Calls Tryz.prog 131 #[.int .i64 k] w fun e w' => e = .returned (.int .i64 (if k = 10 then 0 else 1)) ∧ w' = w := by
 by_cases h : k = 10
 ·rw [if_pos h]
  go_enter Tryz.func131, Tryz.ntmps131
  go_wp2_with fail
  go_ret
  exact ⟨rfl, rfl⟩
 ·rw [if_neg h]
  go_enter Tryz.func131, Tryz.ntmps131
  go_wp2_with fail
  go_ret
  exact ⟨rfl, rfl⟩
def mostV (h fl : Bool) : Int := if fl = true ∨ h = false then 0 else 256
theorem most_any (a : Int) (fl : Bool) (w : World) : Calls Tryz.prog 134 #[.int .u32 a, .bool fl] w fun e w' => e = .returned (.int .i64 (mostV (bitB a 2048) fl)) ∧ w' = w := by
 have HC := hide (bhas_any a 2048 w)
 cases hb : bitB a 2048 <;> cases fl <;> rw [hb] at HC
 all_goals
  go_enter Tryz.func134, Tryz.ntmps134
  go_wp2_with (first | (go_at_call 126; refine HC.out.mono ?_; rintro e w' ⟨rfl, rfl⟩))
  go_ret
  exact ⟨rfl, rfl⟩
theorem foreign_any (x : UInt8) (w : World) : Calls Tryz.prog 148 #[.int .u8 (x.toNat : Int)] w fun e w' => e = .returned (.bool (!okc x)) ∧ w' = w := by
 obtain ⟨R, hR⟩ : ∃ R, R = okc x := ⟨_, rfl⟩
 rw [← hR]
 rcases okc_cases (x.toNat : Int) with ⟨a, b⟩ | ⟨a, b, c, d, e, f⟩ | ⟨a, b, c⟩ | ⟨a, b, c, e, f⟩ | ⟨a, b, e⟩ | ⟨a, b, e, f⟩ | ⟨a, b, e, f⟩
 ·have HE : Hid (R = true) := hide (by rw [hR]; simp [okc]; omega)
  clear hR
  generalize (x.toNat : Int) = n at *
  go_enter Tryz.func148, Tryz.ntmps148
  go_wp2_with fail
  go_ret
  exact ⟨by rw [HE.out]; rfl, rfl⟩
 ·have HE : Hid (R = false) := hide (by rw [hR]; simp [okc]; omega)
  clear hR
  generalize (x.toNat : Int) = n at *
  go_enter Tryz.func148, Tryz.ntmps148
  go_wp2_with fail
  go_ret
  exact ⟨by rw [HE.out]; rfl, rfl⟩
 ·have HE : Hid (R = true) := hide (by rw [hR]; simp [okc]; omega)
  clear hR
  generalize (x.toNat : Int) = n at *
  go_enter Tryz.func148, Tryz.ntmps148
  go_wp2_with fail
  go_ret
  exact ⟨by rw [HE.out]; rfl, rfl⟩
 ·have HE : Hid (R = false) := hide (by rw [hR]; simp [okc]; omega)
  clear hR
  generalize (x.toNat : Int) = n at *
  go_enter Tryz.func148, Tryz.ntmps148
  go_wp2_with fail
  go_ret
  exact ⟨by rw [HE.out]; rfl, rfl⟩
 ·have HE : Hid (R = true) := hide (by rw [hR]; simp [okc]; omega)
  clear hR
  generalize (x.toNat : Int) = n at *
  go_enter Tryz.func148, Tryz.ntmps148
  go_wp2_with fail
  go_ret
  exact ⟨by rw [HE.out]; rfl, rfl⟩
 ·have HE : Hid (R = true) := hide (by rw [hR]; simp [okc]; omega)
  clear hR
  generalize (x.toNat : Int) = n at *
  go_enter Tryz.func148, Tryz.ntmps148
  go_wp2_with fail
  go_ret
  exact ⟨by rw [HE.out]; rfl, rfl⟩
 ·have HE : Hid (R = false) := hide (by rw [hR]; simp [okc]; omega)
  clear hR
  generalize (x.toNat : Int) = n at *
  go_enter Tryz.func148, Tryz.ntmps148
  go_wp2_with fail
  go_ret
  exact ⟨by rw [HE.out]; rfl, rfl⟩
def uc (x : UInt8) : Value := .int .u8 (x.toNat : Int)
theorem bytes_of (S : List UInt8) (w : World) : ∃ cap w1, (convert 9 22 (.string ⟨S.toArray⟩)).run Tryz.prog w = .ok (.slice (some ⟨w.heap.size, 0, none⟩) S.length cap) w1 ∧ (∀ i (h : i < S.length), w1.cell? ⟨w.heap.size, 0 + i, none⟩ = some (uc S[i])) ∧ Below w.heap.size w w1 ∧ w1.heap.size = w.heap.size + 1 ∧ S.length ≤ cap := by
 have h := run_bytes_of_string (P := Tryz.prog) w 9 22 5 ⟨S.toArray⟩ Tryz.underlying9 Tryz.underlying22 Tryz.underlying5
 have hz : (⟨S.toArray⟩ : ByteArray).size = S.length := by simp [ByteArray.size]
 rw [hz] at h
 refine ⟨_, _, h, fun i hi => ?_, ?_, ?_, ?_⟩
 ·have hi' : i < (⟨S.toArray⟩ : ByteArray).data.size := by simpa using hi
  have := bytesRow_at ⟨S.toArray⟩ (grownCap w S.length 0 5) i hi'
  rw [Nat.zero_add]
  have h2 := World.cell?_alloc_mark w.drew (bytesRow ⟨S.toArray⟩ (grownCap w S.length 0 5)) 5 ((bytesRow ⟨S.toArray⟩ (grownCap w S.length 0 5)).size, (bytesRow ⟨S.toArray⟩ (grownCap w S.length 0 5)).size + 1) i
  refine (h2.trans this).trans ?_
  simp [uc]
 ·exact (Below.refl _ _).drew.alloc (Nat.le_refl _) _
 ·simp
 ·exact Nat.le_trans (Nat.le_refl _) (grownCap_ge w S.length 0 5)
def alc (S : List UInt8) : Bool := S.all okc
theorem idxf_some (b o cap : Nat) (S : List UInt8) (w : World) (hl : S.length ≤ 1000) (h3 : ∀ i (h : i < S.length), w.cell? ⟨b, o + i, none⟩ = some (uc S[i])) :
  Calls Tryz.prog 150 #[.slice (some ⟨b, o, none⟩) S.length cap, .func (.func 148) #[] #[]] w fun e w' => (∃ n : Int, e = .returned (.int .i64 n) ∧ ((alc S = false ∧ 0 ≤ n) ∨ (alc S = true ∧ n = -1))) ∧ w' = w := by
 have H3 := hide h3
 clear h3
 go_enter Tryz.func150, Tryz.ntmps150
 go_wp2
 go_loop [8] (fun i => ∃ k : Nat, k ≤ S.length ∧ i = .int .i64 (k : Int) ∧ Hid ((S.take k).all okc = true)) (fun i => S.length - (intOf i).toNat)
 case atStart => exact ⟨0, Nat.zero_le _, rfl, hide rfl⟩
 case round =>
  obtain ⟨k, hk, rfl, HN⟩ := hrel
  by_cases hlt : k < S.length
  ·have hltI : (k : Int) < (S.length : Int) := by omega
   have hc := H3.out k hlt
   unfold uc at hc
   have HF := hide (foreign_any S[k] w)
   have HSN := hide (fun hn => all_snoc hlt HN.out hn)
   have HNO := hide (fun hn => (all_no hlt hn : alc S = false))
   generalize S[k] = x at *
   cases hx : okc x with
   | true =>
    rw [hx] at HF
    have HX := hide hx
    clear hx
    go_wp2_with (first | (go_at_call 148; refine HF.out.mono ?_; rintro e w' ⟨rfl, rfl⟩))
    go_round
    case rel => exact ⟨k + 1, by omega, by go_num, hide (HSN.out HX.out)⟩
    case measure => simp [intOf]; omega
   | false =>
    rw [hx] at HF
    have HX := hide hx
    clear hx
    go_wp2_with (first | (go_at_call 148; refine HF.out.mono ?_; rintro e w' ⟨rfl, rfl⟩))
    go_ret
    exact ⟨⟨_, rfl, .inl ⟨HNO.out HX.out, by omega⟩⟩, rfl⟩
  ·obtain rfl : k = S.length := by omega
   have HA : Hid (alc S = true) := hide (by have := HN.out; rw [List.take_length] at this; exact this)
   clear hlt
   go_wp2_with fail
   go_ret
   exact ⟨⟨_, rfl, .inr ⟨HA.out, rfl⟩⟩, rfl⟩
theorem ctnf_some (b o cap : Nat) (S : List UInt8) (w : World) (hl : S.length ≤ 1000) (h3 : ∀ i (h : i < S.length), w.cell? ⟨b, o + i, none⟩ = some (uc S[i])) :
  Calls Tryz.prog 147 #[.slice (some ⟨b, o, none⟩) S.length cap, .func (.func 148) #[] #[]] w fun e w' => e = .returned (.bool (!alc S)) ∧ w' = w := by
 have HC := hide (idxf_some b o cap S w hl h3)
 clear h3
 go_enter Tryz.func147, Tryz.ntmps147
 go_wp2_with fail
 refine (HC.out).mono ?_
 rintro e w' ⟨⟨n, rfl, ⟨hy, hn⟩ | ⟨hy, rfl⟩⟩, rfl⟩
 ·have HY := hide hy
  clear hy
  go_wp2
  go_ret
  exact ⟨by rw [HY.out]; rfl, rfl⟩
 ·have HY := hide hy
  clear hy
  go_wp2
  go_ret
  exact ⟨by rw [HY.out]; rfl, rfl⟩
theorem cname_any (S : List UInt8) (w : World) (hS : S.length ≤ 1000) : Calls Tryz.prog 145 #[.string ⟨S.toArray⟩] w fun e w' => e = .returned (.bool (nameB S)) ∧ Below w.heap.size w w' := by
 have hdot : (⟨S.toArray⟩ : ByteArray).toList = S := by simp
 obtain ⟨R, hR⟩ : ∃ R, R = nameB S := ⟨_, rfl⟩
 rw [← hR]
 have HR := hide hR
 clear hR
 by_cases h1 : S.length < 1
 ·have HE : Hid (R = false) := hide (by rw [HR.out]; simp [nameB]; omega)
  have h1' : (S.length : Int) < 1 := by omega
  go_enter Tryz.func145, Tryz.ntmps145
  go_wp2_with fail
  go_ret
  exact ⟨by rw [HE.out]; rfl, Below.refl _ _⟩
 have h1' : ¬ (S.length : Int) < 1 := by omega
 by_cases h2 : 40 < S.length
 ·have HE : Hid (R = false) := hide (by rw [HR.out]; simp [nameB]; omega)
  have h2' : (40 : Int) < (S.length : Int) := by omega
  go_enter Tryz.func145, Tryz.ntmps145
  go_wp2_with fail
  go_ret
  exact ⟨by rw [HE.out]; rfl, Below.refl _ _⟩
 have h2' : ¬ (40 : Int) < (S.length : Int) := by omega
 by_cases h3 : S = [46]
 ·have HE : Hid (R = false) := hide (by rw [HR.out]; simp [nameB, h3])
  subst h3
  go_enter Tryz.func145, Tryz.ntmps145
  go_wp2_with fail
  go_ret
  exact ⟨by rw [HE.out]; rfl, Below.refl _ _⟩
 by_cases h4 : S = [46, 46]
 ·have HE : Hid (R = false) := hide (by rw [HR.out]; simp [nameB, h4])
  subst h4
  go_enter Tryz.func145, Tryz.ntmps145
  go_wp2_with fail
  go_ret
  exact ⟨by rw [HE.out]; rfl, Below.refl _ _⟩
 have h3' : (S == [46]) = false := by simpa using h3
 have h4' : (S == [46, 46]) = false := by simpa using h4
 have HE : Hid (R = alc S) := hide (by rw [HR.out]; unfold nameB alc; simp [h3, h4]; omega)
 obtain ⟨cap, w1, hcv, hcell, hbl, _⟩ := bytes_of S w
 have HC := hide hcell
 have HB := hide hbl
 clear hcell hbl
 go_enter Tryz.func145, Tryz.ntmps145
 go_wp2_with fail
 refine (ctnf_some _ _ _ S _ hS HC.out).mono ?_
 rintro e w2 ⟨rfl, rfl⟩
 go_wp2_with fail
 go_ret
 exact ⟨by rw [HE.out]; simp, HB.out⟩
def inB (l : List Int) (j : Nat) (x : Int) : Bool := (List.range j).any fun k => decide (l.getD k 0 = x)
theorem in_yes {l : List Int} {j k : Nat} {x : Int} (hk : k < j) (h : x = l.getD k 0) : inB l j x = true := by
 unfold inB
 rw [List.any_eq_true]
 exact ⟨k, List.mem_range.2 hk, decide_eq_true h.symm⟩
theorem in_no {l : List Int} {j : Nat} {x : Int} (h : ∀ k, k < j → ¬ l.getD k 0 = x) : inB l j x = false := by
 unfold inB
 rw [List.any_eq_false]
 intro k hk
 simpa using h k (List.mem_range.1 hk)
theorem in_okJ {l : List Int} {j : Nat} (h : 1 ≤ l.getD j 0 ∧ l.getD j 0 ≤ 64) : okJ l j = !inB l j (l.getD j 0) := by
 cases hi : inB l j (l.getD j 0) with
 | true =>
  unfold inB at hi
  rw [List.any_eq_true] at hi
  obtain ⟨k, hk, e⟩ := hi
  exact okJ_twice (List.mem_range.1 hk) (of_decide_eq_true e)
 | false =>
  unfold inB at hi
  rw [List.any_eq_false] at hi
  exact okJ_yes h (fun k hk e => hi k (List.mem_range.2 hk) (decide_eq_true e))
theorem idxi_some (b o cap : Nat) (l : List Int) (j : Nat) (x : Int) (w : World) (hj : j ≤ l.length) (hl : l.length ≤ 7) (h3 : ∀ i, i < l.length → w.cell? ⟨b, o + i, none⟩ = some (.int .i64 (l.getD i 0))) :
  Calls Tryz.prog 151 #[.slice (some ⟨b, o, none⟩) j cap, .int .i64 x] w fun e w' => (∃ n : Int, e = .returned (.int .i64 n) ∧ ((inB l j x = true ∧ 0 ≤ n) ∨ (inB l j x = false ∧ n = -1))) ∧ w' = w := by
 have H3 := hide h3
 clear h3
 go_enter Tryz.func151, Tryz.ntmps151
 go_wp2
 go_loop [8] (fun i => ∃ k : Nat, k ≤ j ∧ i = .int .i64 (k : Int) ∧ Hid (∀ m, m < k → ¬ l.getD m 0 = x)) (fun i => j - (intOf i).toNat)
 case atStart => exact ⟨0, Nat.zero_le _, rfl, hide (fun m hm => absurd hm (Nat.not_lt_zero _))⟩
 case round =>
  obtain ⟨k, hk, rfl, HN⟩ := hrel
  by_cases hlt : k < j
  ·have hltI : (k : Int) < (j : Int) := by omega
   have hc := H3.out k (by omega)
   obtain ⟨y, hy⟩ : ∃ y, y = l.getD k 0 := ⟨_, rfl⟩
   rw [← hy] at hc
   have HY := hide hy
   clear hy
   by_cases he : x = y
   ·have HI := hide (in_yes (x := x) hlt (he.trans HY.out))
    go_wp2_with fail
    go_ret
    exact ⟨⟨_, rfl, .inl ⟨he ▸ HI.out, by omega⟩⟩, rfl⟩
   ·go_wp2_with fail
    go_round
    case rel => exact ⟨k + 1, by omega, by go_num, hide (fun m hm => by by_cases e : m = k; (subst e; rw [← HY.out]; exact fun q => he q.symm); exact HN.out m (by omega))⟩
    case measure => simp [intOf]; omega
  ·obtain rfl : k = j := by omega
   clear hlt
   go_wp2_with fail
   go_ret
   exact ⟨⟨_, rfl, .inr ⟨in_no HN.out, rfl⟩⟩, rfl⟩
theorem ctni_some (b o cap : Nat) (l : List Int) (j : Nat) (x : Int) (w : World) (hj : j ≤ l.length) (hl : l.length ≤ 7) (h3 : ∀ i, i < l.length → w.cell? ⟨b, o + i, none⟩ = some (.int .i64 (l.getD i 0))) :
  Calls Tryz.prog 149 #[.slice (some ⟨b, o, none⟩) j cap, .int .i64 x] w fun e w' => e = .returned (.bool (inB l j x)) ∧ w' = w := by
 have HC := hide (idxi_some b o cap l j x w hj hl h3)
 clear h3
 go_enter Tryz.func149, Tryz.ntmps149
 go_wp2_with fail
 refine (HC.out).mono ?_
 rintro e w' ⟨⟨n, rfl, ⟨hy, hn⟩ | ⟨hy, rfl⟩⟩, rfl⟩
 ·have HY := hide hy
  clear hy
  go_wp2
  go_ret
  exact ⟨by rw [HY.out]; rfl, rfl⟩
 ·have HY := hide hy
  clear hy
  go_wp2
  go_ret
  exact ⟨by rw [HY.out]; rfl, rfl⟩
theorem cbrok_some (b o cap : Nat) (l : List Int) (w : World) (hcap : l.length ≤ cap) (h3 : ∀ i (h : i < l.length), w.cell? ⟨b, o + i, none⟩ = some (ic l[i])) :
  Calls Tryz.prog 146 #[.slice (some ⟨b, o, none⟩) l.length cap] w fun e w' => e = .returned (.bool (brokB l)) ∧ w' = w := by
 obtain ⟨R, hR⟩ : ∃ R, R = brokB l := ⟨_, rfl⟩
 rw [← hR]
 have HR := hide hR
 clear hR
 by_cases h7 : 7 < l.length
 ·have HE : Hid (R = false) := hide (by rw [HR.out]; unfold brokB; rw [decide_eq_false (by omega), Bool.false_and])
  have h7' : (7 : Int) < (l.length : Int) := by omega
  clear h3
  go_enter Tryz.func146, Tryz.ntmps146
  go_wp2_with fail
  go_ret
  exact ⟨by rw [HE.out]; rfl, rfl⟩
 have h7' : ¬ (7 : Int) < (l.length : Int) := by omega
 have H3 : Hid (∀ i, i < l.length → w.cell? ⟨b, o + i, none⟩ = some (.int .i64 (l.getD i 0))) := hide (fun i hi => by
  rw [h3 i hi]
  simp [List.getD, hi, ic])
 clear h3
 go_enter Tryz.func146, Tryz.ntmps146
 go_wp2_with fail
 go_loop [10] (fun i => ∃ j : Nat, j ≤ l.length ∧ i = .int .i64 (j : Int) ∧ Hid (∀ m, m < j → okJ l m = true)) (fun i => l.length - (intOf i).toNat)
 case atStart => exact ⟨0, Nat.zero_le _, rfl, hide (fun m hm => absurd hm (Nat.not_lt_zero _))⟩
 case round =>
  obtain ⟨j, hj, rfl, HN⟩ := hrel
  by_cases hlt : j < l.length
  ·have hltI : (j : Int) < (l.length : Int) := by omega
   have cj := H3.out j hlt
   have hjc : j ≤ cap := by omega
   by_cases hlo : l.getD j 0 < 1 ∨ (¬ l.getD j 0 < 1 ∧ 64 < l.getD j 0)
   ·have HE : Hid (R = false) := hide (by rw [HR.out]; exact brokB_no hlt (okJ_no (by omega)))
    generalize l.getD j 0 = x at *
    rcases hlo with h1 | ⟨h1, h2⟩
    all_goals
     go_wp2_with fail
     go_ret
     exact ⟨by rw [HE.out]; rfl, rfl⟩
   ·have h1 : ¬ l.getD j 0 < 1 := by omega
    have h2 : ¬ 64 < l.getD j 0 := by omega
    clear hlo
    have HCT := hide (ctni_some b o cap l j (l.getD j 0) w hj (by omega) H3.out)
    have HJ := hide (in_okJ (l := l) (j := j) ⟨by omega, by omega⟩)
    generalize hx : l.getD j 0 = x at *
    generalize inB l j x = t at *
    have HX := hide hx
    clear hx
    cases t with
    | true =>
     have HE : Hid (R = false) := hide (by rw [HR.out]; exact brokB_no hlt HJ.out)
     go_wp2_with (first | (go_at_call 149; refine HCT.out.mono ?_; rintro e w' ⟨rfl, rfl⟩))
     go_ret
     exact ⟨by rw [HE.out]; rfl, rfl⟩
    | false =>
     go_wp2_with (first | (go_at_call 149; refine HCT.out.mono ?_; rintro e w' ⟨rfl, rfl⟩))
     go_round
     case rel => exact ⟨j + 1, by omega, by go_num, hide (fun m hm => by by_cases e : m = j; (subst e; exact HJ.out); exact HN.out m (by omega))⟩
     case measure => simp [intOf]; omega
  ·obtain rfl : j = l.length := by omega
   have HE : Hid (R = true) := hide (by rw [HR.out]; exact brokB_yes (by omega) HN.out)
   clear hlt
   go_wp2_with fail
   go_ret
   exact ⟨by rw [HE.out]; rfl, rfl⟩
theorem cbrok_none (ao : Option Addr) (cap : Nat) (w : World) : Calls Tryz.prog 146 #[.slice ao 0 cap] w fun e w' => e = .returned (.bool (brokB [])) ∧ w' = w := by
 go_enter Tryz.func146, Tryz.ntmps146
 go_wp2_with fail
 refine wp_loop_rounds 1 ?_
 rw [rounds_succ]
 go_wp2_with fail
 go_ret
 exact ⟨rfl, rfl⟩
theorem cbrok_any (v : Value) (l : List Int) (w : World) (hv : Sl ic w v l) : Calls Tryz.prog 146 #[v] w fun e w' => e = .returned (.bool (brokB l)) ∧ w' = w := by
 rcases hv with ⟨ao, cap, rfl, rfl⟩ | ⟨b, o, cap, rfl, hc, h3⟩
 ·exact cbrok_none ao cap w
 ·exact cbrok_some b o cap l w hc h3
theorem listed_any (a o : Int) (v : Value) (l : List Int) (w : World) (hv : Sl ic w v l) : Calls Tryz.prog 135 #[.int .u32 a, .int .u32 o, v] w fun e w' => e = .returned (.bool (rowB l (bitB a o))) ∧ w' = w := by
 have HC := hide (bhas_any a o w)
 have HB := hide (cbrok_any v l w hv)
 obtain ⟨R, hR⟩ : ∃ R, R = rowB l (bitB a o) := ⟨_, rfl⟩
 rw [← hR]
 have HR := hide hR
 obtain ⟨ao, cap, rfl⟩ := hv.form
 clear hR hv
 cases hb : bitB a o with
 | true =>
  rw [hb] at HC HR
  have HE : Hid (R = brokB l) := hide HR.out
  go_enter Tryz.func135, Tryz.ntmps135
  go_wp2_with (first | (go_at_call 126; refine HC.out.mono ?_; rintro e w' ⟨rfl, rfl⟩) | (go_at_call 146; refine HB.out.mono ?_; rintro e w' ⟨rfl, rfl⟩))
  go_ret
  exact ⟨by rw [HE.out]; rfl, rfl⟩
 | false =>
  rw [hb] at HC HR
  have HE : Hid (R = ((l.length : Int) == 0)) := hide HR.out
  go_enter Tryz.func135, Tryz.ntmps135
  go_wp2_with (first | (go_at_call 126; refine HC.out.mono ?_; rintro e w' ⟨rfl, rfl⟩))
  go_ret
  exact ⟨by rw [HE.out]; rfl, rfl⟩
theorem named_any (a o : Int) (S : List UInt8) (w : World) (hS : S.length ≤ 1000) : Calls Tryz.prog 133 #[.int .u32 a, .int .u32 o, .string ⟨S.toArray⟩] w fun e w' => e = .returned (.bool (nameA S (bitB a o))) ∧ Below w.heap.size w w' := by
 have HC := hide (bhas_any a o w)
 have HB := hide (cname_any S w hS)
 have hdot : (⟨S.toArray⟩ : ByteArray).toList = S := by simp
 obtain ⟨R, hR⟩ : ∃ R, R = nameA S (bitB a o) := ⟨_, rfl⟩
 rw [← hR]
 have HR := hide hR
 clear hR
 cases hb : bitB a o with
 | true =>
  rw [hb] at HC HR
  have HE : Hid (R = nameB S) := hide HR.out
  go_enter Tryz.func133, Tryz.ntmps133
  go_wp2_with (first | (go_at_call 126; refine HC.out.mono ?_; rintro e w' ⟨rfl, rfl⟩) | (go_at_call 145; refine HB.out.mono ?_; rintro e w' ⟨rfl, hbl⟩))
  go_ret
  exact ⟨by rw [HE.out]; rfl, hbl⟩
 | false =>
  rw [hb] at HC HR
  have HE : Hid (R = S.isEmpty) := hide HR.out
  go_enter Tryz.func133, Tryz.ntmps133
  go_wp2_with (first | (go_at_call 126; refine HC.out.mono ?_; rintro e w' ⟨rfl, rfl⟩))
  go_ret
  exact ⟨by rw [HE.out]; rfl, Below.refl _ _⟩
theorem Sl.off {α : Type} {f : α → Value} {q : Nat} {W : World} {v : Value} {l : List α} (h : Sl f W v l) (hq : ∀ i x, W.cell? ⟨q, i, none⟩ ≠ some (f x)) : Slx q f W v l := by
 rcases h with h | ⟨b, o, cap, h1, h2, h3⟩
 ·exact .inl h
 ·by_cases hb : b = q
  ·subst hb
   by_cases hl : 0 < l.length
   ·exact absurd (h3 0 hl) (hq _ _)
   ·exact .inl ⟨_, _, List.length_eq_zero_iff.1 (by omega), by rw [h1, show l.length = 0 by omega]⟩
  ·exact .inr ⟨b, o, cap, h1, h2, hb, h3⟩
structure Gz (W : World) (q : Nat) : Prop where
 c0 : W.cell? ⟨q, 0, none⟩ = some (.int .u64 0)
 c1 : W.cell? ⟨q, 1, none⟩ = some (.bool false)
 c2 : W.cell? ⟨q, 2, none⟩ = some (.slice none 0 0)
 c3 : W.cell? ⟨q, 3, none⟩ = some (.slice none 0 0)
 c4 : ∀ i, 4 ≤ i → W.cell? ⟨q, i, none⟩ = none
 fz : ∀ i, W.frozen? ⟨q, i, none⟩ = false
theorem Gz.bx {p q : Nat} {W W' : World} (h : Gz W q) (hb : Bx p W W') (hq : q < W.heap.size) (hp : q ≠ p) : Gz W' q :=
 ⟨(hb.cell hq hp).trans h.c0, (hb.cell hq hp).trans h.c1, (hb.cell hq hp).trans h.c2, (hb.cell hq hp).trans h.c3, fun i hi => (hb.cell hq hp).trans (h.c4 i hi), fun i => (hb.frozen hq hp).trans (h.fz i)⟩
theorem Gz.made (w : World) (o : Obj) : Gz ((w.alloc o).alloc (.cells #[.int .u64 0, .bool false, .slice none 0 0, .slice none 0 0] 110)) (w.heap.size + 1) :=
 ⟨by simp, by simp, by simp, by simp, fun i hi => by rw [World.cell?_alloc_at _ _ _ _ (by simp)]; simp; omega, fun i => World.frozen?_alloc_at _ _ _ _ (by simp)⟩
structure Gt where
 c : Int
 op : ByteArray
 wh : Nat
 next : Nat
 n : Int
 f : Bool
 t : List Int
 r : List Int
def askS (l : List Int) (a : Nat) (K M E : Int) : Gt :=
 if K = 0 ∨ K = 1 then ⟨(numS (l.drop a) (abv' M)).1, ⟨#[110, 117, 109]⟩, a, a + (numS (l.drop a) (abv' M)).2.1, (numS (l.drop a) (abv' M)).2.2, false, [], []⟩
 else if K = 2 then ⟨(flagS (l.drop a)).1, ⟨#[102, 108, 97, 103]⟩, a, a + (flagS (l.drop a)).2.1, 0, (flagS (l.drop a)).2.2, [], []⟩
 else if K = 3 then ⟨(textS l a M).1, (textS l a M).2.1, a, (textS l a M).2.2.1, 0, false, (textS l a M).2.2.2, []⟩
 else ⟨(rowS l a M E).1, ⟨#[110, 117, 109]⟩, (rowS l a M E).2.1, (rowS l a M E).2.1, 0, false, [], rowR (rowS l a M E)⟩
theorem numS_next {r : List Int} {most : Int} (hb : Byt r) : (numS r most).2.1 ≤ r.length := by
 rcases hq : numS r most with ⟨c, k, x⟩
 by_cases hc : c = 0
 ·subst hc
  obtain ⟨_, _, _, _, _, h⟩ := numS_once hb hq
  exact h
 ·obtain ⟨rfl, rfl⟩ := numS_bad hq hc
  exact Nat.zero_le _
theorem Byt.drop {l : List Int} (h : Byt l) (a : Nat) : Byt (l.drop a) := fun x hx => h x (List.mem_of_mem_drop hx)
theorem rowI_next {l : List Int} {most : Int} (hb : Byt l) {a : Nat} (ha : a ≤ l.length) (j : Nat) : (rowI l most a j).2.1 ≤ l.length := by
 induction j with
 | zero => exact ha
 | succ j ih =>
  by_cases h : (rowI l most a j).1 = 0
  ·rcases hq : numS (l.drop (rowI l most a j).2.1) most with ⟨c, k, x⟩
   by_cases hc : c = 0
   ·subst hc
    rw [rowI_ok h hq]
    have := numS_next (most := most) (hb.drop (rowI l most a j).2.1)
    rw [hq, List.length_drop] at this
    show (rowI l most a j).2.1 + k ≤ l.length
    simp only at this
    omega
   ·rw [rowI_bad h hq hc]
    exact ih
  ·rw [rowI_stays h 1]
   exact ih
theorem askS_next (l : List Int) (a : Nat) (K M E : Int) (hb : Byt l) (ha : a ≤ l.length) : (askS l a K M E).next ≤ l.length := by
 have h1 := numS_next (most := abv' M) (hb.drop a)
 rw [List.length_drop] at h1
 unfold askS
 split
 ·show a + _ ≤ _
  omega
 ·split
  ·show a + _ ≤ _
   unfold flagS
   split
   ·show a + 0 ≤ _
    omega
   ·rename_i x r hr
    have : (l.drop a).length = r.length + 1 := by rw [hr]; rfl
    rw [List.length_drop] at this
    split
    ·show a + 0 ≤ _
     omega
    ·show a + 1 ≤ _
     omega
  ·split
   ·show (textS l a M).2.2.1 ≤ _
    unfold textS
    have hr := numS_range (l.drop a) (abv' M) (hb.drop a)
    generalize numS (l.drop a) (abv' M) = q at *
    obtain ⟨c, k, x⟩ := q
    simp only at h1 hr ⊢
    split
    ·split
     ·exact ha
     ·show a + k + x.toNat ≤ _
      omega
    ·exact ha
   ·show (rowS l a M E).2.1 ≤ _
    unfold rowS
    simp only
    split
    ·exact rowI_next hb (by omega) _
    ·exact ha
theorem rnum_keep (p : Nat) (v : Value) (a most : Int) (t : TypeId) (u : Value) (w : World) (hr : Rd w p v a (.iface t u)) :
  Calls Tryz.prog 79 #[.pointer (some ⟨p, 0, none⟩), .int .u64 most] w fun x w' => x = .returned (.int .u64 0) ∧ Rd w' p v a (.iface t u) ∧ Bx p w w' := by
 refine (rnum_err p v a most t u w hr).mono ?_
 rintro e w' ⟨rfl, rfl⟩
 exact ⟨rfl, hr, Bx.refl _ _⟩
theorem rint_keep (p : Nat) (v : Value) (a m : Int) (t : TypeId) (u : Value) (w : World) (hm : m ≤ 9223372036854775807) (hr : Rd w p v a (.iface t u)) :
  Calls Tryz.prog 50 #[.pointer (some ⟨p, 0, none⟩), .int .i64 m] w fun x w' => x = .returned (.int .i64 0) ∧ Rd w' p v a (.iface t u) ∧ Bx p w w' :=
 rint_of p m (abv' m) 0 w hm rfl ⟨by omega, by omega⟩ (hide (rnum_keep p v a (abv' m) t u w hr))
def Sa (W : World) (v : Value) (l : List (Int × Int × Int)) : Prop :=
 (∃ ao cap, l = [] ∧ v = .slice ao 0 cap) ∨
 (∃ b o cap, v = .slice (some ⟨b, o, none⟩) l.length cap ∧ l.length ≤ cap ∧ ∀ i (h : i < l.length), W.cell? ⟨b, o + i * 3, none⟩ = some (.int .i64 l[i].1) ∧ W.cell? ⟨b, o + i * 3 + 1, none⟩ = some (.int .i64 l[i].2.1) ∧ W.cell? ⟨b, o + i * 3 + 2, none⟩ = some (.int .i64 l[i].2.2))
theorem Sa.below {w w' : World} {v : Value} {l : List (Int × Int × Int)} (h : Sa w v l) (hb : Below w.heap.size w w') : Sa w' v l := by
 rcases h with h | ⟨b, o, cap, h1, h2, h3⟩
 ·exact .inl h
 ·refine .inr ⟨b, o, cap, h1, h2, fun i hi => ?_⟩
  obtain ⟨a1, a2, a3⟩ := h3 i hi
  exact ⟨(hb.cell (p := ⟨b, o + i * 3, none⟩) (cell_block a1)).trans a1, (hb.cell (p := ⟨b, o + i * 3 + 1, none⟩) (cell_block a2)).trans a2, (hb.cell (p := ⟨b, o + i * 3 + 2, none⟩) (cell_block a3)).trans a3⟩
theorem Sa.get {W : World} {v : Value} {l : List (Int × Int × Int)} (h : Sa W v l) : ∃ ao cap, v = .slice ao l.length cap ∧ ∀ i (h : i < l.length), ∃ b o, ao = some ⟨b, o, none⟩ ∧ b < W.heap.size ∧ W.cell? ⟨b, o + i * 3, none⟩ = some (.int .i64 l[i].1) ∧ W.cell? ⟨b, o + i * 3 + 1, none⟩ = some (.int .i64 l[i].2.1) ∧ W.cell? ⟨b, o + i * 3 + 2, none⟩ = some (.int .i64 l[i].2.2) := by
 rcases h with ⟨ao, cap, rfl, rfl⟩ | ⟨b, o, cap, rfl, h2, h3⟩
 ·exact ⟨ao, cap, rfl, fun i hi => by simp at hi⟩
 ·exact ⟨_, cap, rfl, fun i hi => ⟨b, o, rfl, cell_block (h3 i hi).1, h3 i hi⟩⟩
set_option maxRecDepth 100000 in
set_option maxHeartbeats 4000000 in
theorem rrow_somed (p : Nat) (v : Value) (l : List Int) (ao : Option Addr) (cap A N M : Nat) (m m2 : Int) (w : World) (hV : v = .slice ao l.length cap) (hv : Slx p bc w v l) (hby : Byt l) (hp : p < w.heap.size) (hm2 : m2 ≤ 9223372036854775807) (hN : N ≤ 9223372036854775807) (hL : l.length ≤ 100000) (hA : A ≤ l.length) (hM : M ≤ 100000) (hK : (if (l.length : Int) - (A : Int) < (N : Int) then (l.length : Int) - (A : Int) else (N : Int)) = (M : Int))
  (HC : Hid (Calls Tryz.prog 50 #[.pointer (some ⟨p, 0, none⟩), .int .i64 m] w fun x w' => x = .returned (.int .i64 (N : Int)) ∧ Rd w' p v A .nilIface ∧ Bx p w w')) :
  Calls Tryz.prog 137 #[.pointer (some ⟨p, 0, none⟩), .int .i64 m, .int .i64 m2] w fun x w' => ∃ v', x = .returned v' ∧ Sld 0 w.heap.size ic w' v' (rowR (rowI l (abv' m2) A N)) ∧ Rd w' p v (rowI l (abv' m2) A N).2.1 (erN ⟨#[110, 117, 109]⟩ (rowI l (abv' m2) A N).2.1 (rowI l (abv' m2) A N).1) ∧ Bx p w w' := by
 obtain ⟨i0, hi, hz0, hz1, hz2⟩ := info_parts infoI
 have hmk := makeInts M hM
 have HV := hide hv
 have HY := hide hby
 clear hv hby
 subst hV
 go_enter Tryz.func137, Tryz.ntmps137
 go_wp2_with (first | (go_at_call 50; refine (HC.out).mono ?_; rintro e w1 ⟨rfl, hr1, hb1⟩; obtain ⟨d0, d1, d2, fz1⟩ := id hr1; have HR1 := hide hr1; have HB1 := hide hb1; clear hr1 hb1 fz1))
 go_region
 go_wp2_with fail
 go_loopw [8, 27] (fun u i wr => ∃ j : Nat, j ≤ N ∧ i = .int .i64 j ∧ (rowI l (abv' m2) A j).1 = 0 ∧ wr.ownsRow w.heap.size 3 1 u (rowI l (abv' m2) A j).2.2.length ((rowI l (abv' m2) A j).2.2.map ic) ∧ Rd wr p (.slice ao l.length cap) (rowI l (abv' m2) A j).2.1 .nilIface ∧ Bx p w wr ∧ w.heap.size ≤ wr.heap.size ∧ (rowI l (abv' m2) A j).2.1 ≤ l.length ∧ (rowI l (abv' m2) A j).2.2.length + A ≤ (rowI l (abv' m2) A j).2.1) (fun _ i _ => N - (intOf i).toNat)
 case atStart =>
  have hs := HB1.out.size
  refine ⟨0, Nat.zero_le _, rfl, rfl, ?_, (HR1.out.drewN 1).alloc _, ((HB1.out.drewN 1).call ((Below.refl _ _).alloc (Nat.le_refl _) _)), by simp; omega, hA, by simp [rowI]⟩
  exact World.ownsRow_made _ _ M (by exact hs) (by unfold maxLen; omega) (by simp [size_madeCells])
 case round =>
  obtain ⟨j, hj, rfl, hz, hown, hr, hb, hs, hal, hln⟩ := hrel
  have hvr := HV.out.bx hb
  by_cases hlt : j < N
  ·have h1 := rnum_any p _ l (rowI l (abv' m2) A j).2.1 (abv' m2) wr hr hvr.sl hL HY.out hal
   have hbd : Byt (l.drop (rowI l (abv' m2) A j).2.1) := fun x hx => HY.out x (List.mem_of_mem_drop hx)
   have hrg := numS_range (l.drop (rowI l (abv' m2) A j).2.1) (abv' m2) hbd
   rcases hq : numS (l.drop (rowI l (abv' m2) A j).2.1) (abv' m2) with ⟨c, k, x⟩
   rw [hq] at h1 hrg
   have HC2 := hide (rint_of p m2 (abv' m2) x wr hm2 rfl ⟨hrg.1, by have := hrg.2; simp only at this; omega⟩ (hide h1))
   clear h1
   by_cases hc : c = 0
   ·subst hc
    obtain ⟨_, hkn, _, _, _, hkl⟩ := numS_once hbd hq
    rw [List.length_drop] at hkl
    have hk1 : 1 ≤ k := by rw [hkn]; unfold numL; split; · simp
                           split; · simp
                           split <;> simp
    have HE := hide (rowI_ok hz hq)
    simp only [erN, if_true] at HC2
    have HOW := hide hown
    have HBW := hide hb
    clear hq hrg hbd hr hz hvr hkn
    generalize (rowI l (abv' m2) A j).2.2 = xs at *
    generalize (rowI l (abv' m2) A j).2.1 = a1 at *
    go_wp2_with (first
     | (go_at_call 50; refine (HC2.out).mono ?_; rintro e w2 ⟨rfl, hr2, hb2⟩; obtain ⟨k0, k1, k2, fz2⟩ := id hr2; have HR2 := hide hr2; have HB2 := hide hb2; have hown2 := owns_bx HOW.out hb2 hp; have hz2s := hb2.size; clear hr2 hb2 fz2)
     | (at_builtin; refine wpList_append_own _ rfl _ _ 43 rfl w.heap.size 3 i0 (.int .i64 0) 1 8 Tryz.underlying43 hi hz0 hz1 hz2 rfl (by decide) _ _ _ rfl (hown2.alloc _) ⟨w2.heap.size, 0, none⟩ 1 1 [.int .i64 x] rfl rfl ?c1 ?c2 ?c3 ?c4 ?c5 ?_))
    case c1 =>
     intro j u hj
     match j, hj with
     | 0, hj => simp at hj; subst hj; simp [Addr.add, go_sem]
    case c2 => intro u hu; simp at hu; subst hu; rfl
    case c3 => unfold maxLen; omega
    case c4 => omega
    case c5 => simp; omega
    ·intro v' w3 hown' hgrow _
     have hge : ∀ k, Value.ownBlock _ = some k → w.heap.size ≤ k := fun k hk => (hown2.lt k hk).1
     have hB : Bx p w w3 := ((HBW.out.trans HB2.out).call ((Below.refl _ _).alloc (Nat.le_refl _) _)).grown hgrow hge
     have hR : Rd w3 p (.slice ao l.length cap) (a1 + k : Nat) .nilIface := (HR2.out.alloc _).grown hgrow (fun k hk => Nat.lt_of_lt_of_le hp (hge k hk))
     have HO3 := hide hown'
     have HB3 := hide hB
     have HR3 := hide hR
     clear hown' hgrow hown2 hge hB hR hown hb
     go_wp2_with fail
     go_roundw
     case rel =>
      refine ⟨j + 1, by omega, by go_num, ?_⟩
      rw [HE.out]
      refine ⟨rfl, by simpa [ic] using HO3.out, HR3.out, HB3.out, HB3.out.size, ?_, ?_⟩
      ·show a1 + k ≤ l.length
       omega
      ·show (xs ++ [x]).length + A ≤ a1 + k
       simp; omega
     case measure => simp [intOf]; omega
   ·obtain ⟨rfl, rfl⟩ := numS_bad hq hc
    have HE := hide (rowI_bad hz hq hc)
    have HF := hide (rowI_stays (l := l) (most := abv' m2) (a := A) (j := j + 1) (by rw [HE.out]; exact hc) (N - (j + 1)))
    simp only [erN, if_neg hc, Nat.add_zero] at HC2
    clear hq hrg hbd
    unfold ft at HC2
    go_wp2_with (first
     | (go_at_call 50; refine (HC2.out).mono ?_; rintro e w2 ⟨rfl, hr2, hb2⟩; obtain ⟨k0, k1, k2, fz2⟩ := id hr2; have HR2 := hide hr2; have HB2 := hide hb2; clear hr2 hb2 fz2))
    go_ret
    refine ⟨_, rfl, ?_⟩
    have hZ : rowI l (abv' m2) A N = (c, (rowI l (abv' m2) A j).2.1, (rowI l (abv' m2) A j).2.2) := by
     rw [← HE.out, ← HF.out]
     congr 1
     omega
    simp only [hZ, erN, rowR, if_neg hc]
    exact ⟨Sld.nil _ _ _ _ _ _, HR2.out, hb.trans HB2.out⟩
  ·obtain rfl : j = N := by omega
   clear hlt
   have HR2 := hide hr
   have HO := hide hown
   have HZ := hide hz
   clear hr hown hz
   go_wp2_with fail
   go_ret
   refine ⟨_, rfl, ?_⟩
   simp only [HZ.out, erN, rowR, if_true]
   exact ⟨sld_of_owns 0 HO.out, HR2.out, hb⟩
theorem rrow_anyd (p : Nat) (v : Value) (l : List Int) (a : Nat) (m m2 : Int) (w : World) (hr : Rd w p v a .nilIface) (hv : Slx p bc w v l) (hl : l.length ≤ 100000) (hby : Byt l) (ha : a ≤ l.length) (hm : m ≤ 9223372036854775807) (hm2 : m2 ≤ 9223372036854775807) :
  Calls Tryz.prog 137 #[.pointer (some ⟨p, 0, none⟩), .int .i64 m, .int .i64 m2] w fun x w' => ∃ v', x = .returned v' ∧ Sld 0 w.heap.size ic w' v' (rowR (rowS l a m m2)) ∧ Rd w' p v (rowS l a m m2).2.1 (erN ⟨#[110, 117, 109]⟩ (rowS l a m m2).2.1 (rowS l a m m2).1) ∧ Bx p w w' := by
 have h1 := rnum_any p v l a (abv' m) w hr hv.sl hl hby ha
 have hbd : Byt (l.drop a) := fun x hx => hby x (List.mem_of_mem_drop hx)
 have hrg := numS_range (l.drop a) (abv' m) hbd
 obtain ⟨ao, cap, hV⟩ := hv.sl.form
 unfold rowS
 rcases hq : numS (l.drop a) (abv' m) with ⟨c, k, N⟩
 rw [hq] at h1 hrg
 have HC := hide (rint_of p m (abv' m) N w hm rfl ⟨hrg.1, by have := hrg.2; simp only at this; omega⟩ (hide h1))
 simp only at HC ⊢
 by_cases hc : c = 0
 ·subst hc
  obtain ⟨_, _, n0, n1, _, hkl⟩ := numS_once hbd hq
  rw [List.length_drop] at hkl
  simp only [if_true]
  rw [erN, if_pos rfl] at HC
  obtain ⟨N', rfl⟩ := Int.eq_ofNat_of_zero_le n0
  simp only [Int.toNat_natCast] at *
  by_cases hlt : ((l.length : Int) - ((a + k : Nat) : Int)) < (N' : Int)
  ·exact rrow_somed p v l ao cap (a + k) N' (l.length - (a + k)) m m2 w hV hv hby hr.lt hm2 (by omega) hl (by omega) (by omega) (by rw [if_pos hlt]; omega) HC
  ·exact rrow_somed p v l ao cap (a + k) N' N' m m2 w hV hv hby hr.lt hm2 (by omega) hl (by omega) (by omega) (by rw [if_neg hlt]) HC
 ·obtain ⟨rfl, rfl⟩ := numS_bad hq hc
  rw [if_neg hc]
  simp only [erN, rowR, if_neg hc, Nat.add_zero] at HC ⊢
  subst hV
  refine (rrow_none p ao l.length cap a m m2 w _ hl ha HC).mono ?_
  rintro e w' ⟨v', rfl, hs, h1, h2⟩
  obtain ⟨ao', cap', rfl⟩ := hs.form
  exact ⟨_, rfl, Sld.nil _ _ _ _ _ _, h1, h2⟩
end Go.Proofs.YtjjpfajbljbelaaGreatDoor
