/-
  WHAT A KIND IS ABOUT, BIT BY BIT, NAMES AND BROKERS (record.subjects, has, within, Name, Brokers, named, listed, leastTopic, mostValue): as functions of numbers, letters and lists. Conditions: no more than a thousand letters; the brokers' cells hold them.
-/
import Derived.Test.YthoeajiojdfgdaaGreatDoorRecBro
import Derived.Test.YthoeajiojdfgdaaGreatDoorMA
import Derived.Laws.IdiomStrings
namespace Go.Proofs.YthoeajiojdfgdaaGreatDoor
open Go.RowKit

/-- What a kind is about, bit by bit. -/
def sbj (k : Int) : Int :=
  if k = 2 then 4099 else if k = 3 ∨ k = 4 ∨ k = 5 ∨ k = 6 then 3 else if k = 7 then 516 else if k = 8 then 24604 else if k = 9 then 122910 else if k = 10 then 3332 else if k = 11 then 4 else if k = 12 then 224 else 0
def knd (k : Int) : Bool := decide (1 ≤ k ∧ k ≤ 12)
def bitB (a o : Int) : Bool := (bits .and .u32 a o != 0)
theorem sbj_none {k : Int} (h : ¬ (1 ≤ k ∧ k ≤ 12)) : sbj k = 0 := by
  unfold sbj
  rw [if_neg (by omega), if_neg (by omega), if_neg (by omega), if_neg (by omega), if_neg (by omega), if_neg (by omega), if_neg (by omega), if_neg (by omega)]
theorem kinds {k : Int} (h : 1 ≤ k ∧ k ≤ 12) : k = 1 ∨ k = 2 ∨ k = 3 ∨ k = 4 ∨ k = 5 ∨ k = 6 ∨ k = 7 ∨ k = 8 ∨ k = 9 ∨ k = 10 ∨ k = 11 ∨ k = 12 := by omega
theorem bit_has {k : Int} (h : 1 ≤ k ∧ k ≤ 12) : bitB (sbj k) 1 = hasL k 98 ∧ bitB (sbj k) 2 = hasL k 101 ∧ bitB (sbj k) 4 = hasL k 116 ∧ bitB (sbj k) 8 = hasL k 112 ∧ bitB (sbj k) 16 = hasL k 108 ∧ bitB (sbj k) 32 = hasL k 97 ∧ bitB (sbj k) 64 = hasL k 97 ∧ bitB (sbj k) 128 = hasL k 97 ∧ bitB (sbj k) 256 = hasL k 102 ∧ bitB (sbj k) 512 = hasL k 110 ∧ bitB (sbj k) 1024 = hasL k 107 ∧ bitB (sbj k) 2048 = hasL k 118 ∧ bitB (sbj k) 4096 = hasL k 114 ∧ bitB (sbj k) 8192 = hasL k 105 ∧ bitB (sbj k) 16384 = hasL k 109 ∧ bitB (sbj k) 32768 = hasL k 120 ∧ bitB (sbj k) 65536 = hasL k 120 := by
  rcases kinds h with rfl | rfl | rfl | rfl | rfl | rfl | rfl | rfl | rfl | rfl | rfl | rfl <;> exact ⟨by decide, by decide, by decide, by decide, by decide, by decide, by decide, by decide, by decide, by decide, by decide, by decide, by decide, by decide, by decide, by decide, by decide⟩
set_option maxHeartbeats 4000000 in
theorem subj_any (k : Int) (w : World) : Calls Tryz.prog 30 #[.int .i64 k] w fun e w' => e = .returned (.tuple #[.int .u32 (sbj k), .bool (knd k)]) ∧ w' = w := by
  by_cases hk : 1 ≤ k ∧ k ≤ 12
  · rcases kinds hk with rfl | rfl | rfl | rfl | rfl | rfl | rfl | rfl | rfl | rfl | rfl | rfl
    all_goals
      go_enter Tryz.func30, Tryz.ntmps30
      go_wp2_with fail
      go_ret2
      exact ⟨rfl, rfl⟩
  · rw [sbj_none hk, show knd k = false from decide_eq_false hk]
    have n1 : ¬ k = 1 := by omega
    have n2 : ¬ k = 2 := by omega
    have n3 : ¬ k = 3 := by omega
    have n4 : ¬ k = 4 := by omega
    have n5 : ¬ k = 5 := by omega
    have n6 : ¬ k = 6 := by omega
    have n7 : ¬ k = 7 := by omega
    have n8 : ¬ k = 8 := by omega
    have n9 : ¬ k = 9 := by omega
    have n10 : ¬ k = 10 := by omega
    have n11 : ¬ k = 11 := by omega
    have n12 : ¬ k = 12 := by omega
    clear hk
    go_enter Tryz.func30, Tryz.ntmps30
    go_wp2_with fail
    go_ret2
    exact ⟨rfl, rfl⟩
theorem bhas_any (a o : Int) (w : World) : Calls Tryz.prog 35 #[.int .u32 a, .int .u32 o] w fun e w' => e = .returned (.bool (bitB a o)) ∧ w' = w := by
  go_enter Tryz.func35, Tryz.ntmps35
  go_wp2_with fail
  go_ret
  exact ⟨rfl, rfl⟩
set_option maxHeartbeats 4000000 in
theorem within_any (a o n lo hi : Int) (w : World) : Calls Tryz.prog 32 #[.int .u32 a, .int .u32 o, .int .i64 n, .int .i64 lo, .int .i64 hi] w fun e w' => e = .returned (.bool (numB n (bitB a o) lo hi)) ∧ w' = w := by
  have HC := hide (bhas_any a o w)
  obtain ⟨R, hR⟩ : ∃ R, R = numB n (bitB a o) lo hi := ⟨_, rfl⟩
  rw [← hR]
  have HR := hide hR
  clear hR
  cases hb : bitB a o with
  | true =>
    rw [hb] at HC HR
    by_cases h1 : lo ≤ n
    · by_cases h2 : n ≤ hi
      · have HE : Hid (R = true) := hide (by rw [HR.out]; simp [numB, h1, h2])
        go_enter Tryz.func32, Tryz.ntmps32
        go_wp2_with (first | (go_at_call 35; refine HC.out.mono ?_; rintro e w' ⟨rfl, rfl⟩))
        go_ret
        exact ⟨by rw [HE.out]; rfl, rfl⟩
      · have HE : Hid (R = decide (n ≤ hi)) := hide (by rw [HR.out]; simp [numB, h1])
        go_enter Tryz.func32, Tryz.ntmps32
        go_wp2_with (first | (go_at_call 35; refine HC.out.mono ?_; rintro e w' ⟨rfl, rfl⟩))
        go_ret
        exact ⟨by rw [HE.out]; rfl, rfl⟩
    · have HE : Hid (R = false) := hide (by rw [HR.out]; simp [numB]; omega)
      go_enter Tryz.func32, Tryz.ntmps32
      go_wp2_with (first | (go_at_call 35; refine HC.out.mono ?_; rintro e w' ⟨rfl, rfl⟩))
      go_ret
      exact ⟨by rw [HE.out]; rfl, rfl⟩
  | false =>
    rw [hb] at HC HR
    have HE : Hid (R = (n == 0)) := hide (by rw [HR.out]; simp only [numB]; rfl)
    go_enter Tryz.func32, Tryz.ntmps32
    go_wp2_with (first | (go_at_call 35; refine HC.out.mono ?_; rintro e w' ⟨rfl, rfl⟩))
    go_ret
    exact ⟨by rw [HE.out]; rfl, rfl⟩
theorem least_any (k : Int) (w : World) : Calls Tryz.prog 33 #[.int .i64 k] w fun e w' => e = .returned (.int .i64 (if k = 10 then 0 else 1)) ∧ w' = w := by
  by_cases h : k = 10
  · rw [if_pos h]
    go_enter Tryz.func33, Tryz.ntmps33
    go_wp2_with fail
    go_ret
    exact ⟨rfl, rfl⟩
  · rw [if_neg h]
    go_enter Tryz.func33, Tryz.ntmps33
    go_wp2_with fail
    go_ret
    exact ⟨rfl, rfl⟩
def mostV (h fl : Bool) : Int := if fl = true ∨ h = false then 0 else 256
theorem most_any (a : Int) (fl : Bool) (w : World) : Calls Tryz.prog 37 #[.int .u32 a, .bool fl] w fun e w' => e = .returned (.int .i64 (mostV (bitB a 2048) fl)) ∧ w' = w := by
  have HC := hide (bhas_any a 2048 w)
  cases hb : bitB a 2048 <;> cases fl <;> rw [hb] at HC
  all_goals
    go_enter Tryz.func37, Tryz.ntmps37
    go_wp2_with (first | (go_at_call 35; refine HC.out.mono ?_; rintro e w' ⟨rfl, rfl⟩))
    go_ret
    exact ⟨rfl, rfl⟩
set_option maxHeartbeats 4000000 in
theorem foreign_any (x : UInt8) (w : World) : Calls Tryz.prog 44 #[.int .u8 (x.toNat : Int)] w fun e w' => e = .returned (.bool (!okc x)) ∧ w' = w := by
  obtain ⟨R, hR⟩ : ∃ R, R = okc x := ⟨_, rfl⟩
  rw [← hR]
  rcases okc_cases (x.toNat : Int) with ⟨a, b⟩ | ⟨a, b, c, d, e, f⟩ | ⟨a, b, c⟩ | ⟨a, b, c, e, f⟩ | ⟨a, b, e⟩ | ⟨a, b, e, f⟩ | ⟨a, b, e, f⟩
  · have HE : Hid (R = true) := hide (by rw [hR]; simp [okc]; omega)
    clear hR
    generalize (x.toNat : Int) = n at *
    go_enter Tryz.func44, Tryz.ntmps44
    go_wp2_with fail
    go_ret
    exact ⟨by rw [HE.out]; rfl, rfl⟩
  · have HE : Hid (R = false) := hide (by rw [hR]; simp [okc]; omega)
    clear hR
    generalize (x.toNat : Int) = n at *
    go_enter Tryz.func44, Tryz.ntmps44
    go_wp2_with fail
    go_ret
    exact ⟨by rw [HE.out]; rfl, rfl⟩
  · have HE : Hid (R = true) := hide (by rw [hR]; simp [okc]; omega)
    clear hR
    generalize (x.toNat : Int) = n at *
    go_enter Tryz.func44, Tryz.ntmps44
    go_wp2_with fail
    go_ret
    exact ⟨by rw [HE.out]; rfl, rfl⟩
  · have HE : Hid (R = false) := hide (by rw [hR]; simp [okc]; omega)
    clear hR
    generalize (x.toNat : Int) = n at *
    go_enter Tryz.func44, Tryz.ntmps44
    go_wp2_with fail
    go_ret
    exact ⟨by rw [HE.out]; rfl, rfl⟩
  · have HE : Hid (R = true) := hide (by rw [hR]; simp [okc]; omega)
    clear hR
    generalize (x.toNat : Int) = n at *
    go_enter Tryz.func44, Tryz.ntmps44
    go_wp2_with fail
    go_ret
    exact ⟨by rw [HE.out]; rfl, rfl⟩
  · have HE : Hid (R = true) := hide (by rw [hR]; simp [okc]; omega)
    clear hR
    generalize (x.toNat : Int) = n at *
    go_enter Tryz.func44, Tryz.ntmps44
    go_wp2_with fail
    go_ret
    exact ⟨by rw [HE.out]; rfl, rfl⟩
  · have HE : Hid (R = false) := hide (by rw [hR]; simp [okc]; omega)
    clear hR
    generalize (x.toNat : Int) = n at *
    go_enter Tryz.func44, Tryz.ntmps44
    go_wp2_with fail
    go_ret
    exact ⟨by rw [HE.out]; rfl, rfl⟩
/-- The bytes of a string, as the slice that they are made. -/
def uc (x : UInt8) : Value := .int .u8 (x.toNat : Int)
theorem bytes_of (S : List UInt8) (w : World) : ∃ cap w1, (convert 9 39 (.string ⟨S.toArray⟩)).run Tryz.prog w = .ok (.slice (some ⟨w.heap.size, 0, none⟩) S.length cap) w1 ∧ (∀ i (h : i < S.length), w1.cell? ⟨w.heap.size, 0 + i, none⟩ = some (uc S[i])) ∧ Below w.heap.size w w1 ∧ w1.heap.size = w.heap.size + 1 ∧ S.length ≤ cap := by
  have h := run_bytes_of_string (P := Tryz.prog) w 9 39 5 ⟨S.toArray⟩ Tryz.underlying9 Tryz.underlying39 Tryz.underlying5
  have hz : (⟨S.toArray⟩ : ByteArray).size = S.length := by simp [ByteArray.size]
  rw [hz] at h
  refine ⟨_, _, h, fun i hi => ?_, ?_, ?_, ?_⟩
  · have hi' : i < (⟨S.toArray⟩ : ByteArray).data.size := by simpa using hi
    have := bytesRow_at ⟨S.toArray⟩ (grownCap w S.length 0 5) i hi'
    rw [Nat.zero_add]
    have h2 := World.cell?_alloc_mark w.drew (bytesRow ⟨S.toArray⟩ (grownCap w S.length 0 5)) 5 ((bytesRow ⟨S.toArray⟩ (grownCap w S.length 0 5)).size, (bytesRow ⟨S.toArray⟩ (grownCap w S.length 0 5)).size + 1) i
    refine (h2.trans this).trans ?_
    simp [uc]
  · exact (Below.refl _ _).drew.alloc (Nat.le_refl _) _
  · simp
  · exact Nat.le_trans (Nat.le_refl _) (grownCap_ge w S.length 0 5)
theorem any_snoc {S : List UInt8} {j : Nat} (hj : j < S.length) (h : (S.take j).all okc = true) (hn : okc S[j] = true) : (S.take (j + 1)).all okc = true := all_snoc hj h hn
def alc (S : List UInt8) : Bool := S.all okc
set_option maxRecDepth 100000 in
set_option maxHeartbeats 4000000 in
theorem idxf_some (b o cap : Nat) (S : List UInt8) (w : World) (hl : S.length ≤ 1000) (h3 : ∀ i (h : i < S.length), w.cell? ⟨b, o + i, none⟩ = some (uc S[i])) :
    Calls Tryz.prog 79 #[.slice (some ⟨b, o, none⟩) S.length cap, .func (.func 44) #[] #[]] w fun e w' => (∃ n : Int, e = .returned (.int .i64 n) ∧ ((alc S = false ∧ 0 ≤ n) ∨ (alc S = true ∧ n = -1))) ∧ w' = w := by
  have H3 := hide h3
  clear h3
  go_enter Tryz.func79, Tryz.ntmps79
  go_wp2
  go_loop [8] (fun i => ∃ k : Nat, k ≤ S.length ∧ i = .int .i64 (k : Int) ∧ Hid ((S.take k).all okc = true)) (fun i => S.length - (intOf i).toNat)
  case atStart => exact ⟨0, Nat.zero_le _, rfl, hide rfl⟩
  case round =>
    obtain ⟨k, hk, rfl, HN⟩ := hrel
    by_cases hlt : k < S.length
    · have hltI : (k : Int) < (S.length : Int) := by omega
      have hc := H3.out k hlt
      unfold uc at hc
      have HF := hide (foreign_any S[k] w)
      have HSN := hide (fun hn => all_snoc hlt HN.out hn)
      have HNO := hide (fun hn => (all_no hlt hn : alc S = false))
      generalize S[k] = x at *
      cases hx : okc x with
      | true =>
        rw [hx] at HF
        have HX := hide hx
        clear hx
        go_wp2_with (first | (go_at_call 44; refine HF.out.mono ?_; rintro e w' ⟨rfl, rfl⟩))
        go_round
        case rel => exact ⟨k + 1, by omega, by go_num, hide (HSN.out HX.out)⟩
        case measure => simp [intOf]; omega
      | false =>
        rw [hx] at HF
        have HX := hide hx
        clear hx
        go_wp2_with (first | (go_at_call 44; refine HF.out.mono ?_; rintro e w' ⟨rfl, rfl⟩))
        go_ret
        exact ⟨⟨_, rfl, .inl ⟨HNO.out HX.out, by omega⟩⟩, rfl⟩
    · obtain rfl : k = S.length := by omega
      have HA : Hid (alc S = true) := hide (by have := HN.out; rw [List.take_length] at this; exact this)
      clear hlt
      go_wp2_with fail
      go_ret
      exact ⟨⟨_, rfl, .inr ⟨HA.out, rfl⟩⟩, rfl⟩
set_option maxHeartbeats 4000000 in
theorem ctnf_some (b o cap : Nat) (S : List UInt8) (w : World) (hl : S.length ≤ 1000) (h3 : ∀ i (h : i < S.length), w.cell? ⟨b, o + i, none⟩ = some (uc S[i])) :
    Calls Tryz.prog 43 #[.slice (some ⟨b, o, none⟩) S.length cap, .func (.func 44) #[] #[]] w fun e w' => e = .returned (.bool (!alc S)) ∧ w' = w := by
  have HC := hide (idxf_some b o cap S w hl h3)
  clear h3
  go_enter Tryz.func43, Tryz.ntmps43
  go_wp2_with fail
  refine (HC.out).mono ?_
  rintro e w' ⟨⟨n, rfl, ⟨hy, hn⟩ | ⟨hy, rfl⟩⟩, rfl⟩
  · have HY := hide hy
    clear hy
    go_wp2
    go_ret
    exact ⟨by rw [HY.out]; rfl, rfl⟩
  · have HY := hide hy
    clear hy
    go_wp2
    go_ret
    exact ⟨by rw [HY.out]; rfl, rfl⟩
set_option maxRecDepth 100000 in
set_option maxHeartbeats 4000000 in
theorem cname_any (S : List UInt8) (w : World) (hS : S.length ≤ 1000) : Calls Tryz.prog 11 #[.string ⟨S.toArray⟩] w fun e w' => e = .returned (.bool (nameB S)) ∧ Below w.heap.size w w' := by
  have hdot : (⟨S.toArray⟩ : ByteArray).toList = S := by simp
  obtain ⟨R, hR⟩ : ∃ R, R = nameB S := ⟨_, rfl⟩
  rw [← hR]
  have HR := hide hR
  clear hR
  by_cases h1 : S.length < 1
  · have HE : Hid (R = false) := hide (by rw [HR.out]; simp [nameB]; omega)
    have h1' : (S.length : Int) < 1 := by omega
    go_enter Tryz.func11, Tryz.ntmps11
    go_wp2_with fail
    go_ret
    exact ⟨by rw [HE.out]; rfl, Below.refl _ _⟩
  have h1' : ¬ (S.length : Int) < 1 := by omega
  by_cases h2 : 40 < S.length
  · have HE : Hid (R = false) := hide (by rw [HR.out]; simp [nameB]; omega)
    have h2' : (40 : Int) < (S.length : Int) := by omega
    go_enter Tryz.func11, Tryz.ntmps11
    go_wp2_with fail
    go_ret
    exact ⟨by rw [HE.out]; rfl, Below.refl _ _⟩
  have h2' : ¬ (40 : Int) < (S.length : Int) := by omega
  by_cases h3 : S = [46]
  · have HE : Hid (R = false) := hide (by rw [HR.out]; simp [nameB, h3])
    subst h3
    go_enter Tryz.func11, Tryz.ntmps11
    go_wp2_with fail
    go_ret
    exact ⟨by rw [HE.out]; rfl, Below.refl _ _⟩
  by_cases h4 : S = [46, 46]
  · have HE : Hid (R = false) := hide (by rw [HR.out]; simp [nameB, h4])
    subst h4
    go_enter Tryz.func11, Tryz.ntmps11
    go_wp2_with fail
    go_ret
    exact ⟨by rw [HE.out]; rfl, Below.refl _ _⟩
  have h3' : (S == [46]) = false := by simpa using h3
  have h4' : (S == [46, 46]) = false := by simpa using h4
  have HE : Hid (R = alc S) := hide (by rw [HR.out]; unfold nameB alc; simp [h3, h4]; omega)
  obtain ⟨cap, w1, hcv, hcell, hbl, _⟩ := bytes_of S w
  have HC := hide hcell
  have HB := hide hbl
  clear hcell hbl
  go_enter Tryz.func11, Tryz.ntmps11
  go_wp2_with fail
  refine (ctnf_some _ _ _ S _ hS HC.out).mono ?_
  rintro e w2 ⟨rfl, rfl⟩
  go_wp2_with fail
  go_ret
  exact ⟨by rw [HE.out]; simp, HB.out⟩
end Go.Proofs.YthoeajiojdfgdaaGreatDoor
