/-
  WHAT IS WRONG WITH A RECORD FIRST (record.Check): what the document says. Conditions: its rows' cells hold them, texts of no more than a thousand letters.
  THE DOCUMENT's NEXT NUMBER, as one function of the bytes, the place and the limit (castellanref02.num). Conditions: the bytes' cells hold them, each is a byte, and no more than four thousand.
  THE DOCUMENT's End (castellanref02.End), and its bad where something is wrong already. Condition: no more than four thousand bytes.
-/
import Derived.Test.YtjjpfajbljbelaaGreatDoorJKWputba5
import Derived.Test.YtjjpfajbljbelaaGreatDoorJKRefRead
namespace Go.Proofs.YtjjpfajbljbelaaGreatDoor
open Go.RowKit
set_option maxRecDepth 100000
set_option maxHeartbeats 16000000
theorem asked_any (a cl se co : Int) (b5 b6 b7 : Bool) (x0 x1 x2 x3 x4 x5 x9 x10 x11 x12 x13 x14 x15 x16 x17 : Value) (w : World) (H5 : Hid (∀ W, Calls Tryz.prog 130 #[.int .u32 a, .int .u32 32, .int .i64 cl, .int .i64 1, .int .i64 1073741824] W fun e w' => e = .returned (.bool b5) ∧ w' = W)) (H6 : Hid (∀ W, Calls Tryz.prog 130 #[.int .u32 a, .int .u32 64, .int .i64 se, .int .i64 1, .int .i64 1073741824] W fun e w' => e = .returned (.bool b6) ∧ w' = W)) (H7 : Hid (∀ W, Calls Tryz.prog 130 #[.int .u32 a, .int .u32 128, .int .i64 co, .int .i64 0, .int .i64 21] W fun e w' => e = .returned (.bool b7) ∧ w' = W)) :
  Calls Tryz.prog 132 #[.int .u32 a, .agg #[x0, x1, x2, x3, x4, x5, .int .i64 cl, .int .i64 se, .int .i64 co, x9, x10, x11, x12, x13, x14, x15, x16, x17]] w fun e w' => e = .returned (.bool (b5 && b6 && b7)) ∧ Below w.heap.size w w' := by
 cases b5 <;> cases b6 <;> cases b7
 all_goals
  go_enter Tryz.func132, Tryz.ntmps132
  go_wp2_with (go_at_call 130; first | (with_reducible refine (H5.out _).mono ?_; rintro e w' ⟨rfl, rfl⟩) | (with_reducible refine (H6.out _).mono ?_; rintro e w' ⟨rfl, rfl⟩) | (with_reducible refine (H7.out _).mono ?_; rintro e w' ⟨rfl, rfl⟩))
  go_ret
  exact ⟨rfl, (Below.refl _ _).alloc (Nat.le_refl _) _⟩
theorem ccheck_ok (k br ep tp pa le cl se co : Int) (fl : Bool) (nm ky va rk : List UInt8) (a14 a15 a16 a17 : Option Addr) (c14 c15 c16 c17 : Nat) (ids isr ad dr : List Int) (w : World) (hk : 1 ≤ k ∧ k ≤ 12) (hS1 : nm.length ≤ 1000) (hS2 : ky.length ≤ 1000) (_hS3 : va.length ≤ 1000) (hS4 : rk.length ≤ 1000)
  (h14 : Sl ic w (.slice a14 ids.length c14) ids) (h15 : Sl ic w (.slice a15 isr.length c15) isr) (h16 : Sl ic w (.slice a16 ad.length c16) ad) (h17 : Sl ic w (.slice a17 dr.length c17) dr) (T : ByteArray × Int × Int)
  (hT : T = checkB br ep tp pa le cl nm.length va.length ids.length
  (numB br (hasL k 98) 1 64) (numB ep (hasL k 101) 0 1073741824) (numB tp (hasL k 116) (if k = 10 then 0 else 1) 1073741824) (numB pa (hasL k 112) 0 255) (numB le (hasL k 108) 0 64)
  (numB cl (hasL k 97) 1 1073741824) (numB se (hasL k 97) 1 1073741824) (numB co (hasL k 97) 0 21) (fl && !hasL k 102)
  (nameA nm (hasL k 110)) (nameA ky (hasL k 107)) (nameA rk (hasL k 114)) (decide (mostV (hasL k 118) fl < (va.length : Int)))
  (rowB ids (hasL k 105)) (rowB isr (hasL k 109)) (rowB ad (hasL k 120)) (rowB dr (hasL k 120))) :
  Calls Tryz.prog 107 #[.agg #[.int .i64 k, .int .i64 br, .int .i64 ep, .int .i64 tp, .int .i64 pa, .int .i64 le, .int .i64 cl, .int .i64 se, .int .i64 co, .bool fl, .string ⟨nm.toArray⟩, .string ⟨ky.toArray⟩, .string ⟨va.toArray⟩, .string ⟨rk.toArray⟩, .slice a14 ids.length c14, .slice a15 isr.length c15, .slice a16 ad.length c16, .slice a17 dr.length c17]] w fun e w' => e = .returned (erN T.1 T.2.1 T.2.2) ∧ Below w.heap.size w w' := by
 obtain ⟨q0, q1, q2, q3, q4, q5, q6, q7, q8, q9, q10, q11, q12, q13, q14, q15, q16⟩ := bit_has hk
 have HS := hide (fun W => subj_any k W)
 rw [show knd k = true from decide_eq_true hk] at HS
 have HL := hide (fun W => least_any k W)
 obtain ⟨lo, hlo⟩ : ∃ lo : Int, lo = if k = 10 then 0 else 1 := ⟨_, rfl⟩
 rw [← hlo] at HL hT
 clear hlo
 generalize sbj k = a at *
 have HN0 := hide (fun W => within_any a 1 br 1 64 W)
 have HN1 := hide (fun W => within_any a 2 ep 0 1073741824 W)
 have HN2 := hide (fun W => within_any a 4 tp lo 1073741824 W)
 have HN3 := hide (fun W => within_any a 8 pa 0 255 W)
 have HN4 := hide (fun W => within_any a 16 le 0 64 W)
 have HN5 := hide (fun W => within_any a 32 cl 1 1073741824 W)
 have HN6 := hide (fun W => within_any a 64 se 1 1073741824 W)
 have HN7 := hide (fun W => within_any a 128 co 0 21 W)
 have HF := hide (fun W => bhas_any a 256 W)
 have HM0 := hide (fun W => named_any a 512 nm W hS1)
 have HM1 := hide (fun W => named_any a 1024 ky W hS2)
 have HM2 := hide (fun W => named_any a 4096 rk W hS4)
 have HV := hide (fun W => most_any a fl W)
 have HR0 := hide (fun W (h : Below w.heap.size w W) => listed_any a 8192 _ ids W (h14.below h))
 have HR1 := hide (fun W (h : Below w.heap.size w W) => listed_any a 16384 _ isr W (h15.below h))
 have HR2 := hide (fun W (h : Below w.heap.size w W) => listed_any a 32768 _ ad W (h16.below h))
 have HR3 := hide (fun W (h : Below w.heap.size w W) => listed_any a 65536 _ dr W (h17.below h))
 rw [q0] at HN0
 rw [q1] at HN1
 rw [q2] at HN2
 rw [q3] at HN3
 rw [q4] at HN4
 rw [q5] at HN5
 rw [q6] at HN6
 rw [q7] at HN7
 rw [q8] at HF
 rw [q9] at HM0
 rw [q10] at HM1
 rw [q11] at HV
 rw [q12] at HM2
 rw [q13] at HR0
 rw [q14] at HR1
 rw [q15] at HR2
 rw [q16] at HR3
 clear q0 q1 q2 q3 q4 q5 q6 q7 q8 q9 q10 q11 q12 q13 q14 q15 q16 h14 h15 h16 h17 hk
 generalize numB br (hasL k 98) 1 64 = b0 at *
 generalize numB ep (hasL k 101) 0 1073741824 = b1 at *
 generalize numB tp (hasL k 116) lo 1073741824 = b2 at *
 generalize numB pa (hasL k 112) 0 255 = b3 at *
 generalize numB le (hasL k 108) 0 64 = b4 at *
 generalize numB cl (hasL k 97) 1 1073741824 = b5 at *
 generalize numB se (hasL k 97) 1 1073741824 = b6 at *
 generalize numB co (hasL k 97) 0 21 = b7 at *
 generalize hasL k 102 = hf at *
 generalize nameA nm (hasL k 110) = n0 at *
 generalize nameA ky (hasL k 107) = n1 at *
 generalize nameA rk (hasL k 114) = n2 at *
 generalize mostV (hasL k 118) fl = mv at *
 generalize rowB ids (hasL k 105) = r0 at *
 generalize rowB isr (hasL k 109) = r1 at *
 generalize rowB ad (hasL k 120) = r2 at *
 generalize rowB dr (hasL k 120) = r3 at *
 have HA := hide (fun x0 x1 x2 x3 x4 x5 x9 x10 x11 x12 x13 x14 x15 x16 x17 W => asked_any a cl se co b5 b6 b7 x0 x1 x2 x3 x4 x5 x9 x10 x11 x12 x13 x14 x15 x16 x17 W HN5 HN6 HN7)
 have HT := hide hT
 clear hT HN5 HN6 HN7
 have HQ : Hid ((w.alloc (.cells #[.int .i64 k, .int .i64 br, .int .i64 ep, .int .i64 tp, .int .i64 pa, .int .i64 le, .int .i64 cl, .int .i64 se, .int .i64 co, .bool fl, .string ⟨nm.toArray⟩, .string ⟨ky.toArray⟩, .string ⟨va.toArray⟩, .string ⟨rk.toArray⟩, .slice a14 ids.length c14, .slice a15 isr.length c15, .slice a16 ad.length c16, .slice a17 dr.length c17] 45)).rangeAt w.heap.size 0 [.int .i64 k, .int .i64 br, .int .i64 ep, .int .i64 tp, .int .i64 pa, .int .i64 le, .int .i64 cl, .int .i64 se, .int .i64 co, .bool fl, .string ⟨nm.toArray⟩, .string ⟨ky.toArray⟩, .string ⟨va.toArray⟩, .string ⟨rk.toArray⟩, .slice a14 ids.length c14, .slice a15 isr.length c15, .slice a16 ad.length c16, .slice a17 dr.length c17]) := hide (range_new w _ _)
 have HB : Hid (Below w.heap.size w (w.alloc (.cells #[.int .i64 k, .int .i64 br, .int .i64 ep, .int .i64 tp, .int .i64 pa, .int .i64 le, .int .i64 cl, .int .i64 se, .int .i64 co, .bool fl, .string ⟨nm.toArray⟩, .string ⟨ky.toArray⟩, .string ⟨va.toArray⟩, .string ⟨rk.toArray⟩, .slice a14 ids.length c14, .slice a15 isr.length c15, .slice a16 ad.length c16, .slice a17 dr.length c17] 45))) := hide ((Below.refl _ _).alloc (Nat.le_refl _) _)
 go_enter Tryz.func107, Tryz.ntmps107
 go_upto_region 1 with fail
 generalize w.alloc (.cells #[.int .i64 k, .int .i64 br, .int .i64 ep, .int .i64 tp, .int .i64 pa, .int .i64 le, .int .i64 cl, .int .i64 se, .int .i64 co, .bool fl, .string ⟨nm.toArray⟩, .string ⟨ky.toArray⟩, .string ⟨va.toArray⟩, .string ⟨rk.toArray⟩, .slice a14 ids.length c14, .slice a15 isr.length c15, .slice a16 ad.length c16, .slice a17 dr.length c17] 45) = X at HQ HB ⊢
 obtain ⟨g0, g1, g2, g3, g4, g5, g6, g7, g8, g9, g10, g11, g12, g13, g14, g15, g16, g17⟩ := C18.of HQ.out
 rcases b0 with _ | _
 ·have hR : T = ((⟨#[98, 114, 111, 107, 101, 114]⟩, br, 2) : ByteArray × Int × Int) := HT.out.trans (by first | rfl | simp [checkB, *])
  go_wp2_with (first | (go_at_call 112; refine (HS.out _).mono ?_; rintro e w1 ⟨rfl, hw1⟩; rw [hw1]; clear hw1 w1) | (go_at_call 15; refine (new_any _ _ _ _).mono ?_; rintro e w1 ⟨rfl, hw1⟩; rw [hw1]; clear hw1 w1) | (go_at_call 130; first | (with_reducible refine (HN0.out _).mono ?_; rintro e w1 ⟨rfl, hw1⟩; rw [hw1]; clear hw1 w1) | (with_reducible refine (HN1.out _).mono ?_; rintro e w1 ⟨rfl, hw1⟩; rw [hw1]; clear hw1 w1) | (with_reducible refine (HN3.out _).mono ?_; rintro e w1 ⟨rfl, hw1⟩; rw [hw1]; clear hw1 w1) | (with_reducible refine (HN4.out _).mono ?_; rintro e w1 ⟨rfl, hw1⟩; rw [hw1]; clear hw1 w1)))
  go_ret
  exact ⟨by rw [hR]; rfl, HB.out⟩
 go_upto_region 6 with (first | (go_at_call 112; refine (HS.out _).mono ?_; rintro e w1 ⟨rfl, hw1⟩; rw [hw1]; clear hw1 w1) | (go_at_call 15; refine (new_any _ _ _ _).mono ?_; rintro e w1 ⟨rfl, hw1⟩; rw [hw1]; clear hw1 w1) | (go_at_call 130; first | (with_reducible refine (HN0.out _).mono ?_; rintro e w1 ⟨rfl, hw1⟩; rw [hw1]; clear hw1 w1) | (with_reducible refine (HN1.out _).mono ?_; rintro e w1 ⟨rfl, hw1⟩; rw [hw1]; clear hw1 w1) | (with_reducible refine (HN3.out _).mono ?_; rintro e w1 ⟨rfl, hw1⟩; rw [hw1]; clear hw1 w1) | (with_reducible refine (HN4.out _).mono ?_; rintro e w1 ⟨rfl, hw1⟩; rw [hw1]; clear hw1 w1)))
 rcases b1 with _ | _
 ·have hR : T = ((⟨#[101, 112, 111, 99, 104]⟩, ep, 2) : ByteArray × Int × Int) := HT.out.trans (by first | rfl | simp [checkB, *])
  go_wp2_with (first | (go_at_call 112; refine (HS.out _).mono ?_; rintro e w1 ⟨rfl, hw1⟩; rw [hw1]; clear hw1 w1) | (go_at_call 15; refine (new_any _ _ _ _).mono ?_; rintro e w1 ⟨rfl, hw1⟩; rw [hw1]; clear hw1 w1) | (go_at_call 130; first | (with_reducible refine (HN0.out _).mono ?_; rintro e w1 ⟨rfl, hw1⟩; rw [hw1]; clear hw1 w1) | (with_reducible refine (HN1.out _).mono ?_; rintro e w1 ⟨rfl, hw1⟩; rw [hw1]; clear hw1 w1) | (with_reducible refine (HN3.out _).mono ?_; rintro e w1 ⟨rfl, hw1⟩; rw [hw1]; clear hw1 w1) | (with_reducible refine (HN4.out _).mono ?_; rintro e w1 ⟨rfl, hw1⟩; rw [hw1]; clear hw1 w1)))
  go_ret
  exact ⟨by rw [hR]; rfl, HB.out⟩
 go_upto_region 8 with (first | (go_at_call 112; refine (HS.out _).mono ?_; rintro e w1 ⟨rfl, hw1⟩; rw [hw1]; clear hw1 w1) | (go_at_call 15; refine (new_any _ _ _ _).mono ?_; rintro e w1 ⟨rfl, hw1⟩; rw [hw1]; clear hw1 w1) | (go_at_call 130; first | (with_reducible refine (HN0.out _).mono ?_; rintro e w1 ⟨rfl, hw1⟩; rw [hw1]; clear hw1 w1) | (with_reducible refine (HN1.out _).mono ?_; rintro e w1 ⟨rfl, hw1⟩; rw [hw1]; clear hw1 w1) | (with_reducible refine (HN3.out _).mono ?_; rintro e w1 ⟨rfl, hw1⟩; rw [hw1]; clear hw1 w1) | (with_reducible refine (HN4.out _).mono ?_; rintro e w1 ⟨rfl, hw1⟩; rw [hw1]; clear hw1 w1)))
 rcases b2 with _ | _
 ·have hR : T = ((⟨#[116, 111, 112, 105, 99]⟩, tp, 2) : ByteArray × Int × Int) := HT.out.trans (by rfl)
  go_quiet (first | (go_at_call 131; exact Calls.quiet_of_same (HL.out _)) | (go_at_call 130; exact Calls.quiet_of_same (HN2.out _)))
  replace HQ := hide (range_below HQ.out (below_drewN (Below.refl _ _) nq))
  replace HB := hide (below_drewN HB.out nq)
  clear g0 g1 g2 g3 g4 g5 g6 g7 g8 g9 g10 g11 g12 g13 g14 g15 g16 g17
  obtain ⟨X, hX⟩ : ∃ X', X' = X.drewN nq := ⟨_, rfl⟩
  rw [← hX] at HQ HB ⊢
  clear hX
  obtain ⟨g0, g1, g2, g3, g4, g5, g6, g7, g8, g9, g10, g11, g12, g13, g14, g15, g16, g17⟩ := C18.of HQ.out
  go_wp2_with (first | (go_at_call 112; refine (HS.out _).mono ?_; rintro e w1 ⟨rfl, hw1⟩; rw [hw1]; clear hw1 w1) | (go_at_call 15; refine (new_any _ _ _ _).mono ?_; rintro e w1 ⟨rfl, hw1⟩; rw [hw1]; clear hw1 w1) | (go_at_call 130; first | (with_reducible refine (HN0.out _).mono ?_; rintro e w1 ⟨rfl, hw1⟩; rw [hw1]; clear hw1 w1) | (with_reducible refine (HN1.out _).mono ?_; rintro e w1 ⟨rfl, hw1⟩; rw [hw1]; clear hw1 w1) | (with_reducible refine (HN3.out _).mono ?_; rintro e w1 ⟨rfl, hw1⟩; rw [hw1]; clear hw1 w1) | (with_reducible refine (HN4.out _).mono ?_; rintro e w1 ⟨rfl, hw1⟩; rw [hw1]; clear hw1 w1)))
  go_ret
  exact ⟨by rw [hR]; rfl, HB.out⟩
 go_quiet (first | (go_at_call 131; exact Calls.quiet_of_same (HL.out _)) | (go_at_call 130; exact Calls.quiet_of_same (HN2.out _)))
 replace HQ := hide (range_below HQ.out (below_drewN (Below.refl _ _) nq))
 replace HB := hide (below_drewN HB.out nq)
 clear g0 g1 g2 g3 g4 g5 g6 g7 g8 g9 g10 g11 g12 g13 g14 g15 g16 g17
 obtain ⟨X, hX⟩ : ∃ X', X' = X.drewN nq := ⟨_, rfl⟩
 rw [← hX] at HQ HB ⊢
 clear hX
 obtain ⟨g0, g1, g2, g3, g4, g5, g6, g7, g8, g9, g10, g11, g12, g13, g14, g15, g16, g17⟩ := C18.of HQ.out
 go_upto_region 10 with (first | (go_at_call 112; refine (HS.out _).mono ?_; rintro e w1 ⟨rfl, hw1⟩; rw [hw1]; clear hw1 w1) | (go_at_call 15; refine (new_any _ _ _ _).mono ?_; rintro e w1 ⟨rfl, hw1⟩; rw [hw1]; clear hw1 w1) | (go_at_call 130; first | (with_reducible refine (HN0.out _).mono ?_; rintro e w1 ⟨rfl, hw1⟩; rw [hw1]; clear hw1 w1) | (with_reducible refine (HN1.out _).mono ?_; rintro e w1 ⟨rfl, hw1⟩; rw [hw1]; clear hw1 w1) | (with_reducible refine (HN3.out _).mono ?_; rintro e w1 ⟨rfl, hw1⟩; rw [hw1]; clear hw1 w1) | (with_reducible refine (HN4.out _).mono ?_; rintro e w1 ⟨rfl, hw1⟩; rw [hw1]; clear hw1 w1)))
 rcases b3 with _ | _
 ·have hR : T = ((⟨#[112, 97, 114, 116]⟩, pa, 2) : ByteArray × Int × Int) := HT.out.trans (by first | rfl | simp [checkB, *])
  go_wp2_with (first | (go_at_call 112; refine (HS.out _).mono ?_; rintro e w1 ⟨rfl, hw1⟩; rw [hw1]; clear hw1 w1) | (go_at_call 15; refine (new_any _ _ _ _).mono ?_; rintro e w1 ⟨rfl, hw1⟩; rw [hw1]; clear hw1 w1) | (go_at_call 130; first | (with_reducible refine (HN0.out _).mono ?_; rintro e w1 ⟨rfl, hw1⟩; rw [hw1]; clear hw1 w1) | (with_reducible refine (HN1.out _).mono ?_; rintro e w1 ⟨rfl, hw1⟩; rw [hw1]; clear hw1 w1) | (with_reducible refine (HN3.out _).mono ?_; rintro e w1 ⟨rfl, hw1⟩; rw [hw1]; clear hw1 w1) | (with_reducible refine (HN4.out _).mono ?_; rintro e w1 ⟨rfl, hw1⟩; rw [hw1]; clear hw1 w1)))
  go_ret
  exact ⟨by rw [hR]; rfl, HB.out⟩
 go_upto_region 12 with (first | (go_at_call 112; refine (HS.out _).mono ?_; rintro e w1 ⟨rfl, hw1⟩; rw [hw1]; clear hw1 w1) | (go_at_call 15; refine (new_any _ _ _ _).mono ?_; rintro e w1 ⟨rfl, hw1⟩; rw [hw1]; clear hw1 w1) | (go_at_call 130; first | (with_reducible refine (HN0.out _).mono ?_; rintro e w1 ⟨rfl, hw1⟩; rw [hw1]; clear hw1 w1) | (with_reducible refine (HN1.out _).mono ?_; rintro e w1 ⟨rfl, hw1⟩; rw [hw1]; clear hw1 w1) | (with_reducible refine (HN3.out _).mono ?_; rintro e w1 ⟨rfl, hw1⟩; rw [hw1]; clear hw1 w1) | (with_reducible refine (HN4.out _).mono ?_; rintro e w1 ⟨rfl, hw1⟩; rw [hw1]; clear hw1 w1)))
 rcases b4 with _ | _
 ·have hR : T = ((⟨#[108, 101, 97, 100, 101, 114]⟩, le, 2) : ByteArray × Int × Int) := HT.out.trans (by first | rfl | simp [checkB, *])
  go_wp2_with (first | (go_at_call 112; refine (HS.out _).mono ?_; rintro e w1 ⟨rfl, hw1⟩; rw [hw1]; clear hw1 w1) | (go_at_call 15; refine (new_any _ _ _ _).mono ?_; rintro e w1 ⟨rfl, hw1⟩; rw [hw1]; clear hw1 w1) | (go_at_call 130; first | (with_reducible refine (HN0.out _).mono ?_; rintro e w1 ⟨rfl, hw1⟩; rw [hw1]; clear hw1 w1) | (with_reducible refine (HN1.out _).mono ?_; rintro e w1 ⟨rfl, hw1⟩; rw [hw1]; clear hw1 w1) | (with_reducible refine (HN3.out _).mono ?_; rintro e w1 ⟨rfl, hw1⟩; rw [hw1]; clear hw1 w1) | (with_reducible refine (HN4.out _).mono ?_; rintro e w1 ⟨rfl, hw1⟩; rw [hw1]; clear hw1 w1)))
  go_ret
  exact ⟨by rw [hR]; rfl, HB.out⟩
 go_upto_region 14 with (first | (go_at_call 112; refine (HS.out _).mono ?_; rintro e w1 ⟨rfl, hw1⟩; rw [hw1]; clear hw1 w1) | (go_at_call 15; refine (new_any _ _ _ _).mono ?_; rintro e w1 ⟨rfl, hw1⟩; rw [hw1]; clear hw1 w1) | (go_at_call 130; first | (with_reducible refine (HN0.out _).mono ?_; rintro e w1 ⟨rfl, hw1⟩; rw [hw1]; clear hw1 w1) | (with_reducible refine (HN1.out _).mono ?_; rintro e w1 ⟨rfl, hw1⟩; rw [hw1]; clear hw1 w1) | (with_reducible refine (HN3.out _).mono ?_; rintro e w1 ⟨rfl, hw1⟩; rw [hw1]; clear hw1 w1) | (with_reducible refine (HN4.out _).mono ?_; rintro e w1 ⟨rfl, hw1⟩; rw [hw1]; clear hw1 w1)))
 have hA : (b5 && b6 && b7) = false ∨ (b5 = true ∧ b6 = true ∧ b7 = true) := by cases b5 <;> cases b6 <;> cases b7 <;> simp
 rcases hA with hA | ⟨rfl, rfl, rfl⟩
 ·have hR : T = ((⟨#[97, 115, 107, 101, 114]⟩, cl, 2) : ByteArray × Int × Int) := HT.out.trans (by cases b5 <;> cases b6 <;> cases b7 <;> first | rfl | simp at hA)
  rw [hA] at HA
  clear hA
  go_upto_region 15 with (first | (refine wpList_load_mid rfl _ _ rfl _ _ rfl _ _ HQ.out Tryz.underlying45 rfl (by kernel_rfl) ?_) | (go_at_call 132; refine (HA.out _ _ _ _ _ _ _ _ _ _ _ _ _ _ _ _).mono ?_; rintro e Y ⟨rfl, hY⟩))
  replace HQ := hide (range_below HQ.out hY)
  replace HB := hide (HB.out.trans (hY.mono HB.out.size))
  clear g0 g1 g2 g3 g4 g5 g6 g7 g8 g9 g10 g11 g12 g13 g14 g15 g16 g17 hY
  obtain ⟨g0, g1, g2, g3, g4, g5, g6, g7, g8, g9, g10, g11, g12, g13, g14, g15, g16, g17⟩ := C18.of HQ.out
  go_wp2_with (first | (go_at_call 112; refine (HS.out _).mono ?_; rintro e w1 ⟨rfl, hw1⟩; rw [hw1]; clear hw1 w1) | (go_at_call 15; refine (new_any _ _ _ _).mono ?_; rintro e w1 ⟨rfl, hw1⟩; rw [hw1]; clear hw1 w1) | (go_at_call 130; first | (with_reducible refine (HN0.out _).mono ?_; rintro e w1 ⟨rfl, hw1⟩; rw [hw1]; clear hw1 w1) | (with_reducible refine (HN1.out _).mono ?_; rintro e w1 ⟨rfl, hw1⟩; rw [hw1]; clear hw1 w1) | (with_reducible refine (HN3.out _).mono ?_; rintro e w1 ⟨rfl, hw1⟩; rw [hw1]; clear hw1 w1) | (with_reducible refine (HN4.out _).mono ?_; rintro e w1 ⟨rfl, hw1⟩; rw [hw1]; clear hw1 w1)))
  go_ret
  exact ⟨by rw [hR]; rfl, HB.out⟩
 simp only [Bool.and_true] at HA
 go_upto_region 16 with (first | (refine wpList_load_mid rfl _ _ rfl _ _ rfl _ _ HQ.out Tryz.underlying45 rfl (by kernel_rfl) ?_) | (go_at_call 132; refine (HA.out _ _ _ _ _ _ _ _ _ _ _ _ _ _ _ _).mono ?_; rintro e Y ⟨rfl, hY⟩))
 replace HQ := hide (range_below HQ.out hY)
 replace HB := hide (HB.out.trans (hY.mono HB.out.size))
 clear g0 g1 g2 g3 g4 g5 g6 g7 g8 g9 g10 g11 g12 g13 g14 g15 g16 g17 hY
 clear X
 obtain ⟨X, hX⟩ : ∃ X', X' = Y := ⟨_, rfl⟩
 rw [← hX] at HQ HB ⊢
 clear hX Y
 obtain ⟨g0, g1, g2, g3, g4, g5, g6, g7, g8, g9, g10, g11, g12, g13, g14, g15, g16, g17⟩ := C18.of HQ.out
 have hFF : (fl = true ∧ hf = false) ∨ (fl = false) ∨ (fl = true ∧ hf = true) := by cases fl <;> cases hf <;> simp
 rcases hFF with ⟨rfl, rfl⟩ | hFF
 ·have hR : T = ((⟨#[102, 108, 97, 103]⟩, 1, 1) : ByteArray × Int × Int) := HT.out.trans (by first | rfl | simp [checkB, *])
  go_wp2_with (first | (go_at_call 126; refine (HF.out _).mono ?_; rintro e w1 ⟨rfl, hw1⟩; rw [hw1]; clear hw1 w1) | (go_at_call 15; refine (new_any _ _ _ _).mono ?_; rintro e w1 ⟨rfl, hw1⟩; rw [hw1]; clear hw1 w1))
  go_ret
  exact ⟨by rw [hR]; rfl, HB.out⟩
 have HFF : Hid ((fl && !hf) = false) := hide (by rcases hFF with rfl | ⟨rfl, rfl⟩ <;> simp)
 replace HT := hide (HT.out.trans (by rw [HFF.out]))
 rcases hFF with rfl | ⟨rfl, rfl⟩
 all_goals
  go_upto_region 18 with (first | (go_at_call 126; refine (HF.out _).mono ?_; rintro e w1 ⟨rfl, hw1⟩; rw [hw1]; clear hw1 w1) | (go_at_call 15; refine (new_any _ _ _ _).mono ?_; rintro e w1 ⟨rfl, hw1⟩; rw [hw1]; clear hw1 w1))
  rcases n0 with _ | _
  ·have hR : T = ((⟨#[110, 97, 109, 101]⟩, nm.length, 1) : ByteArray × Int × Int) := HT.out.trans (by first | rfl | simp [checkB, *])
   go_wp2_with (first | (go_at_call 133; first | (with_reducible refine (HM0.out _).mono ?_; rintro e Y ⟨rfl, hY⟩; replace HQ := hide (range_below HQ.out hY); replace HB := hide (HB.out.trans (hY.mono HB.out.size)); clear g0 g1 g2 g3 g4 g5 g6 g7 g8 g9 g10 g11 g12 g13 g14 g15 g16 g17 hY; obtain ⟨g0, g1, g2, g3, g4, g5, g6, g7, g8, g9, g10, g11, g12, g13, g14, g15, g16, g17⟩ := C18.of HQ.out) | (with_reducible refine (HM1.out _).mono ?_; rintro e Y ⟨rfl, hY⟩; replace HQ := hide (range_below HQ.out hY); replace HB := hide (HB.out.trans (hY.mono HB.out.size)); clear g0 g1 g2 g3 g4 g5 g6 g7 g8 g9 g10 g11 g12 g13 g14 g15 g16 g17 hY; obtain ⟨g0, g1, g2, g3, g4, g5, g6, g7, g8, g9, g10, g11, g12, g13, g14, g15, g16, g17⟩ := C18.of HQ.out) | (with_reducible refine (HM2.out _).mono ?_; rintro e Y ⟨rfl, hY⟩; replace HQ := hide (range_below HQ.out hY); replace HB := hide (HB.out.trans (hY.mono HB.out.size)); clear g0 g1 g2 g3 g4 g5 g6 g7 g8 g9 g10 g11 g12 g13 g14 g15 g16 g17 hY; obtain ⟨g0, g1, g2, g3, g4, g5, g6, g7, g8, g9, g10, g11, g12, g13, g14, g15, g16, g17⟩ := C18.of HQ.out)) | (go_at_call 15; refine (new_any _ _ _ _).mono ?_; rintro e w1 ⟨rfl, hw1⟩; rw [hw1]; clear hw1 w1))
   go_ret
   exact ⟨by rw [hR]; rfl, HB.out⟩
  rcases n1 with _ | _
  ·have hR : T = ((⟨#[110, 97, 109, 101]⟩, nm.length, 1) : ByteArray × Int × Int) := HT.out.trans (by first | rfl | simp [checkB, *])
   go_wp2_with (first | (go_at_call 133; first | (with_reducible refine (HM0.out _).mono ?_; rintro e Y ⟨rfl, hY⟩; replace HQ := hide (range_below HQ.out hY); replace HB := hide (HB.out.trans (hY.mono HB.out.size)); clear g0 g1 g2 g3 g4 g5 g6 g7 g8 g9 g10 g11 g12 g13 g14 g15 g16 g17 hY; obtain ⟨g0, g1, g2, g3, g4, g5, g6, g7, g8, g9, g10, g11, g12, g13, g14, g15, g16, g17⟩ := C18.of HQ.out) | (with_reducible refine (HM1.out _).mono ?_; rintro e Y ⟨rfl, hY⟩; replace HQ := hide (range_below HQ.out hY); replace HB := hide (HB.out.trans (hY.mono HB.out.size)); clear g0 g1 g2 g3 g4 g5 g6 g7 g8 g9 g10 g11 g12 g13 g14 g15 g16 g17 hY; obtain ⟨g0, g1, g2, g3, g4, g5, g6, g7, g8, g9, g10, g11, g12, g13, g14, g15, g16, g17⟩ := C18.of HQ.out) | (with_reducible refine (HM2.out _).mono ?_; rintro e Y ⟨rfl, hY⟩; replace HQ := hide (range_below HQ.out hY); replace HB := hide (HB.out.trans (hY.mono HB.out.size)); clear g0 g1 g2 g3 g4 g5 g6 g7 g8 g9 g10 g11 g12 g13 g14 g15 g16 g17 hY; obtain ⟨g0, g1, g2, g3, g4, g5, g6, g7, g8, g9, g10, g11, g12, g13, g14, g15, g16, g17⟩ := C18.of HQ.out)) | (go_at_call 15; refine (new_any _ _ _ _).mono ?_; rintro e w1 ⟨rfl, hw1⟩; rw [hw1]; clear hw1 w1))
   go_ret
   exact ⟨by rw [hR]; rfl, HB.out⟩
  rcases n2 with _ | _
  ·have hR : T = ((⟨#[110, 97, 109, 101]⟩, nm.length, 1) : ByteArray × Int × Int) := HT.out.trans (by first | rfl | simp [checkB, *])
   go_wp2_with (first | (go_at_call 133; first | (with_reducible refine (HM0.out _).mono ?_; rintro e Y ⟨rfl, hY⟩; replace HQ := hide (range_below HQ.out hY); replace HB := hide (HB.out.trans (hY.mono HB.out.size)); clear g0 g1 g2 g3 g4 g5 g6 g7 g8 g9 g10 g11 g12 g13 g14 g15 g16 g17 hY; obtain ⟨g0, g1, g2, g3, g4, g5, g6, g7, g8, g9, g10, g11, g12, g13, g14, g15, g16, g17⟩ := C18.of HQ.out) | (with_reducible refine (HM1.out _).mono ?_; rintro e Y ⟨rfl, hY⟩; replace HQ := hide (range_below HQ.out hY); replace HB := hide (HB.out.trans (hY.mono HB.out.size)); clear g0 g1 g2 g3 g4 g5 g6 g7 g8 g9 g10 g11 g12 g13 g14 g15 g16 g17 hY; obtain ⟨g0, g1, g2, g3, g4, g5, g6, g7, g8, g9, g10, g11, g12, g13, g14, g15, g16, g17⟩ := C18.of HQ.out) | (with_reducible refine (HM2.out _).mono ?_; rintro e Y ⟨rfl, hY⟩; replace HQ := hide (range_below HQ.out hY); replace HB := hide (HB.out.trans (hY.mono HB.out.size)); clear g0 g1 g2 g3 g4 g5 g6 g7 g8 g9 g10 g11 g12 g13 g14 g15 g16 g17 hY; obtain ⟨g0, g1, g2, g3, g4, g5, g6, g7, g8, g9, g10, g11, g12, g13, g14, g15, g16, g17⟩ := C18.of HQ.out)) | (go_at_call 15; refine (new_any _ _ _ _).mono ?_; rintro e w1 ⟨rfl, hw1⟩; rw [hw1]; clear hw1 w1))
   go_ret
   exact ⟨by rw [hR]; rfl, HB.out⟩
  go_upto_region 20 with (first | (go_at_call 133; first | (with_reducible refine (HM0.out _).mono ?_; rintro e Y ⟨rfl, hY⟩; replace HQ := hide (range_below HQ.out hY); replace HB := hide (HB.out.trans (hY.mono HB.out.size)); clear g0 g1 g2 g3 g4 g5 g6 g7 g8 g9 g10 g11 g12 g13 g14 g15 g16 g17 hY; obtain ⟨g0, g1, g2, g3, g4, g5, g6, g7, g8, g9, g10, g11, g12, g13, g14, g15, g16, g17⟩ := C18.of HQ.out) | (with_reducible refine (HM1.out _).mono ?_; rintro e Y ⟨rfl, hY⟩; replace HQ := hide (range_below HQ.out hY); replace HB := hide (HB.out.trans (hY.mono HB.out.size)); clear g0 g1 g2 g3 g4 g5 g6 g7 g8 g9 g10 g11 g12 g13 g14 g15 g16 g17 hY; obtain ⟨g0, g1, g2, g3, g4, g5, g6, g7, g8, g9, g10, g11, g12, g13, g14, g15, g16, g17⟩ := C18.of HQ.out) | (with_reducible refine (HM2.out _).mono ?_; rintro e Y ⟨rfl, hY⟩; replace HQ := hide (range_below HQ.out hY); replace HB := hide (HB.out.trans (hY.mono HB.out.size)); clear g0 g1 g2 g3 g4 g5 g6 g7 g8 g9 g10 g11 g12 g13 g14 g15 g16 g17 hY; obtain ⟨g0, g1, g2, g3, g4, g5, g6, g7, g8, g9, g10, g11, g12, g13, g14, g15, g16, g17⟩ := C18.of HQ.out)) | (go_at_call 15; refine (new_any _ _ _ _).mono ?_; rintro e w1 ⟨rfl, hw1⟩; rw [hw1]; clear hw1 w1))
  by_cases hvv : mv < (va.length : Int)
  ·have hR : T = ((⟨#[118, 97, 108, 117, 101]⟩, va.length, 6) : ByteArray × Int × Int) := HT.out.trans (by rw [decide_eq_true hvv]; rfl)
   go_quiet (first | (go_at_call 134; exact Calls.quiet_of_same (HV.out _)))
   replace HQ := hide (range_below HQ.out (below_drewN (Below.refl _ _) nq))
   replace HB := hide (below_drewN HB.out nq)
   clear g0 g1 g2 g3 g4 g5 g6 g7 g8 g9 g10 g11 g12 g13 g14 g15 g16 g17
   obtain ⟨g0, g1, g2, g3, g4, g5, g6, g7, g8, g9, g10, g11, g12, g13, g14, g15, g16, g17⟩ := C18.of HQ.out
   go_wp2_with (first | (go_at_call 15; refine (new_any _ _ _ _).mono ?_; rintro e w1 ⟨rfl, hw1⟩; rw [hw1]; clear hw1 w1))
   go_ret
   exact ⟨by rw [hR]; rfl, HB.out⟩
  replace HT := hide (HT.out.trans (by rw [decide_eq_false hvv]))
  go_quiet (first | (go_at_call 134; exact Calls.quiet_of_same (HV.out _)))
  replace HQ := hide (range_below HQ.out (below_drewN (Below.refl _ _) nq))
  replace HB := hide (below_drewN HB.out nq)
  clear g0 g1 g2 g3 g4 g5 g6 g7 g8 g9 g10 g11 g12 g13 g14 g15 g16 g17
  obtain ⟨g0, g1, g2, g3, g4, g5, g6, g7, g8, g9, g10, g11, g12, g13, g14, g15, g16, g17⟩ := C18.of HQ.out
  go_upto_region 22 with (first | (go_at_call 15; refine (new_any _ _ _ _).mono ?_; rintro e w1 ⟨rfl, hw1⟩; rw [hw1]; clear hw1 w1))
  rcases r0 with _ | _
  ·have hR : T = ((⟨#[114, 111, 119]⟩, ids.length, 18) : ByteArray × Int × Int) := HT.out.trans (by first | rfl | simp [checkB, *])
   go_wp2_with (first | (go_at_call 135; first | (with_reducible refine (HR0.out _ HB.out).mono ?_; rintro e w1 ⟨rfl, hw1⟩; rw [hw1]; clear hw1 w1) | (with_reducible refine (HR1.out _ HB.out).mono ?_; rintro e w1 ⟨rfl, hw1⟩; rw [hw1]; clear hw1 w1) | (with_reducible refine (HR2.out _ HB.out).mono ?_; rintro e w1 ⟨rfl, hw1⟩; rw [hw1]; clear hw1 w1) | (with_reducible refine (HR3.out _ HB.out).mono ?_; rintro e w1 ⟨rfl, hw1⟩; rw [hw1]; clear hw1 w1)) | (go_at_call 15; refine (new_any _ _ _ _).mono ?_; rintro e w1 ⟨rfl, hw1⟩; rw [hw1]; clear hw1 w1))
   go_ret
   exact ⟨by rw [hR]; rfl, HB.out⟩
  rcases r1 with _ | _
  ·have hR : T = ((⟨#[114, 111, 119]⟩, ids.length, 18) : ByteArray × Int × Int) := HT.out.trans (by first | rfl | simp [checkB, *])
   go_wp2_with (first | (go_at_call 135; first | (with_reducible refine (HR0.out _ HB.out).mono ?_; rintro e w1 ⟨rfl, hw1⟩; rw [hw1]; clear hw1 w1) | (with_reducible refine (HR1.out _ HB.out).mono ?_; rintro e w1 ⟨rfl, hw1⟩; rw [hw1]; clear hw1 w1) | (with_reducible refine (HR2.out _ HB.out).mono ?_; rintro e w1 ⟨rfl, hw1⟩; rw [hw1]; clear hw1 w1) | (with_reducible refine (HR3.out _ HB.out).mono ?_; rintro e w1 ⟨rfl, hw1⟩; rw [hw1]; clear hw1 w1)) | (go_at_call 15; refine (new_any _ _ _ _).mono ?_; rintro e w1 ⟨rfl, hw1⟩; rw [hw1]; clear hw1 w1))
   go_ret
   exact ⟨by rw [hR]; rfl, HB.out⟩
  rcases r2 with _ | _
  ·have hR : T = ((⟨#[114, 111, 119]⟩, ids.length, 18) : ByteArray × Int × Int) := HT.out.trans (by first | rfl | simp [checkB, *])
   go_wp2_with (first | (go_at_call 135; first | (with_reducible refine (HR0.out _ HB.out).mono ?_; rintro e w1 ⟨rfl, hw1⟩; rw [hw1]; clear hw1 w1) | (with_reducible refine (HR1.out _ HB.out).mono ?_; rintro e w1 ⟨rfl, hw1⟩; rw [hw1]; clear hw1 w1) | (with_reducible refine (HR2.out _ HB.out).mono ?_; rintro e w1 ⟨rfl, hw1⟩; rw [hw1]; clear hw1 w1) | (with_reducible refine (HR3.out _ HB.out).mono ?_; rintro e w1 ⟨rfl, hw1⟩; rw [hw1]; clear hw1 w1)) | (go_at_call 15; refine (new_any _ _ _ _).mono ?_; rintro e w1 ⟨rfl, hw1⟩; rw [hw1]; clear hw1 w1))
   go_ret
   exact ⟨by rw [hR]; rfl, HB.out⟩
  rcases r3 with _ | _
  ·have hR : T = ((⟨#[114, 111, 119]⟩, ids.length, 18) : ByteArray × Int × Int) := HT.out.trans (by first | rfl | simp [checkB, *])
   go_wp2_with (first | (go_at_call 135; first | (with_reducible refine (HR0.out _ HB.out).mono ?_; rintro e w1 ⟨rfl, hw1⟩; rw [hw1]; clear hw1 w1) | (with_reducible refine (HR1.out _ HB.out).mono ?_; rintro e w1 ⟨rfl, hw1⟩; rw [hw1]; clear hw1 w1) | (with_reducible refine (HR2.out _ HB.out).mono ?_; rintro e w1 ⟨rfl, hw1⟩; rw [hw1]; clear hw1 w1) | (with_reducible refine (HR3.out _ HB.out).mono ?_; rintro e w1 ⟨rfl, hw1⟩; rw [hw1]; clear hw1 w1)) | (go_at_call 15; refine (new_any _ _ _ _).mono ?_; rintro e w1 ⟨rfl, hw1⟩; rw [hw1]; clear hw1 w1))
   go_ret
   exact ⟨by rw [hR]; rfl, HB.out⟩
  have hR : T = ((⟨#[]⟩, 0, 0) : ByteArray × Int × Int) := HT.out.trans (by rfl)
  go_wp2_with (first | (go_at_call 135; first | (with_reducible refine (HR0.out _ HB.out).mono ?_; rintro e w1 ⟨rfl, hw1⟩; rw [hw1]; clear hw1 w1) | (with_reducible refine (HR1.out _ HB.out).mono ?_; rintro e w1 ⟨rfl, hw1⟩; rw [hw1]; clear hw1 w1) | (with_reducible refine (HR2.out _ HB.out).mono ?_; rintro e w1 ⟨rfl, hw1⟩; rw [hw1]; clear hw1 w1) | (with_reducible refine (HR3.out _ HB.out).mono ?_; rintro e w1 ⟨rfl, hw1⟩; rw [hw1]; clear hw1 w1)) | (go_at_call 15; refine (new_any _ _ _ _).mono ?_; rintro e w1 ⟨rfl, hw1⟩; rw [hw1]; clear hw1 w1))
  go_ret
  exact ⟨by rw [hR]; rfl, HB.out⟩
theorem ccheck_kind (k br ep tp pa le cl se co : Int) (fl : Bool) (nm ky va rk : List UInt8) (x14 x15 x16 x17 : Value) (w : World) (hk : ¬ (1 ≤ k ∧ k ≤ 12)) :
  Calls Tryz.prog 107 #[.agg #[.int .i64 k, .int .i64 br, .int .i64 ep, .int .i64 tp, .int .i64 pa, .int .i64 le, .int .i64 cl, .int .i64 se, .int .i64 co, .bool fl, .string ⟨nm.toArray⟩, .string ⟨ky.toArray⟩, .string ⟨va.toArray⟩, .string ⟨rk.toArray⟩, x14, x15, x16, x17]] w fun e w' => e = .returned (ft ⟨#[107, 105, 110, 100]⟩ k 5) ∧ Below w.heap.size w w' := by
 have HS := hide (fun W => subj_any k W)
 rw [show knd k = false from decide_eq_false hk] at HS
 clear hk
 go_enter Tryz.func107, Tryz.ntmps107
 go_wp2_with (first | (go_at_call 112; refine (HS.out _).mono ?_; rintro e w1 ⟨rfl, hw1⟩; rw [hw1]; clear hw1 w1) | (go_at_call 15; refine (new_any _ _ _ _).mono ?_; rintro e w1 ⟨rfl, hw1⟩; rw [hw1]; clear hw1 w1))
 go_ret
 exact ⟨rfl, (Below.refl _ _).alloc (Nat.le_refl _) _⟩
theorem ccheck_any {ok : Nat → Prop} (r : Rc) (v : Value) (w : World) (hv : IsR ok w v r) (ht : TxR r) : Calls Tryz.prog 107 #[v] w fun e w' => e = .returned (erN (chk r).1 (chk r).2.1 (chk r).2.2) ∧ Below w.heap.size w w' := by
 obtain ⟨a14, a15, a16, a17, c14, c15, c16, c17, rfl, h⟩ := hv
 by_cases hk : 1 ≤ r.k ∧ r.k ≤ 12
 ·exact ccheck_ok r.k r.br r.ep r.tp r.pa r.le r.cl r.se r.co r.fl r.nm r.ky r.va r.rk a14 a15 a16 a17 c14 c15 c16 c17 r.ids r.isr r.ad r.dr w hk ht.nm ht.ky ht.va ht.rk h.h14.sl h.h15.sl h.h16.sl h.h17.sl (chk r) (chk_eq hk)
 ·rw [chk_kind hk]
  exact ccheck_kind r.k r.br r.ep r.tp r.pa r.le r.cl r.se r.co r.fl r.nm r.ky r.va r.rk _ _ _ _ w hk
def stN (a : Nat) (r : Int × Nat × Int) : Value := .tuple #[if r.1 = 0 then stv (a + r.2.1 : Nat) 0 ⟨#[]⟩ 0 else stv a r.1 ⟨#[110, 117, 109]⟩ a, .int .u64 r.2.2]
theorem drop_at {l r : List Int} {a i : Nat} {x : Int} (h : l.drop a = r) (hi : r[i]? = some x) : ∃ hlt : a + i < l.length, l[a + i] = x := by
 rw [← h, List.getElem?_drop] at hi
 obtain ⟨h1, h2⟩ := List.getElem?_eq_some_iff.1 hi
 exact ⟨h1, h2⟩
theorem drop_len {l r : List Int} {a : Nat} (h : l.drop a = r) : r.length = l.length - a := by rw [← h, List.length_drop]
theorem num_next (v : Value) (l : List Int) (a : Nat) (wh most : Int) (op : ByteArray) (w : World) (hv : Sl bc w v l) (hl : l.length ≤ 4000) (hby : ∀ x ∈ l, 0 ≤ x ∧ x ≤ 255) :
  Calls Tryz.prog 85 #[v, stv a 0 op wh, .int .u64 most] w fun e w' => e = .returned (stN a (numS (l.drop a) most)) ∧ Below w.heap.size w w' := by
 generalize hr : l.drop a = r
 have hlen := drop_len hr
 rcases r with _ | ⟨x0, r⟩
 ·obtain ⟨ao, cap, rfl⟩ := hv.form
  exact num_none ao l.length cap a wh most op w (by simp at hlen; omega)
 ·rcases hv with ⟨ao, cap, rfl, rfl⟩ | ⟨b, o, cap, rfl, _, h3⟩
  ·simp at hr
  ·have get : ∀ i x, (x0 :: r)[i]? = some x → w.cell? ⟨b, o + (a + i), none⟩ = some (.int .u8 x) ∧ 0 ≤ x ∧ x ≤ 255 := by
    intro i x hx
    obtain ⟨h1, h2⟩ := drop_at hr hx
    have h4 := h3 (a + i) h1
    rw [h2] at h4
    exact ⟨h4, hby x (by rw [← h2]; exact List.getElem_mem h1)⟩
   obtain ⟨c0, l0, u0⟩ := get 0 x0 rfl
   have ha : a < l.length := by simp at hlen; omega
   simp only [Nat.add_zero] at c0
   by_cases k0 : x0 / 64 = 0
   ·simp only [numS, if_pos k0, finN, if_neg (show ¬ x0 % 64 < 0 by omega)]
    by_cases hlim : most < x0 % 64
    ·rw [if_pos hlim]
     exact num1_limit b o l.length cap a wh most x0 op w hl (by omega) l0 u0 k0 hlim c0
    ·rw [if_neg hlim]
     exact num1_ok b o l.length cap a wh most x0 op w hl (by omega) l0 u0 k0 hlim c0
   ·by_cases k1 : x0 / 64 = 1
    ·simp only [numS, if_neg k0, if_pos k1]
     rcases r with _ | ⟨x1, r⟩
     ·exact num2_short b o l.length cap a wh most x0 op w hl ha (by simp at hlen; omega) l0 u0 k1 c0
     ·obtain ⟨c1, l1, u1⟩ := get 1 x1 rfl
      simp only [finN]
      by_cases hk : x0 % 64 * 256 + x1 < 64
      ·rw [if_pos hk]
       exact num2_kind b o l.length cap a wh most x0 x1 op w hl (by simp at hlen; omega) l0 u0 l1 u1 k1 hk c0 c1
      ·rw [if_neg hk]
       by_cases hlim : most < x0 % 64 * 256 + x1
       ·rw [if_pos hlim]
        exact num2_limit b o l.length cap a wh most x0 x1 op w hl (by simp at hlen; omega) l0 u0 l1 u1 k1 (by omega) hlim c0 c1
       ·rw [if_neg hlim]
        exact num2_ok b o l.length cap a wh most x0 x1 op w hl (by simp at hlen; omega) l0 u0 l1 u1 k1 (by omega) hlim c0 c1
    ·by_cases k2 : x0 / 64 = 2
     ·simp only [numS, if_neg k0, if_neg k1, if_pos k2]
      rcases r with _ | ⟨x1, _ | ⟨x2, _ | ⟨x3, r⟩⟩⟩
      ·exact num4_short b o l.length cap a wh most x0 op w hl ha (by simp at hlen; omega) l0 u0 k2 c0
      ·exact num4_short b o l.length cap a wh most x0 op w hl ha (by simp at hlen; omega) l0 u0 k2 c0
      ·exact num4_short b o l.length cap a wh most x0 op w hl ha (by simp at hlen; omega) l0 u0 k2 c0
      ·obtain ⟨c1, l1, u1⟩ := get 1 x1 rfl
       obtain ⟨c2, l2, u2⟩ := get 2 x2 rfl
       obtain ⟨c3, l3, u3⟩ := get 3 x3 rfl
       simp only [finN]
       by_cases hk : ((x0 % 64 * 256 + x1) * 256 + x2) * 256 + x3 < 16384
       ·rw [if_pos hk]
        exact num4_kind b o l.length cap a wh most x0 x1 x2 x3 op w hl (by simp at hlen; omega) l0 u0 l1 u1 l2 u2 l3 u3 k2 hk c0 c1 c2 c3
       ·rw [if_neg hk]
        by_cases hlim : most < ((x0 % 64 * 256 + x1) * 256 + x2) * 256 + x3
        ·rw [if_pos hlim]
         exact num4_limit b o l.length cap a wh most x0 x1 x2 x3 op w hl (by simp at hlen; omega) l0 u0 l1 u1 l2 u2 l3 u3 k2 (by omega) hlim c0 c1 c2 c3
        ·rw [if_neg hlim]
         exact num4_ok b o l.length cap a wh most x0 x1 x2 x3 op w hl (by simp at hlen; omega) l0 u0 l1 u1 l2 u2 l3 u3 k2 (by omega) hlim c0 c1 c2 c3
     ·have k3 : x0 / 64 = 3 := by omega
      simp only [numS, if_neg k0, if_neg k1, if_neg k2]
      rcases r with _ | ⟨x1, _ | ⟨x2, _ | ⟨x3, _ | ⟨x4, _ | ⟨x5, _ | ⟨x6, _ | ⟨x7, r⟩⟩⟩⟩⟩⟩⟩
      ·exact num8_short b o l.length cap a wh most x0 op w hl ha (by simp at hlen; omega) l0 u0 k3 c0
      ·exact num8_short b o l.length cap a wh most x0 op w hl ha (by simp at hlen; omega) l0 u0 k3 c0
      ·exact num8_short b o l.length cap a wh most x0 op w hl ha (by simp at hlen; omega) l0 u0 k3 c0
      ·exact num8_short b o l.length cap a wh most x0 op w hl ha (by simp at hlen; omega) l0 u0 k3 c0
      ·exact num8_short b o l.length cap a wh most x0 op w hl ha (by simp at hlen; omega) l0 u0 k3 c0
      ·exact num8_short b o l.length cap a wh most x0 op w hl ha (by simp at hlen; omega) l0 u0 k3 c0
      ·exact num8_short b o l.length cap a wh most x0 op w hl ha (by simp at hlen; omega) l0 u0 k3 c0
      ·obtain ⟨c1, l1, u1⟩ := get 1 x1 rfl
       obtain ⟨c2, l2, u2⟩ := get 2 x2 rfl
       obtain ⟨c3, l3, u3⟩ := get 3 x3 rfl
       obtain ⟨c4, l4, u4⟩ := get 4 x4 rfl
       obtain ⟨c5, l5, u5⟩ := get 5 x5 rfl
       obtain ⟨c6, l6, u6⟩ := get 6 x6 rfl
       obtain ⟨c7, l7, u7⟩ := get 7 x7 rfl
       simp only [finN]
       generalize hN : ((((((x0 % 64 * 256 + x1) * 256 + x2) * 256 + x3) * 256 + x4) * 256 + x5) * 256 + x6) * 256 + x7 = nn
       by_cases hk : nn < 1073741824
       ·rw [if_pos hk]
        exact num8_kind b o l.length cap a wh most x0 x1 x2 x3 x4 x5 x6 x7 op w hl (by simp at hlen; omega) l0 u0 l1 u1 l2 u2 l3 u3 l4 u4 l5 u5 l6 u6 l7 u7 k3 (by rw [hN]; exact hk) c0 c1 c2 c3 c4 c5 c6 c7
       ·rw [if_neg hk]
        by_cases hlim : most < nn
        ·rw [if_pos hlim]
         exact num8_limit b o l.length cap a wh most x0 x1 x2 x3 x4 x5 x6 x7 op w hl (by simp at hlen; omega) l0 u0 l1 u1 l2 u2 l3 u3 l4 u4 l5 u5 l6 u6 l7 u7 k3 (by rw [hN]; omega) (by rw [hN]; exact hlim) c0 c1 c2 c3 c4 c5 c6 c7
        ·rw [if_neg hlim, ← hN]
         exact num8_ok b o l.length cap a wh most x0 x1 x2 x3 x4 x5 x6 x7 op w hl (by simp at hlen; omega) l0 u0 l1 u1 l2 u2 l3 u3 l4 u4 l5 u5 l6 u6 l7 u7 k3 (by rw [hN]; omega) (by rw [hN]; exact hlim) c0 c1 c2 c3 c4 c5 c6 c7
theorem bad_keep (a c wh at' c' : Int) (op s : ByteArray) (w : World) (hc : (c != 0) = true) :
  Calls Tryz.prog 87 #[stv a c op wh, .string s, .int .i64 at', .int .i64 c'] w fun e w' => e = .returned (stv a c op wh) ∧ Below w.heap.size w w' := by
 unfold stv
 go_enter Tryz.func87, Tryz.ntmps87
 go_wp2
 exact bodyPost_ret (v := .agg #[.int .i64 a, .int .i64 c, .string op, .int .i64 wh]) (by simp [results, Tryz.results87, go_sem]) rfl ⟨rfl, ((Below.refl _ _).alloc (Nat.le_refl _) _).alloc (by simp) _⟩
theorem end_all (ao : Option Addr) (L cap a : Nat) (c wh : Int) (op : ByteArray) (w : World) (ha : L ≤ a) :
  Calls Tryz.prog 60 #[.slice ao L cap, stv a c op wh] w fun e w' => e = .returned (stv a c op wh) ∧ Below w.heap.size w w' := by
 have ha' : ¬ (a : Int) < (L : Int) := by omega
 unfold stv
 go_enter Tryz.func60, Tryz.ntmps60
 go_wp2
 exact bodyPost_ret (v := .agg #[.int .i64 a, .int .i64 c, .string op, .int .i64 wh]) (by simp [results, Tryz.results60, go_sem]) rfl ⟨rfl, ((Below.refl _ _).alloc (Nat.le_refl _) _).alloc (by simp) _⟩
theorem end_left (ao : Option Addr) (L cap a : Nat) (c wh c2 wh2 : Int) (op op2 : ByteArray) (w : World) (ha : a < L)
  (HB : Hid (∀ W, Calls Tryz.prog 87 #[stv a c op wh, .string ⟨#[101, 110, 100]⟩, .int .i64 a, .int .i64 5] W fun e w' => e = .returned (stv a c2 op2 wh2) ∧ Below W.heap.size W w')) :
  Calls Tryz.prog 60 #[.slice ao L cap, stv a c op wh] w fun e w' => e = .returned (stv a c2 op2 wh2) ∧ Below w.heap.size w w' := by
 have ha' : (a : Int) < (L : Int) := by omega
 unfold stv at HB ⊢
 go_enter Tryz.func60, Tryz.ntmps60
 go_wp2_with (first | (go_at_call 87; refine (HB.out _).mono ?_; rintro e w' ⟨rfl, hb⟩; obtain ⟨hcc, hf⟩ := bcell hb))
 have q0 : w'.cell? ⟨w.heap.size + 1, 0, none⟩ = some (.int .i64 0) := by rw [hcc _ _ (by simp)]; simp
 have q1 : w'.cell? ⟨w.heap.size + 1, 1, none⟩ = some (.int .i64 0) := by rw [hcc _ _ (by simp)]; simp
 have q2 : w'.cell? ⟨w.heap.size + 1, 2, none⟩ = some (.string ⟨#[]⟩) := by rw [hcc _ _ (by simp)]; simp
 have q3 : w'.cell? ⟨w.heap.size + 1, 3, none⟩ = some (.int .i64 0) := by rw [hcc _ _ (by simp)]; simp
 have T := four_cells (x := .int .i64 a) (y := .int .i64 c2) (z := .string op2) (t := .int .i64 wh2) q0 q1 q2 q3
 have hB : Below w.heap.size w w' := (((Below.refl _ _).alloc (Nat.le_refl _) _).alloc (by simp) _).trans (hb.mono (by simp; omega))
 exact bodyPost_ret (v := .agg #[.int .i64 a, .int .i64 c2, .string op2, .int .i64 wh2]) (by simp [results, Tryz.results60, go_sem, T.1, T.2.1, T.2.2.1, T.2.2.2]) rfl ⟨rfl, (((hB.setCell (by simp) _).setCell (by simp) _).setCell (by simp) _).setCell (by simp) _⟩
end Go.Proofs.YtjjpfajbljbelaaGreatDoor
