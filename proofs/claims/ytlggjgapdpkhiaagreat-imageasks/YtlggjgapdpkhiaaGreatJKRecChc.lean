/-
  WHAT IS WRONG WITH A RECORD FIRST (record.Check).
-/
import Derived.Test.YtlggjgapdpkhiaaGreatJKRecMa5
import Derived.Test.YtlggjgapdpkhiaaGreatJKIsca5
import Derived.Deep.MidRow
import Derived.Deep.DeepCutAuto
namespace Go.Proofs.YtlggjgapdpkhiaaGreat
open Go.RowKit
set_option maxRecDepth 100000
set_option maxHeartbeats 16000000
theorem asked_any (a cl se co : Int) (b5 b6 b7 : Bool) (x0 x1 x2 x3 x4 x5 x9 x10 x11 x12 x13 x14 x15 x16 x17 : Value) (w : World) (H5 : Hid (∀ W, Calls Tryz.prog 86 #[.int .u32 a, .int .u32 32, .int .i64 cl, .int .i64 1, .int .i64 1073741824] W fun e w' => e = .returned (.bool b5) ∧ w' = W)) (H6 : Hid (∀ W, Calls Tryz.prog 86 #[.int .u32 a, .int .u32 64, .int .i64 se, .int .i64 1, .int .i64 1073741824] W fun e w' => e = .returned (.bool b6) ∧ w' = W)) (H7 : Hid (∀ W, Calls Tryz.prog 86 #[.int .u32 a, .int .u32 128, .int .i64 co, .int .i64 0, .int .i64 21] W fun e w' => e = .returned (.bool b7) ∧ w' = W)) :
  Calls Tryz.prog 88 #[.int .u32 a, .agg #[x0, x1, x2, x3, x4, x5, .int .i64 cl, .int .i64 se, .int .i64 co, x9, x10, x11, x12, x13, x14, x15, x16, x17]] w fun e w' => e = .returned (.bool (b5 && b6 && b7)) ∧ Below w.heap.size w w' := by
 cases b5 <;> cases b6 <;> cases b7
 all_goals
  go_enter Tryz.func88, Tryz.ntmps88
  go_wp2_with (go_at_call 86; first | (with_reducible refine (H5.out _).mono ?_; rintro e w' ⟨rfl, rfl⟩) | (with_reducible refine (H6.out _).mono ?_; rintro e w' ⟨rfl, rfl⟩) | (with_reducible refine (H7.out _).mono ?_; rintro e w' ⟨rfl, rfl⟩))
  go_ret
  exact ⟨rfl, (Below.refl _ _).alloc (Nat.le_refl _) _⟩
theorem ccheck_ok (k br ep tp pa le cl se co : Int) (fl : Bool) (nm ky va rk : List UInt8) (a14 a15 a16 a17 : Option Addr) (c14 c15 c16 c17 : Nat) (ids isr ad dr : List Int) (w : World) (hk : 1 ≤ k ∧ k ≤ 12) (hS1 : nm.length ≤ 1000) (hS2 : ky.length ≤ 1000) (_hS3 : va.length ≤ 1000) (hS4 : rk.length ≤ 1000)
  (h14 : Sl ic w (.slice a14 ids.length c14) ids) (h15 : Sl ic w (.slice a15 isr.length c15) isr) (h16 : Sl ic w (.slice a16 ad.length c16) ad) (h17 : Sl ic w (.slice a17 dr.length c17) dr) (T : ByteArray × Int × Int)
  (hT : T = checkB br ep tp pa le cl nm.length va.length ids.length
  (numB br (hasL k 98) 1 64) (numB ep (hasL k 101) 0 1073741824) (numB tp (hasL k 116) (if k = 10 then 0 else 1) 1073741824) (numB pa (hasL k 112) 0 255) (numB le (hasL k 108) 0 64)
  (numB cl (hasL k 97) 1 1073741824) (numB se (hasL k 97) 1 1073741824) (numB co (hasL k 97) 0 21) (fl && !hasL k 102)
  (nameA nm (hasL k 110)) (nameA ky (hasL k 107)) (nameA rk (hasL k 114)) (decide (mostV (hasL k 118) fl < (va.length : Int)))
  (rowB ids (hasL k 105)) (rowB isr (hasL k 109)) (rowB ad (hasL k 120)) (rowB dr (hasL k 120))) :
  Calls Tryz.prog 60 #[.agg #[.int .i64 k, .int .i64 br, .int .i64 ep, .int .i64 tp, .int .i64 pa, .int .i64 le, .int .i64 cl, .int .i64 se, .int .i64 co, .bool fl, .string ⟨nm.toArray⟩, .string ⟨ky.toArray⟩, .string ⟨va.toArray⟩, .string ⟨rk.toArray⟩, .slice a14 ids.length c14, .slice a15 isr.length c15, .slice a16 ad.length c16, .slice a17 dr.length c17]] w fun e w' => e = .returned (erN T.1 T.2.1 T.2.2) ∧ Below w.heap.size w w' := by
 obtain ⟨q0, q1, q2, q3, q4, q5, q6, q7, q8, q9, q10, q11, q12, q13, q14, q15, q16⟩ := bit_has hk
 have HS := Hd (fun W => subj_any k W)
 rw [show knd k = true from decide_eq_true hk] at HS
 have HL := Hd (fun W => least_any k W)
 obtain ⟨lo, hlo⟩ : ∃ lo : Int, lo = if k = 10 then 0 else 1 := ⟨_, rfl⟩
 rw [← hlo] at HL hT
 clear hlo
 generalize sbj k = a at *
 have HN0 := Hd (fun W => within_any a 1 br 1 64 W)
 have HN1 := Hd (fun W => within_any a 2 ep 0 1073741824 W)
 have HN2 := Hd (fun W => within_any a 4 tp lo 1073741824 W)
 have HN3 := Hd (fun W => within_any a 8 pa 0 255 W)
 have HN4 := Hd (fun W => within_any a 16 le 0 64 W)
 have HN5 := Hd (fun W => within_any a 32 cl 1 1073741824 W)
 have HN6 := Hd (fun W => within_any a 64 se 1 1073741824 W)
 have HN7 := Hd (fun W => within_any a 128 co 0 21 W)
 have HF := Hd (fun W => bhas_any a 256 W)
 have HM0 := Hd (fun W => named_any a 512 nm W hS1)
 have HM1 := Hd (fun W => named_any a 1024 ky W hS2)
 have HM2 := Hd (fun W => named_any a 4096 rk W hS4)
 have HV := Hd (fun W => most_any a fl W)
 have HR0 := Hd (fun W (h : Below w.heap.size w W) => listed_any a 8192 _ ids W (h14.below h))
 have HR1 := Hd (fun W (h : Below w.heap.size w W) => listed_any a 16384 _ isr W (h15.below h))
 have HR2 := Hd (fun W (h : Below w.heap.size w W) => listed_any a 32768 _ ad W (h16.below h))
 have HR3 := Hd (fun W (h : Below w.heap.size w W) => listed_any a 65536 _ dr W (h17.below h))
 rw [q0] at HN0
 rw [q1] at HN1
 rw [q2] at HN2
 rw [q3] at HN3
 rw [q4] at HN4
 rw [q5] at HN5
 rw [q6] at HN6
 rw [q7] at HN7
 rw [q8] at HF
 rw [q9] at HM0
 rw [q10] at HM1
 rw [q11] at HV
 rw [q12] at HM2
 rw [q13] at HR0
 rw [q14] at HR1
 rw [q15] at HR2
 rw [q16] at HR3
 clear q0 q1 q2 q3 q4 q5 q6 q7 q8 q9 q10 q11 q12 q13 q14 q15 q16 h14 h15 h16 h17 hk
 generalize numB br (hasL k 98) 1 64 = b0 at *
 generalize numB ep (hasL k 101) 0 1073741824 = b1 at *
 generalize numB tp (hasL k 116) lo 1073741824 = b2 at *
 generalize numB pa (hasL k 112) 0 255 = b3 at *
 generalize numB le (hasL k 108) 0 64 = b4 at *
 generalize numB cl (hasL k 97) 1 1073741824 = b5 at *
 generalize numB se (hasL k 97) 1 1073741824 = b6 at *
 generalize numB co (hasL k 97) 0 21 = b7 at *
 generalize hasL k 102 = hf at *
 generalize nameA nm (hasL k 110) = n0 at *
 generalize nameA ky (hasL k 107) = n1 at *
 generalize nameA rk (hasL k 114) = n2 at *
 generalize mostV (hasL k 118) fl = mv at *
 generalize rowB ids (hasL k 105) = r0 at *
 generalize rowB isr (hasL k 109) = r1 at *
 generalize rowB ad (hasL k 120) = r2 at *
 generalize rowB dr (hasL k 120) = r3 at *
 have HA := Hd (fun x0 x1 x2 x3 x4 x5 x9 x10 x11 x12 x13 x14 x15 x16 x17 W => asked_any a cl se co b5 b6 b7 x0 x1 x2 x3 x4 x5 x9 x10 x11 x12 x13 x14 x15 x16 x17 W HN5 HN6 HN7)
 have HT := Hd hT
 clear hT HN5 HN6 HN7
 have HQ : Hid ((w.alloc (.cells #[.int .i64 k, .int .i64 br, .int .i64 ep, .int .i64 tp, .int .i64 pa, .int .i64 le, .int .i64 cl, .int .i64 se, .int .i64 co, .bool fl, .string ⟨nm.toArray⟩, .string ⟨ky.toArray⟩, .string ⟨va.toArray⟩, .string ⟨rk.toArray⟩, .slice a14 ids.length c14, .slice a15 isr.length c15, .slice a16 ad.length c16, .slice a17 dr.length c17] 65)).rangeAt w.heap.size 0 [.int .i64 k, .int .i64 br, .int .i64 ep, .int .i64 tp, .int .i64 pa, .int .i64 le, .int .i64 cl, .int .i64 se, .int .i64 co, .bool fl, .string ⟨nm.toArray⟩, .string ⟨ky.toArray⟩, .string ⟨va.toArray⟩, .string ⟨rk.toArray⟩, .slice a14 ids.length c14, .slice a15 isr.length c15, .slice a16 ad.length c16, .slice a17 dr.length c17]) := Hd (range_new w _ _)
 have HB : Hid (Below w.heap.size w (w.alloc (.cells #[.int .i64 k, .int .i64 br, .int .i64 ep, .int .i64 tp, .int .i64 pa, .int .i64 le, .int .i64 cl, .int .i64 se, .int .i64 co, .bool fl, .string ⟨nm.toArray⟩, .string ⟨ky.toArray⟩, .string ⟨va.toArray⟩, .string ⟨rk.toArray⟩, .slice a14 ids.length c14, .slice a15 isr.length c15, .slice a16 ad.length c16, .slice a17 dr.length c17] 65))) := Hd ((Below.refl _ _).alloc (Nat.le_refl _) _)
 go_enter Tryz.func60, Tryz.ntmps60
 go_upto_region 1 with fail
 generalize w.alloc (.cells #[.int .i64 k, .int .i64 br, .int .i64 ep, .int .i64 tp, .int .i64 pa, .int .i64 le, .int .i64 cl, .int .i64 se, .int .i64 co, .bool fl, .string ⟨nm.toArray⟩, .string ⟨ky.toArray⟩, .string ⟨va.toArray⟩, .string ⟨rk.toArray⟩, .slice a14 ids.length c14, .slice a15 isr.length c15, .slice a16 ad.length c16, .slice a17 dr.length c17] 65) = X at HQ HB ⊢
 obtain ⟨g0, g1, g2, g3, g4, g5, g6, g7, g8, g9, g10, g11, g12, g13, g14, g15, g16, g17⟩ := C18.of HQ.out
 rcases b0 with _ | _
 ·have hR : T = ((⟨#[98, 114, 111, 107, 101, 114]⟩, br, 2) : ByteArray × Int × Int) := HT.out.trans (by first | rfl | simp [checkB, *])
  go_wp2_with (first | (go_at_call 84; refine (HS.out _).mono ?_; rintro e w1 ⟨rfl, hw1⟩; rw [hw1]; clear hw1 w1) | (go_at_call 85; refine (new_any _ _ _ _).mono ?_; rintro e w1 ⟨rfl, hw1⟩; rw [hw1]; clear hw1 w1) | (go_at_call 86; first | (with_reducible refine (HN0.out _).mono ?_; rintro e w1 ⟨rfl, hw1⟩; rw [hw1]; clear hw1 w1) | (with_reducible refine (HN1.out _).mono ?_; rintro e w1 ⟨rfl, hw1⟩; rw [hw1]; clear hw1 w1) | (with_reducible refine (HN3.out _).mono ?_; rintro e w1 ⟨rfl, hw1⟩; rw [hw1]; clear hw1 w1) | (with_reducible refine (HN4.out _).mono ?_; rintro e w1 ⟨rfl, hw1⟩; rw [hw1]; clear hw1 w1)))
  go_ret
  exact ⟨by rw [hR]; rfl, HB.out⟩
 go_upto_region 6 with (first | (go_at_call 84; refine (HS.out _).mono ?_; rintro e w1 ⟨rfl, hw1⟩; rw [hw1]; clear hw1 w1) | (go_at_call 85; refine (new_any _ _ _ _).mono ?_; rintro e w1 ⟨rfl, hw1⟩; rw [hw1]; clear hw1 w1) | (go_at_call 86; first | (with_reducible refine (HN0.out _).mono ?_; rintro e w1 ⟨rfl, hw1⟩; rw [hw1]; clear hw1 w1) | (with_reducible refine (HN1.out _).mono ?_; rintro e w1 ⟨rfl, hw1⟩; rw [hw1]; clear hw1 w1) | (with_reducible refine (HN3.out _).mono ?_; rintro e w1 ⟨rfl, hw1⟩; rw [hw1]; clear hw1 w1) | (with_reducible refine (HN4.out _).mono ?_; rintro e w1 ⟨rfl, hw1⟩; rw [hw1]; clear hw1 w1)))
 rcases b1 with _ | _
 ·have hR : T = ((⟨#[101, 112, 111, 99, 104]⟩, ep, 2) : ByteArray × Int × Int) := HT.out.trans (by first | rfl | simp [checkB, *])
  go_wp2_with (first | (go_at_call 84; refine (HS.out _).mono ?_; rintro e w1 ⟨rfl, hw1⟩; rw [hw1]; clear hw1 w1) | (go_at_call 85; refine (new_any _ _ _ _).mono ?_; rintro e w1 ⟨rfl, hw1⟩; rw [hw1]; clear hw1 w1) | (go_at_call 86; first | (with_reducible refine (HN0.out _).mono ?_; rintro e w1 ⟨rfl, hw1⟩; rw [hw1]; clear hw1 w1) | (with_reducible refine (HN1.out _).mono ?_; rintro e w1 ⟨rfl, hw1⟩; rw [hw1]; clear hw1 w1) | (with_reducible refine (HN3.out _).mono ?_; rintro e w1 ⟨rfl, hw1⟩; rw [hw1]; clear hw1 w1) | (with_reducible refine (HN4.out _).mono ?_; rintro e w1 ⟨rfl, hw1⟩; rw [hw1]; clear hw1 w1)))
  go_ret
  exact ⟨by rw [hR]; rfl, HB.out⟩
 go_upto_region 8 with (first | (go_at_call 84; refine (HS.out _).mono ?_; rintro e w1 ⟨rfl, hw1⟩; rw [hw1]; clear hw1 w1) | (go_at_call 85; refine (new_any _ _ _ _).mono ?_; rintro e w1 ⟨rfl, hw1⟩; rw [hw1]; clear hw1 w1) | (go_at_call 86; first | (with_reducible refine (HN0.out _).mono ?_; rintro e w1 ⟨rfl, hw1⟩; rw [hw1]; clear hw1 w1) | (with_reducible refine (HN1.out _).mono ?_; rintro e w1 ⟨rfl, hw1⟩; rw [hw1]; clear hw1 w1) | (with_reducible refine (HN3.out _).mono ?_; rintro e w1 ⟨rfl, hw1⟩; rw [hw1]; clear hw1 w1) | (with_reducible refine (HN4.out _).mono ?_; rintro e w1 ⟨rfl, hw1⟩; rw [hw1]; clear hw1 w1)))
 rcases b2 with _ | _
 ·have hR : T = ((⟨#[116, 111, 112, 105, 99]⟩, tp, 2) : ByteArray × Int × Int) := HT.out.trans (by rfl)
  go_quiet (first | (go_at_call 87; exact Calls.quiet_of_same (HL.out _)) | (go_at_call 86; exact Calls.quiet_of_same (HN2.out _)))
  replace HQ := Hd (range_below HQ.out (below_drewN (Below.refl _ _) nq))
  replace HB := Hd (below_drewN HB.out nq)
  clear g0 g1 g2 g3 g4 g5 g6 g7 g8 g9 g10 g11 g12 g13 g14 g15 g16 g17
  obtain ⟨X, hX⟩ : ∃ X', X' = X.drewN nq := ⟨_, rfl⟩
  rw [← hX] at HQ HB ⊢
  clear hX
  obtain ⟨g0, g1, g2, g3, g4, g5, g6, g7, g8, g9, g10, g11, g12, g13, g14, g15, g16, g17⟩ := C18.of HQ.out
  go_wp2_with (first | (go_at_call 84; refine (HS.out _).mono ?_; rintro e w1 ⟨rfl, hw1⟩; rw [hw1]; clear hw1 w1) | (go_at_call 85; refine (new_any _ _ _ _).mono ?_; rintro e w1 ⟨rfl, hw1⟩; rw [hw1]; clear hw1 w1) | (go_at_call 86; first | (with_reducible refine (HN0.out _).mono ?_; rintro e w1 ⟨rfl, hw1⟩; rw [hw1]; clear hw1 w1) | (with_reducible refine (HN1.out _).mono ?_; rintro e w1 ⟨rfl, hw1⟩; rw [hw1]; clear hw1 w1) | (with_reducible refine (HN3.out _).mono ?_; rintro e w1 ⟨rfl, hw1⟩; rw [hw1]; clear hw1 w1) | (with_reducible refine (HN4.out _).mono ?_; rintro e w1 ⟨rfl, hw1⟩; rw [hw1]; clear hw1 w1)))
  go_ret
  exact ⟨by rw [hR]; rfl, HB.out⟩
 go_quiet (first | (go_at_call 87; exact Calls.quiet_of_same (HL.out _)) | (go_at_call 86; exact Calls.quiet_of_same (HN2.out _)))
 replace HQ := Hd (range_below HQ.out (below_drewN (Below.refl _ _) nq))
 replace HB := Hd (below_drewN HB.out nq)
 clear g0 g1 g2 g3 g4 g5 g6 g7 g8 g9 g10 g11 g12 g13 g14 g15 g16 g17
 obtain ⟨X, hX⟩ : ∃ X', X' = X.drewN nq := ⟨_, rfl⟩
 rw [← hX] at HQ HB ⊢
 clear hX
 obtain ⟨g0, g1, g2, g3, g4, g5, g6, g7, g8, g9, g10, g11, g12, g13, g14, g15, g16, g17⟩ := C18.of HQ.out
 go_upto_region 10 with (first | (go_at_call 84; refine (HS.out _).mono ?_; rintro e w1 ⟨rfl, hw1⟩; rw [hw1]; clear hw1 w1) | (go_at_call 85; refine (new_any _ _ _ _).mono ?_; rintro e w1 ⟨rfl, hw1⟩; rw [hw1]; clear hw1 w1) | (go_at_call 86; first | (with_reducible refine (HN0.out _).mono ?_; rintro e w1 ⟨rfl, hw1⟩; rw [hw1]; clear hw1 w1) | (with_reducible refine (HN1.out _).mono ?_; rintro e w1 ⟨rfl, hw1⟩; rw [hw1]; clear hw1 w1) | (with_reducible refine (HN3.out _).mono ?_; rintro e w1 ⟨rfl, hw1⟩; rw [hw1]; clear hw1 w1) | (with_reducible refine (HN4.out _).mono ?_; rintro e w1 ⟨rfl, hw1⟩; rw [hw1]; clear hw1 w1)))
 rcases b3 with _ | _
 ·have hR : T = ((⟨#[112, 97, 114, 116]⟩, pa, 2) : ByteArray × Int × Int) := HT.out.trans (by first | rfl | simp [checkB, *])
  go_wp2_with (first | (go_at_call 84; refine (HS.out _).mono ?_; rintro e w1 ⟨rfl, hw1⟩; rw [hw1]; clear hw1 w1) | (go_at_call 85; refine (new_any _ _ _ _).mono ?_; rintro e w1 ⟨rfl, hw1⟩; rw [hw1]; clear hw1 w1) | (go_at_call 86; first | (with_reducible refine (HN0.out _).mono ?_; rintro e w1 ⟨rfl, hw1⟩; rw [hw1]; clear hw1 w1) | (with_reducible refine (HN1.out _).mono ?_; rintro e w1 ⟨rfl, hw1⟩; rw [hw1]; clear hw1 w1) | (with_reducible refine (HN3.out _).mono ?_; rintro e w1 ⟨rfl, hw1⟩; rw [hw1]; clear hw1 w1) | (with_reducible refine (HN4.out _).mono ?_; rintro e w1 ⟨rfl, hw1⟩; rw [hw1]; clear hw1 w1)))
  go_ret
  exact ⟨by rw [hR]; rfl, HB.out⟩
 go_upto_region 12 with (first | (go_at_call 84; refine (HS.out _).mono ?_; rintro e w1 ⟨rfl, hw1⟩; rw [hw1]; clear hw1 w1) | (go_at_call 85; refine (new_any _ _ _ _).mono ?_; rintro e w1 ⟨rfl, hw1⟩; rw [hw1]; clear hw1 w1) | (go_at_call 86; first | (with_reducible refine (HN0.out _).mono ?_; rintro e w1 ⟨rfl, hw1⟩; rw [hw1]; clear hw1 w1) | (with_reducible refine (HN1.out _).mono ?_; rintro e w1 ⟨rfl, hw1⟩; rw [hw1]; clear hw1 w1) | (with_reducible refine (HN3.out _).mono ?_; rintro e w1 ⟨rfl, hw1⟩; rw [hw1]; clear hw1 w1) | (with_reducible refine (HN4.out _).mono ?_; rintro e w1 ⟨rfl, hw1⟩; rw [hw1]; clear hw1 w1)))
 rcases b4 with _ | _
 ·have hR : T = ((⟨#[108, 101, 97, 100, 101, 114]⟩, le, 2) : ByteArray × Int × Int) := HT.out.trans (by first | rfl | simp [checkB, *])
  go_wp2_with (first | (go_at_call 84; refine (HS.out _).mono ?_; rintro e w1 ⟨rfl, hw1⟩; rw [hw1]; clear hw1 w1) | (go_at_call 85; refine (new_any _ _ _ _).mono ?_; rintro e w1 ⟨rfl, hw1⟩; rw [hw1]; clear hw1 w1) | (go_at_call 86; first | (with_reducible refine (HN0.out _).mono ?_; rintro e w1 ⟨rfl, hw1⟩; rw [hw1]; clear hw1 w1) | (with_reducible refine (HN1.out _).mono ?_; rintro e w1 ⟨rfl, hw1⟩; rw [hw1]; clear hw1 w1) | (with_reducible refine (HN3.out _).mono ?_; rintro e w1 ⟨rfl, hw1⟩; rw [hw1]; clear hw1 w1) | (with_reducible refine (HN4.out _).mono ?_; rintro e w1 ⟨rfl, hw1⟩; rw [hw1]; clear hw1 w1)))
  go_ret
  exact ⟨by rw [hR]; rfl, HB.out⟩
 go_upto_region 14 with (first | (go_at_call 84; refine (HS.out _).mono ?_; rintro e w1 ⟨rfl, hw1⟩; rw [hw1]; clear hw1 w1) | (go_at_call 85; refine (new_any _ _ _ _).mono ?_; rintro e w1 ⟨rfl, hw1⟩; rw [hw1]; clear hw1 w1) | (go_at_call 86; first | (with_reducible refine (HN0.out _).mono ?_; rintro e w1 ⟨rfl, hw1⟩; rw [hw1]; clear hw1 w1) | (with_reducible refine (HN1.out _).mono ?_; rintro e w1 ⟨rfl, hw1⟩; rw [hw1]; clear hw1 w1) | (with_reducible refine (HN3.out _).mono ?_; rintro e w1 ⟨rfl, hw1⟩; rw [hw1]; clear hw1 w1) | (with_reducible refine (HN4.out _).mono ?_; rintro e w1 ⟨rfl, hw1⟩; rw [hw1]; clear hw1 w1)))
 have hA : (b5 && b6 && b7) = false ∨ (b5 = true ∧ b6 = true ∧ b7 = true) := by cases b5 <;> cases b6 <;> cases b7 <;> simp
 rcases hA with hA | ⟨rfl, rfl, rfl⟩
 ·have hR : T = ((⟨#[97, 115, 107, 101, 114]⟩, cl, 2) : ByteArray × Int × Int) := HT.out.trans (by cases b5 <;> cases b6 <;> cases b7 <;> first | rfl | simp at hA)
  rw [hA] at HA
  clear hA
  go_upto_region 15 with (first | (refine wpList_load_mid rfl _ _ rfl _ _ rfl _ _ HQ.out Tryz.underlying65 rfl (by kernel_rfl) ?_) | (go_at_call 88; refine (HA.out _ _ _ _ _ _ _ _ _ _ _ _ _ _ _ _).mono ?_; rintro e Y ⟨rfl, hY⟩))
  replace HQ := Hd (range_below HQ.out hY)
  replace HB := Hd (HB.out.trans (hY.mono HB.out.size))
  clear g0 g1 g2 g3 g4 g5 g6 g7 g8 g9 g10 g11 g12 g13 g14 g15 g16 g17 hY
  obtain ⟨g0, g1, g2, g3, g4, g5, g6, g7, g8, g9, g10, g11, g12, g13, g14, g15, g16, g17⟩ := C18.of HQ.out
  go_wp2_with (first | (go_at_call 84; refine (HS.out _).mono ?_; rintro e w1 ⟨rfl, hw1⟩; rw [hw1]; clear hw1 w1) | (go_at_call 85; refine (new_any _ _ _ _).mono ?_; rintro e w1 ⟨rfl, hw1⟩; rw [hw1]; clear hw1 w1) | (go_at_call 86; first | (with_reducible refine (HN0.out _).mono ?_; rintro e w1 ⟨rfl, hw1⟩; rw [hw1]; clear hw1 w1) | (with_reducible refine (HN1.out _).mono ?_; rintro e w1 ⟨rfl, hw1⟩; rw [hw1]; clear hw1 w1) | (with_reducible refine (HN3.out _).mono ?_; rintro e w1 ⟨rfl, hw1⟩; rw [hw1]; clear hw1 w1) | (with_reducible refine (HN4.out _).mono ?_; rintro e w1 ⟨rfl, hw1⟩; rw [hw1]; clear hw1 w1)))
  go_ret
  exact ⟨by rw [hR]; rfl, HB.out⟩
 simp only [Bool.and_true] at HA
 go_upto_region 16 with (first | (refine wpList_load_mid rfl _ _ rfl _ _ rfl _ _ HQ.out Tryz.underlying65 rfl (by kernel_rfl) ?_) | (go_at_call 88; refine (HA.out _ _ _ _ _ _ _ _ _ _ _ _ _ _ _ _).mono ?_; rintro e Y ⟨rfl, hY⟩))
 replace HQ := Hd (range_below HQ.out hY)
 replace HB := Hd (HB.out.trans (hY.mono HB.out.size))
 clear g0 g1 g2 g3 g4 g5 g6 g7 g8 g9 g10 g11 g12 g13 g14 g15 g16 g17 hY
 clear X
 obtain ⟨X, hX⟩ : ∃ X', X' = Y := ⟨_, rfl⟩
 rw [← hX] at HQ HB ⊢
 clear hX Y
 obtain ⟨g0, g1, g2, g3, g4, g5, g6, g7, g8, g9, g10, g11, g12, g13, g14, g15, g16, g17⟩ := C18.of HQ.out
 have hFF : (fl = true ∧ hf = false) ∨ (fl = false) ∨ (fl = true ∧ hf = true) := by cases fl <;> cases hf <;> simp
 rcases hFF with ⟨rfl, rfl⟩ | hFF
 ·have hR : T = ((⟨#[102, 108, 97, 103]⟩, 1, 1) : ByteArray × Int × Int) := HT.out.trans (by first | rfl | simp [checkB, *])
  go_wp2_with (first | (go_at_call 89; refine (HF.out _).mono ?_; rintro e w1 ⟨rfl, hw1⟩; rw [hw1]; clear hw1 w1) | (go_at_call 85; refine (new_any _ _ _ _).mono ?_; rintro e w1 ⟨rfl, hw1⟩; rw [hw1]; clear hw1 w1))
  go_ret
  exact ⟨by rw [hR]; rfl, HB.out⟩
 have HFF : Hid ((fl && !hf) = false) := Hd (by rcases hFF with rfl | ⟨rfl, rfl⟩ <;> simp)
 replace HT := Hd (HT.out.trans (by rw [HFF.out]))
 rcases hFF with rfl | ⟨rfl, rfl⟩
 all_goals
  go_upto_region 18 with (first | (go_at_call 89; refine (HF.out _).mono ?_; rintro e w1 ⟨rfl, hw1⟩; rw [hw1]; clear hw1 w1) | (go_at_call 85; refine (new_any _ _ _ _).mono ?_; rintro e w1 ⟨rfl, hw1⟩; rw [hw1]; clear hw1 w1))
  rcases n0 with _ | _
  ·have hR : T = ((⟨#[110, 97, 109, 101]⟩, nm.length, 1) : ByteArray × Int × Int) := HT.out.trans (by first | rfl | simp [checkB, *])
   go_wp2_with (first | (go_at_call 90; first | (with_reducible refine (HM0.out _).mono ?_; rintro e Y ⟨rfl, hY⟩; replace HQ := Hd (range_below HQ.out hY); replace HB := Hd (HB.out.trans (hY.mono HB.out.size)); clear g0 g1 g2 g3 g4 g5 g6 g7 g8 g9 g10 g11 g12 g13 g14 g15 g16 g17 hY; obtain ⟨g0, g1, g2, g3, g4, g5, g6, g7, g8, g9, g10, g11, g12, g13, g14, g15, g16, g17⟩ := C18.of HQ.out) | (with_reducible refine (HM1.out _).mono ?_; rintro e Y ⟨rfl, hY⟩; replace HQ := Hd (range_below HQ.out hY); replace HB := Hd (HB.out.trans (hY.mono HB.out.size)); clear g0 g1 g2 g3 g4 g5 g6 g7 g8 g9 g10 g11 g12 g13 g14 g15 g16 g17 hY; obtain ⟨g0, g1, g2, g3, g4, g5, g6, g7, g8, g9, g10, g11, g12, g13, g14, g15, g16, g17⟩ := C18.of HQ.out) | (with_reducible refine (HM2.out _).mono ?_; rintro e Y ⟨rfl, hY⟩; replace HQ := Hd (range_below HQ.out hY); replace HB := Hd (HB.out.trans (hY.mono HB.out.size)); clear g0 g1 g2 g3 g4 g5 g6 g7 g8 g9 g10 g11 g12 g13 g14 g15 g16 g17 hY; obtain ⟨g0, g1, g2, g3, g4, g5, g6, g7, g8, g9, g10, g11, g12, g13, g14, g15, g16, g17⟩ := C18.of HQ.out)) | (go_at_call 85; refine (new_any _ _ _ _).mono ?_; rintro e w1 ⟨rfl, hw1⟩; rw [hw1]; clear hw1 w1))
   go_ret
   exact ⟨by rw [hR]; rfl, HB.out⟩
  rcases n1 with _ | _
  ·have hR : T = ((⟨#[110, 97, 109, 101]⟩, nm.length, 1) : ByteArray × Int × Int) := HT.out.trans (by first | rfl | simp [checkB, *])
   go_wp2_with (first | (go_at_call 90; first | (with_reducible refine (HM0.out _).mono ?_; rintro e Y ⟨rfl, hY⟩; replace HQ := Hd (range_below HQ.out hY); replace HB := Hd (HB.out.trans (hY.mono HB.out.size)); clear g0 g1 g2 g3 g4 g5 g6 g7 g8 g9 g10 g11 g12 g13 g14 g15 g16 g17 hY; obtain ⟨g0, g1, g2, g3, g4, g5, g6, g7, g8, g9, g10, g11, g12, g13, g14, g15, g16, g17⟩ := C18.of HQ.out) | (with_reducible refine (HM1.out _).mono ?_; rintro e Y ⟨rfl, hY⟩; replace HQ := Hd (range_below HQ.out hY); replace HB := Hd (HB.out.trans (hY.mono HB.out.size)); clear g0 g1 g2 g3 g4 g5 g6 g7 g8 g9 g10 g11 g12 g13 g14 g15 g16 g17 hY; obtain ⟨g0, g1, g2, g3, g4, g5, g6, g7, g8, g9, g10, g11, g12, g13, g14, g15, g16, g17⟩ := C18.of HQ.out) | (with_reducible refine (HM2.out _).mono ?_; rintro e Y ⟨rfl, hY⟩; replace HQ := Hd (range_below HQ.out hY); replace HB := Hd (HB.out.trans (hY.mono HB.out.size)); clear g0 g1 g2 g3 g4 g5 g6 g7 g8 g9 g10 g11 g12 g13 g14 g15 g16 g17 hY; obtain ⟨g0, g1, g2, g3, g4, g5, g6, g7, g8, g9, g10, g11, g12, g13, g14, g15, g16, g17⟩ := C18.of HQ.out)) | (go_at_call 85; refine (new_any _ _ _ _).mono ?_; rintro e w1 ⟨rfl, hw1⟩; rw [hw1]; clear hw1 w1))
   go_ret
   exact ⟨by rw [hR]; rfl, HB.out⟩
  rcases n2 with _ | _
  ·have hR : T = ((⟨#[110, 97, 109, 101]⟩, nm.length, 1) : ByteArray × Int × Int) := HT.out.trans (by first | rfl | simp [checkB, *])
   go_wp2_with (first | (go_at_call 90; first | (with_reducible refine (HM0.out _).mono ?_; rintro e Y ⟨rfl, hY⟩; replace HQ := Hd (range_below HQ.out hY); replace HB := Hd (HB.out.trans (hY.mono HB.out.size)); clear g0 g1 g2 g3 g4 g5 g6 g7 g8 g9 g10 g11 g12 g13 g14 g15 g16 g17 hY; obtain ⟨g0, g1, g2, g3, g4, g5, g6, g7, g8, g9, g10, g11, g12, g13, g14, g15, g16, g17⟩ := C18.of HQ.out) | (with_reducible refine (HM1.out _).mono ?_; rintro e Y ⟨rfl, hY⟩; replace HQ := Hd (range_below HQ.out hY); replace HB := Hd (HB.out.trans (hY.mono HB.out.size)); clear g0 g1 g2 g3 g4 g5 g6 g7 g8 g9 g10 g11 g12 g13 g14 g15 g16 g17 hY; obtain ⟨g0, g1, g2, g3, g4, g5, g6, g7, g8, g9, g10, g11, g12, g13, g14, g15, g16, g17⟩ := C18.of HQ.out) | (with_reducible refine (HM2.out _).mono ?_; rintro e Y ⟨rfl, hY⟩; replace HQ := Hd (range_below HQ.out hY); replace HB := Hd (HB.out.trans (hY.mono HB.out.size)); clear g0 g1 g2 g3 g4 g5 g6 g7 g8 g9 g10 g11 g12 g13 g14 g15 g16 g17 hY; obtain ⟨g0, g1, g2, g3, g4, g5, g6, g7, g8, g9, g10, g11, g12, g13, g14, g15, g16, g17⟩ := C18.of HQ.out)) | (go_at_call 85; refine (new_any _ _ _ _).mono ?_; rintro e w1 ⟨rfl, hw1⟩; rw [hw1]; clear hw1 w1))
   go_ret
   exact ⟨by rw [hR]; rfl, HB.out⟩
  go_upto_region 20 with (first | (go_at_call 90; first | (with_reducible refine (HM0.out _).mono ?_; rintro e Y ⟨rfl, hY⟩; replace HQ := Hd (range_below HQ.out hY); replace HB := Hd (HB.out.trans (hY.mono HB.out.size)); clear g0 g1 g2 g3 g4 g5 g6 g7 g8 g9 g10 g11 g12 g13 g14 g15 g16 g17 hY; obtain ⟨g0, g1, g2, g3, g4, g5, g6, g7, g8, g9, g10, g11, g12, g13, g14, g15, g16, g17⟩ := C18.of HQ.out) | (with_reducible refine (HM1.out _).mono ?_; rintro e Y ⟨rfl, hY⟩; replace HQ := Hd (range_below HQ.out hY); replace HB := Hd (HB.out.trans (hY.mono HB.out.size)); clear g0 g1 g2 g3 g4 g5 g6 g7 g8 g9 g10 g11 g12 g13 g14 g15 g16 g17 hY; obtain ⟨g0, g1, g2, g3, g4, g5, g6, g7, g8, g9, g10, g11, g12, g13, g14, g15, g16, g17⟩ := C18.of HQ.out) | (with_reducible refine (HM2.out _).mono ?_; rintro e Y ⟨rfl, hY⟩; replace HQ := Hd (range_below HQ.out hY); replace HB := Hd (HB.out.trans (hY.mono HB.out.size)); clear g0 g1 g2 g3 g4 g5 g6 g7 g8 g9 g10 g11 g12 g13 g14 g15 g16 g17 hY; obtain ⟨g0, g1, g2, g3, g4, g5, g6, g7, g8, g9, g10, g11, g12, g13, g14, g15, g16, g17⟩ := C18.of HQ.out)) | (go_at_call 85; refine (new_any _ _ _ _).mono ?_; rintro e w1 ⟨rfl, hw1⟩; rw [hw1]; clear hw1 w1))
  by_cases hvv : mv < (va.length : Int)
  ·have hR : T = ((⟨#[118, 97, 108, 117, 101]⟩, va.length, 6) : ByteArray × Int × Int) := HT.out.trans (by rw [decide_eq_true hvv]; rfl)
   go_quiet (first | (go_at_call 91; exact Calls.quiet_of_same (HV.out _)))
   replace HQ := Hd (range_below HQ.out (below_drewN (Below.refl _ _) nq))
   replace HB := Hd (below_drewN HB.out nq)
   clear g0 g1 g2 g3 g4 g5 g6 g7 g8 g9 g10 g11 g12 g13 g14 g15 g16 g17
   obtain ⟨g0, g1, g2, g3, g4, g5, g6, g7, g8, g9, g10, g11, g12, g13, g14, g15, g16, g17⟩ := C18.of HQ.out
   go_wp2_with (first | (go_at_call 85; refine (new_any _ _ _ _).mono ?_; rintro e w1 ⟨rfl, hw1⟩; rw [hw1]; clear hw1 w1))
   go_ret
   exact ⟨by rw [hR]; rfl, HB.out⟩
  replace HT := Hd (HT.out.trans (by rw [decide_eq_false hvv]))
  go_quiet (first | (go_at_call 91; exact Calls.quiet_of_same (HV.out _)))
  replace HQ := Hd (range_below HQ.out (below_drewN (Below.refl _ _) nq))
  replace HB := Hd (below_drewN HB.out nq)
  clear g0 g1 g2 g3 g4 g5 g6 g7 g8 g9 g10 g11 g12 g13 g14 g15 g16 g17
  obtain ⟨g0, g1, g2, g3, g4, g5, g6, g7, g8, g9, g10, g11, g12, g13, g14, g15, g16, g17⟩ := C18.of HQ.out
  go_upto_region 22 with (first | (go_at_call 85; refine (new_any _ _ _ _).mono ?_; rintro e w1 ⟨rfl, hw1⟩; rw [hw1]; clear hw1 w1))
  rcases r0 with _ | _
  ·have hR : T = ((⟨#[114, 111, 119]⟩, ids.length, 18) : ByteArray × Int × Int) := HT.out.trans (by first | rfl | simp [checkB, *])
   go_wp2_with (first | (go_at_call 92; first | (with_reducible refine (HR0.out _ HB.out).mono ?_; rintro e w1 ⟨rfl, hw1⟩; rw [hw1]; clear hw1 w1) | (with_reducible refine (HR1.out _ HB.out).mono ?_; rintro e w1 ⟨rfl, hw1⟩; rw [hw1]; clear hw1 w1) | (with_reducible refine (HR2.out _ HB.out).mono ?_; rintro e w1 ⟨rfl, hw1⟩; rw [hw1]; clear hw1 w1) | (with_reducible refine (HR3.out _ HB.out).mono ?_; rintro e w1 ⟨rfl, hw1⟩; rw [hw1]; clear hw1 w1)) | (go_at_call 85; refine (new_any _ _ _ _).mono ?_; rintro e w1 ⟨rfl, hw1⟩; rw [hw1]; clear hw1 w1))
   go_ret
   exact ⟨by rw [hR]; rfl, HB.out⟩
  rcases r1 with _ | _
  ·have hR : T = ((⟨#[114, 111, 119]⟩, ids.length, 18) : ByteArray × Int × Int) := HT.out.trans (by first | rfl | simp [checkB, *])
   go_wp2_with (first | (go_at_call 92; first | (with_reducible refine (HR0.out _ HB.out).mono ?_; rintro e w1 ⟨rfl, hw1⟩; rw [hw1]; clear hw1 w1) | (with_reducible refine (HR1.out _ HB.out).mono ?_; rintro e w1 ⟨rfl, hw1⟩; rw [hw1]; clear hw1 w1) | (with_reducible refine (HR2.out _ HB.out).mono ?_; rintro e w1 ⟨rfl, hw1⟩; rw [hw1]; clear hw1 w1) | (with_reducible refine (HR3.out _ HB.out).mono ?_; rintro e w1 ⟨rfl, hw1⟩; rw [hw1]; clear hw1 w1)) | (go_at_call 85; refine (new_any _ _ _ _).mono ?_; rintro e w1 ⟨rfl, hw1⟩; rw [hw1]; clear hw1 w1))
   go_ret
   exact ⟨by rw [hR]; rfl, HB.out⟩
  rcases r2 with _ | _
  ·have hR : T = ((⟨#[114, 111, 119]⟩, ids.length, 18) : ByteArray × Int × Int) := HT.out.trans (by first | rfl | simp [checkB, *])
   go_wp2_with (first | (go_at_call 92; first | (with_reducible refine (HR0.out _ HB.out).mono ?_; rintro e w1 ⟨rfl, hw1⟩; rw [hw1]; clear hw1 w1) | (with_reducible refine (HR1.out _ HB.out).mono ?_; rintro e w1 ⟨rfl, hw1⟩; rw [hw1]; clear hw1 w1) | (with_reducible refine (HR2.out _ HB.out).mono ?_; rintro e w1 ⟨rfl, hw1⟩; rw [hw1]; clear hw1 w1) | (with_reducible refine (HR3.out _ HB.out).mono ?_; rintro e w1 ⟨rfl, hw1⟩; rw [hw1]; clear hw1 w1)) | (go_at_call 85; refine (new_any _ _ _ _).mono ?_; rintro e w1 ⟨rfl, hw1⟩; rw [hw1]; clear hw1 w1))
   go_ret
   exact ⟨by rw [hR]; rfl, HB.out⟩
  rcases r3 with _ | _
  ·have hR : T = ((⟨#[114, 111, 119]⟩, ids.length, 18) : ByteArray × Int × Int) := HT.out.trans (by first | rfl | simp [checkB, *])
   go_wp2_with (first | (go_at_call 92; first | (with_reducible refine (HR0.out _ HB.out).mono ?_; rintro e w1 ⟨rfl, hw1⟩; rw [hw1]; clear hw1 w1) | (with_reducible refine (HR1.out _ HB.out).mono ?_; rintro e w1 ⟨rfl, hw1⟩; rw [hw1]; clear hw1 w1) | (with_reducible refine (HR2.out _ HB.out).mono ?_; rintro e w1 ⟨rfl, hw1⟩; rw [hw1]; clear hw1 w1) | (with_reducible refine (HR3.out _ HB.out).mono ?_; rintro e w1 ⟨rfl, hw1⟩; rw [hw1]; clear hw1 w1)) | (go_at_call 85; refine (new_any _ _ _ _).mono ?_; rintro e w1 ⟨rfl, hw1⟩; rw [hw1]; clear hw1 w1))
   go_ret
   exact ⟨by rw [hR]; rfl, HB.out⟩
  have hR : T = ((⟨#[]⟩, 0, 0) : ByteArray × Int × Int) := HT.out.trans (by rfl)
  go_wp2_with (first | (go_at_call 92; first | (with_reducible refine (HR0.out _ HB.out).mono ?_; rintro e w1 ⟨rfl, hw1⟩; rw [hw1]; clear hw1 w1) | (with_reducible refine (HR1.out _ HB.out).mono ?_; rintro e w1 ⟨rfl, hw1⟩; rw [hw1]; clear hw1 w1) | (with_reducible refine (HR2.out _ HB.out).mono ?_; rintro e w1 ⟨rfl, hw1⟩; rw [hw1]; clear hw1 w1) | (with_reducible refine (HR3.out _ HB.out).mono ?_; rintro e w1 ⟨rfl, hw1⟩; rw [hw1]; clear hw1 w1)) | (go_at_call 85; refine (new_any _ _ _ _).mono ?_; rintro e w1 ⟨rfl, hw1⟩; rw [hw1]; clear hw1 w1))
  go_ret
  exact ⟨by rw [hR]; rfl, HB.out⟩
theorem ccheck_kind (k br ep tp pa le cl se co : Int) (fl : Bool) (nm ky va rk : List UInt8) (x14 x15 x16 x17 : Value) (w : World) (hk : ¬ (1 ≤ k ∧ k ≤ 12)) :
  Calls Tryz.prog 60 #[.agg #[.int .i64 k, .int .i64 br, .int .i64 ep, .int .i64 tp, .int .i64 pa, .int .i64 le, .int .i64 cl, .int .i64 se, .int .i64 co, .bool fl, .string ⟨nm.toArray⟩, .string ⟨ky.toArray⟩, .string ⟨va.toArray⟩, .string ⟨rk.toArray⟩, x14, x15, x16, x17]] w fun e w' => e = .returned (ft ⟨#[107, 105, 110, 100]⟩ k 5) ∧ Below w.heap.size w w' := by
 have HS := Hd (fun W => subj_any k W)
 rw [show knd k = false from decide_eq_false hk] at HS
 clear hk
 go_enter Tryz.func60, Tryz.ntmps60
 go_wp2_with (first | (go_at_call 84; refine (HS.out _).mono ?_; rintro e w1 ⟨rfl, hw1⟩; rw [hw1]; clear hw1 w1) | (go_at_call 85; refine (new_any _ _ _ _).mono ?_; rintro e w1 ⟨rfl, hw1⟩; rw [hw1]; clear hw1 w1))
 go_ret
 exact ⟨rfl, (Below.refl _ _).alloc (Nat.le_refl _) _⟩
theorem ccheck_any {ok : Nat → Prop} (r : Rc) (v : Value) (w : World) (hv : IsR ok w v r) (ht : TxR r) : Calls Tryz.prog 60 #[v] w fun e w' => e = .returned (erN (chk r).1 (chk r).2.1 (chk r).2.2) ∧ Below w.heap.size w w' := by
 obtain ⟨a14, a15, a16, a17, c14, c15, c16, c17, rfl, h⟩ := hv
 by_cases hk : 1 ≤ r.k ∧ r.k ≤ 12
 ·exact ccheck_ok r.k r.br r.ep r.tp r.pa r.le r.cl r.se r.co r.fl r.nm r.ky r.va r.rk a14 a15 a16 a17 c14 c15 c16 c17 r.ids r.isr r.ad r.dr w hk ht.nm ht.ky ht.va ht.rk h.h14.sl h.h15.sl h.h16.sl h.h17.sl (chk r) (chk_eq hk)
 ·rw [chk_kind hk]
  exact ccheck_kind r.k r.br r.ep r.tp r.pa r.le r.cl r.se r.co r.fl r.nm r.ky r.va r.rk _ _ _ _ w hk
end Go.Proofs.YtlggjgapdpkhiaaGreat
