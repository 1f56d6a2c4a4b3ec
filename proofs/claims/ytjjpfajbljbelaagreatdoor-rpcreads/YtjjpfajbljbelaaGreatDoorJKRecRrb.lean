/-
  THE RECORD THAT THE DOCUMENT'S CURSOR READS NEXT (castellanref05.Read): what the mathematics says. Conditions: its bytes' cells hold them, no more than four thousand bytes; they are older than the cursor.
-/
import Derived.Test.YtjjpfajbljbelaaGreatDoorJKRecCurefa4
namespace Go.Proofs.YtjjpfajbljbelaaGreatDoor
open Go.RowKit
set_option maxRecDepth 100000 in
set_option maxHeartbeats 32000000 in
theorem rread_go (p : Nat) (v : Value) (l : List Int) (s s1 s2 : Gs) (k : Int) (w0 w : World) (hb98 hb101 hb116 hb112 hb108 hb97 hb102 hb110 hb107 hb118 hb114 hb105 hb109 hb120 BB : Bool) (hr : CuG w p v s) (hv : Sl bc w0 v l) (hW : Below w0.heap.size w0 w) (hp0 : w0.heap.size ≤ p) (hl : l.length ≤ 4000) (hby : Byt l) (hs : s.pt ≤ l.length) (HQ0 : Hid (gN 63 l s = (s1, k)))
  (HBB : Hid (BB = (decide (s1.c = 0) && (decide (k < 1) || decide (12 < k))))) (HS2 : Hid (s2 = if BB then refS ⟨#[107, 105, 110, 100]⟩ 5 s1 else s1)) (HE98 : Hid (hasL k 98 = hb98)) (HE101 : Hid (hasL k 101 = hb101)) (HE116 : Hid (hasL k 116 = hb116)) (HE112 : Hid (hasL k 112 = hb112)) (HE108 : Hid (hasL k 108 = hb108)) (HE97 : Hid (hasL k 97 = hb97)) (HE102 : Hid (hasL k 102 = hb102)) (HE110 : Hid (hasL k 110 = hb110)) (HE107 : Hid (hasL k 107 = hb107)) (HE118 : Hid (hasL k 118 = hb118)) (HE114 : Hid (hasL k 114 = hb114)) (HE105 : Hid (hasL k 105 = hb105)) (HE109 : Hid (hasL k 109 = hb109)) (HE120 : Hid (hasL k 120 = hb120)) :
  Calls Tryz.prog 59 #[.pointer (some ⟨p, 0, none⟩)] w fun e w' => ∃ vx s4 x, e = .returned vx ∧ Hid (bodyG l k s2 = (s4, x)) ∧ IsR (fun b => w.heap.size ≤ b) w' vx (if s4.c = 0 then (if (chk x).2.2 = 0 then x else Rc.zero) else Rc.zero) ∧ CuG w' p v (if s4.c = 0 then (if (chk x).2.2 = 0 then s4 else ⟨(chk x).2.2, ⟨#[114, 101, 99, 111, 114, 100]⟩, s4.pt⟩) else s4) ∧ Bx p w w' := by
 have HV := hide hv
 have HW := hide hW
 have HBY := hide hby
 have HF := hide (fc_new p v s w hr)
 have HC := hide (fun W (h : CuG W p v s) (hb : Below w0.heap.size w0 W) => cuint_gs p v l 63 s w0 W h hv hb hl hby hs (by decide) (by decide))
 have HPT : Hid (s1.pt ≤ l.length) := hide (by have := gN_pt (m := 63) (s := s) hby hs; rw [HQ0.out] at this; exact this)
 rw [HQ0.out] at HC
 simp only at HC
 clear hr hv hby hs
 have HH98 : Hid (∀ W, Calls Tryz.prog 91 #[.int .i64 k, .int .u8 98] W fun e w' => e = .returned (.bool hb98) ∧ w' = W) := hide (fun W => by rw [← HE98.out]; exact has_any k 98 W)
 have HH101 : Hid (∀ W, Calls Tryz.prog 91 #[.int .i64 k, .int .u8 101] W fun e w' => e = .returned (.bool hb101) ∧ w' = W) := hide (fun W => by rw [← HE101.out]; exact has_any k 101 W)
 have HH116 : Hid (∀ W, Calls Tryz.prog 91 #[.int .i64 k, .int .u8 116] W fun e w' => e = .returned (.bool hb116) ∧ w' = W) := hide (fun W => by rw [← HE116.out]; exact has_any k 116 W)
 have HH112 : Hid (∀ W, Calls Tryz.prog 91 #[.int .i64 k, .int .u8 112] W fun e w' => e = .returned (.bool hb112) ∧ w' = W) := hide (fun W => by rw [← HE112.out]; exact has_any k 112 W)
 have HH108 : Hid (∀ W, Calls Tryz.prog 91 #[.int .i64 k, .int .u8 108] W fun e w' => e = .returned (.bool hb108) ∧ w' = W) := hide (fun W => by rw [← HE108.out]; exact has_any k 108 W)
 have HH97 : Hid (∀ W, Calls Tryz.prog 91 #[.int .i64 k, .int .u8 97] W fun e w' => e = .returned (.bool hb97) ∧ w' = W) := hide (fun W => by rw [← HE97.out]; exact has_any k 97 W)
 have HH102 : Hid (∀ W, Calls Tryz.prog 91 #[.int .i64 k, .int .u8 102] W fun e w' => e = .returned (.bool hb102) ∧ w' = W) := hide (fun W => by rw [← HE102.out]; exact has_any k 102 W)
 have HH110 : Hid (∀ W, Calls Tryz.prog 91 #[.int .i64 k, .int .u8 110] W fun e w' => e = .returned (.bool hb110) ∧ w' = W) := hide (fun W => by rw [← HE110.out]; exact has_any k 110 W)
 have HH107 : Hid (∀ W, Calls Tryz.prog 91 #[.int .i64 k, .int .u8 107] W fun e w' => e = .returned (.bool hb107) ∧ w' = W) := hide (fun W => by rw [← HE107.out]; exact has_any k 107 W)
 have HH118 : Hid (∀ W, Calls Tryz.prog 91 #[.int .i64 k, .int .u8 118] W fun e w' => e = .returned (.bool hb118) ∧ w' = W) := hide (fun W => by rw [← HE118.out]; exact has_any k 118 W)
 have HH114 : Hid (∀ W, Calls Tryz.prog 91 #[.int .i64 k, .int .u8 114] W fun e w' => e = .returned (.bool hb114) ∧ w' = W) := hide (fun W => by rw [← HE114.out]; exact has_any k 114 W)
 have HH105 : Hid (∀ W, Calls Tryz.prog 91 #[.int .i64 k, .int .u8 105] W fun e w' => e = .returned (.bool hb105) ∧ w' = W) := hide (fun W => by rw [← HE105.out]; exact has_any k 105 W)
 have HH109 : Hid (∀ W, Calls Tryz.prog 91 #[.int .i64 k, .int .u8 109] W fun e w' => e = .returned (.bool hb109) ∧ w' = W) := hide (fun W => by rw [← HE109.out]; exact has_any k 109 W)
 have HH120 : Hid (∀ W, Calls Tryz.prog 91 #[.int .i64 k, .int .u8 120] W fun e w' => e = .returned (.bool hb120) ∧ w' = W) := hide (fun W => by rw [← HE120.out]; exact has_any k 120 W)
 go_enter Tryz.func59, Tryz.ntmps59
 go_upto_region 2 with fail
 generalize (w.alloc (.cells #[.int .i64 0, .int .i64 0, .int .i64 0, .int .i64 0, .int .i64 0, .int .i64 0, .int .i64 0, .int .i64 0, .int .i64 0, .bool false, .string ⟨#[]⟩, .string ⟨#[]⟩, .string ⟨#[]⟩, .string ⟨#[]⟩, .slice none 0 0, .slice none 0 0, .slice none 0 0, .slice none 0 0] 45)).alloc (.cells #[.int .i64 0, .int .i64 0, .int .i64 0, .int .i64 0, .int .i64 0, .int .i64 0, .int .i64 0, .int .i64 0, .int .i64 0, .bool false, .string ⟨#[]⟩, .string ⟨#[]⟩, .string ⟨#[]⟩, .string ⟨#[]⟩, .slice none 0 0, .slice none 0 0, .slice none 0 0, .slice none 0 0] 45) = W0 at HF ⊢
 go_upto_region 3 with (first | (go_at_call 20; refine (HC.out _ HF.out.cu (HF.out.old HW.out hp0)).mono ?_; rintro e w5 ⟨rfl, hr5, hb5⟩; have HF5 := hide (HF.out.step hr5 hb5); clear hr5 hb5; have c5 := HF5.out.cell 0 _ rfl; have f5 := HF5.out.fz 0))
 have HF6 := hide (HF5.out.set 0 (.int .i64 k) (by show 0 < 18; decide) HF5.out.rw)
 simp only [zB] at HF6
 generalize w5.setCell ⟨w.heap.size + 1, 0, none⟩ (.int .i64 k) = W1 at HF6 ⊢
 clear HF HF5 HC c5 f5
 have c2 := HF6.out.cu.c2
 have c0 := HF6.out.cell 0 _ rfl
 go_cut [25] (fun b W => b = .bool BB ∧ W = W1)
 case first =>
  by_cases h1 : s1.c = 0
  ·have h1b : (s1.c == 0) = true := by simp [h1]
   by_cases h2 : k < 1
   ·go_wp2_with fail
    go_meet
    exact ⟨by rw [HBB.out]; simp [h1, h2], rfl⟩
   ·by_cases h3 : 12 < k
    ·go_wp2_with fail
     go_meet
     exact ⟨by rw [HBB.out]; simp [h1, h3], rfl⟩
    ·go_wp2_with fail
     go_meet
     exact ⟨by rw [HBB.out]; simp [h1, h2, h3], rfl⟩
  ·have h1b : (s1.c == 0) = false := by simp [h1]
   go_wp2_with fail
   go_meet
   exact ⟨by rw [HBB.out]; simp [h1], rfl⟩
 case rest =>
  obtain ⟨rfl, rfl⟩ := hcut
  clear c2
  obtain ⟨Wq, rfl⟩ : ∃ x : World, x = wc := ⟨_, rfl⟩
  have HC := hide (curef_gs p v s1 ⟨#[107, 105, 110, 100]⟩ 5 Wq (by decide) HF6.out.cu)
  go_upto_if 25 with fail
  go_cut [] (fun W => Fc p w.heap.size (w.heap.size + 1) w W v s2 [.int .i64 k, .int .i64 0, .int .i64 0, .int .i64 0, .int .i64 0, .int .i64 0, .int .i64 0, .int .i64 0, .int .i64 0, .bool false, .string ⟨#[]⟩, .string ⟨#[]⟩, .string ⟨#[]⟩, .string ⟨#[]⟩, .slice none 0 0, .slice none 0 0, .slice none 0 0, .slice none 0 0] [] [])
  case first =>
   cases BB with
   | true =>
    go_wp2_with (first | (go_at_call 58; refine HC.out.mono ?_; rintro e w5 ⟨rfl, hr5, hb5⟩))
    go_meet
    rw [HS2.out]
    exact HF6.out.step hr5 hb5
   | false =>
    go_wp2_with fail
    go_meet
    rw [HS2.out]
    exact HF6.out
  case rest =>
   have HF := hide hcut
   clear hcut HC HF6
   replace HPT : Hid (s2.pt ≤ l.length) := hide (by
    rw [HS2.out]
    have := HPT.out
    split
    ·unfold refS; split <;> exact this
    ·exact this)
   clear c0
   obtain ⟨W1, rfl⟩ : ∃ x : World, x = wc := ⟨_, rfl⟩
   have c0 := HF.out.cell 0 _ rfl
   go_upto_region 6 with fail
   clear c0
   rcases hq : (if hb98 then gN 1073741824 l s2 else (s2, 0)) with ⟨t1, x1⟩
   have HQ1 := hide hq
   have HC := hide (cusome_p hq HF.out.cu HV.out (HF.out.old HW.out hp0) hl HBY.out HPT.out)
   replace HPT := hide (if_pt hq (gN_pt HBY.out HPT.out) HPT.out)
   clear hq
   go_upto_region 7 with (first | (go_at_call 91; refine (HH98.out _).mono ?_; rintro e w9 ⟨rfl, hw9⟩; rw [hw9]; clear hw9 w9) | (go_at_call 90; refine HC.out.mono ?_; rintro e w5 ⟨rfl, hr5, hb5⟩; have HF5 := hide (HF.out.step hr5 hb5); clear hr5 hb5; have c5 := HF5.out.cell 1 _ rfl; have f5 := HF5.out.fz 1))
   have HF6 := hide (HF5.out.set 1 (.int .i64 x1) (by show 1 < 18; decide) HF5.out.rw)
   simp only [zB, zC] at HF6
   generalize w5.setCell ⟨w.heap.size + 1, 1, none⟩ (.int .i64 x1) = Y1 at HF6 ⊢
   clear HF HF5 HC c5 f5
   have HF := HF6
   clear HF6
   rcases hq : (if hb101 then gN 1073741824 l t1 else (t1, 0)) with ⟨t2, x2⟩
   have HQ2 := hide hq
   have HC := hide (cusome_p hq HF.out.cu HV.out (HF.out.old HW.out hp0) hl HBY.out HPT.out)
   replace HPT := hide (if_pt hq (gN_pt HBY.out HPT.out) HPT.out)
   clear hq
   go_upto_region 8 with (first | (go_at_call 91; refine (HH101.out _).mono ?_; rintro e w9 ⟨rfl, hw9⟩; rw [hw9]; clear hw9 w9) | (go_at_call 90; refine HC.out.mono ?_; rintro e w5 ⟨rfl, hr5, hb5⟩; have HF5 := hide (HF.out.step hr5 hb5); clear hr5 hb5; have c5 := HF5.out.cell 2 _ rfl; have f5 := HF5.out.fz 2))
   have HF6 := hide (HF5.out.set 2 (.int .i64 x2) (by show 2 < 18; decide) HF5.out.rw)
   simp only [zB, zC] at HF6
   generalize w5.setCell ⟨w.heap.size + 1, 2, none⟩ (.int .i64 x2) = Y2 at HF6 ⊢
   clear HF HF5 HC c5 f5
   have HF := HF6
   clear HF6
   rcases hq : (if hb116 then gN 1073741824 l t2 else (t2, 0)) with ⟨t3, x3⟩
   have HQ3 := hide hq
   have HC := hide (cusome_p hq HF.out.cu HV.out (HF.out.old HW.out hp0) hl HBY.out HPT.out)
   replace HPT := hide (if_pt hq (gN_pt HBY.out HPT.out) HPT.out)
   clear hq
   go_upto_region 9 with (first | (go_at_call 91; refine (HH116.out _).mono ?_; rintro e w9 ⟨rfl, hw9⟩; rw [hw9]; clear hw9 w9) | (go_at_call 90; refine HC.out.mono ?_; rintro e w5 ⟨rfl, hr5, hb5⟩; have HF5 := hide (HF.out.step hr5 hb5); clear hr5 hb5; have c5 := HF5.out.cell 3 _ rfl; have f5 := HF5.out.fz 3))
   have HF6 := hide (HF5.out.set 3 (.int .i64 x3) (by show 3 < 18; decide) HF5.out.rw)
   simp only [zB, zC] at HF6
   generalize w5.setCell ⟨w.heap.size + 1, 3, none⟩ (.int .i64 x3) = Y3 at HF6 ⊢
   clear HF HF5 HC c5 f5
   have HF := HF6
   clear HF6
   rcases hq : (if hb112 then gN 1073741824 l t3 else (t3, 0)) with ⟨t4, x4⟩
   have HQ4 := hide hq
   have HC := hide (cusome_p hq HF.out.cu HV.out (HF.out.old HW.out hp0) hl HBY.out HPT.out)
   replace HPT := hide (if_pt hq (gN_pt HBY.out HPT.out) HPT.out)
   clear hq
   go_upto_region 10 with (first | (go_at_call 91; refine (HH112.out _).mono ?_; rintro e w9 ⟨rfl, hw9⟩; rw [hw9]; clear hw9 w9) | (go_at_call 90; refine HC.out.mono ?_; rintro e w5 ⟨rfl, hr5, hb5⟩; have HF5 := hide (HF.out.step hr5 hb5); clear hr5 hb5; have c5 := HF5.out.cell 4 _ rfl; have f5 := HF5.out.fz 4))
   have HF6 := hide (HF5.out.set 4 (.int .i64 x4) (by show 4 < 18; decide) HF5.out.rw)
   simp only [zB, zC] at HF6
   generalize w5.setCell ⟨w.heap.size + 1, 4, none⟩ (.int .i64 x4) = Y4 at HF6 ⊢
   clear HF HF5 HC c5 f5
   have HF := HF6
   clear HF6
   rcases hq : (if hb108 then gN 1073741824 l t4 else (t4, 0)) with ⟨t5, x5⟩
   have HQ5 := hide hq
   have HC := hide (cusome_p hq HF.out.cu HV.out (HF.out.old HW.out hp0) hl HBY.out HPT.out)
   replace HPT := hide (if_pt hq (gN_pt HBY.out HPT.out) HPT.out)
   clear hq
   go_upto_region 11 with (first | (go_at_call 91; refine (HH108.out _).mono ?_; rintro e w9 ⟨rfl, hw9⟩; rw [hw9]; clear hw9 w9) | (go_at_call 90; refine HC.out.mono ?_; rintro e w5 ⟨rfl, hr5, hb5⟩; have HF5 := hide (HF.out.step hr5 hb5); clear hr5 hb5; have c5 := HF5.out.cell 5 _ rfl; have f5 := HF5.out.fz 5))
   have HF6 := hide (HF5.out.set 5 (.int .i64 x5) (by show 5 < 18; decide) HF5.out.rw)
   simp only [zB, zC] at HF6
   generalize w5.setCell ⟨w.heap.size + 1, 5, none⟩ (.int .i64 x5) = Y5 at HF6 ⊢
   clear HF HF5 HC c5 f5
   have HF := HF6
   clear HF6
   rcases hq : (if hb97 then gN 1073741824 l t5 else (t5, 0)) with ⟨t6, x6⟩
   have HQ6 := hide hq
   have HC := hide (cusome_p hq HF.out.cu HV.out (HF.out.old HW.out hp0) hl HBY.out HPT.out)
   replace HPT := hide (if_pt hq (gN_pt HBY.out HPT.out) HPT.out)
   clear hq
   go_upto_region 12 with (first | (go_at_call 91; refine (HH97.out _).mono ?_; rintro e w9 ⟨rfl, hw9⟩; rw [hw9]; clear hw9 w9) | (go_at_call 90; refine HC.out.mono ?_; rintro e w5 ⟨rfl, hr5, hb5⟩; have HF5 := hide (HF.out.step hr5 hb5); clear hr5 hb5; have c5 := HF5.out.cell 6 _ rfl; have f5 := HF5.out.fz 6))
   have HF6 := hide (HF5.out.set 6 (.int .i64 x6) (by show 6 < 18; decide) HF5.out.rw)
   simp only [zB, zC] at HF6
   generalize w5.setCell ⟨w.heap.size + 1, 6, none⟩ (.int .i64 x6) = Y6 at HF6 ⊢
   clear HF HF5 HC c5 f5
   have HF := HF6
   clear HF6
   rcases hq : (if hb97 then gN 1073741824 l t6 else (t6, 0)) with ⟨t7, x7⟩
   have HQ7 := hide hq
   have HC := hide (cusome_p hq HF.out.cu HV.out (HF.out.old HW.out hp0) hl HBY.out HPT.out)
   replace HPT := hide (if_pt hq (gN_pt HBY.out HPT.out) HPT.out)
   clear hq
   go_upto_region 13 with (first | (go_at_call 91; refine (HH97.out _).mono ?_; rintro e w9 ⟨rfl, hw9⟩; rw [hw9]; clear hw9 w9) | (go_at_call 90; refine HC.out.mono ?_; rintro e w5 ⟨rfl, hr5, hb5⟩; have HF5 := hide (HF.out.step hr5 hb5); clear hr5 hb5; have c5 := HF5.out.cell 7 _ rfl; have f5 := HF5.out.fz 7))
   have HF6 := hide (HF5.out.set 7 (.int .i64 x7) (by show 7 < 18; decide) HF5.out.rw)
   simp only [zB, zC] at HF6
   generalize w5.setCell ⟨w.heap.size + 1, 7, none⟩ (.int .i64 x7) = Y7 at HF6 ⊢
   clear HF HF5 HC c5 f5
   have HF := HF6
   clear HF6
   rcases hq : (if hb97 then gN 1073741824 l t7 else (t7, 0)) with ⟨t8, x8⟩
   have HQ8 := hide hq
   have HC := hide (cusome_p hq HF.out.cu HV.out (HF.out.old HW.out hp0) hl HBY.out HPT.out)
   replace HPT := hide (if_pt hq (gN_pt HBY.out HPT.out) HPT.out)
   clear hq
   go_upto_region 14 with (first | (go_at_call 91; refine (HH97.out _).mono ?_; rintro e w9 ⟨rfl, hw9⟩; rw [hw9]; clear hw9 w9) | (go_at_call 90; refine HC.out.mono ?_; rintro e w5 ⟨rfl, hr5, hb5⟩; have HF5 := hide (HF.out.step hr5 hb5); clear hr5 hb5; have c5 := HF5.out.cell 8 _ rfl; have f5 := HF5.out.fz 8))
   have HF6 := hide (HF5.out.set 8 (.int .i64 x8) (by show 8 < 18; decide) HF5.out.rw)
   simp only [zB, zC] at HF6
   generalize w5.setCell ⟨w.heap.size + 1, 8, none⟩ (.int .i64 x8) = Y8 at HF6 ⊢
   clear HF HF5 HC c5 f5
   have HF := HF6
   clear HF6
   rcases hq : (if hb102 then gF l t8 else (t8, false)) with ⟨t9, x9⟩
   have HQ9 := hide hq
   have HPT2 := hide (if_pt hq (gF_pt HBY.out HPT.out) HPT.out)
   clear hq
   go_upto_if 71 with (first | (go_at_call 91; refine (HH102.out _).mono ?_; rintro e w9 ⟨rfl, hw9⟩; rw [hw9]; clear hw9 w9))
   go_cut [] (fun W => Fc p w.heap.size (w.heap.size + 1) w W v t9 [.int .i64 k, .int .i64 x1, .int .i64 x2, .int .i64 x3, .int .i64 x4, .int .i64 x5, .int .i64 x6, .int .i64 x7, .int .i64 x8, .bool x9, .string ⟨#[]⟩, .string ⟨#[]⟩, .string ⟨#[]⟩, .string ⟨#[]⟩, .slice none 0 0, .slice none 0 0, .slice none 0 0, .slice none 0 0] [] [])
   case first =>
    cases hb102 with
    | true =>
     have hq := HQ9.out
     simp only [if_true] at hq
     have HC := hide (cuflag_gs p v l t8 w0 _ HF.out.cu HV.out (HF.out.old HW.out hp0) hl HBY.out HPT.out)
     rw [hq] at HC
     simp only at HC
     clear hq
     go_wp2_with (first | (go_at_call 57; refine HC.out.mono ?_; rintro e w5 ⟨rfl, hr5, hb5⟩; have HF5 := hide (HF.out.step hr5 hb5); clear hr5 hb5; have c5 := HF5.out.cell 9 _ rfl; have f5 := HF5.out.fz 9))
     go_meet
     have HF6 := HF5.out.set 9 (.bool x9) (by show 9 < 18; decide) HF5.out.rw
     simp only [zB, zC] at HF6
     exact HF6
    | false =>
     have hq := HQ9.out
     simp only [Bool.false_eq_true, if_false] at hq
     obtain ⟨rfl, rfl⟩ := Prod.mk.inj hq
     go_wp2_with fail
     go_meet
     exact HF.out
   case rest =>
    have HF6 := hide hcut
    clear hcut HPT
    have HPT := HPT2
    clear HPT2
    obtain ⟨Y9, rfl⟩ : ∃ x : World, x = wc := ⟨_, rfl⟩
    clear HF
    have HF := HF6
    clear HF6
    go_upto_region 16 with fail
    rcases hq : (if hb110 then gT l t9 else (t9, [])) with ⟨t10, x10⟩
    have HQ10 := hide hq
    have HC := hide (cuword_p hq HF.out.cu HV.out (HF.out.old HW.out hp0) hp0 hl HBY.out HPT.out)
    replace HPT := hide (if_pt hq (gT_pt HBY.out HPT.out) HPT.out)
    clear hq
    go_upto_region 17 with (first | (go_at_call 91; refine (HH110.out _).mono ?_; rintro e w9 ⟨rfl, hw9⟩; rw [hw9]; clear hw9 w9) | (go_at_call 92; refine HC.out.mono ?_; rintro e w5 ⟨rfl, hr5, hb5⟩; have HF5 := hide (HF.out.step hr5 hb5); clear hr5 hb5; have c5 := HF5.out.cell 10 _ rfl; have f5 := HF5.out.fz 10))
    have HF6 := hide (HF5.out.set 10 (.string ⟨x10.toArray⟩) (by show 10 < 18; decide) HF5.out.rw)
    simp only [zB, zC] at HF6
    generalize w5.setCell ⟨w.heap.size + 1, 10, none⟩ (.string ⟨x10.toArray⟩) = Y10 at HF6 ⊢
    clear HF HF5 HC c5 f5
    have HF := HF6
    clear HF6
    rcases hq : (if hb107 then gT l t10 else (t10, [])) with ⟨t11, x11⟩
    have HQ11 := hide hq
    have HC := hide (cuword_p hq HF.out.cu HV.out (HF.out.old HW.out hp0) hp0 hl HBY.out HPT.out)
    replace HPT := hide (if_pt hq (gT_pt HBY.out HPT.out) HPT.out)
    clear hq
    go_upto_region 18 with (first | (go_at_call 91; refine (HH107.out _).mono ?_; rintro e w9 ⟨rfl, hw9⟩; rw [hw9]; clear hw9 w9) | (go_at_call 92; refine HC.out.mono ?_; rintro e w5 ⟨rfl, hr5, hb5⟩; have HF5 := hide (HF.out.step hr5 hb5); clear hr5 hb5; have c5 := HF5.out.cell 11 _ rfl; have f5 := HF5.out.fz 11))
    have HF6 := hide (HF5.out.set 11 (.string ⟨x11.toArray⟩) (by show 11 < 18; decide) HF5.out.rw)
    simp only [zB, zC] at HF6
    generalize w5.setCell ⟨w.heap.size + 1, 11, none⟩ (.string ⟨x11.toArray⟩) = Y11 at HF6 ⊢
    clear HF HF5 HC c5 f5
    have HF := HF6
    clear HF6
    rcases hq : (if hb118 then gT l t11 else (t11, [])) with ⟨t12, x12⟩
    have HQ12 := hide hq
    have HC := hide (cuword_p hq HF.out.cu HV.out (HF.out.old HW.out hp0) hp0 hl HBY.out HPT.out)
    replace HPT := hide (if_pt hq (gT_pt HBY.out HPT.out) HPT.out)
    clear hq
    go_upto_region 19 with (first | (go_at_call 91; refine (HH118.out _).mono ?_; rintro e w9 ⟨rfl, hw9⟩; rw [hw9]; clear hw9 w9) | (go_at_call 92; refine HC.out.mono ?_; rintro e w5 ⟨rfl, hr5, hb5⟩; have HF5 := hide (HF.out.step hr5 hb5); clear hr5 hb5; have c5 := HF5.out.cell 12 _ rfl; have f5 := HF5.out.fz 12))
    have HF6 := hide (HF5.out.set 12 (.string ⟨x12.toArray⟩) (by show 12 < 18; decide) HF5.out.rw)
    simp only [zB, zC] at HF6
    generalize w5.setCell ⟨w.heap.size + 1, 12, none⟩ (.string ⟨x12.toArray⟩) = Y12 at HF6 ⊢
    clear HF HF5 HC c5 f5
    have HF := HF6
    clear HF6
    rcases hq : (if hb114 then gT l t12 else (t12, [])) with ⟨t13, x13⟩
    have HQ13 := hide hq
    have HC := hide (cuword_p hq HF.out.cu HV.out (HF.out.old HW.out hp0) hp0 hl HBY.out HPT.out)
    replace HPT := hide (if_pt hq (gT_pt HBY.out HPT.out) HPT.out)
    clear hq
    go_upto_region 20 with (first | (go_at_call 91; refine (HH114.out _).mono ?_; rintro e w9 ⟨rfl, hw9⟩; rw [hw9]; clear hw9 w9) | (go_at_call 92; refine HC.out.mono ?_; rintro e w5 ⟨rfl, hr5, hb5⟩; have HF5 := hide (HF.out.step hr5 hb5); clear hr5 hb5; have c5 := HF5.out.cell 13 _ rfl; have f5 := HF5.out.fz 13))
    have HF6 := hide (HF5.out.set 13 (.string ⟨x13.toArray⟩) (by show 13 < 18; decide) HF5.out.rw)
    simp only [zB, zC] at HF6
    generalize w5.setCell ⟨w.heap.size + 1, 13, none⟩ (.string ⟨x13.toArray⟩) = Y13 at HF6 ⊢
    clear HF HF5 HC c5 f5
    have HF := HF6
    clear HF6
    rcases hq : (if hb105 then gR l t13 else (t13, [])) with ⟨t14, x14⟩
    have HQ14 := hide hq
    have HC := hide (cubrok_p hq HF.out.cu HV.out (HF.out.old HW.out hp0) hl HBY.out HPT.out)
    replace HPT := hide (if_pt hq (gR_pt HBY.out HPT.out) HPT.out)
    clear hq
    go_upto_region 21 with (first | (go_at_call 91; refine (HH105.out _).mono ?_; rintro e w9 ⟨rfl, hw9⟩; rw [hw9]; clear hw9 w9) | (go_at_call 93; refine HC.out.mono ?_; rintro e w5 ⟨a14, d14, rfl, hu5, hr5, hb5⟩; have HF5 := hide (HF.out.step hr5 hb5); have HU := hide hu5; clear hr5 hb5 hu5; have c5 := HF5.out.cell 14 _ rfl; have f5 := HF5.out.fz 14))
    have HF6 := hide (HF5.out.setR 0 (.slice a14 x14.length d14) x14 (by show 14 < 18; decide) rfl rfl (HU.out.imp (fun b _ q => by have := HF.out.sz; omega) (fun _ _ _ _ => rfl)))
    simp only [zB, zC, Nat.reduceAdd, List.nil_append] at HF6
    generalize w5.setCell ⟨w.heap.size + 1, 14, none⟩ (.slice a14 x14.length d14) = Y14 at HF6 ⊢
    clear HU
    clear HF HF5 HC c5 f5
    have HF := HF6
    clear HF6
    rcases hq : (if hb109 then gR l t14 else (t14, [])) with ⟨t15, x15⟩
    have HQ15 := hide hq
    have HC := hide (cubrok_p hq HF.out.cu HV.out (HF.out.old HW.out hp0) hl HBY.out HPT.out)
    replace HPT := hide (if_pt hq (gR_pt HBY.out HPT.out) HPT.out)
    clear hq
    go_upto_region 22 with (first | (go_at_call 91; refine (HH109.out _).mono ?_; rintro e w9 ⟨rfl, hw9⟩; rw [hw9]; clear hw9 w9) | (go_at_call 93; refine HC.out.mono ?_; rintro e w5 ⟨a15, d15, rfl, hu5, hr5, hb5⟩; have HF5 := hide (HF.out.step hr5 hb5); have HU := hide hu5; clear hr5 hb5 hu5; have c5 := HF5.out.cell 15 _ rfl; have f5 := HF5.out.fz 15))
    have HF6 := hide (HF5.out.setR 1 (.slice a15 x15.length d15) x15 (by show 15 < 18; decide) rfl rfl (HU.out.imp (fun b _ q => by have := HF.out.sz; omega) (fun _ _ _ _ => rfl)))
    simp only [zB, zC, Nat.reduceAdd, List.nil_append, List.cons_append] at HF6
    generalize w5.setCell ⟨w.heap.size + 1, 15, none⟩ (.slice a15 x15.length d15) = Y15 at HF6 ⊢
    clear HU
    clear HF HF5 HC c5 f5
    have HF := HF6
    clear HF6
    rcases hq : (if hb120 then gR l t15 else (t15, [])) with ⟨t16, x16⟩
    have HQ16 := hide hq
    have HC := hide (cubrok_p hq HF.out.cu HV.out (HF.out.old HW.out hp0) hl HBY.out HPT.out)
    replace HPT := hide (if_pt hq (gR_pt HBY.out HPT.out) HPT.out)
    clear hq
    go_upto_region 23 with (first | (go_at_call 91; refine (HH120.out _).mono ?_; rintro e w9 ⟨rfl, hw9⟩; rw [hw9]; clear hw9 w9) | (go_at_call 93; refine HC.out.mono ?_; rintro e w5 ⟨a16, d16, rfl, hu5, hr5, hb5⟩; have HF5 := hide (HF.out.step hr5 hb5); have HU := hide hu5; clear hr5 hb5 hu5; have c5 := HF5.out.cell 16 _ rfl; have f5 := HF5.out.fz 16))
    have HF6 := hide (HF5.out.setR 2 (.slice a16 x16.length d16) x16 (by show 16 < 18; decide) rfl rfl (HU.out.imp (fun b _ q => by have := HF.out.sz; omega) (fun _ _ _ _ => rfl)))
    simp only [zB, zC, Nat.reduceAdd, List.nil_append, List.cons_append] at HF6
    generalize w5.setCell ⟨w.heap.size + 1, 16, none⟩ (.slice a16 x16.length d16) = Y16 at HF6 ⊢
    clear HU
    clear HF HF5 HC c5 f5
    have HF := HF6
    clear HF6
    rcases hq : (if hb120 then gR l t16 else (t16, [])) with ⟨t17, x17⟩
    have HQ17 := hide hq
    have HC := hide (cubrok_p hq HF.out.cu HV.out (HF.out.old HW.out hp0) hl HBY.out HPT.out)
    replace HPT := hide (if_pt hq (gR_pt HBY.out HPT.out) HPT.out)
    clear hq
    go_upto_region 24 with (first | (go_at_call 91; refine (HH120.out _).mono ?_; rintro e w9 ⟨rfl, hw9⟩; rw [hw9]; clear hw9 w9) | (go_at_call 93; refine HC.out.mono ?_; rintro e w5 ⟨a17, d17, rfl, hu5, hr5, hb5⟩; have HF5 := hide (HF.out.step hr5 hb5); have HU := hide hu5; clear hr5 hb5 hu5; have c5 := HF5.out.cell 17 _ rfl; have f5 := HF5.out.fz 17))
    have HF6 := hide (HF5.out.setR 3 (.slice a17 x17.length d17) x17 (by show 17 < 18; decide) rfl rfl (HU.out.imp (fun b _ q => by have := HF.out.sz; omega) (fun _ _ _ _ => rfl)))
    simp only [zB, zC, Nat.reduceAdd, List.nil_append, List.cons_append] at HF6
    generalize w5.setCell ⟨w.heap.size + 1, 17, none⟩ (.slice a17 x17.length d17) = Y17 at HF6 ⊢
    clear HU
    clear HF HF5 HC c5 f5
    have HF := HF6
    clear HF6
    obtain ⟨X, hX⟩ : ∃ X : Rc, X = ⟨k, x1, x2, x3, x4, x5, x6, x7, x8, x9, x10, x11, x12, x13, x14, x15, x16, x17⟩ := ⟨_, rfl⟩
    have HBG : Hid (bodyG l k s2 = (t17, X)) := hide (by
     rw [hX]
     unfold bodyG hN hF hT hR
     simp only [fL, HE98.out, HE101.out, HE116.out, HE112.out, HE108.out, HE97.out, HE102.out, HE110.out, HE107.out, HE118.out, HE114.out, HE105.out, HE109.out, HE120.out, HQ1.out, HQ2.out, HQ3.out, HQ4.out, HQ5.out, HQ6.out, HQ7.out, HQ8.out, HQ9.out, HQ10.out, HQ11.out, HQ12.out, HQ13.out, HQ14.out, HQ15.out, HQ16.out, HQ17.out]
     rfl)
    have HTX : Hid (TxR X) := hide (by have := body_tx (k := k) (s := s2) HBY.out; rw [HBG.out] at this; exact this)
    have hrg := HF.out.rg
    have hw14 := HF.out.rw 0 (by decide)
    have hw15 := HF.out.rw 1 (by decide)
    have hw16 := HF.out.rw 2 (by decide)
    have hw17 := HF.out.rw 3 (by decide)
    have HRG : Hid (Y17.rangeAt (w.heap.size + 1) 0 (cellsR X a14 a15 a16 a17 d14 d15 d16 d17)) := hide (by rw [hX]; exact hrg)
    have HWS : Hid (RwsR (fun b => w.heap.size + 1 < b) Y17 X a14 a15 a16 a17 d14 d15 d16 d17) := hide (by rw [hX]; exact ⟨hw14, hw15, hw16, hw17⟩)
    have hsz := HF.out.sz
    have HTH := hide HF.out.th
    have HCU := hide HF.out.cu
    have HBX := hide HF.out.bx
    have hpw := HF.out.hp
    clear hX hrg hw14 hw15 hw16 hw17 HF HV HW HPT HBY              
    clear HE98 HH98 HE101 HH101 HE116 HH116 HE112 HH112 HE108 HH108 HE97 HH97 HE102 HH102 HE110 HH110 HE107 HH107 HE118 HH118 HE114 HH114 HE105 HH105 HE109 HH109 HE120 HH120 HQ1 HQ2 HQ3 HQ4 HQ5 HQ6 HQ7 HQ8 HQ9 HQ10 HQ11 HQ12 HQ13 HQ14 HQ15 HQ16 HQ17
    have hRp : w.heap.size ≠ p := by omega
    have c2 := HCU.out.c2
    by_cases h4 : t17.c = 0
    case neg =>
     have h4b : (t17.c == 0) = false := by simp [h4]
     have h4c : (t17.c != 0) = true := by simp [h4]
     go_wp2_with (first | (refine wpList_store_mid rfl _ _ _ rfl w.heap.size 0 (cellsR Rc.zero none none none none 0 0 0 0).toArray rfl rfl HTH.out (by kernel_rfl) (cellsR_one _ _ _ _ _ _ _ _ _) ?_))
     exact bodyPost_ret (v := .agg (cellsR Rc.zero none none none none 0 0 0 0).toArray) (results_mid Tryz.results59 _ _ w.heap.size _ _ rfl (World.rangeAt_setCells_same _ _ _ _ HTH.out) Tryz.underlying45 rfl (by kernel_rfl)) rfl ⟨_, t17, X, rfl, HBG, by rw [if_neg h4]; exact (isR_zero _ _), by rw [if_neg h4]; exact cuG_many hRp _ _ HCU.out, Bx.many (Nat.le_refl _) _ _ HBX.out⟩
    rw [h4] at c2
    have HCK : Hid (Calls Tryz.prog 94 #[.agg (cellsR X a14 a15 a16 a17 d14 d15 d16 d17).toArray] Y17 fun e w' => e = .returned (wr3 (chk X).1 (chk X).2.1 (chk X).2.2) ∧ Below Y17.heap.size Y17 w') := hide (check_any X.k X.br X.ep X.tp X.pa X.le X.cl X.se X.co X.fl X.nm X.ky X.va X.rk a14 a15 a16 a17 d14 d15 d16 d17 X.ids X.isr X.ad X.dr Y17 HTX.out.nm HTX.out.ky HTX.out.va HTX.out.rk HWS.out.h14.sl HWS.out.h15.sl HWS.out.h16.sl HWS.out.h17.sl)
    unfold wr3 at HCK
    obtain ⟨TT, hTT⟩ : ∃ TT, TT = chk X := ⟨_, rfl⟩
    have HTT := hide hTT
    rw [← hTT] at HCK
    clear hTT
    obtain ⟨tpo, tpa, tc⟩ := TT
    simp only at HCK
    have HT2 : Hid ((chk X).2.2 = tc) := hide (by rw [← HTT.out])
    clear HTT
    go_upto_region 26 with (first | (refine wpList_load_mid rfl _ _ rfl _ _ rfl _ _ HRG.out Tryz.underlying45 rfl (by kernel_rfl) ?_) | (go_at_call 94; refine HCK.out.mono ?_; rintro e w6 ⟨rfl, hb6⟩))
    obtain ⟨V, hV⟩ : ∃ V, V = w6.alloc (.cells #[.string tpo, .int .i64 tpa, .int .i64 tc] 35) := ⟨_, rfl⟩
    have hbV : Below Y17.heap.size Y17 V := by rw [hV]; exact hb6.alloc hb6.size _
    have e2 : V.cell? ⟨w6.heap.size, 2, none⟩ = some (.int .i64 tc) := by rw [hV]; simp
    rw [← hV]
    have HRG2 := hide (range_below HRG.out hbV)
    have HWS2 := hide (HWS.out.below hbV)
    have HTH2 := hide (there_bx HTH.out (Bx.of (p := p) hbV) hRp)
    have HCU2 := hide (HCU.out.below hbV)
    have HBX2 := hide (HBX.out.call hbV)
    have k2 := HCU2.out.c2
    rw [h4] at k2
    clear hV c2 HRG HWS HTH HCU HBX HCK hb6 HTX
    by_cases hc : tc = 0
    ·rw [hc] at e2
     go_wp2_with (first | (refine wpList_load_mid rfl _ _ rfl _ _ rfl _ _ HRG2.out Tryz.underlying45 rfl (by kernel_rfl) ?_) | (refine wpList_store_mid rfl _ _ _ rfl w.heap.size 0 (cellsR X a14 a15 a16 a17 d14 d15 d16 d17).toArray rfl rfl HTH2.out (by kernel_rfl) (cellsR_one _ _ _ _ _ _ _ _ _) ?_))
     exact bodyPost_ret (v := .agg (cellsR X a14 a15 a16 a17 d14 d15 d16 d17).toArray) (results_mid Tryz.results59 _ _ w.heap.size _ _ rfl (World.rangeAt_setCells_same _ _ _ _ HTH2.out) Tryz.underlying45 rfl (by kernel_rfl)) rfl ⟨_, t17, X, rfl, HBG, by rw [if_pos h4, HT2.out, if_pos hc]; exact (⟨a14, a15, a16, a17, d14, d15, d16, d17, rfl, HWS2.out.h14.imp (fun b _ q => by omega) (fun b i _ q => cell_many (by omega) _ _), HWS2.out.h15.imp (fun b _ q => by omega) (fun b i _ q => cell_many (by omega) _ _), HWS2.out.h16.imp (fun b _ q => by omega) (fun b i _ q => cell_many (by omega) _ _), HWS2.out.h17.imp (fun b _ q => by omega) (fun b i _ q => cell_many (by omega) _ _)⟩), by rw [if_pos h4, HT2.out, if_pos hc]; exact cuG_many hRp _ _ HCU2.out, Bx.many (Nat.le_refl _) _ _ HBX2.out⟩
    ·have hcb : (tc != 0) = true := by simp [hc]
     have HRF := hide (curef_gs p v t17 ⟨#[114, 101, 99, 111, 114, 100]⟩ tc V hc HCU2.out)
     have hrS : refS ⟨#[114, 101, 99, 111, 114, 100]⟩ tc t17 = ⟨tc, ⟨#[114, 101, 99, 111, 114, 100]⟩, t17.pt⟩ := by unfold refS; rw [if_pos h4]
     rw [hrS] at HRF
     clear hrS
     go_upto_region 28 with (first | (go_at_call 58; refine HRF.out.mono ?_; rintro e w7 ⟨rfl, hr7, hb7⟩))
     have HCU3 := hide hr7
     have HTH3 := hide (there_bx HTH2.out hb7 hRp)
     have HBX3 := hide (HBX2.out.trans hb7)
     have k3 : w7.cell? ⟨p, 2, none⟩ = some (.int .i64 tc) := HCU3.out.c2
     clear hr7 hb7 k2
     go_wp2_with (first | (refine wpList_store_mid rfl _ _ _ rfl w.heap.size 0 (cellsR Rc.zero none none none none 0 0 0 0).toArray rfl rfl HTH3.out (by kernel_rfl) (cellsR_one _ _ _ _ _ _ _ _ _) ?_))
     exact bodyPost_ret (v := .agg (cellsR Rc.zero none none none none 0 0 0 0).toArray) (results_mid Tryz.results59 _ _ w.heap.size _ _ rfl (World.rangeAt_setCells_same _ _ _ _ HTH3.out) Tryz.underlying45 rfl (by kernel_rfl)) rfl ⟨_, t17, X, rfl, HBG, by rw [if_pos h4, HT2.out, if_neg hc]; exact (isR_zero _ _), by rw [if_pos h4, HT2.out, if_neg hc]; exact cuG_many hRp _ _ HCU3.out, Bx.many (Nat.le_refl _) _ _ HBX3.out⟩
theorem rread_any (p : Nat) (v : Value) (l : List Int) (s : Gs) (w0 w : World) (hr : CuG w p v s) (hv : Sl bc w0 v l) (hW : Below w0.heap.size w0 w) (hp0 : w0.heap.size ≤ p) (hl : l.length ≤ 4000) (hby : Byt l) (hs : s.pt ≤ l.length) :
  Calls Tryz.prog 59 #[.pointer (some ⟨p, 0, none⟩)] w fun e w' => ∃ vx, e = .returned vx ∧ IsR (fun b => w.heap.size ≤ b) w' vx (readG l s).2 ∧ CuG w' p v (readG l s).1 ∧ Bx p w w' := by
 rcases hq : gN 63 l s with ⟨s1, k⟩
 refine (rread_go p v l s s1 _ k w0 w _ _ _ _ _ _ _ _ _ _ _ _ _ _ _ hr hv hW hp0 hl hby hs (hide hq) (hide rfl) (hide rfl) (hide rfl) (hide rfl) (hide rfl) (hide rfl) (hide rfl) (hide rfl) (hide rfl) (hide rfl) (hide rfl) (hide rfl) (hide rfl) (hide rfl) (hide rfl) (hide rfl)).mono ?_
 rintro e w' ⟨vx, s4, x, rfl, h1, h2, h3, h4⟩
 refine ⟨vx, rfl, ?_⟩
 by_cases hk : 1 ≤ k ∧ k ≤ 12
 ·have hb := h1.out
  rw [show (decide (s1.c = 0) && (decide (k < 1) || decide (12 < k))) = false by
   have e1 : decide (k < 1) = false := decide_eq_false (by omega)
   have e2 : decide (12 < k) = false := decide_eq_false (by omega)
   rw [e1, e2]; simp] at hb
  simp only [Bool.false_eq_true, if_false] at hb
  rw [read_body hq hk hb]
  by_cases h5 : s4.c = 0
  ·simp only [if_pos h5] at h2 h3 ⊢
   by_cases h6 : (chk x).2.2 = 0
   ·simp only [if_pos h6] at h2 h3 ⊢
    exact ⟨h2, h3, h4⟩
   ·simp only [if_neg h6] at h2 h3 ⊢
    exact ⟨h2, h3, h4⟩
  ·simp only [if_neg h5] at h2 h3 ⊢
   exact ⟨h2, h3, h4⟩
 ·rw [read_kind hq hk]
  have hs2 : (if (decide (s1.c = 0) && (decide (k < 1) || decide (12 < k))) = true then refS ⟨#[107, 105, 110, 100]⟩ 5 s1 else s1) = refS ⟨#[107, 105, 110, 100]⟩ 5 s1 := by
   by_cases h7 : s1.c = 0
   ·rw [if_pos (by rw [decide_eq_true h7, Bool.true_and, Bool.or_eq_true, decide_eq_true_iff, decide_eq_true_iff]; omega)]
   ·rw [if_neg (by simp [h7])]
    unfold refS
    rw [if_neg h7]
  have hb := h1.out
  rw [hs2] at hb
  have hne : (refS ⟨#[107, 105, 110, 100]⟩ 5 s1).c ≠ 0 := by
   unfold refS
   split
   ·show (5 : Int) ≠ 0
    decide
   ·assumption
  have hst := body_stay l k _ hne
  rw [hb] at hst
  simp only at hst
  subst hst
  rw [if_neg hne] at h2 h3
  exact ⟨h2, h3, h4⟩
end Go.Proofs.YtjjpfajbljbelaaGreatDoor
