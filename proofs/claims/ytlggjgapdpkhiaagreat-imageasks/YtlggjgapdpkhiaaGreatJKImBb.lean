/-
  A SETTING BY ITS TOPIC AND KEY (cmp.Or, slices.BinarySearchFunc, image.findConfig).
-/
import Derived.Test.YtlggjgapdpkhiaaGreatJKImMa5
namespace Go.Proofs.YtlggjgapdpkhiaaGreat
open Go.RowKit
set_option maxRecDepth 100000
set_option maxHeartbeats 4000000
theorem or_any (x y : Int) (B cap : Nat) (w : World) (h0 : w.cell? ⟨B, 0, none⟩ = some (.int .i64 x)) (h1 : w.cell? ⟨B, 1, none⟩ = some (.int .i64 y)) : Calls Tryz.prog 78 #[.slice (some ⟨B, 0, none⟩) 2 cap] w fun e w' => e = .returned (.int .i64 (if x = 0 then y else x)) ∧ w' = w := by
 by_cases hx : x = 0
 ·subst hx
  rw [if_pos rfl]
  by_cases hy : y = 0
  ·subst hy
   go_enter Tryz.func78, Tryz.ntmps78
   go_wp2_with fail
   refine wp_loop_rounds 3 ?_
   rw [rounds_succ]
   go_wp2_with fail
   rw [rounds_succ]
   go_wp2_with fail
   rw [rounds_succ]
   go_wp2_with fail
   go_ret
   exact ⟨rfl, rfl⟩
  ·have hy' : (y != 0) = true := by simpa using hy
   go_enter Tryz.func78, Tryz.ntmps78
   go_wp2_with fail
   refine wp_loop_rounds 2 ?_
   rw [rounds_succ]
   go_wp2_with fail
   rw [rounds_succ]
   go_wp2_with fail
   go_ret
   exact ⟨rfl, rfl⟩
 ·rw [if_neg hx]
  have hx' : (x != 0) = true := by simpa using hx
  go_enter Tryz.func78, Tryz.ntmps78
  go_wp2_with fail
  refine wp_loop_rounds 1 ?_
  rw [rounds_succ]
  go_wp2_with fail
  go_ret
  exact ⟨rfl, rfl⟩
theorem clC_any (x : Cf) (t : Int) (k : List UInt8) (B : Nat) (w : World) (hB : w.cell? ⟨B, 0, none⟩ = some (.int .i64 t)) :
  Calls Tryz.prog 77 #[.agg (cfc x).toArray, .string ⟨k.toArray⟩, .pointer (some ⟨B, 0, none⟩)] w fun e w' => e = .returned (.int .i64 (cmpC x t k)) ∧ Below w.heap.size w w' := by
 have hl := cB hB
 have HOR := Hd (fun W BB c h0 h1 => or_any (cmpN x.tp t) (cmpT x.ky k) BB c W h0 h1)
 unfold cfc cmpC
 generalize (if cmpN x.tp t = 0 then cmpT x.ky k else cmpN x.tp t) = ans at *
 go_enter Tryz.func77, Tryz.ntmps77
 go_upto_region 1 with fail
 go_region_with (first
  | (go_at_call 79; refine (cmpI_any _ _ _).mono ?_; rintro e W1 ⟨rfl, rfl⟩)
  | (go_at_call 80; refine (cmpS_any _ _ _).mono ?_; rintro e W2 ⟨rfl, rfl⟩)
  | (go_at_call 78; refine (HOR.out _ _ _ (by simp) (by simp)).mono ?_; rintro e W3 ⟨rfl, rfl⟩))
 all_goals
  go_wp2_with fail
  go_ret
  exact ⟨rfl, (((Below.refl _ _).alloc (Nat.le_refl _) _).alloc (by simp) _).drew⟩
theorem bsC_some (l : List Cf) (b o cap : Nat) (t : Int) (k : List UInt8) (B : Nat) (w : World) (hv : w.rangeAt b o (l.flatMap cfc)) (hl : l.length ≤ 100000) (hs : Stn (fun x : Cf => cmpC x t k) l) (hB : w.cell? ⟨B, 0, none⟩ = some (.int .i64 t)) :
  Calls Tryz.prog 76 #[.slice (some ⟨b, o, none⟩) l.length cap, .string ⟨k.toArray⟩, .func (.func 77) #[] #[.pointer (some ⟨B, 0, none⟩)]] w
   fun e w' => BsP (fun x : Cf => cmpC x t k) l w w' e := by
 have HS := Hd hs
 have HV := Hd (fun i (h : i < l.length) => fm_at encC hv h)
 have HC := Hd (fun W (x : Cf) (h : Below w.heap.size w W) => clC_any x t k B W ((h.cell (p := ⟨B, 0, none⟩) (cB hB)).trans hB))
 clear hv hs hB
 go_enter Tryz.func76, Tryz.ntmps76
 go_wp2_with fail
 go_loopw [9, 10] (fun x y W => ∃ i j : Nat, x = .int .i64 (i : Int) ∧ y = .int .i64 (j : Int) ∧ i ≤ j ∧ j ≤ l.length ∧ (∀ q (h : q < l.length), q < i → cmpC l[q] t k < 0) ∧ (∀ q (h : q < l.length), j ≤ q → 0 ≤ cmpC l[q] t k) ∧ Below w.heap.size w W) (fun x y _ => (intOf y).toNat - (intOf x).toNat)
 case atStart => exact ⟨0, l.length, rfl, rfl, Nat.zero_le _, Nat.le_refl _, fun q h h' => absurd h' (Nat.not_lt_zero _), fun q h h' => absurd h (by omega), Below.refl _ _⟩
 case round =>
  obtain ⟨i, j, rfl, rfl, hij, hj, h1, h2, hb⟩ := hrel
  have H1 := Hd h1
  have H2 := Hd h2
  have HB := Hd hb
  clear h1 h2 hb
  by_cases hlt : i < j
  ·have hltI : (i : Int) < (j : Int) := by omega
   have hm : (i + j) / 2 < l.length := by omega
   have HE := Hd (rg_bel (HV.out _ hm) HB.out)
   have HCL := Hd (HC.out wr l[(i + j) / 2] HB.out)
   have HNL : Hid (cmpC l[(i + j) / 2] t k < 0 → ∀ q (h : q < l.length), q < (i + j) / 2 + 1 → cmpC l[q] t k < 0) := Hd (fun h0 q h hq => by
    by_cases e : q = (i + j) / 2
    ·subst e; exact h0
    ·have := HS.out.mono hm (show q < (i + j) / 2 by omega)
     by_cases hz : 0 ≤ cmpC l[q] t k
     ·have := this hz
      omega
     ·omega)
   have HNR : Hid (¬ cmpC l[(i + j) / 2] t k < 0 → ∀ q (h : q < l.length), (i + j) / 2 ≤ q → 0 ≤ cmpC l[q] t k) := Hd (fun h0 q h hq => by
    by_cases e : q = (i + j) / 2
    ·subst e; omega
    ·have := HS.out.mono h (show (i + j) / 2 < q by omega) (by omega)
     omega)
   by_cases h0 : cmpC l[(i + j) / 2] t k < 0
   ·replace HNL := Hd (HNL.out h0)
    clear HNR
    generalize l[(i + j) / 2] = y at *
    go_wp2_with (first
     | (refine wpList_load_mid rfl _ _ rfl _ _ rfl _ _ HE.out Tryz.underlying78 rfl (by kernel_rfl) ?_)
     | (go_at_call 77; refine HCL.out.mono ?_; rintro e w1 ⟨rfl, hb1⟩; have HB1 := Hd (bt HB.out hb1); clear hb1 HCL HE))
    go_roundw
    case rel => exact ⟨(i + j) / 2 + 1, j, by go_num, rfl, by omega, hj, HNL.out, H2.out, HB1.out⟩
    case measure => simp [intOf]; omega
   ·replace HNR := Hd (HNR.out h0)
    clear HNL
    generalize l[(i + j) / 2] = y at *
    go_wp2_with (first
     | (refine wpList_load_mid rfl _ _ rfl _ _ rfl _ _ HE.out Tryz.underlying78 rfl (by kernel_rfl) ?_)
     | (go_at_call 77; refine HCL.out.mono ?_; rintro e w1 ⟨rfl, hb1⟩; have HB1 := Hd (bt HB.out hb1); clear hb1 HCL HE))
    go_roundw
    case rel => exact ⟨i, (i + j) / 2, rfl, by go_num, by omega, by omega, H1.out, HNR.out, HB1.out⟩
    case measure => simp [intOf]; omega
  ·obtain rfl : i = j := by omega
   have HP : Hid (Pla (fun x : Cf => cmpC x t k) l i) := Hd (pla_of hj H1.out H2.out)
   clear hlt hij H1 H2
   by_cases hi : i < l.length
   ·have hiI : (i : Int) < (l.length : Int) := by omega
    have HE := Hd (rg_bel (HV.out _ hi) HB.out)
    have HCL := Hd (HC.out wr l[i] HB.out)
    have HD : Hid (decide (∃ h : i < l.length, cmpC l[i] t k = 0) = (cmpC l[i] t k == 0)) := Hd (by
     by_cases e : cmpC l[i] t k = 0
     ·rw [decide_eq_true ⟨hi, e⟩, e]; rfl
     ·rw [decide_eq_false (fun q => e q.2)]; simp [e])
    generalize hy : l[i] = y at HCL HE
    have HY := Hd hy
    clear hy
    go_wp2_with (first
     | (refine wpl_want (by rfl) _ _ rfl _ _ rfl _ _ HE.out Tryz.underlying78 rfl (by kernel_rfl) ?_)
     | (go_at_call 77; refine HCL.out.mono ?_; rintro e w1 ⟨rfl, hb1⟩; have HB1 := Hd (bt HB.out hb1); clear hb1 HCL HE))
    go_ret2
    exact BsP.mk i HP.out (by rw [HD.out, HY.out]; rfl) HB1.out
   ·have hiI : ¬ (i : Int) < (l.length : Int) := by omega
    have HD : Hid (decide (∃ h : i < l.length, cmpC l[i] t k = 0) = false) := Hd (decide_eq_false (fun q => hi q.1))
    go_wp2_with fail
    go_ret2
    exact BsP.mk i HP.out (by rw [HD.out]; rfl) HB.out
theorem bsC_none (ao : Option Addr) (cap : Nat) (t : Int) (k : List UInt8) (B : Nat) (w : World) :
  Calls Tryz.prog 76 #[.slice ao 0 cap, .string ⟨k.toArray⟩, .func (.func 77) #[] #[.pointer (some ⟨B, 0, none⟩)]] w
   fun e w' => BsP (fun x : Cf => cmpC x t k) [] w w' e := by
 go_enter Tryz.func76, Tryz.ntmps76
 go_wp2_with fail
 refine wp_loop_rounds 1 ?_
 rw [rounds_succ]
 go_wp2_with fail
 go_ret2
 exact BsP.none rfl (Below.refl _ _)
theorem bsC_any (l : List Cf) (ao : Option Addr) (n cap : Nat) (t : Int) (k : List UInt8) (B : Nat) (w : World) (hn : n = l.length) (hv : Rs cfc w (.slice ao n cap) l) (hl : l.length ≤ 100000) (hs : Stn (fun x : Cf => cmpC x t k) l) (hB : w.cell? ⟨B, 0, none⟩ = some (.int .i64 t)) :
  Calls Tryz.prog 76 #[.slice ao n cap, .string ⟨k.toArray⟩, .func (.func 77) #[] #[.pointer (some ⟨B, 0, none⟩)]] w
   fun e w' => BsP (fun x : Cf => cmpC x t k) l w w' e := by
 subst hn
 rcases Nat.eq_zero_or_pos l.length with h0 | h0
 ·obtain rfl := List.eq_nil_iff_length_eq_zero.2 h0
  exact bsC_none ao cap t k B w
 ·obtain ⟨b, o, rfl, hr⟩ := hv.rg h0
  exact bsC_some l b o cap t k B w hr hl hs hB
theorem findConfig_any (m : Im) (p : Ip) (t : Int) (k : List UInt8) (w : World) (hv : ImR w m p) (hl : m.cf.length ≤ 100000) (hs : Stn (fun x : Cf => cmpC x t k) m.cf) :
  Calls Tryz.prog 42 #[imv m p, .int .i64 t, .string ⟨k.toArray⟩] w fun e w' => BsP (fun x : Cf => cmpC x t k) m.cf w w' e := by
 have HC := Hd (fun W (h : Below w.heap.size w W) (hB : W.cell? ⟨w.heap.size + 1, 0, none⟩ = some (.int .i64 t)) => bsC_any m.cf p.ac _ p.cc t k (w.heap.size + 1) W rfl (hv.c.below h) hl hs hB)
 clear hv hs hl
 unfold imv
 go_enter Tryz.func42, Tryz.ntmps42
 go_wp2_with (go_at_call 76; refine (HC.out _ (((Below.refl _ _).alloc (Nat.le_refl _) _).alloc (by simp) _) (by simp)).mono ?_; rintro e w1 ⟨i, hp, rfl, hb⟩; have HP := Hd hp; have HB := Hd hb; clear hp hb)
 go_ret2
 exact BsP.mk i HP.out rfl ((((Below.refl _ _).alloc (Nat.le_refl _) _).alloc (by simp) _).trans (HB.out.mono (by simp; omega)))
end Go.Proofs.YtlggjgapdpkhiaaGreat
