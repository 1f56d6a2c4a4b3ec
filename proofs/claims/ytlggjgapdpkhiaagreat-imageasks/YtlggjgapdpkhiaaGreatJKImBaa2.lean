/-
  A BROKER, OR A TOPIC, BY ITS NUMBER (slices.BinarySearchFunc, image.find, findBroker, findTopic).
  THE FIRST ONE OF WHICH SOMETHING IS SO (slices.IndexFunc, ContainsFunc), by what the function that is handed in answers.
-/
import Derived.Test.YtlggjgapdpkhiaaGreatJKImMa5
namespace Go.Proofs.YtlggjgapdpkhiaaGreat
open Go.RowKit
set_option maxRecDepth 100000
set_option maxHeartbeats 4000000
theorem keyB_any (x : Bk) (w : World) : Calls Tryz.prog 73 #[.agg (bkc x).toArray] w fun e w' => e = .returned (.int .i64 x.id) ∧ Below w.heap.size w w' := by
 unfold bkc
 go_enter Tryz.func73, Tryz.ntmps73
 go_wp2
 go_ret
 exact ⟨rfl, (Below.refl _ _).alloc (Nat.le_refl _) _⟩
theorem clB_any (x : Bk) (id : Int) (B : Nat) (w : World) (hB : w.cell? ⟨B, 0, none⟩ = some (.func (.func 73) #[] #[])) :
  Calls Tryz.prog 111 #[.agg (bkc x).toArray, .int .i64 id, .pointer (some ⟨B, 0, none⟩)] w fun e w' => e = .returned (.int .i64 (cmpN x.id id)) ∧ Below w.heap.size w w' := by
 have HK := Hd (fun W => keyB_any x W)
 have hl := cB hB
 unfold bkc at *
 go_enter Tryz.func111, Tryz.ntmps111
 go_wp2_with (first
  | (go_at_call 73; refine (HK.out _).mono ?_; rintro e W1 ⟨rfl, hb⟩; have HB := Hd hb; clear hb)
  | (go_at_call 79; refine (cmpI_any _ _ _).mono ?_; rintro e W2 ⟨rfl, rfl⟩))
 go_ret
 exact ⟨rfl, ((Below.refl _ _).alloc (Nat.le_refl _) _).trans (HB.out.mono (by simp))⟩
theorem bsB_some (l : List Bk) (b o cap : Nat) (id : Int) (B : Nat) (w : World) (hv : w.rangeAt b o (l.flatMap bkc)) (hl : l.length ≤ 100000) (hs : Stn (fun x : Bk => cmpN x.id id) l) (hB : w.cell? ⟨B, 0, none⟩ = some (.func (.func 73) #[] #[])) :
  Calls Tryz.prog 110 #[.slice (some ⟨b, o, none⟩) l.length cap, .int .i64 id, .func (.func 111) #[] #[.pointer (some ⟨B, 0, none⟩)]] w
   fun e w' => BsP (fun x : Bk => cmpN x.id id) l w w' e := by
 have HS := Hd hs
 have HV := Hd (fun i (h : i < l.length) => fm_at encB hv h)
 have HC := Hd (fun W (x : Bk) (h : Below w.heap.size w W) => clB_any x id B W ((h.cell (p := ⟨B, 0, none⟩) (cB hB)).trans hB))
 clear hv hs hB
 go_enter Tryz.func110, Tryz.ntmps110
 go_wp2_with fail
 go_loopw [9, 10] (fun x y W => ∃ i j : Nat, x = .int .i64 (i : Int) ∧ y = .int .i64 (j : Int) ∧ i ≤ j ∧ j ≤ l.length ∧ (∀ q (h : q < l.length), q < i → cmpN (l[q]).id id < 0) ∧ (∀ q (h : q < l.length), j ≤ q → 0 ≤ cmpN (l[q]).id id) ∧ Below w.heap.size w W) (fun x y _ => (intOf y).toNat - (intOf x).toNat)
 case atStart => exact ⟨0, l.length, rfl, rfl, Nat.zero_le _, Nat.le_refl _, fun q h h' => absurd h' (Nat.not_lt_zero _), fun q h h' => absurd h (by omega), Below.refl _ _⟩
 case round =>
  obtain ⟨i, j, rfl, rfl, hij, hj, h1, h2, hb⟩ := hrel
  have H1 := Hd h1
  have H2 := Hd h2
  have HB := Hd hb
  clear h1 h2 hb
  by_cases hlt : i < j
  ·have hltI : (i : Int) < (j : Int) := by omega
   have hm : (i + j) / 2 < l.length := by omega
   have HE := Hd (rg_bel (HV.out _ hm) HB.out)
   have HCL := Hd (HC.out wr l[(i + j) / 2] HB.out)
   have HNL : Hid (cmpN (l[(i + j) / 2]).id id < 0 → ∀ q (h : q < l.length), q < (i + j) / 2 + 1 → cmpN (l[q]).id id < 0) := Hd (fun h0 q h hq => by
    by_cases e : q = (i + j) / 2
    ·subst e; exact h0
    ·have := HS.out.mono hm (show q < (i + j) / 2 by omega)
     by_cases hz : 0 ≤ cmpN (l[q]).id id
     ·have := this hz
      omega
     ·omega)
   have HNR : Hid (¬ cmpN (l[(i + j) / 2]).id id < 0 → ∀ q (h : q < l.length), (i + j) / 2 ≤ q → 0 ≤ cmpN (l[q]).id id) := Hd (fun h0 q h hq => by
    by_cases e : q = (i + j) / 2
    ·subst e; omega
    ·have := HS.out.mono h (show (i + j) / 2 < q by omega) (by omega)
     omega)
   by_cases h0 : cmpN (l[(i + j) / 2]).id id < 0
   ·replace HNL := Hd (HNL.out h0)
    clear HNR
    generalize l[(i + j) / 2] = y at *
    go_wp2_with (first
     | (refine wpList_load_mid rfl _ _ rfl _ _ rfl _ _ HE.out Tryz.underlying33 rfl (by kernel_rfl) ?_)
     | (go_at_call 111; refine HCL.out.mono ?_; rintro e w1 ⟨rfl, hb1⟩; have HB1 := Hd (bt HB.out hb1); clear hb1 HCL HE))
    go_roundw
    case rel => exact ⟨(i + j) / 2 + 1, j, by go_num, rfl, by omega, hj, HNL.out, H2.out, HB1.out⟩
    case measure => simp [intOf]; omega
   ·replace HNR := Hd (HNR.out h0)
    clear HNL
    generalize l[(i + j) / 2] = y at *
    go_wp2_with (first
     | (refine wpList_load_mid rfl _ _ rfl _ _ rfl _ _ HE.out Tryz.underlying33 rfl (by kernel_rfl) ?_)
     | (go_at_call 111; refine HCL.out.mono ?_; rintro e w1 ⟨rfl, hb1⟩; have HB1 := Hd (bt HB.out hb1); clear hb1 HCL HE))
    go_roundw
    case rel => exact ⟨i, (i + j) / 2, rfl, by go_num, by omega, by omega, H1.out, HNR.out, HB1.out⟩
    case measure => simp [intOf]; omega
  ·obtain rfl : i = j := by omega
   have HP : Hid (Pla (fun x : Bk => cmpN x.id id) l i) := Hd (pla_of hj H1.out H2.out)
   clear hlt hij H1 H2
   by_cases hi : i < l.length
   ·have hiI : (i : Int) < (l.length : Int) := by omega
    have HE := Hd (rg_bel (HV.out _ hi) HB.out)
    have HCL := Hd (HC.out wr l[i] HB.out)
    have HD : Hid (decide (∃ h : i < l.length, cmpN (l[i]).id id = 0) = (cmpN (l[i]).id id == 0)) := Hd (by
     by_cases e : cmpN (l[i]).id id = 0
     ·rw [decide_eq_true ⟨hi, e⟩, e]; rfl
     ·rw [decide_eq_false (fun q => e q.2)]; simp [e])
    generalize hy : l[i] = y at HCL HE
    have HY := Hd hy
    clear hy
    go_wp2_with (first
     | (refine wpl_want (by rfl) _ _ rfl _ _ rfl _ _ HE.out Tryz.underlying33 rfl (by kernel_rfl) ?_)
     | (go_at_call 111; refine HCL.out.mono ?_; rintro e w1 ⟨rfl, hb1⟩; have HB1 := Hd (bt HB.out hb1); clear hb1 HCL HE))
    go_ret2
    exact BsP.mk i HP.out (by rw [HD.out, HY.out]; rfl) HB1.out
   ·have hiI : ¬ (i : Int) < (l.length : Int) := by omega
    have HD : Hid (decide (∃ h : i < l.length, cmpN (l[i]).id id = 0) = false) := Hd (decide_eq_false (fun q => hi q.1))
    go_wp2_with fail
    go_ret2
    exact BsP.mk i HP.out (by rw [HD.out]; rfl) HB.out
theorem bsB_none (ao : Option Addr) (cap : Nat) (id : Int) (B : Nat) (w : World) :
  Calls Tryz.prog 110 #[.slice ao 0 cap, .int .i64 id, .func (.func 111) #[] #[.pointer (some ⟨B, 0, none⟩)]] w
   fun e w' => BsP (fun x : Bk => cmpN x.id id) [] w w' e := by
 go_enter Tryz.func110, Tryz.ntmps110
 go_wp2_with fail
 refine wp_loop_rounds 1 ?_
 rw [rounds_succ]
 go_wp2_with fail
 go_ret2
 exact BsP.none rfl (Below.refl _ _)
theorem bsB_any (l : List Bk) (ao : Option Addr) (n cap : Nat) (id : Int) (B : Nat) (w : World) (hn : n = l.length) (hv : Rs bkc w (.slice ao n cap) l) (hl : l.length ≤ 100000) (hs : Stn (fun x : Bk => cmpN x.id id) l) (hB : w.cell? ⟨B, 0, none⟩ = some (.func (.func 73) #[] #[])) :
  Calls Tryz.prog 110 #[.slice ao n cap, .int .i64 id, .func (.func 111) #[] #[.pointer (some ⟨B, 0, none⟩)]] w
   fun e w' => BsP (fun x : Bk => cmpN x.id id) l w w' e := by
 subst hn
 rcases Nat.eq_zero_or_pos l.length with h0 | h0
 ·obtain rfl := List.eq_nil_iff_length_eq_zero.2 h0
  exact bsB_none ao cap id B w
 ·obtain ⟨b, o, rfl, hr⟩ := hv.rg h0
  exact bsB_some l b o cap id B w hr hl hs hB
theorem findB_any (l : List Bk) (ao : Option Addr) (n cap : Nat) (id : Int) (w : World) (hn : n = l.length) (hv : Rs bkc w (.slice ao n cap) l) (hl : l.length ≤ 100000) (hs : Stn (fun x : Bk => cmpN x.id id) l) :
  Calls Tryz.prog 72 #[.slice ao n cap, .int .i64 id, .func (.func 73) #[] #[]] w fun e w' => BsP (fun x : Bk => cmpN x.id id) l w w' e := by
 have HC := Hd (fun W (h : Below w.heap.size w W) (hB : W.cell? ⟨w.heap.size, 0, none⟩ = some (.func (.func 73) #[] #[])) => bsB_any l ao n cap id w.heap.size W hn (hv.below h) hl hs hB)
 clear hv hs hn hl
 go_enter Tryz.func72, Tryz.ntmps72
 go_wp2_with (go_at_call 110; refine (HC.out _ ((Below.refl _ _).alloc (Nat.le_refl _) _) (by simp)).mono ?_; rintro e w1 ⟨i, hp, rfl, hb⟩; have HP := Hd hp; have HB := Hd hb; clear hp hb)
 go_ret2
 exact BsP.mk i HP.out rfl (((Below.refl _ _).alloc (Nat.le_refl _) _).trans (HB.out.mono (by simp)))
theorem findBroker_any (m : Im) (p : Ip) (id : Int) (w : World) (hv : ImR w m p) (hl : m.br.length ≤ 100000) (hs : Stn (fun x : Bk => cmpN x.id id) m.br) :
  Calls Tryz.prog 35 #[imv m p, .int .i64 id] w fun e w' => BsP (fun x : Bk => cmpN x.id id) m.br w w' e := by
 have HC := Hd (fun W (h : Below w.heap.size w W) => findB_any m.br p.ab _ p.cb id W rfl (hv.b.below h) hl hs)
 clear hv hs hl
 unfold imv
 go_enter Tryz.func35, Tryz.ntmps35
 go_wp2_with (go_at_call 72; refine (HC.out _ ((Below.refl _ _).alloc (Nat.le_refl _) _)).mono ?_; rintro e w1 ⟨i, hp, rfl, hb⟩; have HP := Hd hp; have HB := Hd hb; clear hp hb)
 go_ret2
 exact BsP.mk i HP.out rfl (((Below.refl _ _).alloc (Nat.le_refl _) _).trans (HB.out.mono (by simp)))
theorem keyT_any (x : Tq) (w : World) : Calls Tryz.prog 75 #[.agg (tpc x).toArray] w fun e w' => e = .returned (.int .i64 x.id) ∧ Below w.heap.size w w' := by
 unfold tpc
 go_enter Tryz.func75, Tryz.ntmps75
 go_wp2
 go_ret
 exact ⟨rfl, (Below.refl _ _).alloc (Nat.le_refl _) _⟩
theorem clT_any (x : Tq) (id : Int) (B : Nat) (w : World) (hB : w.cell? ⟨B, 0, none⟩ = some (.func (.func 75) #[] #[])) :
  Calls Tryz.prog 113 #[.agg (tpc x).toArray, .int .i64 id, .pointer (some ⟨B, 0, none⟩)] w fun e w' => e = .returned (.int .i64 (cmpN x.id id)) ∧ Below w.heap.size w w' := by
 have HK := Hd (fun W => keyT_any x W)
 have hl := cB hB
 unfold tpc at *
 go_enter Tryz.func113, Tryz.ntmps113
 go_wp2_with (first
  | (go_at_call 75; refine (HK.out _).mono ?_; rintro e W1 ⟨rfl, hb⟩; have HB := Hd hb; clear hb)
  | (go_at_call 79; refine (cmpI_any _ _ _).mono ?_; rintro e W2 ⟨rfl, rfl⟩))
 go_ret
 exact ⟨rfl, ((Below.refl _ _).alloc (Nat.le_refl _) _).trans (HB.out.mono (by simp))⟩
theorem bsT_some (l : List Tq) (b o cap : Nat) (id : Int) (B : Nat) (w : World) (hv : w.rangeAt b o (l.flatMap tpc)) (hl : l.length ≤ 100000) (hs : Stn (fun x : Tq => cmpN x.id id) l) (hB : w.cell? ⟨B, 0, none⟩ = some (.func (.func 75) #[] #[])) :
  Calls Tryz.prog 112 #[.slice (some ⟨b, o, none⟩) l.length cap, .int .i64 id, .func (.func 113) #[] #[.pointer (some ⟨B, 0, none⟩)]] w
   fun e w' => BsP (fun x : Tq => cmpN x.id id) l w w' e := by
 have HS := Hd hs
 have HV := Hd (fun i (h : i < l.length) => fm_at encT hv h)
 have HC := Hd (fun W (x : Tq) (h : Below w.heap.size w W) => clT_any x id B W ((h.cell (p := ⟨B, 0, none⟩) (cB hB)).trans hB))
 clear hv hs hB
 go_enter Tryz.func112, Tryz.ntmps112
 go_wp2_with fail
 go_loopw [9, 10] (fun x y W => ∃ i j : Nat, x = .int .i64 (i : Int) ∧ y = .int .i64 (j : Int) ∧ i ≤ j ∧ j ≤ l.length ∧ (∀ q (h : q < l.length), q < i → cmpN (l[q]).id id < 0) ∧ (∀ q (h : q < l.length), j ≤ q → 0 ≤ cmpN (l[q]).id id) ∧ Below w.heap.size w W) (fun x y _ => (intOf y).toNat - (intOf x).toNat)
 case atStart => exact ⟨0, l.length, rfl, rfl, Nat.zero_le _, Nat.le_refl _, fun q h h' => absurd h' (Nat.not_lt_zero _), fun q h h' => absurd h (by omega), Below.refl _ _⟩
 case round =>
  obtain ⟨i, j, rfl, rfl, hij, hj, h1, h2, hb⟩ := hrel
  have H1 := Hd h1
  have H2 := Hd h2
  have HB := Hd hb
  clear h1 h2 hb
  by_cases hlt : i < j
  ·have hltI : (i : Int) < (j : Int) := by omega
   have hm : (i + j) / 2 < l.length := by omega
   have HE := Hd (rg_bel (HV.out _ hm) HB.out)
   have HCL := Hd (HC.out wr l[(i + j) / 2] HB.out)
   have HNL : Hid (cmpN (l[(i + j) / 2]).id id < 0 → ∀ q (h : q < l.length), q < (i + j) / 2 + 1 → cmpN (l[q]).id id < 0) := Hd (fun h0 q h hq => by
    by_cases e : q = (i + j) / 2
    ·subst e; exact h0
    ·have := HS.out.mono hm (show q < (i + j) / 2 by omega)
     by_cases hz : 0 ≤ cmpN (l[q]).id id
     ·have := this hz
      omega
     ·omega)
   have HNR : Hid (¬ cmpN (l[(i + j) / 2]).id id < 0 → ∀ q (h : q < l.length), (i + j) / 2 ≤ q → 0 ≤ cmpN (l[q]).id id) := Hd (fun h0 q h hq => by
    by_cases e : q = (i + j) / 2
    ·subst e; omega
    ·have := HS.out.mono h (show (i + j) / 2 < q by omega) (by omega)
     omega)
   by_cases h0 : cmpN (l[(i + j) / 2]).id id < 0
   ·replace HNL := Hd (HNL.out h0)
    clear HNR
    generalize l[(i + j) / 2] = y at *
    go_wp2_with (first
     | (refine wpList_load_mid rfl _ _ rfl _ _ rfl _ _ HE.out Tryz.underlying38 rfl (by kernel_rfl) ?_)
     | (go_at_call 113; refine HCL.out.mono ?_; rintro e w1 ⟨rfl, hb1⟩; have HB1 := Hd (bt HB.out hb1); clear hb1 HCL HE))
    go_roundw
    case rel => exact ⟨(i + j) / 2 + 1, j, by go_num, rfl, by omega, hj, HNL.out, H2.out, HB1.out⟩
    case measure => simp [intOf]; omega
   ·replace HNR := Hd (HNR.out h0)
    clear HNL
    generalize l[(i + j) / 2] = y at *
    go_wp2_with (first
     | (refine wpList_load_mid rfl _ _ rfl _ _ rfl _ _ HE.out Tryz.underlying38 rfl (by kernel_rfl) ?_)
     | (go_at_call 113; refine HCL.out.mono ?_; rintro e w1 ⟨rfl, hb1⟩; have HB1 := Hd (bt HB.out hb1); clear hb1 HCL HE))
    go_roundw
    case rel => exact ⟨i, (i + j) / 2, rfl, by go_num, by omega, by omega, H1.out, HNR.out, HB1.out⟩
    case measure => simp [intOf]; omega
  ·obtain rfl : i = j := by omega
   have HP : Hid (Pla (fun x : Tq => cmpN x.id id) l i) := Hd (pla_of hj H1.out H2.out)
   clear hlt hij H1 H2
   by_cases hi : i < l.length
   ·have hiI : (i : Int) < (l.length : Int) := by omega
    have HE := Hd (rg_bel (HV.out _ hi) HB.out)
    have HCL := Hd (HC.out wr l[i] HB.out)
    have HD : Hid (decide (∃ h : i < l.length, cmpN (l[i]).id id = 0) = (cmpN (l[i]).id id == 0)) := Hd (by
     by_cases e : cmpN (l[i]).id id = 0
     ·rw [decide_eq_true ⟨hi, e⟩, e]; rfl
     ·rw [decide_eq_false (fun q => e q.2)]; simp [e])
    generalize hy : l[i] = y at HCL HE
    have HY := Hd hy
    clear hy
    go_wp2_with (first
     | (refine wpl_want (by rfl) _ _ rfl _ _ rfl _ _ HE.out Tryz.underlying38 rfl (by kernel_rfl) ?_)
     | (go_at_call 113; refine HCL.out.mono ?_; rintro e w1 ⟨rfl, hb1⟩; have HB1 := Hd (bt HB.out hb1); clear hb1 HCL HE))
    go_ret2
    exact BsP.mk i HP.out (by rw [HD.out, HY.out]; rfl) HB1.out
   ·have hiI : ¬ (i : Int) < (l.length : Int) := by omega
    have HD : Hid (decide (∃ h : i < l.length, cmpN (l[i]).id id = 0) = false) := Hd (decide_eq_false (fun q => hi q.1))
    go_wp2_with fail
    go_ret2
    exact BsP.mk i HP.out (by rw [HD.out]; rfl) HB.out
theorem bsT_none (ao : Option Addr) (cap : Nat) (id : Int) (B : Nat) (w : World) :
  Calls Tryz.prog 112 #[.slice ao 0 cap, .int .i64 id, .func (.func 113) #[] #[.pointer (some ⟨B, 0, none⟩)]] w
   fun e w' => BsP (fun x : Tq => cmpN x.id id) [] w w' e := by
 go_enter Tryz.func112, Tryz.ntmps112
 go_wp2_with fail
 refine wp_loop_rounds 1 ?_
 rw [rounds_succ]
 go_wp2_with fail
 go_ret2
 exact BsP.none rfl (Below.refl _ _)
theorem bsT_any (l : List Tq) (ao : Option Addr) (n cap : Nat) (id : Int) (B : Nat) (w : World) (hn : n = l.length) (hv : Rs tpc w (.slice ao n cap) l) (hl : l.length ≤ 100000) (hs : Stn (fun x : Tq => cmpN x.id id) l) (hB : w.cell? ⟨B, 0, none⟩ = some (.func (.func 75) #[] #[])) :
  Calls Tryz.prog 112 #[.slice ao n cap, .int .i64 id, .func (.func 113) #[] #[.pointer (some ⟨B, 0, none⟩)]] w
   fun e w' => BsP (fun x : Tq => cmpN x.id id) l w w' e := by
 subst hn
 rcases Nat.eq_zero_or_pos l.length with h0 | h0
 ·obtain rfl := List.eq_nil_iff_length_eq_zero.2 h0
  exact bsT_none ao cap id B w
 ·obtain ⟨b, o, rfl, hr⟩ := hv.rg h0
  exact bsT_some l b o cap id B w hr hl hs hB
theorem findT_any (l : List Tq) (ao : Option Addr) (n cap : Nat) (id : Int) (w : World) (hn : n = l.length) (hv : Rs tpc w (.slice ao n cap) l) (hl : l.length ≤ 100000) (hs : Stn (fun x : Tq => cmpN x.id id) l) :
  Calls Tryz.prog 74 #[.slice ao n cap, .int .i64 id, .func (.func 75) #[] #[]] w fun e w' => BsP (fun x : Tq => cmpN x.id id) l w w' e := by
 have HC := Hd (fun W (h : Below w.heap.size w W) (hB : W.cell? ⟨w.heap.size, 0, none⟩ = some (.func (.func 75) #[] #[])) => bsT_any l ao n cap id w.heap.size W hn (hv.below h) hl hs hB)
 clear hv hs hn hl
 go_enter Tryz.func74, Tryz.ntmps74
 go_wp2_with (go_at_call 112; refine (HC.out _ ((Below.refl _ _).alloc (Nat.le_refl _) _) (by simp)).mono ?_; rintro e w1 ⟨i, hp, rfl, hb⟩; have HP := Hd hp; have HB := Hd hb; clear hp hb)
 go_ret2
 exact BsP.mk i HP.out rfl (((Below.refl _ _).alloc (Nat.le_refl _) _).trans (HB.out.mono (by simp)))
theorem findTopic_any (m : Im) (p : Ip) (id : Int) (w : World) (hv : ImR w m p) (hl : p.ts.length ≤ 100000) (hs : Stn (fun x : Tq => cmpN x.id id) p.ts) :
  Calls Tryz.prog 37 #[imv m p, .int .i64 id] w fun e w' => BsP (fun x : Tq => cmpN x.id id) p.ts w w' e := by
 have HC := Hd (fun W (h : Below w.heap.size w W) => findT_any p.ts p.aq _ p.cq id W rfl (hv.t.below h) hl hs)
 clear hv hs hl
 unfold imv
 go_enter Tryz.func37, Tryz.ntmps37
 go_wp2_with (go_at_call 74; refine (HC.out _ ((Below.refl _ _).alloc (Nat.le_refl _) _)).mono ?_; rintro e w1 ⟨i, hp, rfl, hb⟩; have HP := Hd hp; have HB := Hd hb; clear hp hb)
 go_ret2
 exact BsP.mk i HP.out rfl (((Below.refl _ _).alloc (Nat.le_refl _) _).trans (HB.out.mono (by simp)))
end Go.Proofs.YtlggjgapdpkhiaaGreat
namespace Go.Proofs.YtlggjgapdpkhiaaGreat
open Go.RowKit
set_option maxRecDepth 100000
set_option maxHeartbeats 4000000
def IxP {α : Type} (p : α → Bool) (l : List α) (w w' : World) (e : Ending) : Prop := ((∃ (k : Nat) (h : k < l.length), p l[k] = true ∧ (∀ j (h : j < l.length), j < k → p l[j] = false) ∧ e = .returned (.int .i64 (k : Int))) ∨ ((∀ x ∈ l, p x = false) ∧ e = .returned (.int .i64 (-1)))) ∧ Below w.heap.size w w'
theorem IxP.yes {α : Type} {p : α → Bool} {l : List α} {w w' : World} {e : Ending} (k : Nat) (h : k < l.length) (hp : p l[k] = true) (hj : ∀ j (h : j < l.length), j < k → p l[j] = false) (he : e = .returned (.int .i64 (k : Int))) (hb : Below w.heap.size w w') : IxP p l w w' e := ⟨.inl ⟨k, h, hp, hj, he⟩, hb⟩
theorem IxP.no {α : Type} {p : α → Bool} {l : List α} {w w' : World} {e : Ending} (h : ∀ j (h : j < l.length), p l[j] = false) (he : e = .returned (.int .i64 (-1))) (hb : Below w.heap.size w w') : IxP p l w w' e := ⟨.inr ⟨fun x hx => by
 obtain ⟨j, hj, rfl⟩ := List.getElem_of_mem hx
 exact h j hj, he⟩, hb⟩
theorem ix_nam_some (l : List Tq) (p : Tq → Bool) (b o cap : Nat) (u0 : Value) (w : World) (hv : w.rangeAt b o (l.flatMap tpc)) (hl : l.length ≤ 100000)
  (hc : ∀ W x, x ∈ l → Below w.heap.size w W → Calls Tryz.prog 40 #[.agg (tpc x).toArray, u0] W fun e w' => e = .returned (.bool (p x)) ∧ Below W.heap.size W w') :
  Calls Tryz.prog 39 #[.slice (some ⟨b, o, none⟩) l.length cap, .func (.func 40) #[] #[u0]] w fun e w' => IxP p l w w' e := by
 have HV := Hd (fun i (h : i < l.length) => fm_at encT hv h)
 have HC := Hd hc
 clear hv hc
 go_enter Tryz.func39, Tryz.ntmps39
 go_wp2_with fail
 go_loopw [8] (fun x W => ∃ i : Nat, x = .int .i64 (i : Int) ∧ i ≤ l.length ∧ (∀ q (h : q < l.length), q < i → p l[q] = false) ∧ Below w.heap.size w W) (fun x _ => l.length - (intOf x).toNat)
 case atStart => exact ⟨0, rfl, Nat.zero_le _, fun q h h' => absurd h' (Nat.not_lt_zero _), Below.refl _ _⟩
 case round =>
  obtain ⟨i, rfl, hi, h1, hb⟩ := hrel
  have H1 := Hd h1
  have HB := Hd hb
  clear h1 hb
  by_cases hlt : i < l.length
  ·have hltI : (i : Int) < (l.length : Int) := by omega
   have HE := Hd (rg_bel (HV.out _ hlt) HB.out)
   have HCL := Hd (HC.out wr l[i] (List.getElem_mem hlt) HB.out)
   cases hp : p l[i] with
   | true =>
    have HP := Hd hp
    rw [hp] at HCL
    clear hp
    generalize l[i] = y at HE HCL
    go_wp2_with (first
     | (refine wpList_load_mid rfl _ _ rfl _ _ rfl _ _ HE.out Tryz.underlying38 rfl (by kernel_rfl) ?_)
     | (go_at_call 40; refine HCL.out.mono ?_; rintro e w1 ⟨rfl, hb1⟩; have HB1 := Hd (bt HB.out hb1); clear hb1 HCL HE))
    go_ret
    exact IxP.yes i hlt HP.out H1.out rfl HB1.out
   | false =>
    have HP : Hid (∀ q (h : q < l.length), q < i + 1 → p l[q] = false) := Hd (fun q h hq => by
     by_cases e : q = i
     ·subst e; exact hp
     ·exact H1.out q h (by omega))
    rw [hp] at HCL
    clear hp
    generalize l[i] = y at HE HCL
    go_wp2_with (first
     | (refine wpList_load_mid rfl _ _ rfl _ _ rfl _ _ HE.out Tryz.underlying38 rfl (by kernel_rfl) ?_)
     | (go_at_call 40; refine HCL.out.mono ?_; rintro e w1 ⟨rfl, hb1⟩; have HB1 := Hd (bt HB.out hb1); clear hb1 HCL HE))
    go_roundw
    case rel => exact ⟨i + 1, by go_num, by omega, HP.out, HB1.out⟩
    case measure => simp [intOf]; omega
  ·obtain rfl : i = l.length := by omega
   have HN : Hid (∀ q (h : q < l.length), p l[q] = false) := Hd (fun q h => H1.out q h h)
   clear hlt H1
   go_wp2_with fail
   go_ret
   exact IxP.no HN.out rfl HB.out
theorem ix_nam (l : List Tq) (p : Tq → Bool) (ao : Option Addr) (n cap : Nat) (u0 : Value) (w : World) (hn : n = l.length) (hv : Rs tpc w (.slice ao n cap) l) (hl : l.length ≤ 100000)
  (hc : ∀ W x, x ∈ l → Below w.heap.size w W → Calls Tryz.prog 40 #[.agg (tpc x).toArray, u0] W fun e w' => e = .returned (.bool (p x)) ∧ Below W.heap.size W w') :
  Calls Tryz.prog 39 #[.slice ao n cap, .func (.func 40) #[] #[u0]] w fun e w' => IxP p l w w' e := by
 subst hn
 rcases Nat.eq_zero_or_pos l.length with h0 | h0
 ·obtain rfl := List.eq_nil_iff_length_eq_zero.2 h0
  clear hv hl hc h0
  show Calls Tryz.prog 39 #[.slice ao 0 cap, .func (.func 40) #[] #[u0]] w fun e w' => IxP p [] w w' e
  go_enter Tryz.func39, Tryz.ntmps39
  go_wp2_with fail
  refine wp_loop_rounds 1 ?_
  rw [rounds_succ]
  go_wp2_with fail
  go_ret
  exact IxP.no (fun j h => absurd h (Nat.not_lt_zero _)) rfl (Below.refl _ _)
 ·obtain ⟨b, o, rfl, hr⟩ := hv.rg h0
  exact ix_nam_some l p b o cap u0 w hr hl hc
theorem ix_ans_some (l : List Dn) (p : Dn → Bool) (b o cap : Nat) (u0 u1 : Value) (w : World) (hv : w.rangeAt b o (l.flatMap dnc)) (hl : l.length ≤ 100000)
  (hc : ∀ W x, x ∈ l → Below w.heap.size w W → Calls Tryz.prog 45 #[.agg (dnc x).toArray, u0, u1] W fun e w' => e = .returned (.bool (p x)) ∧ Below W.heap.size W w') :
  Calls Tryz.prog 44 #[.slice (some ⟨b, o, none⟩) l.length cap, .func (.func 45) #[] #[u0, u1]] w fun e w' => IxP p l w w' e := by
 have HV := Hd (fun i (h : i < l.length) => fm_at encD hv h)
 have HC := Hd hc
 clear hv hc
 go_enter Tryz.func44, Tryz.ntmps44
 go_wp2_with fail
 go_loopw [8] (fun x W => ∃ i : Nat, x = .int .i64 (i : Int) ∧ i ≤ l.length ∧ (∀ q (h : q < l.length), q < i → p l[q] = false) ∧ Below w.heap.size w W) (fun x _ => l.length - (intOf x).toNat)
 case atStart => exact ⟨0, rfl, Nat.zero_le _, fun q h h' => absurd h' (Nat.not_lt_zero _), Below.refl _ _⟩
 case round =>
  obtain ⟨i, rfl, hi, h1, hb⟩ := hrel
  have H1 := Hd h1
  have HB := Hd hb
  clear h1 hb
  by_cases hlt : i < l.length
  ·have hltI : (i : Int) < (l.length : Int) := by omega
   have HE := Hd (rg_bel (HV.out _ hlt) HB.out)
   have HCL := Hd (HC.out wr l[i] (List.getElem_mem hlt) HB.out)
   cases hp : p l[i] with
   | true =>
    have HP := Hd hp
    rw [hp] at HCL
    clear hp
    generalize l[i] = y at HE HCL
    go_wp2_with (first
     | (refine wpList_load_mid rfl _ _ rfl _ _ rfl _ _ HE.out Tryz.underlying83 rfl (by kernel_rfl) ?_)
     | (go_at_call 45; refine HCL.out.mono ?_; rintro e w1 ⟨rfl, hb1⟩; have HB1 := Hd (bt HB.out hb1); clear hb1 HCL HE))
    go_ret
    exact IxP.yes i hlt HP.out H1.out rfl HB1.out
   | false =>
    have HP : Hid (∀ q (h : q < l.length), q < i + 1 → p l[q] = false) := Hd (fun q h hq => by
     by_cases e : q = i
     ·subst e; exact hp
     ·exact H1.out q h (by omega))
    rw [hp] at HCL
    clear hp
    generalize l[i] = y at HE HCL
    go_wp2_with (first
     | (refine wpList_load_mid rfl _ _ rfl _ _ rfl _ _ HE.out Tryz.underlying83 rfl (by kernel_rfl) ?_)
     | (go_at_call 45; refine HCL.out.mono ?_; rintro e w1 ⟨rfl, hb1⟩; have HB1 := Hd (bt HB.out hb1); clear hb1 HCL HE))
    go_roundw
    case rel => exact ⟨i + 1, by go_num, by omega, HP.out, HB1.out⟩
    case measure => simp [intOf]; omega
  ·obtain rfl : i = l.length := by omega
   have HN : Hid (∀ q (h : q < l.length), p l[q] = false) := Hd (fun q h => H1.out q h h)
   clear hlt H1
   go_wp2_with fail
   go_ret
   exact IxP.no HN.out rfl HB.out
theorem ix_ans (l : List Dn) (p : Dn → Bool) (ao : Option Addr) (n cap : Nat) (u0 u1 : Value) (w : World) (hn : n = l.length) (hv : Rs dnc w (.slice ao n cap) l) (hl : l.length ≤ 100000)
  (hc : ∀ W x, x ∈ l → Below w.heap.size w W → Calls Tryz.prog 45 #[.agg (dnc x).toArray, u0, u1] W fun e w' => e = .returned (.bool (p x)) ∧ Below W.heap.size W w') :
  Calls Tryz.prog 44 #[.slice ao n cap, .func (.func 45) #[] #[u0, u1]] w fun e w' => IxP p l w w' e := by
 subst hn
 rcases Nat.eq_zero_or_pos l.length with h0 | h0
 ·obtain rfl := List.eq_nil_iff_length_eq_zero.2 h0
  clear hv hl hc h0
  show Calls Tryz.prog 44 #[.slice ao 0 cap, .func (.func 45) #[] #[u0, u1]] w fun e w' => IxP p [] w w' e
  go_enter Tryz.func44, Tryz.ntmps44
  go_wp2_with fail
  refine wp_loop_rounds 1 ?_
  rw [rounds_succ]
  go_wp2_with fail
  go_ret
  exact IxP.no (fun j h => absurd h (Nat.not_lt_zero _)) rfl (Below.refl _ _)
 ·obtain ⟨b, o, rfl, hr⟩ := hv.rg h0
  exact ix_ans_some l p b o cap u0 u1 w hr hl hc
theorem ix_drp_some (l : List Cf) (p : Cf → Bool) (b o cap : Nat) (u0 : Value) (w : World) (hv : w.rangeAt b o (l.flatMap cfc)) (hl : l.length ≤ 100000)
  (hc : ∀ W x, x ∈ l → Below w.heap.size w W → Calls Tryz.prog 130 #[.agg (cfc x).toArray, u0] W fun e w' => e = .returned (.bool (p x)) ∧ Below W.heap.size W w') :
  Calls Tryz.prog 149 #[.slice (some ⟨b, o, none⟩) l.length cap, .func (.func 130) #[] #[u0]] w fun e w' => IxP p l w w' e := by
 have HV := Hd (fun i (h : i < l.length) => fm_at encC hv h)
 have HC := Hd hc
 clear hv hc
 go_enter Tryz.func149, Tryz.ntmps149
 go_wp2_with fail
 go_loopw [8] (fun x W => ∃ i : Nat, x = .int .i64 (i : Int) ∧ i ≤ l.length ∧ (∀ q (h : q < l.length), q < i → p l[q] = false) ∧ Below w.heap.size w W) (fun x _ => l.length - (intOf x).toNat)
 case atStart => exact ⟨0, rfl, Nat.zero_le _, fun q h h' => absurd h' (Nat.not_lt_zero _), Below.refl _ _⟩
 case round =>
  obtain ⟨i, rfl, hi, h1, hb⟩ := hrel
  have H1 := Hd h1
  have HB := Hd hb
  clear h1 hb
  by_cases hlt : i < l.length
  ·have hltI : (i : Int) < (l.length : Int) := by omega
   have HE := Hd (rg_bel (HV.out _ hlt) HB.out)
   have HCL := Hd (HC.out wr l[i] (List.getElem_mem hlt) HB.out)
   cases hp : p l[i] with
   | true =>
    have HP := Hd hp
    rw [hp] at HCL
    clear hp
    generalize l[i] = y at HE HCL
    go_wp2_with (first
     | (refine wpList_load_mid rfl _ _ rfl _ _ rfl _ _ HE.out Tryz.underlying78 rfl (by kernel_rfl) ?_)
     | (go_at_call 130; refine HCL.out.mono ?_; rintro e w1 ⟨rfl, hb1⟩; have HB1 := Hd (bt HB.out hb1); clear hb1 HCL HE))
    go_ret
    exact IxP.yes i hlt HP.out H1.out rfl HB1.out
   | false =>
    have HP : Hid (∀ q (h : q < l.length), q < i + 1 → p l[q] = false) := Hd (fun q h hq => by
     by_cases e : q = i
     ·subst e; exact hp
     ·exact H1.out q h (by omega))
    rw [hp] at HCL
    clear hp
    generalize l[i] = y at HE HCL
    go_wp2_with (first
     | (refine wpList_load_mid rfl _ _ rfl _ _ rfl _ _ HE.out Tryz.underlying78 rfl (by kernel_rfl) ?_)
     | (go_at_call 130; refine HCL.out.mono ?_; rintro e w1 ⟨rfl, hb1⟩; have HB1 := Hd (bt HB.out hb1); clear hb1 HCL HE))
    go_roundw
    case rel => exact ⟨i + 1, by go_num, by omega, HP.out, HB1.out⟩
    case measure => simp [intOf]; omega
  ·obtain rfl : i = l.length := by omega
   have HN : Hid (∀ q (h : q < l.length), p l[q] = false) := Hd (fun q h => H1.out q h h)
   clear hlt H1
   go_wp2_with fail
   go_ret
   exact IxP.no HN.out rfl HB.out
theorem ix_drp (l : List Cf) (p : Cf → Bool) (ao : Option Addr) (n cap : Nat) (u0 : Value) (w : World) (hn : n = l.length) (hv : Rs cfc w (.slice ao n cap) l) (hl : l.length ≤ 100000)
  (hc : ∀ W x, x ∈ l → Below w.heap.size w W → Calls Tryz.prog 130 #[.agg (cfc x).toArray, u0] W fun e w' => e = .returned (.bool (p x)) ∧ Below W.heap.size W w') :
  Calls Tryz.prog 149 #[.slice ao n cap, .func (.func 130) #[] #[u0]] w fun e w' => IxP p l w w' e := by
 subst hn
 rcases Nat.eq_zero_or_pos l.length with h0 | h0
 ·obtain rfl := List.eq_nil_iff_length_eq_zero.2 h0
  clear hv hl hc h0
  show Calls Tryz.prog 149 #[.slice ao 0 cap, .func (.func 130) #[] #[u0]] w fun e w' => IxP p [] w w' e
  go_enter Tryz.func149, Tryz.ntmps149
  go_wp2_with fail
  refine wp_loop_rounds 1 ?_
  rw [rounds_succ]
  go_wp2_with fail
  go_ret
  exact IxP.no (fun j h => absurd h (Nat.not_lt_zero _)) rfl (Below.refl _ _)
 ·obtain ⟨b, o, rfl, hr⟩ := hv.rg h0
  exact ix_drp_some l p b o cap u0 w hr hl hc
end Go.Proofs.YtlggjgapdpkhiaaGreat
