/-
  WHAT ANY METADATA HAVE (ImageAsks).
-/
import Derived.Test.YtlggjgapdpkhiaaGreatJKImLba2
import Derived.Deep.RegionHeld3
namespace Go.Proofs.YtlggjgapdpkhiaaGreat
open Go.RowKit
set_option maxRecDepth 100000 in
set_option maxHeartbeats 16000000 in
theorem iasks_law {okb ok : Nat → Prop} (u : Value) (id n : Int) (S : List UInt8) (ps : List Rp) (w : World) (hv : Rl okb ok w u ps) : Calls Tryz.prog 3 #[u, .int .i64 id, .int .i64 n, .string ⟨S.toArray⟩] w fun e w' => e = .returned (.bool true) ∧ Below w.heap.size w w' := by
 have HLI := Hd (light_any u ps w hv)
 by_cases hli : liR (rcl ps) = true
 ·rw [hli] at HLI
  by_cases hs : 300 < S.length
  ·have hsI : (300 : Int) < (S.length : Int) := by omega
   clear hv hli hs
   go_enter Tryz.func3, Tryz.ntmps3
   go_wp2_with (first | (go_at_call 4; refine HLI.out.mono ?_; rintro e w1 ⟨rfl, hb1⟩; have HB1 := Hd hb1; clear hb1 HLI) | (go_at_call 5; refine (works_any _).mono ?_; rintro e w9 ⟨rfl, hb9⟩; have HB9 := Hd (bt HB1.out hb9); clear hb9))
   go_ret
   exact ⟨rfl, HB9.out⟩
  ·have hsI : ¬ (300 : Int) < (S.length : Int) := by omega
   have hl1 : ps.length ≤ 120 := by have := liR_len hli; rwa [rcl_len] at this
   have HTX : Hid (∀ r ∈ rcl ps, TxR r) := Hd (liR_tx hli)
   have HMD := Hd (fun W (h : Below w.heap.size w W) => rmade_any u ps W (fun g => g < W.heap.size) (fun _ h => h) (fun W' hW' => (hv.below h).agree hW') (by omega) HTX.out)
   clear hv hli HTX hs
   go_enter Tryz.func3, Tryz.ntmps3
   generalize made Im.zero (rcl ps) = M at HMD
   go_upto_region 4 with (first | (go_at_call 4; refine HLI.out.mono ?_; rintro e w1 ⟨rfl, hb1⟩; have HB1 := Hd hb1; clear hb1 HLI) | (go_at_call 6; refine (HMD.out _ HB1.out).mono ?_; rintro e w3 ⟨p0, rfl, him, hwf, hb3⟩; have HKM := Hd (Kp.of him); have HWF := Hd hwf; have HBW := Hd (bt HB1.out hb3); clear him hwf hb3 HMD; unfold imv; dsimp only))
   clear hsI
   have hl3 : ps.length ≤ 100000 := by omega
   have HWM := Hd (HWF.out.mono hl3)
   obtain ⟨b, hbb⟩ : ∃ b, b = bkD (fB M.br id) := ⟨_, rfl⟩
   obtain ⟨ob, hob⟩ : ∃ o, o = (fB M.br id).isSome := ⟨_, rfl⟩
   have HA1 : Hid (∀ W, Kp W M p0 → Calls Tryz.prog 7 #[.agg (List.toArray [Value.slice p0.ab M.br.length p0.cb, .slice p0.aq p0.ts.length p0.cq, .slice p0.ac M.cf.length p0.cc, .slice p0.ad M.dn.length p0.cd, .int .i64 M.la]), .int .i64 id] W fun e w' => e = .returned (.tuple #[.agg (List.toArray [Value.int .i64 b.id, .int .i64 b.ep, .string ⟨b.rk.toArray⟩, .bool b.fe, .bool b.lv]), .bool ob]) ∧ Below W.heap.size W w') := Hd (fun W h => by
    have := broker_of M p0 id W h.im HWM.out
    rw [← hbb, ← hob] at this
    unfold imv bkc at this
    exact this)
   have HA2 : Hid (∀ W, Kp W M p0 → Calls Tryz.prog 8 #[.agg (List.toArray [Value.slice p0.ab M.br.length p0.cb, .slice p0.aq p0.ts.length p0.cq, .slice p0.ac M.cf.length p0.cc, .slice p0.ad M.dn.length p0.cd, .int .i64 M.la]), .int .i64 id] W fun e w' => e = .returned (.tuple #[.agg (List.toArray [Value.int .i64 b.id, .int .i64 b.ep, .string ⟨b.rk.toArray⟩, .bool b.fe, .bool b.lv]), .bool ob]) ∧ Below W.heap.size W w') := Hd (fun W h => by
    have := rbroker_any M p0 id W h.im HWM.out.nb
    rw [brD_eq, ← hbb, ← hob] at this
    unfold imv bkc at this
    exact this)
   clear hbb hob
   obtain ⟨t, htt⟩ : ∃ t, t = tqOf p0 id := ⟨_, rfl⟩
   obtain ⟨ot, hot⟩ : ∃ o, o = (p0.ts.find? (idQ id)).isSome := ⟨_, rfl⟩
   have HPL : Hid (p0.ts.length ≤ 100000) := Hd (by rw [HKM.out.im.len]; exact HWM.out.nt)
   have HT1 : Hid (∀ W, Kp W M p0 → Calls Tryz.prog 9 #[.agg (List.toArray [Value.slice p0.ab M.br.length p0.cb, .slice p0.aq p0.ts.length p0.cq, .slice p0.ac M.cf.length p0.cc, .slice p0.ad M.dn.length p0.cd, .int .i64 M.la]), .int .i64 id] W fun e w' => e = .returned (.tuple #[.agg (List.toArray [Value.int .i64 t.id, .string ⟨t.nm.toArray⟩, .slice t.a t.ps.length t.c]), .bool ot]) ∧ Below W.heap.size W w') := Hd (fun W h => by
    have := topic_of M p0 id W h.im HWM.out
    rw [← htt, ← hot] at this
    unfold imv tpc at this
    exact this)
   have HT2 : Hid (∀ W, Kp W M p0 → Calls Tryz.prog 10 #[.agg (List.toArray [Value.slice p0.ab M.br.length p0.cb, .slice p0.aq p0.ts.length p0.cq, .slice p0.ac M.cf.length p0.cc, .slice p0.ad M.dn.length p0.cd, .int .i64 M.la]), .int .i64 id] W fun e w' => e = .returned (.tuple #[.agg (List.toArray [Value.int .i64 t.id, .string ⟨t.nm.toArray⟩, .slice t.a t.ps.length t.c]), .bool ot]) ∧ Below W.heap.size W w') := Hd (fun W h => by
    have := rtopic_any M p0 id W h.im HPL.out
    rw [← htt, ← hot] at this
    unfold imv tpc at this
    exact this)
   clear htt hot
   obtain ⟨n9, hnn⟩ : ∃ t, t = tqNm p0 S := ⟨_, rfl⟩
   obtain ⟨on, hon⟩ : ∃ o, o = (p0.ts.find? (nmQ S)).isSome := ⟨_, rfl⟩
   have HN1 : Hid (∀ W, Kp W M p0 → Calls Tryz.prog 11 #[.agg (List.toArray [Value.slice p0.ab M.br.length p0.cb, .slice p0.aq p0.ts.length p0.cq, .slice p0.ac M.cf.length p0.cc, .slice p0.ad M.dn.length p0.cd, .int .i64 M.la]), .string ⟨S.toArray⟩] W fun e w' => e = .returned (.tuple #[.agg (List.toArray [Value.int .i64 n9.id, .string ⟨n9.nm.toArray⟩, .slice n9.a n9.ps.length n9.c]), .bool on]) ∧ Below W.heap.size W w') := Hd (fun W h => by
    have := named_of M p0 S W h.im HWM.out
    rw [← hnn, ← hon] at this
    unfold imv tpc at this
    exact this)
   have HN2 : Hid (∀ W, Kp W M p0 → Calls Tryz.prog 12 #[.agg (List.toArray [Value.slice p0.ab M.br.length p0.cb, .slice p0.aq p0.ts.length p0.cq, .slice p0.ac M.cf.length p0.cc, .slice p0.ad M.dn.length p0.cd, .int .i64 M.la]), .string ⟨S.toArray⟩] W fun e w' => e = .returned (.tuple #[.agg (List.toArray [Value.int .i64 n9.id, .string ⟨n9.nm.toArray⟩, .slice n9.a n9.ps.length n9.c]), .bool on]) ∧ Below W.heap.size W w') := Hd (fun W h => by
    have := rnamed_any M p0 S W h.im HPL.out
    rw [← hnn, ← hon] at this
    unfold imv tpc at this
    exact this)
   clear hnn hon
   obtain ⟨cT, hcT⟩ := cfV_eq (fC M.cf id S)
   obtain ⟨oc, hoc⟩ : ∃ o, o = (fC M.cf id S).isSome := ⟨_, rfl⟩
   have HC1 : Hid (∀ W, Kp W M p0 → Calls Tryz.prog 15 #[.agg (List.toArray [Value.slice p0.ab M.br.length p0.cb, .slice p0.aq p0.ts.length p0.cq, .slice p0.ac M.cf.length p0.cc, .slice p0.ad M.dn.length p0.cd, .int .i64 M.la]), .int .i64 id, .string ⟨S.toArray⟩] W fun e w' => e = .returned (.tuple #[.string ⟨cT.toArray⟩, .bool oc]) ∧ Below W.heap.size W w') := Hd (fun W h => by
    have := Config_any M p0 id S W h.im HWM.out
    rw [hcT, ← hoc] at this
    unfold imv at this
    exact this)
   have HC2 : Hid (∀ W, Kp W M p0 → Calls Tryz.prog 16 #[.agg (List.toArray [Value.slice p0.ab M.br.length p0.cb, .slice p0.aq p0.ts.length p0.cq, .slice p0.ac M.cf.length p0.cc, .slice p0.ad M.dn.length p0.cd, .int .i64 M.la]), .int .i64 id, .string ⟨S.toArray⟩] W fun e w' => e = .returned (.tuple #[.string ⟨cT.toArray⟩, .bool oc]) ∧ Below W.heap.size W w') := Hd (fun W h => by
    have := rconfig_any M p0 id S W h.im HWM.out.nc
    rw [hcT, ← hoc] at this
    unfold imv at this
    exact this)
   clear hcT hoc
   obtain ⟨ka, hka⟩ := ansV_eq (fD M.dn id n)
   obtain ⟨od, hod⟩ : ∃ o, o = (fD M.dn id n).isSome := ⟨_, rfl⟩
   have HD1 : Hid (∀ W, Kp W M p0 → Calls Tryz.prog 17 #[.agg (List.toArray [Value.slice p0.ab M.br.length p0.cb, .slice p0.aq p0.ts.length p0.cq, .slice p0.ac M.cf.length p0.cc, .slice p0.ad M.dn.length p0.cd, .int .i64 M.la]), .int .i64 id, .int .i64 n] W fun e w' => e = .returned (.tuple #[.int .i64 ka, .bool od]) ∧ Below W.heap.size W w') := Hd (fun W h => by
    have := Answered_any M p0 id n W h.im HWM.out
    rw [hka, ← hod] at this
    unfold imv at this
    exact this)
   have HD2 : Hid (∀ W, Kp W M p0 → Calls Tryz.prog 18 #[.agg (List.toArray [Value.slice p0.ab M.br.length p0.cb, .slice p0.aq p0.ts.length p0.cq, .slice p0.ac M.cf.length p0.cc, .slice p0.ad M.dn.length p0.cd, .int .i64 M.la]), .int .i64 id, .int .i64 n] W fun e w' => e = .returned (.tuple #[.int .i64 ka, .bool od]) ∧ Below W.heap.size W w') := Hd (fun W h => by
    have := ranswered_any M p0 id n W h.im HWM.out.nd
    rw [hka, ← hod] at this
    unfold imv at this
    exact this)
   clear hka hod
   have BM := Hd (Bx.new w3 [Value.slice p0.ab M.br.length p0.cb, .slice p0.aq p0.ts.length p0.cq, .slice p0.ac M.cf.length p0.cc, .slice p0.ad M.dn.length p0.cd, .int .i64 M.la] 30)
   replace HKM := Hd (HKM.out.below (bA w3 (.cells (List.toArray [Value.slice p0.ab M.br.length p0.cb, .slice p0.aq p0.ts.length p0.cq, .slice p0.ac M.cf.length p0.cc, .slice p0.ad M.dn.length p0.cd, .int .i64 M.la]) 30)))
   replace HBW := Hd (bt HBW.out (bA w3 (.cells (List.toArray [Value.slice p0.ab M.br.length p0.cb, .slice p0.aq p0.ts.length p0.cq, .slice p0.ac M.cf.length p0.cc, .slice p0.ad M.dn.length p0.cd, .int .i64 M.la]) 30)))
   generalize w3.alloc (.cells (List.toArray [Value.slice p0.ab M.br.length p0.cb, .slice p0.aq p0.ts.length p0.cq, .slice p0.ac M.cf.length p0.cc, .slice p0.ad M.dn.length p0.cd, .int .i64 M.la]) 30) = V3 at HKM BM HBW ⊢
   generalize w3.heap.size = bBM at BM ⊢
   go_upto_region 5 with (first | (refine wpList_load_mid rfl _ _ rfl _ _ rfl _ _ BM.out.c Tryz.underlying30 rfl (by kernel_rfl) ?_) | (go_at_call 7; refine (HA1.out _ HKM.out).mono ?_; rintro e w4 ⟨rfl, hb⟩; replace HKM := Hd (HKM.out.below hb); replace BM := Hd (BM.out.below hb); replace HBW := Hd (bt HBW.out hb); clear hb HA1))
   have B1 := Hd (Bx.new w4 [Value.int .i64 b.id, .int .i64 b.ep, .string ⟨b.rk.toArray⟩, .bool b.fe, .bool b.lv] 33)
   replace HKM := Hd (HKM.out.below (bA w4 (.cells (List.toArray [Value.int .i64 b.id, .int .i64 b.ep, .string ⟨b.rk.toArray⟩, .bool b.fe, .bool b.lv]) 33)))
   replace BM := Hd (BM.out.below (bA w4 (.cells (List.toArray [Value.int .i64 b.id, .int .i64 b.ep, .string ⟨b.rk.toArray⟩, .bool b.fe, .bool b.lv]) 33)))
   replace HBW := Hd (bt HBW.out (bA w4 (.cells (List.toArray [Value.int .i64 b.id, .int .i64 b.ep, .string ⟨b.rk.toArray⟩, .bool b.fe, .bool b.lv]) 33)))
   generalize w4.alloc (.cells (List.toArray [Value.int .i64 b.id, .int .i64 b.ep, .string ⟨b.rk.toArray⟩, .bool b.fe, .bool b.lv]) 33) = V4 at HKM BM B1 HBW ⊢
   generalize w4.heap.size = bB1 at B1 ⊢
   go_upto_region 6 with (first | (refine wpList_load_mid rfl _ _ rfl _ _ rfl _ _ BM.out.c Tryz.underlying30 rfl (by kernel_rfl) ?_) | (go_at_call 8; refine (HA2.out _ HKM.out).mono ?_; rintro e w5 ⟨rfl, hb⟩; replace HKM := Hd (HKM.out.below hb); replace BM := Hd (BM.out.below hb); replace B1 := Hd (B1.out.below hb); replace HBW := Hd (bt HBW.out hb); clear hb HA2))
   have B2 := Hd (Bx.new w5 [Value.int .i64 b.id, .int .i64 b.ep, .string ⟨b.rk.toArray⟩, .bool b.fe, .bool b.lv] 33)
   replace HKM := Hd (HKM.out.below (bA w5 (.cells (List.toArray [Value.int .i64 b.id, .int .i64 b.ep, .string ⟨b.rk.toArray⟩, .bool b.fe, .bool b.lv]) 33)))
   replace BM := Hd (BM.out.below (bA w5 (.cells (List.toArray [Value.int .i64 b.id, .int .i64 b.ep, .string ⟨b.rk.toArray⟩, .bool b.fe, .bool b.lv]) 33)))
   replace B1 := Hd (B1.out.below (bA w5 (.cells (List.toArray [Value.int .i64 b.id, .int .i64 b.ep, .string ⟨b.rk.toArray⟩, .bool b.fe, .bool b.lv]) 33)))
   replace HBW := Hd (bt HBW.out (bA w5 (.cells (List.toArray [Value.int .i64 b.id, .int .i64 b.ep, .string ⟨b.rk.toArray⟩, .bool b.fe, .bool b.lv]) 33)))
   generalize w5.alloc (.cells (List.toArray [Value.int .i64 b.id, .int .i64 b.ep, .string ⟨b.rk.toArray⟩, .bool b.fe, .bool b.lv]) 33) = V5 at HKM BM B1 B2 HBW ⊢
   generalize w5.heap.size = bB2 at B2 ⊢
   go_upto_region 7 with (first | (refine wpList_load_mid rfl _ _ rfl _ _ rfl _ _ BM.out.c Tryz.underlying30 rfl (by kernel_rfl) ?_) | (go_at_call 9; refine (HT1.out _ HKM.out).mono ?_; rintro e w6 ⟨rfl, hb⟩; replace HKM := Hd (HKM.out.below hb); replace BM := Hd (BM.out.below hb); replace B1 := Hd (B1.out.below hb); replace B2 := Hd (B2.out.below hb); replace HBW := Hd (bt HBW.out hb); clear hb HT1))
   have B3 := Hd (Bx.new w6 [Value.int .i64 t.id, .string ⟨t.nm.toArray⟩, .slice t.a t.ps.length t.c] 38)
   replace HKM := Hd (HKM.out.below (bA w6 (.cells (List.toArray [Value.int .i64 t.id, .string ⟨t.nm.toArray⟩, .slice t.a t.ps.length t.c]) 38)))
   replace BM := Hd (BM.out.below (bA w6 (.cells (List.toArray [Value.int .i64 t.id, .string ⟨t.nm.toArray⟩, .slice t.a t.ps.length t.c]) 38)))
   replace B1 := Hd (B1.out.below (bA w6 (.cells (List.toArray [Value.int .i64 t.id, .string ⟨t.nm.toArray⟩, .slice t.a t.ps.length t.c]) 38)))
   replace B2 := Hd (B2.out.below (bA w6 (.cells (List.toArray [Value.int .i64 t.id, .string ⟨t.nm.toArray⟩, .slice t.a t.ps.length t.c]) 38)))
   replace HBW := Hd (bt HBW.out (bA w6 (.cells (List.toArray [Value.int .i64 t.id, .string ⟨t.nm.toArray⟩, .slice t.a t.ps.length t.c]) 38)))
   generalize w6.alloc (.cells (List.toArray [Value.int .i64 t.id, .string ⟨t.nm.toArray⟩, .slice t.a t.ps.length t.c]) 38) = V6 at HKM BM B1 B2 B3 HBW ⊢
   generalize w6.heap.size = bB3 at B3 ⊢
   go_upto_region 8 with (first | (refine wpList_load_mid rfl _ _ rfl _ _ rfl _ _ BM.out.c Tryz.underlying30 rfl (by kernel_rfl) ?_) | (go_at_call 10; refine (HT2.out _ HKM.out).mono ?_; rintro e w7 ⟨rfl, hb⟩; replace HKM := Hd (HKM.out.below hb); replace BM := Hd (BM.out.below hb); replace B1 := Hd (B1.out.below hb); replace B2 := Hd (B2.out.below hb); replace B3 := Hd (B3.out.below hb); replace HBW := Hd (bt HBW.out hb); clear hb HT2))
   have B4 := Hd (Bx.new w7 [Value.int .i64 t.id, .string ⟨t.nm.toArray⟩, .slice t.a t.ps.length t.c] 38)
   replace HKM := Hd (HKM.out.below (bA w7 (.cells (List.toArray [Value.int .i64 t.id, .string ⟨t.nm.toArray⟩, .slice t.a t.ps.length t.c]) 38)))
   replace BM := Hd (BM.out.below (bA w7 (.cells (List.toArray [Value.int .i64 t.id, .string ⟨t.nm.toArray⟩, .slice t.a t.ps.length t.c]) 38)))
   replace B1 := Hd (B1.out.below (bA w7 (.cells (List.toArray [Value.int .i64 t.id, .string ⟨t.nm.toArray⟩, .slice t.a t.ps.length t.c]) 38)))
   replace B2 := Hd (B2.out.below (bA w7 (.cells (List.toArray [Value.int .i64 t.id, .string ⟨t.nm.toArray⟩, .slice t.a t.ps.length t.c]) 38)))
   replace B3 := Hd (B3.out.below (bA w7 (.cells (List.toArray [Value.int .i64 t.id, .string ⟨t.nm.toArray⟩, .slice t.a t.ps.length t.c]) 38)))
   replace HBW := Hd (bt HBW.out (bA w7 (.cells (List.toArray [Value.int .i64 t.id, .string ⟨t.nm.toArray⟩, .slice t.a t.ps.length t.c]) 38)))
   generalize w7.alloc (.cells (List.toArray [Value.int .i64 t.id, .string ⟨t.nm.toArray⟩, .slice t.a t.ps.length t.c]) 38) = V7 at HKM BM B1 B2 B3 B4 HBW ⊢
   generalize w7.heap.size = bB4 at B4 ⊢
   go_upto_region 9 with (first | (refine wpList_load_mid rfl _ _ rfl _ _ rfl _ _ BM.out.c Tryz.underlying30 rfl (by kernel_rfl) ?_) | (go_at_call 11; refine (HN1.out _ HKM.out).mono ?_; rintro e w8 ⟨rfl, hb⟩; replace HKM := Hd (HKM.out.below hb); replace BM := Hd (BM.out.below hb); replace B1 := Hd (B1.out.below hb); replace B2 := Hd (B2.out.below hb); replace B3 := Hd (B3.out.below hb); replace B4 := Hd (B4.out.below hb); replace HBW := Hd (bt HBW.out hb); clear hb HN1))
   have B5 := Hd (Bx.new w8 [Value.int .i64 n9.id, .string ⟨n9.nm.toArray⟩, .slice n9.a n9.ps.length n9.c] 38)
   replace HKM := Hd (HKM.out.below (bA w8 (.cells (List.toArray [Value.int .i64 n9.id, .string ⟨n9.nm.toArray⟩, .slice n9.a n9.ps.length n9.c]) 38)))
   replace BM := Hd (BM.out.below (bA w8 (.cells (List.toArray [Value.int .i64 n9.id, .string ⟨n9.nm.toArray⟩, .slice n9.a n9.ps.length n9.c]) 38)))
   replace B1 := Hd (B1.out.below (bA w8 (.cells (List.toArray [Value.int .i64 n9.id, .string ⟨n9.nm.toArray⟩, .slice n9.a n9.ps.length n9.c]) 38)))
   replace B2 := Hd (B2.out.below (bA w8 (.cells (List.toArray [Value.int .i64 n9.id, .string ⟨n9.nm.toArray⟩, .slice n9.a n9.ps.length n9.c]) 38)))
   replace B3 := Hd (B3.out.below (bA w8 (.cells (List.toArray [Value.int .i64 n9.id, .string ⟨n9.nm.toArray⟩, .slice n9.a n9.ps.length n9.c]) 38)))
   replace B4 := Hd (B4.out.below (bA w8 (.cells (List.toArray [Value.int .i64 n9.id, .string ⟨n9.nm.toArray⟩, .slice n9.a n9.ps.length n9.c]) 38)))
   replace HBW := Hd (bt HBW.out (bA w8 (.cells (List.toArray [Value.int .i64 n9.id, .string ⟨n9.nm.toArray⟩, .slice n9.a n9.ps.length n9.c]) 38)))
   generalize w8.alloc (.cells (List.toArray [Value.int .i64 n9.id, .string ⟨n9.nm.toArray⟩, .slice n9.a n9.ps.length n9.c]) 38) = V8 at HKM BM B1 B2 B3 B4 B5 HBW ⊢
   generalize w8.heap.size = bB5 at B5 ⊢
   go_upto_region 10 with (first | (refine wpList_load_mid rfl _ _ rfl _ _ rfl _ _ BM.out.c Tryz.underlying30 rfl (by kernel_rfl) ?_) | (go_at_call 12; refine (HN2.out _ HKM.out).mono ?_; rintro e wa ⟨rfl, hb⟩; replace HKM := Hd (HKM.out.below hb); replace BM := Hd (BM.out.below hb); replace B1 := Hd (B1.out.below hb); replace B2 := Hd (B2.out.below hb); replace B3 := Hd (B3.out.below hb); replace B4 := Hd (B4.out.below hb); replace B5 := Hd (B5.out.below hb); replace HBW := Hd (bt HBW.out hb); clear hb HN2))
   have B6 := Hd (Bx.new wa [Value.int .i64 n9.id, .string ⟨n9.nm.toArray⟩, .slice n9.a n9.ps.length n9.c] 38)
   replace HKM := Hd (HKM.out.below (bA wa (.cells (List.toArray [Value.int .i64 n9.id, .string ⟨n9.nm.toArray⟩, .slice n9.a n9.ps.length n9.c]) 38)))
   replace BM := Hd (BM.out.below (bA wa (.cells (List.toArray [Value.int .i64 n9.id, .string ⟨n9.nm.toArray⟩, .slice n9.a n9.ps.length n9.c]) 38)))
   replace B1 := Hd (B1.out.below (bA wa (.cells (List.toArray [Value.int .i64 n9.id, .string ⟨n9.nm.toArray⟩, .slice n9.a n9.ps.length n9.c]) 38)))
   replace B2 := Hd (B2.out.below (bA wa (.cells (List.toArray [Value.int .i64 n9.id, .string ⟨n9.nm.toArray⟩, .slice n9.a n9.ps.length n9.c]) 38)))
   replace B3 := Hd (B3.out.below (bA wa (.cells (List.toArray [Value.int .i64 n9.id, .string ⟨n9.nm.toArray⟩, .slice n9.a n9.ps.length n9.c]) 38)))
   replace B4 := Hd (B4.out.below (bA wa (.cells (List.toArray [Value.int .i64 n9.id, .string ⟨n9.nm.toArray⟩, .slice n9.a n9.ps.length n9.c]) 38)))
   replace B5 := Hd (B5.out.below (bA wa (.cells (List.toArray [Value.int .i64 n9.id, .string ⟨n9.nm.toArray⟩, .slice n9.a n9.ps.length n9.c]) 38)))
   replace HBW := Hd (bt HBW.out (bA wa (.cells (List.toArray [Value.int .i64 n9.id, .string ⟨n9.nm.toArray⟩, .slice n9.a n9.ps.length n9.c]) 38)))
   generalize wa.alloc (.cells (List.toArray [Value.int .i64 n9.id, .string ⟨n9.nm.toArray⟩, .slice n9.a n9.ps.length n9.c]) 38) = V9 at HKM BM B1 B2 B3 B4 B5 B6 HBW ⊢
   generalize wa.heap.size = bB6 at B6 ⊢
   obtain ⟨c30, c31, c32⟩ := B3.out.c3
   obtain ⟨c40, c41, c42⟩ := B4.out.c3
   have c50 := B5.out.at 0 _ rfl
   have c60 := B6.out.at 0 _ rfl
   have e1 := neqB b.id b.ep b.rk b.fe b.lv
   have e2 := neqBg
   obtain ⟨x, bx, hx1, hx2, hx3, hx4⟩ := part_of M p0 id n V9 HKM.out HWM.out
   have HXW := Hd hx2
   have HP1 := Hd (fun W (h : Below V9.heap.size V9 W) => hx3 W h)
   have HP2 := Hd (fun W (h : Below V9.heap.size V9 W) => hx4 W h)
   have HPX := Hd hx1
   clear hx1 hx2 hx3 hx4
   unfold imv ptc at HP1 HP2
   have HB0 : Hid (Below V9.heap.size V9 V9) := Hd (Below.refl _ _)
   go_wp2_with (first | (refine wpList_load_mid rfl _ _ rfl _ _ rfl _ _ B1.out.c Tryz.underlying33 rfl (by kernel_rfl) ?_) | (refine wpList_load_mid rfl _ _ rfl _ _ rfl _ _ B2.out.c Tryz.underlying33 rfl (by kernel_rfl) ?_) | (refine wpList_load_mid rfl _ _ rfl _ _ rfl _ _ BM.out.c Tryz.underlying30 rfl (by kernel_rfl) ?_) | (go_at_call 13; refine (HP1.out _ HB0.out).mono ?_; rintro e wb ⟨rfl, hb⟩; replace HKM := Hd (HKM.out.below hb); replace BM := Hd (BM.out.below hb); replace HBW := Hd (bt HBW.out hb); replace HB0 := Hd (bt HB0.out hb); have P1 := Hd (Bx.new wb [Value.slice x.2.a0 x.1.ids.length x.2.c0, .slice x.2.a1 x.1.isr.length x.2.c1, .int .i64 x.1.ld, .int .i64 x.1.ep, .slice x.2.a2 x.1.ad.length x.2.c2, .slice x.2.a3 x.1.dr.length x.2.c3] 44); replace HKM := Hd (HKM.out.below (bA wb (.cells (List.toArray [Value.slice x.2.a0 x.1.ids.length x.2.c0, .slice x.2.a1 x.1.isr.length x.2.c1, .int .i64 x.1.ld, .int .i64 x.1.ep, .slice x.2.a2 x.1.ad.length x.2.c2, .slice x.2.a3 x.1.dr.length x.2.c3]) 44))); replace BM := Hd (BM.out.below (bA wb (.cells (List.toArray [Value.slice x.2.a0 x.1.ids.length x.2.c0, .slice x.2.a1 x.1.isr.length x.2.c1, .int .i64 x.1.ld, .int .i64 x.1.ep, .slice x.2.a2 x.1.ad.length x.2.c2, .slice x.2.a3 x.1.dr.length x.2.c3]) 44))); replace HBW := Hd (bt HBW.out (bA wb (.cells (List.toArray [Value.slice x.2.a0 x.1.ids.length x.2.c0, .slice x.2.a1 x.1.isr.length x.2.c1, .int .i64 x.1.ld, .int .i64 x.1.ep, .slice x.2.a2 x.1.ad.length x.2.c2, .slice x.2.a3 x.1.dr.length x.2.c3]) 44))); replace HB0 := Hd (bt HB0.out (bA wb (.cells (List.toArray [Value.slice x.2.a0 x.1.ids.length x.2.c0, .slice x.2.a1 x.1.isr.length x.2.c1, .int .i64 x.1.ld, .int .i64 x.1.ep, .slice x.2.a2 x.1.ad.length x.2.c2, .slice x.2.a3 x.1.dr.length x.2.c3]) 44))); clear hb HP1) | (go_at_call 14; refine (HP2.out _ HB0.out).mono ?_; rintro e wc ⟨rfl, hb⟩; replace HKM := Hd (HKM.out.below hb); replace BM := Hd (BM.out.below hb); replace P1 := Hd (P1.out.below hb); replace HBW := Hd (bt HBW.out hb); replace HB0 := Hd (bt HB0.out hb); have P2 := Hd (Bx.new wc [Value.slice x.2.a0 x.1.ids.length x.2.c0, .slice x.2.a1 x.1.isr.length x.2.c1, .int .i64 x.1.ld, .int .i64 x.1.ep, .slice x.2.a2 x.1.ad.length x.2.c2, .slice x.2.a3 x.1.dr.length x.2.c3] 44); replace HKM := Hd (HKM.out.below (bA wc (.cells (List.toArray [Value.slice x.2.a0 x.1.ids.length x.2.c0, .slice x.2.a1 x.1.isr.length x.2.c1, .int .i64 x.1.ld, .int .i64 x.1.ep, .slice x.2.a2 x.1.ad.length x.2.c2, .slice x.2.a3 x.1.dr.length x.2.c3]) 44))); replace BM := Hd (BM.out.below (bA wc (.cells (List.toArray [Value.slice x.2.a0 x.1.ids.length x.2.c0, .slice x.2.a1 x.1.isr.length x.2.c1, .int .i64 x.1.ld, .int .i64 x.1.ep, .slice x.2.a2 x.1.ad.length x.2.c2, .slice x.2.a3 x.1.dr.length x.2.c3]) 44))); replace P1 := Hd (P1.out.below (bA wc (.cells (List.toArray [Value.slice x.2.a0 x.1.ids.length x.2.c0, .slice x.2.a1 x.1.isr.length x.2.c1, .int .i64 x.1.ld, .int .i64 x.1.ep, .slice x.2.a2 x.1.ad.length x.2.c2, .slice x.2.a3 x.1.dr.length x.2.c3]) 44))); replace HBW := Hd (bt HBW.out (bA wc (.cells (List.toArray [Value.slice x.2.a0 x.1.ids.length x.2.c0, .slice x.2.a1 x.1.isr.length x.2.c1, .int .i64 x.1.ld, .int .i64 x.1.ep, .slice x.2.a2 x.1.ad.length x.2.c2, .slice x.2.a3 x.1.dr.length x.2.c3]) 44))); replace HB0 := Hd (bt HB0.out (bA wc (.cells (List.toArray [Value.slice x.2.a0 x.1.ids.length x.2.c0, .slice x.2.a1 x.1.isr.length x.2.c1, .int .i64 x.1.ld, .int .i64 x.1.ep, .slice x.2.a2 x.1.ad.length x.2.c2, .slice x.2.a3 x.1.dr.length x.2.c3]) 44))); clear hb HP2) | (go_at_call 15; refine (HC1.out _ HKM.out).mono ?_; rintro e wd ⟨rfl, hb⟩; replace HKM := Hd (HKM.out.below hb); replace BM := Hd (BM.out.below hb); replace P1 := Hd (P1.out.below hb); replace P2 := Hd (P2.out.below hb); replace HBW := Hd (bt HBW.out hb); replace HB0 := Hd (bt HB0.out hb); clear hb HC1) | (go_at_call 16; refine (HC2.out _ HKM.out).mono ?_; rintro e we ⟨rfl, hb⟩; replace HKM := Hd (HKM.out.below hb); replace BM := Hd (BM.out.below hb); replace P1 := Hd (P1.out.below hb); replace P2 := Hd (P2.out.below hb); replace HBW := Hd (bt HBW.out hb); replace HB0 := Hd (bt HB0.out hb); clear hb HC2) | (go_at_call 17; refine (HD1.out _ HKM.out).mono ?_; rintro e wf ⟨rfl, hb⟩; replace HKM := Hd (HKM.out.below hb); replace BM := Hd (BM.out.below hb); replace P1 := Hd (P1.out.below hb); replace P2 := Hd (P2.out.below hb); replace HBW := Hd (bt HBW.out hb); replace HB0 := Hd (bt HB0.out hb); clear hb HD1) | (go_at_call 18; refine (HD2.out _ HKM.out).mono ?_; rintro e wg ⟨rfl, hb⟩; replace HKM := Hd (HKM.out.below hb); replace BM := Hd (BM.out.below hb); replace P1 := Hd (P1.out.below hb); replace P2 := Hd (P2.out.below hb); replace HBW := Hd (bt HBW.out hb); replace HB0 := Hd (bt HB0.out hb); clear hb HD2))
   clear c30 c31 c32 c40 c41 c42 c50 c60 e1 e2 B1 B2 B3 B4 B5 B6
   obtain ⟨bP1, hbp1⟩ : ∃ b, b = wb.heap.size := ⟨_, rfl⟩
   obtain ⟨bP2, hbp2⟩ : ∃ b, b = wc.heap.size := ⟨_, rfl⟩
   rw [← hbp1] at P1 ⊢
   rw [← hbp2] at P2 ⊢
   clear hbp1 hbp2
   have HF : Hid (∀ W, Below wg.heap.size wg W → ((W.cell? ⟨bP1, 0, none⟩ = some (.slice x.2.a0 x.1.ids.length x.2.c0) ∧ W.cell? ⟨bP1, 1, none⟩ = some (.slice x.2.a1 x.1.isr.length x.2.c1) ∧ W.cell? ⟨bP1, 2, none⟩ = some (.int .i64 x.1.ld) ∧ W.cell? ⟨bP1, 3, none⟩ = some (.int .i64 x.1.ep) ∧ W.cell? ⟨bP1, 4, none⟩ = some (.slice x.2.a2 x.1.ad.length x.2.c2) ∧ W.cell? ⟨bP1, 5, none⟩ = some (.slice x.2.a3 x.1.dr.length x.2.c3)) ∧ (W.cell? ⟨bP2, 0, none⟩ = some (.slice x.2.a0 x.1.ids.length x.2.c0) ∧ W.cell? ⟨bP2, 1, none⟩ = some (.slice x.2.a1 x.1.isr.length x.2.c1) ∧ W.cell? ⟨bP2, 2, none⟩ = some (.int .i64 x.1.ld) ∧ W.cell? ⟨bP2, 3, none⟩ = some (.int .i64 x.1.ep) ∧ W.cell? ⟨bP2, 4, none⟩ = some (.slice x.2.a2 x.1.ad.length x.2.c2) ∧ W.cell? ⟨bP2, 5, none⟩ = some (.slice x.2.a3 x.1.dr.length x.2.c3)))) := Hd (fun W h => ⟨(P1.out.below h).c6, (P2.out.below h).c6⟩)
   have HSQ : Hid (∀ W (y : Pp), y.1 = x.1 → PtR W y → Below wg.heap.size wg W → Calls Tryz.prog 19 #[.agg (List.toArray [Value.slice y.2.a0 y.1.ids.length y.2.c0, .slice y.2.a1 y.1.isr.length y.2.c1, .int .i64 y.1.ld, .int .i64 y.1.ep, .slice y.2.a2 y.1.ad.length y.2.c2, .slice y.2.a3 y.1.dr.length y.2.c3]), .agg (List.toArray [Value.slice x.2.a0 x.1.ids.length x.2.c0, .slice x.2.a1 x.1.isr.length x.2.c1, .int .i64 x.1.ld, .int .i64 x.1.ep, .slice x.2.a2 x.1.ad.length x.2.c2, .slice x.2.a3 x.1.dr.length x.2.c3])] W fun e w' => e = .returned (.bool true) ∧ Below W.heap.size W w') := Hd (fun W y hy hp h => by
    have := rsamep_any y x W hp (HPX.out W (bt HB0.out h)) (by rw [hy]; exact HXW.out)
    rw [sam_eq hy] at this
    exact this)
   have HSS : Hid (∀ W, Below wg.heap.size wg W → Calls Tryz.prog 20 #[.agg (List.toArray [Value.slice x.2.a0 x.1.ids.length x.2.c0, .slice x.2.a1 x.1.isr.length x.2.c1, .int .i64 x.1.ld, .int .i64 x.1.ep, .slice x.2.a2 x.1.ad.length x.2.c2, .slice x.2.a3 x.1.dr.length x.2.c3]), .agg (List.toArray [Value.slice x.2.a0 x.1.ids.length x.2.c0, .slice x.2.a1 x.1.isr.length x.2.c1, .int .i64 x.1.ld, .int .i64 x.1.ep, .slice x.2.a2 x.1.ad.length x.2.c2, .slice x.2.a3 x.1.dr.length x.2.c3])] W fun e w' => e = .returned (.bool true) ∧ Below W.heap.size W w') := Hd (fun W h => by
    have := Same_any x x W (HPX.out W (bt HB0.out h)) (HPX.out W (bt HB0.out h)) HXW.out
    rw [samP_refl] at this
    exact this)
   have HAL : Hid (∀ W, Below wg.heap.size wg W → Calls Tryz.prog 21 #[.agg (List.toArray [Value.slice x.2.a0 x.1.ids.length x.2.c0, .slice x.2.a1 x.1.isr.length x.2.c1, .int .i64 x.1.ld, .int .i64 x.1.ep, .slice x.2.a2 x.1.ad.length x.2.c2, .slice x.2.a3 x.1.dr.length x.2.c3])] W fun e w' => ∃ y : Pp, y.1 = x.1 ∧ e = .returned (.agg (List.toArray [Value.slice y.2.a0 y.1.ids.length y.2.c0, .slice y.2.a1 y.1.isr.length y.2.c1, .int .i64 y.1.ld, .int .i64 y.1.ep, .slice y.2.a2 y.1.ad.length y.2.c2, .slice y.2.a3 y.1.dr.length y.2.c3])) ∧ PtR w' y ∧ Below W.heap.size W w') := Hd (fun W h => (Alone_any x W (HPX.out W (bt HB0.out h)) HXW.out).mono fun _ _ ⟨y, h1, h2, h3, h4⟩ => ⟨y, h1, h2, h3.pt, h4⟩)
   have HS0 := Hd (hs_drew HF.out (Nat.le_refl _))
   have HPY := Hd (fun W (h : Below wg.heap.size wg W) => HPX.out W (bt HB0.out h))
   have HSX : Hid (∀ W, Below wg.heap.size wg W → Calls Tryz.prog 19 #[.agg (List.toArray [Value.slice x.2.a0 x.1.ids.length x.2.c0, .slice x.2.a1 x.1.isr.length x.2.c1, .int .i64 x.1.ld, .int .i64 x.1.ep, .slice x.2.a2 x.1.ad.length x.2.c2, .slice x.2.a3 x.1.dr.length x.2.c3]), .agg (List.toArray [Value.slice x.2.a0 x.1.ids.length x.2.c0, .slice x.2.a1 x.1.isr.length x.2.c1, .int .i64 x.1.ld, .int .i64 x.1.ep, .slice x.2.a2 x.1.ad.length x.2.c2, .slice x.2.a3 x.1.dr.length x.2.c3])] W fun e w' => e = .returned (.bool true) ∧ Below W.heap.size W w') := Hd (fun W h => HSQ.out W x rfl (HPY.out W h) h)
   clear P1 P2
   go_region_held3 (fun W => ((W.cell? ⟨bP1, 0, none⟩ = some (.slice x.2.a0 x.1.ids.length x.2.c0) ∧ W.cell? ⟨bP1, 1, none⟩ = some (.slice x.2.a1 x.1.isr.length x.2.c1) ∧ W.cell? ⟨bP1, 2, none⟩ = some (.int .i64 x.1.ld) ∧ W.cell? ⟨bP1, 3, none⟩ = some (.int .i64 x.1.ep) ∧ W.cell? ⟨bP1, 4, none⟩ = some (.slice x.2.a2 x.1.ad.length x.2.c2) ∧ W.cell? ⟨bP1, 5, none⟩ = some (.slice x.2.a3 x.1.dr.length x.2.c3)) ∧ (W.cell? ⟨bP2, 0, none⟩ = some (.slice x.2.a0 x.1.ids.length x.2.c0) ∧ W.cell? ⟨bP2, 1, none⟩ = some (.slice x.2.a1 x.1.isr.length x.2.c1) ∧ W.cell? ⟨bP2, 2, none⟩ = some (.int .i64 x.1.ld) ∧ W.cell? ⟨bP2, 3, none⟩ = some (.int .i64 x.1.ep) ∧ W.cell? ⟨bP2, 4, none⟩ = some (.slice x.2.a2 x.1.ad.length x.2.c2) ∧ W.cell? ⟨bP2, 5, none⟩ = some (.slice x.2.a3 x.1.dr.length x.2.c3))) ∧ Below wg.heap.size wg W ∧ wg.heap.size ≤ W.heap.size)
    (first | with_reducible assumption | with_reducible exact hs_call HF.out (by assumption) (by assumption) | with_reducible exact HS0.out)
    (first
     | (go_at_call 19; with_reducible refine (HSQ.out _ y HYH.out HPH.out ?_).mono ?_; exact And.left (And.right (by assumption)); rintro e w' ⟨rfl, hb⟩)
     | (go_at_call 19; with_reducible refine (HSX.out _ ?_).mono ?_; exact And.left (And.right (by assumption)); rintro e w' ⟨rfl, hb⟩)
     | (go_at_call 20; refine (HSS.out _ ?_).mono ?_; exact And.left (And.right (by assumption)); rintro e w' ⟨rfl, hb⟩)
     | (go_at_call 21; refine (HAL.out _ ?_).mono ?_; exact And.left (And.right (by assumption)); rintro e w' ⟨y, hy, rfl, hpy, hb⟩; have HYH := Hd hy; have HPH := Hd hpy; clear hy hpy))
   have hfin : Below wg.heap.size wg w' := And.left (And.right (by assumption))
   have HKN := Hd (HKM.out.below hfin)
   have BMN := Hd (BM.out.below hfin)
   have HBN := Hd (bt HBW.out hfin)
   clear hfin HF HSQ HSS HAL HS0 HPY HSX HPX HXW HB0 HKM BM HBW HPL HWF
   go_wp2_with fail
   generalize w' = V20 at HKN BMN HBN ⊢
   obtain ⟨al, hal⟩ : ∃ a, a = alive M.br id := ⟨_, rfl⟩
   obtain ⟨le, hle⟩ : ∃ a, a = leads M.ts id := ⟨_, rfl⟩
   have HL1 : Hid (∀ W, Below V20.heap.size V20 W → Calls Tryz.prog 22 #[.agg (List.toArray [Value.slice p0.ab M.br.length p0.cb, .slice p0.aq p0.ts.length p0.cq, .slice p0.ac M.cf.length p0.cc, .slice p0.ad M.dn.length p0.cd, .int .i64 M.la]), .int .i64 id] W fun e w' => e = .returned (.bool al) ∧ Below W.heap.size W w') := Hd (fun W h => by
    have := Alive_any M p0 id W (HKN.out.below h).im HWM.out
    rw [← hal] at this
    exact this)
   have HL2 : Hid (∀ W, Below V20.heap.size V20 W → Calls Tryz.prog 23 #[.agg (List.toArray [Value.slice p0.ab M.br.length p0.cb, .slice p0.aq p0.ts.length p0.cq, .slice p0.ac M.cf.length p0.cc, .slice p0.ad M.dn.length p0.cd, .int .i64 M.la]), .int .i64 id] W fun e w' => e = .returned (.bool al) ∧ Below W.heap.size W w') := Hd (fun W h => by
    have := ralive_any M p0 id W (HKN.out.below h).im HWM.out.nb
    rw [← hal] at this
    exact this)
   have HL3 : Hid (∀ W, Below V20.heap.size V20 W → Calls Tryz.prog 24 #[.agg (List.toArray [Value.slice p0.ab M.br.length p0.cb, .slice p0.aq p0.ts.length p0.cq, .slice p0.ac M.cf.length p0.cc, .slice p0.ad M.dn.length p0.cd, .int .i64 M.la]), .int .i64 id] W fun e w' => e = .returned (.bool le) ∧ Below W.heap.size W w') := Hd (fun W h => by
    have := Leads_any M p0 id W (HKN.out.below h).im HWM.out
    rw [← hle] at this
    exact this)
   have HL4 : Hid (∀ W, Below V20.heap.size V20 W → Calls Tryz.prog 25 #[.agg (List.toArray [Value.slice p0.ab M.br.length p0.cb, .slice p0.aq p0.ts.length p0.cq, .slice p0.ac M.cf.length p0.cc, .slice p0.ad M.dn.length p0.cd, .int .i64 M.la]), .int .i64 id] W fun e w' => e = .returned (.bool le) ∧ Below W.heap.size W w') := Hd (fun W h => by
    have := rleads_any M p0 id W (HKN.out.below h).im HWM.out
    rw [← hle] at this
    exact this)
   have HCY : Hid (∀ W, Below V20.heap.size V20 W → Calls Tryz.prog 27 #[.agg (List.toArray [Value.slice p0.ab M.br.length p0.cb, .slice p0.aq p0.ts.length p0.cq, .slice p0.ac M.cf.length p0.cc, .slice p0.ad M.dn.length p0.cd, .int .i64 M.la])] W fun e w' => ∃ pc, e = .returned (.agg (List.toArray [Value.slice pc.ab M.br.length pc.cb, .slice pc.aq pc.ts.length pc.cq, .slice pc.ac M.cf.length pc.cc, .slice pc.ad M.dn.length pc.cd, .int .i64 M.la])) ∧ ImR w' M pc ∧ Below W.heap.size W w') := Hd (fun W h => Copy_any M p0 W (HKN.out.below h).im HWM.out)
   have HSM : Hid (∀ W pc, ImR W M pc → Below V20.heap.size V20 W → Calls Tryz.prog 26 #[.agg (List.toArray [Value.slice pc.ab M.br.length pc.cb, .slice pc.aq pc.ts.length pc.cq, .slice pc.ac M.cf.length pc.cc, .slice pc.ad M.dn.length pc.cd, .int .i64 M.la]), .agg (List.toArray [Value.slice p0.ab M.br.length p0.cb, .slice p0.aq p0.ts.length p0.cq, .slice p0.ac M.cf.length p0.cc, .slice p0.ad M.dn.length p0.cd, .int .i64 M.la])] W fun e w' => e = .returned (.bool true) ∧ Below W.heap.size W w') := Hd (fun W pc hc h => rsame_any M pc p0 W hc (HKN.out.below h).im HWM.out)
   have HWK := Hd (fun W => works_any W)
   have HF : Hid (∀ W, Below V20.heap.size V20 W → (W.cell? ⟨bBM, 0, none⟩ = some (Value.slice p0.ab M.br.length p0.cb) ∧ W.cell? ⟨bBM, 1, none⟩ = some (.slice p0.aq p0.ts.length p0.cq) ∧ W.cell? ⟨bBM, 2, none⟩ = some (.slice p0.ac M.cf.length p0.cc) ∧ W.cell? ⟨bBM, 3, none⟩ = some (.slice p0.ad M.dn.length p0.cd) ∧ W.cell? ⟨bBM, 4, none⟩ = some (.int .i64 M.la))) := Hd (fun W h => (BMN.out.below h).c5)
   have HS0 := Hd (hs_drew HF.out (Nat.le_refl _))
   clear hal hle BMN
   go_region_held3 (fun W => (W.cell? ⟨bBM, 0, none⟩ = some (Value.slice p0.ab M.br.length p0.cb) ∧ W.cell? ⟨bBM, 1, none⟩ = some (.slice p0.aq p0.ts.length p0.cq) ∧ W.cell? ⟨bBM, 2, none⟩ = some (.slice p0.ac M.cf.length p0.cc) ∧ W.cell? ⟨bBM, 3, none⟩ = some (.slice p0.ad M.dn.length p0.cd) ∧ W.cell? ⟨bBM, 4, none⟩ = some (.int .i64 M.la)) ∧ Below V20.heap.size V20 W ∧ V20.heap.size ≤ W.heap.size)
    (first | with_reducible assumption | with_reducible exact hs_call HF.out (by assumption) (by assumption) | with_reducible exact HS0.out)
    (first
     | (go_at_call 22; with_reducible refine (HL1.out _ ?_).mono ?_; exact And.left (And.right (by assumption)); rintro e w' ⟨rfl, hb⟩)
     | (go_at_call 23; with_reducible refine (HL2.out _ ?_).mono ?_; exact And.left (And.right (by assumption)); rintro e w' ⟨rfl, hb⟩)
     | (go_at_call 24; with_reducible refine (HL3.out _ ?_).mono ?_; exact And.left (And.right (by assumption)); rintro e w' ⟨rfl, hb⟩)
     | (go_at_call 25; with_reducible refine (HL4.out _ ?_).mono ?_; exact And.left (And.right (by assumption)); rintro e w' ⟨rfl, hb⟩)
     | (go_at_call 27; with_reducible refine (HCY.out _ ?_).mono ?_; exact And.left (And.right (by assumption)); rintro e w' ⟨pc, rfl, hic, hb⟩; have HIC := Hd hic; clear hic)
     | (go_at_call 26; with_reducible refine (HSM.out _ pc HIC.out ?_).mono ?_; exact And.left (And.right (by assumption)); rintro e w' ⟨rfl, hb⟩)
     | (go_at_call 5; with_reducible refine (HWK.out _).mono ?_; rintro e w' ⟨rfl, hb⟩))
   all_goals
    have hfin2 : Below V20.heap.size V20 w' := And.left (And.right (by assumption))
    have HBF := Hd (bt HBN.out hfin2)
    clear hfin2
    go_wp2_with fail
    go_ret
    exact ⟨rfl, HBF.out⟩
 ·rw [Bool.eq_false_iff.2 hli] at HLI
  clear hv hli
  go_enter Tryz.func3, Tryz.ntmps3
  go_wp2_with (first | (go_at_call 4; refine HLI.out.mono ?_; rintro e w1 ⟨rfl, hb1⟩; have HB1 := Hd hb1; clear hb1 HLI) | (go_at_call 5; refine (works_any _).mono ?_; rintro e w9 ⟨rfl, hb9⟩; have HB9 := Hd (bt HB1.out hb9); clear hb9))
  go_ret
  exact ⟨rfl, HB9.out⟩
end Go.Proofs.YtlggjgapdpkhiaaGreat
