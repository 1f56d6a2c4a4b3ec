/-
  SOME RECORDS TOGETHER (ImageAll): they make what they make one by one, or, if one of them is no legal step, nothing. Condition: the records lie in their cells, their rows in memory that was there.
-/
import Derived.Test.YtlggjgapdpkhiaaGreatDoorJKImLba2
import Derived.Test.YtlggjgapdpkhiaaGreatDoorJKImQp
namespace Go.Proofs.YtlggjgapdpkhiaaGreatDoor
open Go.RowKit
theorem wf_allF : ∀ (rs : List Rc) {m : Im} {N : Nat}, Wf m N → Wf (allF m rs).1 (N + rs.length)
 | [], _, _, h => h
 | r :: rs, m, N, h => by
  unfold allF
  by_cases h0 : (app m r).2 = 0
  ·rw [if_pos h0]
   have h1 := wf_allF rs (wf_app h r)
   rwa [List.length_cons, Nat.add_comm rs.length 1, ← Nat.add_assoc]
  ·rw [if_neg h0]
   exact h.mono (by simp)
theorem wf_allI {m : Im} {N : Nat} (h : Wf m N) (rs : List Rc) : Wf (allI m rs).1 (N + rs.length) := by
 unfold allI
 by_cases h0 : (allF m rs).2 = 0
 ·rw [if_pos h0]; exact wf_allF rs h
 ·rw [if_neg h0]; exact h.mono (by simp)
theorem allI_bad {m : Im} {rs : List Rc} (h : (allI m rs).2 ≠ 0) : (allI m rs).1 = m := by
 unfold allI at h ⊢
 by_cases h0 : (allF m rs).2 = 0
 ·rw [if_pos h0] at h
  exact absurd h0 h
 ·rw [if_neg h0]
set_option maxRecDepth 100000 in
set_option maxHeartbeats 16000000 in
theorem iall_law {okb ok okb2 ok2 : Nat → Prop} (u v : Value) (ps qs : List Rp) (w : World) (hu : Rl okb ok w u ps) (hv : Rl okb2 ok2 w v qs) (hh : Hnd w) : Calls Tryz.prog 4 #[u, v] w fun e w' => e = .returned (.bool true) ∧ Below w.heap.size w w' := by
 have HLI := hide (light_any u ps w hu)
 have HLJ := hide (fun W (h : Below w.heap.size w W) => light_any v qs W (hv.below h))
 have HH0 := hide hh
 clear hh
 by_cases hli : liR (rcl ps) = true
 ·rw [hli] at HLI
  by_cases hlj : liR (rcl qs) = true
  ·rw [hlj] at HLJ
   have hl1 : ps.length ≤ 120 := by have := liR_len hli; rwa [rcl_len] at this
   have hl2 : qs.length ≤ 120 := by have := liR_len hlj; rwa [rcl_len] at this
   have hl3 : (rcl qs).length ≤ 120 := by rw [rcl_len]; exact hl2
   have HTX : Hid (∀ r ∈ rcl ps, TxR r) := hide (liR_tx hli)
   have HTY : Hid (∀ r ∈ rcl qs, TxR r) := hide (liR_tx hlj)
   have HMD := hide (fun W (h : Below w.heap.size w W) => rmade_any u ps W (fun g => g < W.heap.size) (fun _ h => h) (fun W' hW' => (hu.below h).agree hW') (by omega) HTX.out)
   have HAL0 := hide (fun (M : Im) (p0 : Ip) (hwf : Wf M ps.length) W (hk : Kp W M p0) (h : Below w.heap.size w W) => All_any M p0 v qs W (fun g => g < W.heap.size) ps.length (fun _ h => h) hk.r hwf (by omega) (hv.below h) HTY.out)
   have HRA0 := hide (fun (M : Im) (p0 : Ip) (hwf : Wf M ps.length) W (hk : Kp W M p0) (h : Below w.heap.size w W) => rall_any M p0 v qs W (fun g => g < W.heap.size) ps.length (fun _ h => h) hk.r hwf (by omega) (fun W' hW' => (hv.below h).agree hW') HTY.out)
   clear hu hv hli hlj HTX HTY
   go_enter Tryz.func4, Tryz.ntmps4
   generalize made Im.zero (rcl ps) = M at HMD
   go_upto_region 4 with (first | (go_at_call 5; refine HLI.out.mono ?_; rintro e w1 ⟨rfl, hb1⟩; have HB1 := hide hb1; clear hb1 HLI) | (go_at_call 5; refine (HLJ.out _ HB1.out).mono ?_; rintro e w2 ⟨rfl, hb2⟩; have HB2 := hide (bt HB1.out hb2); clear hb2 HLJ) | (go_at_call 11; refine (HMD.out _ HB2.out).mono ?_; rintro e w3 ⟨p0, rfl, him, hwf, hb3⟩; have HKM := hide (Kp.of him); have HWF := hide hwf; have HBW := hide (bt HB2.out hb3); clear him hwf hb3 HMD; unfold imv; dsimp only))
   have HMB := hide (Bx.new w3 [Value.slice p0.ab M.br.length p0.cb, .slice p0.aq p0.ts.length p0.cq, .slice p0.ac M.cf.length p0.cc, .slice p0.ad M.dn.length p0.cd, .int .i64 M.la] 30)
   replace HKM := hide (HKM.out.below (below_al1 w3 (.cells (List.toArray [Value.slice p0.ab M.br.length p0.cb, .slice p0.aq p0.ts.length p0.cq, .slice p0.ac M.cf.length p0.cc, .slice p0.ad M.dn.length p0.cd, .int .i64 M.la]) 30)))
   replace HBW := hide (bt HBW.out (below_al1 w3 (.cells (List.toArray [Value.slice p0.ab M.br.length p0.cb, .slice p0.aq p0.ts.length p0.cq, .slice p0.ac M.cf.length p0.cc, .slice p0.ad M.dn.length p0.cd, .int .i64 M.la]) 30)))
   generalize w3.alloc (.cells (List.toArray [Value.slice p0.ab M.br.length p0.cb, .slice p0.aq p0.ts.length p0.cq, .slice p0.ac M.cf.length p0.cc, .slice p0.ad M.dn.length p0.cd, .int .i64 M.la]) 30) = V3 at HMB HKM HBW ⊢
   generalize w3.heap.size = bMB at HMB ⊢
   have HAL := hide (HAL0.out M p0 HWF.out)
   have HRA := hide (HRA0.out M p0 HWF.out)
   clear HAL0 HRA0
   have HWM := hide ((wf_allI HWF.out (rcl qs)).mono (show ps.length + (rcl qs).length ≤ 100000 by omega))
   have HBD := hide (allI_bad (m := M) (rs := rcl qs))
   generalize allI M (rcl qs) = ar at HAL HRA HWM HBD
   obtain ⟨m', c'⟩ := ar
   dsimp only at HAL HRA HWM HBD
   unfold imv at HAL HRA
   go_upto_region 5 with (first | (refine wpList_load_mid rfl _ _ rfl _ _ rfl _ _ HMB.out.c Tryz.underlying30 rfl (by kernel_rfl) ?_) | (go_at_call 12; refine (HAL.out _ HKM.out HBW.out).mono ?_; rintro e w4 ⟨p1, E, rfl, him, hE, hb4⟩; have HKA := hide (Kp.of him); have HEE := hide hE; replace HKM := hide (HKM.out.below hb4); replace HMB := hide (HMB.out.below hb4); replace HBW := hide (bt HBW.out hb4); clear him hE hb4 HAL; unfold imv; dsimp only))
   have HAB := hide (Bx.new w4 [Value.slice p1.ab m'.br.length p1.cb, .slice p1.aq p1.ts.length p1.cq, .slice p1.ac m'.cf.length p1.cc, .slice p1.ad m'.dn.length p1.cd, .int .i64 m'.la] 30)
   replace HKM := hide (HKM.out.below (below_al1 w4 (.cells (List.toArray [Value.slice p1.ab m'.br.length p1.cb, .slice p1.aq p1.ts.length p1.cq, .slice p1.ac m'.cf.length p1.cc, .slice p1.ad m'.dn.length p1.cd, .int .i64 m'.la]) 30)))
   replace HKA := hide (HKA.out.below (below_al1 w4 (.cells (List.toArray [Value.slice p1.ab m'.br.length p1.cb, .slice p1.aq p1.ts.length p1.cq, .slice p1.ac m'.cf.length p1.cc, .slice p1.ad m'.dn.length p1.cd, .int .i64 m'.la]) 30)))
   replace HMB := hide (HMB.out.below (below_al1 w4 (.cells (List.toArray [Value.slice p1.ab m'.br.length p1.cb, .slice p1.aq p1.ts.length p1.cq, .slice p1.ac m'.cf.length p1.cc, .slice p1.ad m'.dn.length p1.cd, .int .i64 m'.la]) 30)))
   replace HBW := hide (bt HBW.out (below_al1 w4 (.cells (List.toArray [Value.slice p1.ab m'.br.length p1.cb, .slice p1.aq p1.ts.length p1.cq, .slice p1.ac m'.cf.length p1.cc, .slice p1.ad m'.dn.length p1.cd, .int .i64 m'.la]) 30)))
   generalize w4.alloc (.cells (List.toArray [Value.slice p1.ab m'.br.length p1.cb, .slice p1.aq p1.ts.length p1.cq, .slice p1.ac m'.cf.length p1.cc, .slice p1.ad m'.dn.length p1.cd, .int .i64 m'.la]) 30) = V4 at HAB HKM HKA HMB HBW ⊢
   generalize w4.heap.size = bAB at HAB ⊢
   go_upto_region 6 with (first | (refine wpList_load_mid rfl _ _ rfl _ _ rfl _ _ HMB.out.c Tryz.underlying30 rfl (by kernel_rfl) ?_) | (go_at_call 13; refine (HRA.out _ HKM.out HBW.out).mono ?_; rintro e w5 ⟨p2, rfl, him, hb5⟩; have HKB := hide (Kp.of him); replace HKM := hide (HKM.out.below hb5); replace HKA := hide (HKA.out.below hb5); replace HMB := hide (HMB.out.below hb5); replace HAB := hide (HAB.out.below hb5); replace HBW := hide (bt HBW.out hb5); clear him hb5 HRA; unfold imv; dsimp only))
   have HBB := hide (Bx.new w5 [Value.slice p2.ab m'.br.length p2.cb, .slice p2.aq p2.ts.length p2.cq, .slice p2.ac m'.cf.length p2.cc, .slice p2.ad m'.dn.length p2.cd, .int .i64 m'.la] 30)
   replace HKM := hide (HKM.out.below (below_al1 w5 (.cells (List.toArray [Value.slice p2.ab m'.br.length p2.cb, .slice p2.aq p2.ts.length p2.cq, .slice p2.ac m'.cf.length p2.cc, .slice p2.ad m'.dn.length p2.cd, .int .i64 m'.la]) 30)))
   replace HKA := hide (HKA.out.below (below_al1 w5 (.cells (List.toArray [Value.slice p2.ab m'.br.length p2.cb, .slice p2.aq p2.ts.length p2.cq, .slice p2.ac m'.cf.length p2.cc, .slice p2.ad m'.dn.length p2.cd, .int .i64 m'.la]) 30)))
   replace HKB := hide (HKB.out.below (below_al1 w5 (.cells (List.toArray [Value.slice p2.ab m'.br.length p2.cb, .slice p2.aq p2.ts.length p2.cq, .slice p2.ac m'.cf.length p2.cc, .slice p2.ad m'.dn.length p2.cd, .int .i64 m'.la]) 30)))
   replace HMB := hide (HMB.out.below (below_al1 w5 (.cells (List.toArray [Value.slice p2.ab m'.br.length p2.cb, .slice p2.aq p2.ts.length p2.cq, .slice p2.ac m'.cf.length p2.cc, .slice p2.ad m'.dn.length p2.cd, .int .i64 m'.la]) 30)))
   replace HAB := hide (HAB.out.below (below_al1 w5 (.cells (List.toArray [Value.slice p2.ab m'.br.length p2.cb, .slice p2.aq p2.ts.length p2.cq, .slice p2.ac m'.cf.length p2.cc, .slice p2.ad m'.dn.length p2.cd, .int .i64 m'.la]) 30)))
   replace HBW := hide (bt HBW.out (below_al1 w5 (.cells (List.toArray [Value.slice p2.ab m'.br.length p2.cb, .slice p2.aq p2.ts.length p2.cq, .slice p2.ac m'.cf.length p2.cc, .slice p2.ad m'.dn.length p2.cd, .int .i64 m'.la]) 30)))
   generalize w5.alloc (.cells (List.toArray [Value.slice p2.ab m'.br.length p2.cb, .slice p2.aq p2.ts.length p2.cq, .slice p2.ac m'.cf.length p2.cc, .slice p2.ad m'.dn.length p2.cd, .int .i64 m'.la]) 30) = V5 at HBB HKM HKA HKB HMB HAB HBW ⊢
   generalize w5.heap.size = bBB at HBB ⊢
   by_cases hc : c' = 0
   ·subst hc
    have he := erc_zero HEE.out
    subst he
    go_upto_region 8 with (first | (go_at_call 9; refine (of_erc HEE.out _ (HH0.out.below HBW.out)).mono ?_; rintro e wo ⟨rfl, hbo⟩; replace HKM := hide (HKM.out.below hbo); replace HKA := hide (HKA.out.below hbo); replace HKB := hide (HKB.out.below hbo); replace HMB := hide (HMB.out.below hbo); replace HAB := hide (HAB.out.below hbo); replace HBB := hide (HBB.out.below hbo); replace HBW := hide (bt HBW.out hbo); clear hbo) | (refine wpList_load_want (by go_simp; done) _ _ rfl _ _ rfl _ _ HAB.out.c Tryz.underlying30 rfl (by kernel_rfl) ?_) | (refine wpList_load_want (by go_simp; done) _ _ rfl _ _ rfl _ _ HBB.out.c Tryz.underlying30 rfl (by kernel_rfl) ?_) | (go_at_call 10; refine (rsame_any m' p1 p2 _ HKA.out.im HKB.out.im HWM.out).mono ?_; rintro e wy ⟨rfl, hby⟩; replace HKM := hide (HKM.out.below hby); replace HKA := hide (HKA.out.below hby); replace HKB := hide (HKB.out.below hby); replace HMB := hide (HMB.out.below hby); replace HAB := hide (HAB.out.below hby); replace HBB := hide (HBB.out.below hby); replace HBW := hide (bt HBW.out hby); clear hby))
    go_wp2_with (first | (go_at_call 6; refine (works_any _).mono ?_; rintro e w9 ⟨rfl, hb9⟩; have HB9 := hide (bt HBW.out hb9); clear hb9))
    go_ret
    exact ⟨rfl, HB9.out⟩
   ·have hmm := HBD.out hc
    obtain ⟨tE, vE, he, _⟩ := erc_wrap HEE.out hc
    subst he
    subst hmm
    clear HBD
    go_upto_region 8 with (first | (go_at_call 9; refine (of_erc HEE.out _ (HH0.out.below HBW.out)).mono ?_; rintro e wo ⟨rfl, hbo⟩; replace HKM := hide (HKM.out.below hbo); replace HKA := hide (HKA.out.below hbo); replace HKB := hide (HKB.out.below hbo); replace HMB := hide (HMB.out.below hbo); replace HAB := hide (HAB.out.below hbo); replace HBB := hide (HBB.out.below hbo); replace HBW := hide (bt HBW.out hbo); clear hbo) | (refine wpList_load_want (by go_simp; done) _ _ rfl _ _ rfl _ _ HAB.out.c Tryz.underlying30 rfl (by kernel_rfl) ?_) | (refine wpList_load_want (by go_simp; done) _ _ rfl _ _ rfl _ _ HBB.out.c Tryz.underlying30 rfl (by kernel_rfl) ?_) | (go_at_call 10; refine (rsame_any m' p1 p2 _ HKA.out.im HKB.out.im HWM.out).mono ?_; rintro e wy ⟨rfl, hby⟩; replace HKM := hide (HKM.out.below hby); replace HKA := hide (HKA.out.below hby); replace HKB := hide (HKB.out.below hby); replace HMB := hide (HMB.out.below hby); replace HAB := hide (HAB.out.below hby); replace HBB := hide (HBB.out.below hby); replace HBW := hide (bt HBW.out hby); clear hby))
    go_wp2_with (first | (refine wpList_load_want (by go_simp; done) _ _ rfl _ _ rfl _ _ HAB.out.c Tryz.underlying30 rfl (by kernel_rfl) ?_) | (refine wpList_load_want (by go_simp; done) _ _ rfl _ _ rfl _ _ HMB.out.c Tryz.underlying30 rfl (by kernel_rfl) ?_) | (go_at_call 10; refine (rsame_any m' p1 p0 _ HKA.out.im HKM.out.im HWM.out).mono ?_; rintro e wz ⟨rfl, hbz⟩; replace HKM := hide (HKM.out.below hbz); replace HKA := hide (HKA.out.below hbz); replace HKB := hide (HKB.out.below hbz); replace HMB := hide (HMB.out.below hbz); replace HAB := hide (HAB.out.below hbz); replace HBB := hide (HBB.out.below hbz); replace HBW := hide (bt HBW.out hbz); clear hbz) | (go_at_call 6; refine (works_any _).mono ?_; rintro e w9 ⟨rfl, hb9⟩; have HB9 := hide (bt HBW.out hb9); clear hb9))
    go_ret
    exact ⟨rfl, HB9.out⟩
  ·rw [Bool.eq_false_iff.2 hlj] at HLJ
   clear hu hv hli hlj
   go_enter Tryz.func4, Tryz.ntmps4
   go_wp2_with (first | (go_at_call 5; refine HLI.out.mono ?_; rintro e w1 ⟨rfl, hb1⟩; have HB1 := hide hb1; clear hb1 HLI) | (go_at_call 5; refine (HLJ.out _ HB1.out).mono ?_; rintro e w2 ⟨rfl, hb2⟩; have HB2 := hide (bt HB1.out hb2); clear hb2 HLJ) | (go_at_call 6; refine (works_any _).mono ?_; rintro e w9 ⟨rfl, hb9⟩; have HB9 := hide (bt HB2.out hb9); clear hb9))
   go_ret
   exact ⟨rfl, HB9.out⟩
 ·rw [Bool.eq_false_iff.2 hli] at HLI
  clear hu hv hli
  go_enter Tryz.func4, Tryz.ntmps4
  go_wp2_with (first | (go_at_call 5; refine HLI.out.mono ?_; rintro e w1 ⟨rfl, hb1⟩; have HB1 := hide hb1; clear hb1 HLI) | (go_at_call 6; refine (works_any _).mono ?_; rintro e w9 ⟨rfl, hb9⟩; have HB9 := hide (bt HB1.out hb9); clear hb9))
  go_ret
  exact ⟨rfl, HB9.out⟩
end Go.Proofs.YtlggjgapdpkhiaaGreatDoor
