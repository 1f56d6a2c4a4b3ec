/-
  AN IMAGE BEHIND RECORDS, ALL OF THEM, OR NONE, AS THE DOCUMENT HAS 30 (castellanref15.All). Conditions: an image in order, its lists no longer than fifty thousand; no more than a thousand records, their texts no longer than a store; what they are made of stays.
-/
import Derived.Test.YtlggjgapdpkhiaaGreatDoorJKImQna3
import Derived.Test.YtlggjgapdpkhiaaGreatDoorJKImQha3
namespace Go.Proofs.YtlggjgapdpkhiaaGreatDoor
open Go.RowKit
set_option maxRecDepth 100000 in
set_option maxHeartbeats 16000000 in
theorem rall_any {okb ok : Nat → Prop} (m : Im) (p : Ip) (v : Value) (ps : List Rp) (w : World) (n0 : Nat → Prop) (N : Nat) (hn0 : ∀ g, n0 g → g < w.heap.size) (hv : ∀ W, (∀ g, n0 g → W.heap[g]? = w.heap[g]?) → ImR W m p) (hw : Wf m N) (hN : N + ps.length ≤ 100000) (hr : ∀ W, (∀ g, n0 g → W.heap[g]? = w.heap[g]?) → Rl okb ok W v ps) (ht : ∀ r ∈ rcl ps, TxR r) : Calls Tryz.prog 13 #[imv m p, v] w fun e w' => StD n0 w w' (allI m (rcl ps)).1 (allI m (rcl ps)).2 e := by
 have HVV := hide (fun (W W3 : World) (hb : Below w.heap.size w W3) (hW : Agr n0 w.heap.size W3 W) => hv W (fun g hg => (hW g (.inl hg)).trans (hb.block g (hn0 g hg))))
 have HV := hide hr
 have HTX := hide ht
 have HW := hide hw
 obtain ⟨ci, hci⟩ : ∃ c, c = iml m p := ⟨_, rfl⟩
 have HCI := hide hci
 obtain ⟨zb, hzb⟩ : ∃ z, z = w.heap.size + 1 := ⟨_, rfl⟩
 have HA0 : Hid (Am w n0 ci zb (w.heap.size + 1 + 1) m p (((w.alloc (.cells (List.toArray [Value.slice p.ab m.br.length p.cb, .slice p.aq p.ts.length p.cq, .slice p.ac m.cf.length p.cc, .slice p.ad m.dn.length p.cd, .int .i64 m.la]) 30)).alloc (.cells (List.toArray [Value.slice none 0 0, .slice none 0 0, .slice none 0 0, .slice none 0 0, .int .i64 0]) 30)).alloc (.cells (List.toArray [Value.slice p.ab m.br.length p.cb, .slice p.aq p.ts.length p.cq, .slice p.ac m.cf.length p.cc, .slice p.ad m.dn.length p.cd, .int .i64 m.la]) 30))) := hide (by
  obtain ⟨h1, h2, h3, h4⟩ := Bx.mk3 w (iml m p) imzl (iml m p) 30 30 30 (Below.refl _ _)
  subst hci
  subst hzb
  exact ⟨h1, h2, h3, fun W' hW => hv W' (fun g hg => (hW g (.inl hg)).trans (h4.block g (hn0 g hg))), hn0, by omega, by omega, by omega, h4⟩)
 obtain ⟨ao, cap, rfl⟩ := (hr w (fun _ _ => rfl)).form
 have hln : (rcl ps).length = ps.length := rcl_len ps
 clear hv hn0 hw hr ht hci
 unfold imv
 go_enter Tryz.func13, Tryz.ntmps13
 go_upto_region 3 with fail
 generalize ((w.alloc (.cells (List.toArray [Value.slice p.ab m.br.length p.cb, .slice p.aq p.ts.length p.cq, .slice p.ac m.cf.length p.cc, .slice p.ad m.dn.length p.cd, .int .i64 m.la]) 30)).alloc (.cells (List.toArray [Value.slice none 0 0, .slice none 0 0, .slice none 0 0, .slice none 0 0, .int .i64 0]) 30)).alloc (.cells (List.toArray [Value.slice p.ab m.br.length p.cb, .slice p.aq p.ts.length p.cq, .slice p.ac m.cf.length p.cc, .slice p.ad m.dn.length p.cd, .int .i64 m.la]) 30) = X at HA0 ⊢
 go_loopw [7] (fun i W => ∃ (k : Nat) (mk : Im) (pk : Ip), k ≤ ps.length ∧ i = .int .i64 (k : Int) ∧ Am w n0 ci zb (w.heap.size + 1 + 1) mk pk W ∧ Wf mk (N + k) ∧ allF m (rcl ps) = allF mk ((rcl ps).drop k)) (fun i _ => ps.length - (ivA i).toNat)
 case atStart => exact ⟨0, m, p, Nat.zero_le _, rfl, HA0.out, HW.out, rfl⟩
 case round =>
  clear HA0
  obtain ⟨k, mk, pk, hk, rfl, ha, hwf, hal⟩ := hrel
  have HA := hide ha
  have HWF := hide hwf
  have HAL := hide hal
  clear ha hwf hal
  by_cases hlt : k < ps.length
  ·have hltI : (k : Int) < (ps.length : Int) := by omega
   have hlr : k < (rcl ps).length := by omega
   obtain ⟨rb, ro, rfl, hrg⟩ := (HV.out w (fun _ _ => rfl)).rg (by omega)
   have HRB : Hid (rb < w.heap.size) := hide (cell_block ((range_at hrg hlt) 0 _ rfl))
   have HRG := hide (rg_bel (W := w) (range_at hrg hlt) HA.out.b)
   have HIS := hide (fun W (h : ∀ g, n0 g → W.heap[g]? = w.heap[g]?) => ((HV.out W h).2 _ (List.getElem_mem hlt)).is)
   have hpk : (rcl ps)[k] = ps[k].1 := by simp [rcl]
   have HTR := hide (HTX.out _ (hpk ▸ List.getElem_mem hlr))
   have HAB := hide (fun h0 => all_bad (m := m) hlr HAL.out h0)
   have HAS := hide (fun h0 => all_step (m := m) hlr HAL.out h0)
   rw [hpk] at HAB HAS
   clear hrg hpk
   generalize ps[k] = r at HRG HIS HTR HAB HAS
   have HW1 := hide (wf_app HWF.out r.1)
   go_upto_region 5 with fail
   go_cut [8, 9] (fun x y W => ∃ (g : Nat) (p' : Ip), x = .pointer (some ⟨g, 0, none⟩) ∧ y = .int .i64 (app mk r.1).2 ∧ An w n0 ci zb (w.heap.size + 1 + 1) mk (app mk r.1).1 pk p' g W)
   case first =>
    clear HW1 HAB HAS HAL HVV HW HCI
    have hdw : Below wr.heap.size wr wr.drew := (Below.refl _ _).drew
    refine wp_region_held_drew (S := fun W => Bx W (w.heap.size + 1 + 1) (iml mk pk) ∧ W.rangeAt rb (ro + k * 18) (cel r)) (by kernel_rfl) ⟨HA.out.x.below hdw, rg_bel HRG.out hdw⟩ (fun hHeld => ?_)
    have HL4 := hide (HA.out.below hdw)
    have HRR : Hid (rb < w.heap.size) := HRB
    generalize wr.drew = V4 at HL4 hHeld ⊢
    clear hdw HA
    have HAP := hide (fun W (h : Below V4.heap.size V4 W) => rapply_any mk pk r.1 _ W (Nam (w.heap.size + 1 + 1) V4 n0) (fun g hg => Nat.lt_of_lt_of_le (HL4.out.lt hg) h.size) (fun W' hW' => HL4.out.r W' (fun g hg => (hW' g hg).trans (h.block g (HL4.out.lt hg)))) (HWF.out.mono (by omega)) (fun W' hW' => HIS.out W' (fun g hg => ((hW' g (.inl hg)).trans (h.block g (HL4.out.lt (.inl hg)))).trans (HL4.out.b.block g (HL4.out.n g hg)))) HTR.out)
    obtain ⟨m', c', har⟩ : ∃ a b, app mk r.1 = (a, b) := ⟨_, _, rfl⟩
    have HAR := hide har
    rw [har] at HAP
    clear har HIS HTR HWF
    refine tky 0 18 (_) rfl rfl (yieldsIf_load_mid (by rfl) _ _ rfl _ _ rfl (iml mk pk) _ (fun W hW => hW.1.c) Tryz.underlying30 rfl (by kernel_rfl)) hHeld ?_
    simp only [Act.put, zA, zB, zC]
    refine tk 1 19 (.slice (some ⟨rb, ro, none⟩) ps.length cap) rfl rfl hHeld ?_
    simp only [Act.put, zA, zB, zC]
    refine tk 2 20 (.int .i64 (k : Int)) rfl rfl hHeld ?_
    simp only [Act.put, zA, zB, zC]
    refine tk 3 21 (.pointer (some ⟨rb, ro + k * 18, none⟩)) rfl rfl hHeld ?_
    simp only [Act.put, zA, zB, zC]
    refine tky 4 22 (_) rfl rfl (yieldsIf_load_mid (by rfl) _ _ rfl _ _ rfl (cel r) _ (fun W hW => hW.2) Tryz.underlying37 rfl (by kernel_rfl)) hHeld ?_
    simp only [Act.put, zA, zB, zC]
    refine wpAnyH_ready (rs := [5, 9]) (by kernel_rfl) (by simp) ?_
    refine AllReadyH.cons (o := _) rfl (fun K hK => ?_) (AllReadyH.cons (o := _) rfl (fun K hK => ?_) AllReadyH.nil)
    ·go_simp
     go_at_call 8
     refine (HAP.out V4 (Below.refl _ _)).mono ?_
     rintro e V6 ⟨p', rfl, him, hbx⟩
     go_wp2_with fail
     refine hK.out _ _ ⟨hHeld.1.below hbx, rg_bel hHeld.2 hbx⟩ (fun hHeld1 => ?_)
     clear hK K hHeld
     have hHeld := hHeld1
     clear hHeld1
     refine tky 6 17 (.tuple #[.agg (List.toArray [.slice p'.ab m'.br.length p'.cb, .slice p'.aq p'.ts.length p'.cq, .slice p'.ac m'.cf.length p'.cc, .slice p'.ad m'.dn.length p'.cd, .int .i64 m'.la]), .int .i64 c']) rfl rfl (Or.inl ⟨by rfl, by intro w hSw; unfold imv; go_simp⟩) hHeld ?_
     simp only [Act.put, zA, zB, zC]
     refine tk 7 24 (.agg (List.toArray [.slice p'.ab m'.br.length p'.cb, .slice p'.aq p'.ts.length p'.cq, .slice p'.ac m'.cf.length p'.cc, .slice p'.ad m'.dn.length p'.cd, .int .i64 m'.la])) rfl rfl hHeld ?_
     simp only [Act.put, zA, zB, zC]
     refine tk 8 25 (.int .i64 c') rfl rfl hHeld ?_
     simp only [Act.put, zA, zB, zC]
     refine wpAnyH_ready (rs := [9]) (by kernel_rfl) (by simp) ?_
     refine AllReadyH.cons (o := _) rfl (fun K hK => ?_) AllReadyH.nil
     go_simp
     refine hK.out _ _ ⟨hHeld.1.below (below_al1 _ _), rg_bel hHeld.2 (below_al1 _ _)⟩ (fun hHeld1 => ?_)
     clear hK K hHeld
     have hHeld := hHeld1
     clear hHeld1
     have hne : ¬ w.heap.size + 1 + 1 = V6.heap.size := fun e => by have := HL4.out.x.l; have := hbx.size; omega
     have hnr : ¬ rb = V6.heap.size := fun e => by have := HRR.out; have := HL4.out.b.size; have := hbx.size; omega
     have hzz := Bx.new V6 imzl 30
     have HLX := hide (HL4.out.one hbx him (hzz.set (iml m' p') rfl) (below_sets (Nat.le_refl _) (iml m' p') 0 _ (below_al1 V6 (.cells (List.toArray [Value.slice none 0 0, .slice none 0 0, .slice none 0 0, .slice none 0 0, .int .i64 0]) 30))))
     clear him hbx
     replace HLX : Hid (An w n0 ci zb (w.heap.size + 1 + 1) mk m' pk p' V6.heap.size ((V6.alloc (.cells (List.toArray [Value.slice none 0 0, .slice none 0 0, .slice none 0 0, .slice none 0 0, .int .i64 0]) 30)).setCells V6.heap.size 0 (iml m' p'))) := HLX
     replace hzz : Bx (V6.alloc (.cells (List.toArray [Value.slice none 0 0, .slice none 0 0, .slice none 0 0, .slice none 0 0, .int .i64 0]) 30)) V6.heap.size imzl := hzz
     generalize V6.alloc (.cells (List.toArray [Value.slice none 0 0, .slice none 0 0, .slice none 0 0, .slice none 0 0, .int .i64 0]) 30) = V7 at HLX hzz hHeld ⊢
     generalize V6.heap.size = gg at HLX hzz hne hnr ⊢
     refine wpAnyH_ready (rs := [10]) (by kernel_rfl) (by simp) ?_
     refine AllReadyH.cons (o := _) rfl (fun K hK => ?_) AllReadyH.nil
     obtain ⟨e0, e1, e2, e3, e4⟩ := hzz.c5
     have f0 := hzz.f 0 (by decide)
     have f1 := hzz.f 1 (by decide)
     have f2 := hzz.f 2 (by decide)
     have f3 := hzz.f 3 (by decide)
     have f4 := hzz.f 4 (by decide)
     go_simp
     clear e0 e1 e2 e3 e4 f0 f1 f2 f3 f4
     refine hK.out _ _ ⟨hHeld.1.apart hne (iml m' p') 0, rg_setr hHeld.2 hnr (iml m' p') 0⟩ (fun hHeld1 => ?_)
     clear hK K hHeld
     have hHeld := hHeld1
     clear hHeld1
     refine tk 11 9 (.int .i64 c') rfl rfl hHeld ?_
     simp only [Act.put, zA, zB, zC]
     refine wpAnyH_done (by kernel_rfl) ?_ _
     clear hHeld
     go_wp2_with fail
     go_meet
     exact ⟨gg, p', rfl, by rw [HAR.out], by rw [HAR.out]; exact HLX.out⟩
    ·go_simp
     refine hK.out _ _ ⟨hHeld.1.below (below_al1 _ _), rg_bel hHeld.2 (below_al1 _ _)⟩ (fun hHeld1 => ?_)
     clear hK K hHeld
     have hHeld := hHeld1
     clear hHeld1
     have HZB := hide (Bx.new V4 imzl 30)
     have HB5 := hide (below_al1 V4 (.cells (List.toArray [Value.slice none 0 0, .slice none 0 0, .slice none 0 0, .slice none 0 0, .int .i64 0]) 30))
     have HS5 : Hid (V4.heap.size < (V4.alloc (.cells (List.toArray [Value.slice none 0 0, .slice none 0 0, .slice none 0 0, .slice none 0 0, .int .i64 0]) 30)).heap.size) := hide (by simp)
     replace HZB : Hid (Bx (V4.alloc (.cells (List.toArray [Value.slice none 0 0, .slice none 0 0, .slice none 0 0, .slice none 0 0, .int .i64 0]) 30)) V4.heap.size imzl) := HZB
     generalize V4.alloc (.cells (List.toArray [Value.slice none 0 0, .slice none 0 0, .slice none 0 0, .slice none 0 0, .int .i64 0]) 30) = V5 at HZB HB5 HS5 hHeld ⊢
     refine wpAnyH_ready (rs := [5]) (by kernel_rfl) (by simp) ?_
     refine AllReadyH.cons (o := _) rfl (fun K hK => ?_) AllReadyH.nil
     go_simp
     go_at_call 8
     refine (HAP.out V5 HB5.out).mono ?_
     rintro e V6 ⟨p', rfl, him, hbx⟩
     go_wp2_with fail
     refine hK.out _ _ ⟨hHeld.1.below hbx, rg_bel hHeld.2 hbx⟩ (fun hHeld1 => ?_)
     clear hK K hHeld
     have hHeld := hHeld1
     clear hHeld1
     refine tky 6 17 (.tuple #[.agg (List.toArray [.slice p'.ab m'.br.length p'.cb, .slice p'.aq p'.ts.length p'.cq, .slice p'.ac m'.cf.length p'.cc, .slice p'.ad m'.dn.length p'.cd, .int .i64 m'.la]), .int .i64 c']) rfl rfl (Or.inl ⟨by rfl, by intro w hSw; unfold imv; go_simp⟩) hHeld ?_
     simp only [Act.put, zA, zB, zC]
     refine tk 7 24 (.agg (List.toArray [.slice p'.ab m'.br.length p'.cb, .slice p'.aq p'.ts.length p'.cq, .slice p'.ac m'.cf.length p'.cc, .slice p'.ad m'.dn.length p'.cd, .int .i64 m'.la])) rfl rfl hHeld ?_
     simp only [Act.put, zA, zB, zC]
     refine tk 8 25 (.int .i64 c') rfl rfl hHeld ?_
     simp only [Act.put, zA, zB, zC]
     have hzz := HZB.out.below hbx
     have hne : ¬ w.heap.size + 1 + 1 = V4.heap.size := fun e => by have := HL4.out.x.l; omega
     have hnr : ¬ rb = V4.heap.size := fun e => by have := HRR.out; have := HL4.out.b.size; omega
     have HLX := hide (HL4.out.two HB5.out HS5.out hbx him (hzz.set (iml m' p') rfl) (fun q xs e h => h.apart e _ 0) (fun A u e h => below_sets e _ 0 _ h) (fun g e => hp_sets e _ 0 _) (by rw [sz_sets]; exact Nat.le_refl _))
     clear him hbx
     generalize V4.heap.size = gg at HLX hzz hne hnr ⊢
     refine wpAnyH_ready (rs := [10]) (by kernel_rfl) (by simp) ?_
     refine AllReadyH.cons (o := _) rfl (fun K hK => ?_) AllReadyH.nil
     obtain ⟨e0, e1, e2, e3, e4⟩ := hzz.c5
     have f0 := hzz.f 0 (by decide)
     have f1 := hzz.f 1 (by decide)
     have f2 := hzz.f 2 (by decide)
     have f3 := hzz.f 3 (by decide)
     have f4 := hzz.f 4 (by decide)
     go_simp
     clear e0 e1 e2 e3 e4 f0 f1 f2 f3 f4
     refine hK.out _ _ ⟨hHeld.1.apart hne (iml m' p') 0, rg_setr hHeld.2 hnr (iml m' p') 0⟩ (fun hHeld1 => ?_)
     clear hK K hHeld
     have hHeld := hHeld1
     clear hHeld1
     refine tk 11 9 (.int .i64 c') rfl rfl hHeld ?_
     simp only [Act.put, zA, zB, zC]
     refine wpAnyH_done (by kernel_rfl) ?_ _
     clear hHeld
     go_wp2_with fail
     go_meet
     exact ⟨gg, p', rfl, by rw [HAR.out], by rw [HAR.out]; exact HLX.out⟩
   case rest =>
    obtain ⟨g, p', rfl, rfl, hlx⟩ := hcut
    have HLX := hide hlx
    clear hlx HA HRG HIS HTR HRB HWF
    generalize app mk r.1 = ar at HLX HW1 HAB HAS ⊢
    obtain ⟨m', c'⟩ := ar
    dsimp only at *
    by_cases hc : c' = 0
    ·subst hc
     obtain ⟨y0, y1, y2, y3, y4⟩ := HLX.out.y.im
     go_wp2_with (first | (refine wpList_load_mid rfl _ _ rfl _ _ rfl _ _ HLX.out.y.c Tryz.underlying30 rfl (by kernel_rfl) ?_) | (refine wpList_set rfl _ _ _ rfl _ _ rfl HLX.out.x (iml m' p') rfl rfl (by kernel_rfl) rfl ?_; intro W3 hz hk hb hp; have HLF := hide (HLX.out.next hz hk hb hp (hb 0 _ (Nat.zero_le _) (Below.refl _ _)).size); clear hz hk hb hp))
     go_roundw
     case rel => exact ⟨k + 1, m', p', by omega, by go_num, HLF.out, HW1.out, HAS.out rfl⟩
     case measure => simp [ivA]; omega
    ·have HAI := hide (HAB.out hc)
     have n1 : (c' != 0) = true := by simpa using hc
     clear hc HAB HAS
     have HIB : Hid (Bx wc w.heap.size (iml m p)) := hide (by have h := HLX.out.i; rw [HCI.out] at h; exact h)
     subst hzb
     go_wp2_with (first | (refine wpList_load_mid rfl _ _ rfl _ _ rfl _ _ HIB.out.c Tryz.underlying30 rfl (by kernel_rfl) ?_) | (refine wpList_set rfl _ _ _ rfl _ _ rfl HLX.out.z (iml m p) rfl rfl (by kernel_rfl) rfl ?_; intro W3 hz hk hb hp; have HBB := hide (hb _ _ (show w.heap.size ≤ w.heap.size + 1 by omega) HLX.out.b); have HZ := hide hz; clear hz hk hb hp))
     obtain ⟨q0, q1, q2, q3, q4⟩ := HZ.out.im
     exact bodyPost_ret (v := .tuple #[.agg (iml m p).toArray, .int .i64 c']) (by simp [results, Tryz.results13, go_sem, q0, q1, q2, q3, q4, iml]) rfl (show StD n0 w W3 (allI m (rcl ps)).1 (allI m (rcl ps)).2 _ by rw [HAI.out]; exact ⟨_, rfl, (fun W hW => HVV.out W _ HBB.out hW), HBB.out⟩)
  ·obtain rfl : k = ps.length := by omega
   have HAI := hide (all_end (m := m) (mk := mk) (hln.symm ▸ HAL.out))
   subst hzb
   go_wp2_with (first | (refine wpList_load_mid rfl _ _ rfl _ _ rfl _ _ HA.out.x.c Tryz.underlying30 rfl (by kernel_rfl) ?_) | (refine wpList_set rfl _ _ _ rfl _ _ rfl HA.out.z (iml mk pk) rfl rfl (by kernel_rfl) rfl ?_; intro W3 hz hk hb hp; have HBB := hide (hb _ _ (show w.heap.size ≤ w.heap.size + 1 by omega) HA.out.b); have HZ := hide hz; have HPP := hide hp; clear hz hk hb hp))
   obtain ⟨q0, q1, q2, q3, q4⟩ := HZ.out.im
   have HIF : Hid (∀ W, Agr n0 w.heap.size W3 W → ImR W mk pk) := hide (fun W hW => HA.out.r W (fun g hg => by
    rcases hg with hg | hg
    ·have := HA.out.n g hg
     exact (hW g (.inl hg)).trans (HPP.out g (by omega))
    ·exact (hW g (.inr (by omega))).trans (HPP.out g (by omega))))
   exact bodyPost_ret (v := .tuple #[.agg (iml mk pk).toArray, .int .i64 0]) (by simp [results, Tryz.results13, go_sem, q0, q1, q2, q3, q4, iml]) rfl (show StD n0 w W3 (allI m (rcl ps)).1 (allI m (rcl ps)).2 _ by rw [HAI.out]; exact ⟨pk, rfl, HIF.out, HBB.out⟩)
end Go.Proofs.YtlggjgapdpkhiaaGreatDoor
