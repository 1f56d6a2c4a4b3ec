/-
  A PARTITION IS REFUSED (image.replicate). Conditions: as for one that is made.
-/
import Derived.Test.YtlggjgapdpkhiaaGreatJKImKr
namespace Go.Proofs.YtlggjgapdpkhiaaGreat
open Go.RowKit
set_option maxRecDepth 100000 in
set_option maxHeartbeats 16000000 in
theorem replicate_err {ok : Nat → Prop} (m : Im) (p : Ip) (r : Rc) (v : Value) (w : World) (n0 : Nat → Prop) (hn0 : ∀ g, n0 g → g < w.heap.size) (hv : ∀ W, (∀ g, n0 g → W.heap[g]? = w.heap[g]?) → ImR W m p) (hw : Wf m 100000) (hr : IsR ok w v r) (_hk : r.k = 8 ∨ r.k = 9) (hok : WfP (ptOf r)) (h0 : 0 ≤ r.pa) (hS : (repP m r).2 ≠ 0) : Calls Tryz.prog 96 #[imv m p, v] w fun e w' => StP n0 w w' (repP m r).1 (repP m r).2 e := by
 obtain ⟨a14, a15, a16, a17, c14, c15, c16, c17, rfl, hrw⟩ := hr
 have Hv := Hd (fun (W W3 : World) (hb : Below w.heap.size w W3) (hW : Agr n0 w.heap.size W3 W) => hv W (fun g hg => (hW g (.inl hg)).trans (hb.block g (hn0 g hg))))
 clear hn0
 replace hv : ImR w m p := hv w (fun _ _ => rfl)
 have HV := Hd (fun W (h : Below w.heap.size w W) => hv.below h)
 have HFN := Hd (hv.fT r.tp)
 cases hf : p.ts.find? (idQ r.tp) with
 | none =>
  obtain ⟨ab, aq, ac, ad, cb, cq, cc, cd, ts⟩ := p
  have HF := Hd (fun W (h : Below w.heap.size w W) => findTopic_no m _ r.tp W (hv.below h) hw hf)
  have Hr : Hid (repP m r = (m, 8)) := Hd (by unfold repP; rw [HFN.out, hf]; rfl)
  rw [Hr.out]
  as_aux_lemma =>
   have HFR0 : Fr w m (⟨ab, aq, ac, ad, cb, cq, cc, cd, ts⟩ : Ip) (cR r a14 a15 a16 a17 c14 c15 c16 c17) imz (((w.alloc (.cells (List.toArray [Value.slice ab m.br.length cb, .slice aq ts.length cq, .slice ac m.cf.length cc, .slice ad m.dn.length cd, .int .i64 m.la]) 30)).alloc (.cells (List.toArray [Value.int .i64 r.k, .int .i64 r.br, .int .i64 r.ep, .int .i64 r.tp, .int .i64 r.pa, .int .i64 r.le, .int .i64 r.cl, .int .i64 r.se, .int .i64 r.co, .bool r.fl, .string ⟨r.nm.toArray⟩, .string ⟨r.ky.toArray⟩, .string ⟨r.va.toArray⟩, .string ⟨r.rk.toArray⟩, .slice a14 r.ids.length c14, .slice a15 r.isr.length c15, .slice a16 r.ad.length c16, .slice a17 r.dr.length c17]) 65)).alloc (.cells (List.toArray [Value.slice none 0 0, .slice none 0 0, .slice none 0 0, .slice none 0 0, .int .i64 0]) 30)) := Fr.mk0 w m _ _ _ _ _ (Below.refl _ _)
   clear hv hw hrw hf _hk hok h0 hS
   unfold imv
   dsimp only
   show Calls _ _ #[_, .agg (List.toArray [.int .i64 r.k, .int .i64 r.br, .int .i64 r.ep, .int .i64 r.tp, .int .i64 r.pa, .int .i64 r.le, .int .i64 r.cl, .int .i64 r.se, .int .i64 r.co, .bool r.fl, .string ⟨r.nm.toArray⟩, .string ⟨r.ky.toArray⟩, .string ⟨r.va.toArray⟩, .string ⟨r.rk.toArray⟩, .slice a14 r.ids.length c14, .slice a15 r.isr.length c15, .slice a16 r.ad.length c16, .slice a17 r.dr.length c17])] _ _
   go_enter Tryz.func96, Tryz.ntmps96
   go_upto_region 1 with fail
   generalize ((w.alloc (.cells (List.toArray [Value.slice ab m.br.length cb, .slice aq ts.length cq, .slice ac m.cf.length cc, .slice ad m.dn.length cd, .int .i64 m.la]) 30)).alloc (.cells (List.toArray [Value.int .i64 r.k, .int .i64 r.br, .int .i64 r.ep, .int .i64 r.tp, .int .i64 r.pa, .int .i64 r.le, .int .i64 r.cl, .int .i64 r.se, .int .i64 r.co, .bool r.fl, .string ⟨r.nm.toArray⟩, .string ⟨r.ky.toArray⟩, .string ⟨r.va.toArray⟩, .string ⟨r.rk.toArray⟩, .slice a14 r.ids.length c14, .slice a15 r.isr.length c15, .slice a16 r.ad.length c16, .slice a17 r.dr.length c17]) 65)).alloc (.cells (List.toArray [Value.slice none 0 0, .slice none 0 0, .slice none 0 0, .slice none 0 0, .int .i64 0]) 30) = X at HFR0 ⊢
   have Hf := Hd HFR0
   clear HFR0
   obtain ⟨i0, i1, i2, i3, i4⟩ := Hf.out.i.imx; have r0 := Hf.out.r.at 0 _ rfl; have r2 := Hf.out.r.at 2 _ rfl; have r3 := Hf.out.r.at 3 _ rfl; have r4 := Hf.out.r.at 4 _ rfl; have r5 := Hf.out.r.at 5 _ rfl; have r14 := Hf.out.r.at 14 _ rfl; have r15 := Hf.out.r.at 15 _ rfl; have r16 := Hf.out.r.at 16 _ rfl; have r17 := Hf.out.r.at 17 _ rfl
   unfold imv at HF
   dsimp only at HF
   go_wp2_with (first | (first | (refine wpList_load_mid rfl _ _ rfl _ _ rfl _ _ Hf.out.i.c Tryz.underlying30 rfl (by kernel_rfl) ?_) | (refine wpList_load_mid rfl _ _ rfl _ _ rfl _ _ Hf.out.r.c Tryz.underlying65 rfl (by kernel_rfl) ?_) | (go_at_call 37; refine (HF.out _ Hf.out.b).mono ?_; rintro e wx ⟨i9, _, _, rfl, hbx⟩; replace Hf := Hd (Hf.out.below hbx); clear i0 i1 i2 i3 i4 r0 r2 r3 r4 r5 r14 r15 r16 r17; clear hbx HF; obtain ⟨i0, i1, i2, i3, i4⟩ := Hf.out.i.imx; have r0 := Hf.out.r.at 0 _ rfl; have r2 := Hf.out.r.at 2 _ rfl; have r3 := Hf.out.r.at 3 _ rfl; have r4 := Hf.out.r.at 4 _ rfl; have r5 := Hf.out.r.at 5 _ rfl; have r14 := Hf.out.r.at 14 _ rfl; have r15 := Hf.out.r.at 15 _ rfl; have r16 := Hf.out.r.at 16 _ rfl; have r17 := Hf.out.r.at 17 _ rfl)) | (refine wS rfl _ _ _ rfl _ _ rfl Hf.out.z (iml m (⟨ab, aq, ac, ad, cb, cq, cc, cd, ts⟩ : Ip)) rfl rfl (by kernel_rfl) rfl ?_; intro W3 hz _hk hb hp; have Ho := Hd (Hf.out.out hz _hk hb); clear hz _hk hb hp))
   obtain ⟨q0, q1, q2, q3, q4⟩ := Ho.out.z.imx
   exact bodyPost_ret (v := .tuple #[.agg (iml m (⟨ab, aq, ac, ad, cb, cq, cc, cd, ts⟩ : Ip)).toArray, .iface 67 (.int .i64 8)]) (by simp [results, Tryz.results96, go_sem, q0, q1, q2, q3, q4, iml]) rfl (st_ret Ho.out (fun W hW => Hv.out W _ Ho.out.b hW) (erc_code (by decide)))
 | some t =>
  have htm := List.mem_of_find?_eq_some hf
  have hne : 0 < p.ts.length := List.length_pos_of_mem htm
  have HID : Hid (t.id = r.tp) := Hd (by have := List.find?_some hf; simpa [idQ] using this)
  obtain ⟨bb, oo, hab, hrg⟩ := hv.t.rg hne
  obtain ⟨ab, aq, ac, ad, cb, cq, cc, cd, ts⟩ := p
  simp only at hab
  subst hab
  have HRW := Hd hrg
  have HLT : Hid (ts.length ≤ 100000) := Hd (by have := hv.len; simp only at this; rw [this]; exact hw.nt)
  have HF := Hd (fun W (h : Below w.heap.size w W) => findTopic_yes m _ r.tp W (hv.below h) hw t hf)
  have HAL := Hd (fun W (h : Below w.heap.size w W) => Alone_any (ptOf r, ⟨a14, a15, a16, a17, c14, c15, c16, c17⟩) W ⟨hrw.h14.sl.below h, hrw.h15.sl.below h, hrw.h16.sl.below h, hrw.h17.sl.below h⟩ hok)
  have HMA := Hd (fun W (h : Below w.heap.size w W) (q : Pp) (hq : PtR W q) (e : q.1 = ptOf r) => (e ▸ may_any m _ q W (hv.below h) hw hq (e ▸ hok) : Calls Tryz.prog 123 #[imv m _, .agg (ptc q).toArray] W fun e w' => ∃ E, e = .returned E ∧ Erc (right m.br (ptOf r)) E ∧ Below W.heap.size W w'))
  have HFW := Hd (fun W (h : Below w.heap.size w W) (q : Pp) (hq : PtR W q) (e : q.1 = ptOf r) => (e ▸ follows_any t.ps (.slice t.a t.ps.length t.c) q r a14 a15 a16 a17 c14 c15 c16 c17 W (((hv.below h).q t htm).ps) (fun o ho => ⟨((hv.below h).q t htm).pt o ho, hv.wp hw htm ho⟩) hq h0 (hv.np hw htm) : Calls Tryz.prog 124 #[_, .agg (cR r a14 a15 a16 a17 c14 c15 c16 c17).toArray, .agg (ptc q).toArray] W fun e w' => ∃ E, e = .returned E ∧ Erc (folP (t.ps.map (·.1)) r (ptOf r)) E ∧ Below W.heap.size W w'))
  have HRP : Hid (repP m r = if right m.br (ptOf r) = 0 then (if folP (t.ps.map (·.1)) r (ptOf r) = 0 then ({ m with ts := setT m.ts r.tp (putP (t.ps.map (·.1)) r.pa.toNat (ptOf r)) }, 0) else (m, folP (t.ps.map (·.1)) r (ptOf r))) else (m, right m.br (ptOf r))) := Hd (by unfold repP; rw [HFN.out, hf]; rfl)
  by_cases hR : right m.br (ptOf r) = 0
  ·have HRG := Hd hR
   by_cases hP : folP (t.ps.map (·.1)) r (ptOf r) = 0
   ·exact absurd (by rw [HRP.out, if_pos hR, if_pos hP]) hS
   ·have HNF := Hd hP
    have Hr : Hid (repP m r = (m, folP (t.ps.map (·.1)) r (ptOf r))) := Hd (by rw [HRP.out, if_pos hR, if_neg hP])
    rw [Hr.out]
    clear hR hP
    as_aux_lemma =>
     have HFR0 : Fr w m (⟨ab, some ⟨bb, oo, none⟩, ac, ad, cb, cq, cc, cd, ts⟩ : Ip) (cR r a14 a15 a16 a17 c14 c15 c16 c17) imz (((w.alloc (.cells (List.toArray [Value.slice ab m.br.length cb, .slice (some ⟨bb, oo, none⟩) ts.length cq, .slice ac m.cf.length cc, .slice ad m.dn.length cd, .int .i64 m.la]) 30)).alloc (.cells (List.toArray [Value.int .i64 r.k, .int .i64 r.br, .int .i64 r.ep, .int .i64 r.tp, .int .i64 r.pa, .int .i64 r.le, .int .i64 r.cl, .int .i64 r.se, .int .i64 r.co, .bool r.fl, .string ⟨r.nm.toArray⟩, .string ⟨r.ky.toArray⟩, .string ⟨r.va.toArray⟩, .string ⟨r.rk.toArray⟩, .slice a14 r.ids.length c14, .slice a15 r.isr.length c15, .slice a16 r.ad.length c16, .slice a17 r.dr.length c17]) 65)).alloc (.cells (List.toArray [Value.slice none 0 0, .slice none 0 0, .slice none 0 0, .slice none 0 0, .int .i64 0]) 30)) := Fr.mk0 w m _ _ _ _ _ (Below.refl _ _)
     clear hv hw hrw hf hrg _hk hok h0 hS
     unfold imv
     dsimp only
     show Calls _ _ #[_, .agg (List.toArray [.int .i64 r.k, .int .i64 r.br, .int .i64 r.ep, .int .i64 r.tp, .int .i64 r.pa, .int .i64 r.le, .int .i64 r.cl, .int .i64 r.se, .int .i64 r.co, .bool r.fl, .string ⟨r.nm.toArray⟩, .string ⟨r.ky.toArray⟩, .string ⟨r.va.toArray⟩, .string ⟨r.rk.toArray⟩, .slice a14 r.ids.length c14, .slice a15 r.isr.length c15, .slice a16 r.ad.length c16, .slice a17 r.dr.length c17])] _ _
     go_enter Tryz.func96, Tryz.ntmps96
     go_upto_region 1 with fail
     generalize ((w.alloc (.cells (List.toArray [Value.slice ab m.br.length cb, .slice (some ⟨bb, oo, none⟩) ts.length cq, .slice ac m.cf.length cc, .slice ad m.dn.length cd, .int .i64 m.la]) 30)).alloc (.cells (List.toArray [Value.int .i64 r.k, .int .i64 r.br, .int .i64 r.ep, .int .i64 r.tp, .int .i64 r.pa, .int .i64 r.le, .int .i64 r.cl, .int .i64 r.se, .int .i64 r.co, .bool r.fl, .string ⟨r.nm.toArray⟩, .string ⟨r.ky.toArray⟩, .string ⟨r.va.toArray⟩, .string ⟨r.rk.toArray⟩, .slice a14 r.ids.length c14, .slice a15 r.isr.length c15, .slice a16 r.ad.length c16, .slice a17 r.dr.length c17]) 65)).alloc (.cells (List.toArray [Value.slice none 0 0, .slice none 0 0, .slice none 0 0, .slice none 0 0, .int .i64 0]) 30) = X at HFR0 ⊢
     have Hf := Hd HFR0
     clear HFR0
     obtain ⟨i0, i1, i2, i3, i4⟩ := Hf.out.i.imx; have r0 := Hf.out.r.at 0 _ rfl; have r2 := Hf.out.r.at 2 _ rfl; have r3 := Hf.out.r.at 3 _ rfl; have r4 := Hf.out.r.at 4 _ rfl; have r5 := Hf.out.r.at 5 _ rfl; have r14 := Hf.out.r.at 14 _ rfl; have r15 := Hf.out.r.at 15 _ rfl; have r16 := Hf.out.r.at 16 _ rfl; have r17 := Hf.out.r.at 17 _ rfl
     unfold imv ptc at HMA
     unfold imv at HF
     unfold ptc at HAL
     unfold ptc cR at HFW
     dsimp only at HF HMA HAL HFW
     go_upto_region 4 with (first | (refine wpList_load_mid rfl _ _ rfl _ _ rfl _ _ Hf.out.i.c Tryz.underlying30 rfl (by kernel_rfl) ?_) | (refine wpList_load_mid rfl _ _ rfl _ _ rfl _ _ Hf.out.r.c Tryz.underlying65 rfl (by kernel_rfl) ?_) | (go_at_call 37; refine (HF.out _ Hf.out.b).mono ?_; rintro e wx ⟨i, hi, hib, hins, hrem, hlo, hhi, rfl, hbx⟩; have HIB := Hd hib; have HLO := Hd hlo; have HHI := Hd hhi; replace Hf := Hd (Hf.out.below hbx); clear i0 i1 i2 i3 i4 r0 r2 r3 r4 r5 r14 r15 r16 r17; clear hbx HF hins hrem hib hlo hhi; obtain ⟨i0, i1, i2, i3, i4⟩ := Hf.out.i.imx; have r0 := Hf.out.r.at 0 _ rfl; have r2 := Hf.out.r.at 2 _ rfl; have r3 := Hf.out.r.at 3 _ rfl; have r4 := Hf.out.r.at 4 _ rfl; have r5 := Hf.out.r.at 5 _ rfl; have r14 := Hf.out.r.at 14 _ rfl; have r15 := Hf.out.r.at 15 _ rfl; have r16 := Hf.out.r.at 16 _ rfl; have r17 := Hf.out.r.at 17 _ rfl))
     have hiI : (i : Int) < (ts.length : Int) := Int.ofNat_lt.2 hi
     go_upto_region 5 with (first | (refine wpList_load_mid rfl _ _ rfl _ _ rfl _ _ Hf.out.i.c Tryz.underlying30 rfl (by kernel_rfl) ?_) | (refine wpList_load_mid rfl _ _ rfl _ _ rfl _ _ Hf.out.r.c Tryz.underlying65 rfl (by kernel_rfl) ?_) | (go_at_call 21; refine (HAL.out _ Hf.out.b).mono ?_; rintro e wa ⟨q, hq1, rfl, hqo, hba⟩; have HQ1 := Hd hq1; have HQO := Hd (hqo.mono Hf.out.sz); replace Hf := Hd (Hf.out.below hba); clear i0 i1 i2 i3 i4 r0 r2 r3 r4 r5 r14 r15 r16 r17; clear hba HAL hq1 hqo))
     have HBQ := Hd (Bx.new wa [.slice q.2.a0 q.1.ids.length q.2.c0, .slice q.2.a1 q.1.isr.length q.2.c1, .int .i64 q.1.ld, .int .i64 q.1.ep, .slice q.2.a2 q.1.ad.length q.2.c2, .slice q.2.a3 q.1.dr.length q.2.c3] 44)
     have HWA := Hd (bA wa (.cells (List.toArray [Value.slice q.2.a0 q.1.ids.length q.2.c0, .slice q.2.a1 q.1.isr.length q.2.c1, .int .i64 q.1.ld, .int .i64 q.1.ep, .slice q.2.a2 q.1.ad.length q.2.c2, .slice q.2.a3 q.1.dr.length q.2.c3]) 44))
     have HNB := Hd Hf.out.sz
     replace Hf := Hd (Hf.out.below (bA wa (.cells (List.toArray [Value.slice q.2.a0 q.1.ids.length q.2.c0, .slice q.2.a1 q.1.isr.length q.2.c1, .int .i64 q.1.ld, .int .i64 q.1.ep, .slice q.2.a2 q.1.ad.length q.2.c2, .slice q.2.a3 q.1.dr.length q.2.c3]) 44)))
     generalize wa.alloc (.cells (List.toArray [Value.slice q.2.a0 q.1.ids.length q.2.c0, .slice q.2.a1 q.1.isr.length q.2.c1, .int .i64 q.1.ld, .int .i64 q.1.ep, .slice q.2.a2 q.1.ad.length q.2.c2, .slice q.2.a3 q.1.dr.length q.2.c3]) 44) = Y at Hf HBQ HWA ⊢
     obtain ⟨nb, hnb⟩ : ∃ nb, nb = wa.heap.size := ⟨_, rfl⟩
     rw [← hnb] at HBQ HNB ⊢
     have HNE := Hd hnb
     clear hnb
     obtain ⟨i0, i1, i2, i3, i4⟩ := Hf.out.i.imx; have r0 := Hf.out.r.at 0 _ rfl; have r2 := Hf.out.r.at 2 _ rfl; have r3 := Hf.out.r.at 3 _ rfl; have r4 := Hf.out.r.at 4 _ rfl; have r5 := Hf.out.r.at 5 _ rfl; have r14 := Hf.out.r.at 14 _ rfl; have r15 := Hf.out.r.at 15 _ rfl; have r16 := Hf.out.r.at 16 _ rfl; have r17 := Hf.out.r.at 17 _ rfl
     obtain ⟨y0, y1, y2, y3, y4, y5⟩ := HBQ.out.c6
     go_upto_region 8 with (first | (refine wpList_load_mid rfl _ _ rfl _ _ rfl _ _ Hf.out.i.c Tryz.underlying30 rfl (by kernel_rfl) ?_) | (refine wpList_load_mid rfl _ _ rfl _ _ rfl _ _ Hf.out.r.c Tryz.underlying65 rfl (by kernel_rfl) ?_) | (go_at_call 123; refine (HMA.out _ Hf.out.b q (HQO.out.keep (fun g _ hg => HWA.out.block g hg)).pt HQ1.out).mono ?_; rintro e wm ⟨E, rfl, hE, hbm⟩; rw [HRG.out] at hE; obtain rfl := erc0 hE; clear hE; replace Hf := Hd (Hf.out.below hbm); replace HBQ := Hd (HBQ.out.below hbm); replace HWA := Hd (HWA.out.trans (hbm.mono HWA.out.size)); clear i0 i1 i2 i3 i4 r0 r2 r3 r4 r5 r14 r15 r16 r17; clear y0 y1 y2 y3 y4 y5; clear hbm HMA; obtain ⟨i0, i1, i2, i3, i4⟩ := Hf.out.i.imx; have r0 := Hf.out.r.at 0 _ rfl; have r2 := Hf.out.r.at 2 _ rfl; have r3 := Hf.out.r.at 3 _ rfl; have r4 := Hf.out.r.at 4 _ rfl; have r5 := Hf.out.r.at 5 _ rfl; have r14 := Hf.out.r.at 14 _ rfl; have r15 := Hf.out.r.at 15 _ rfl; have r16 := Hf.out.r.at 16 _ rfl; have r17 := Hf.out.r.at 17 _ rfl; obtain ⟨y0, y1, y2, y3, y4, y5⟩ := HBQ.out.c6))
     have HE : Hid (wm.rangeAt bb (oo + i * 3) [.int .i64 t.id, .string ⟨t.nm.toArray⟩, .slice t.a t.ps.length t.c]) := Hd (by have := rg_bel (fm_at encT HRW.out hi) Hf.out.b; rw [HIB.out] at this; exact this)
     go_upto_region 9 with (refine wpList_load_mid rfl _ _ rfl _ _ rfl _ _ HE.out Tryz.underlying38 rfl (by kernel_rfl) ?_)
     clear i0 i1 i2 i3 i4 r0 r2 r3 r4 r5 r14 r15 r16 r17
     clear y0 y1 y2 y3 y4 y5
     have HNT : Hid (nb < wm.heap.size) := Hd HBQ.out.l
     have HBT := Hd (Bx.new wm [.int .i64 t.id, .string ⟨t.nm.toArray⟩, .slice t.a t.ps.length t.c] 38)
     replace HBQ := Hd (HBQ.out.alloc (.cells (List.toArray [Value.int .i64 t.id, .string ⟨t.nm.toArray⟩, .slice t.a t.ps.length t.c]) 38))
     replace HWA := Hd (HWA.out.trans ((bA wm (.cells (List.toArray [Value.int .i64 t.id, .string ⟨t.nm.toArray⟩, .slice t.a t.ps.length t.c]) 38)).mono HWA.out.size))
     replace Hf := Hd (Hf.out.below (bA wm (.cells (List.toArray [Value.int .i64 t.id, .string ⟨t.nm.toArray⟩, .slice t.a t.ps.length t.c]) 38)))
     generalize wm.alloc (.cells (List.toArray [Value.int .i64 t.id, .string ⟨t.nm.toArray⟩, .slice t.a t.ps.length t.c]) 38) = Z at Hf HBQ HBT HWA ⊢
     clear HE
     generalize wm.heap.size = nt at HBT HNT ⊢
     obtain ⟨i0, i1, i2, i3, i4⟩ := Hf.out.i.imx; have r0 := Hf.out.r.at 0 _ rfl; have r2 := Hf.out.r.at 2 _ rfl; have r3 := Hf.out.r.at 3 _ rfl; have r4 := Hf.out.r.at 4 _ rfl; have r5 := Hf.out.r.at 5 _ rfl; have r14 := Hf.out.r.at 14 _ rfl; have r15 := Hf.out.r.at 15 _ rfl; have r16 := Hf.out.r.at 16 _ rfl; have r17 := Hf.out.r.at 17 _ rfl
     obtain ⟨y0, y1, y2, y3, y4, y5⟩ := HBQ.out.c6
     obtain ⟨t0, t1, t2⟩ := HBT.out.c3
     go_wp2_with (first | (first | (refine wpList_load_mid rfl _ _ rfl _ _ rfl _ _ Hf.out.i.c Tryz.underlying30 rfl (by kernel_rfl) ?_) | (refine wpList_load_mid rfl _ _ rfl _ _ rfl _ _ Hf.out.r.c Tryz.underlying65 rfl (by kernel_rfl) ?_) | (go_at_call 124; refine (HFW.out _ Hf.out.b q (HQO.out.keep (fun g _ hg => HWA.out.block g hg)).pt HQ1.out).mono ?_; rintro e wf ⟨E, rfl, hE, hbm⟩; obtain ⟨ty, ev, rfl⟩ := ercN hE HNF.out; have HEE := Hd hE; clear hE; replace Hf := Hd (Hf.out.below hbm); replace HBQ := Hd (HBQ.out.below hbm); replace HBT := Hd (HBT.out.below hbm); replace HWA := Hd (HWA.out.trans (hbm.mono HWA.out.size)); clear i0 i1 i2 i3 i4 r0 r2 r3 r4 r5 r14 r15 r16 r17; clear y0 y1 y2 y3 y4 y5; clear t0 t1 t2; clear hbm HFW; obtain ⟨i0, i1, i2, i3, i4⟩ := Hf.out.i.imx; have r0 := Hf.out.r.at 0 _ rfl; have r2 := Hf.out.r.at 2 _ rfl; have r3 := Hf.out.r.at 3 _ rfl; have r4 := Hf.out.r.at 4 _ rfl; have r5 := Hf.out.r.at 5 _ rfl; have r14 := Hf.out.r.at 14 _ rfl; have r15 := Hf.out.r.at 15 _ rfl; have r16 := Hf.out.r.at 16 _ rfl; have r17 := Hf.out.r.at 17 _ rfl; obtain ⟨y0, y1, y2, y3, y4, y5⟩ := HBQ.out.c6; obtain ⟨t0, t1, t2⟩ := HBT.out.c3)) | (refine wS rfl _ _ _ rfl _ _ rfl Hf.out.z (iml m (⟨ab, some ⟨bb, oo, none⟩, ac, ad, cb, cq, cc, cd, ts⟩ : Ip)) rfl rfl (by kernel_rfl) rfl ?_; intro W3 hz _hk hb hp; have Ho := Hd (Hf.out.out hz _hk hb); clear hz _hk hb hp))
     obtain ⟨q0, q1, q2, q3, q4⟩ := Ho.out.z.imx
     exact bodyPost_ret (v := .tuple #[.agg (iml m (⟨ab, some ⟨bb, oo, none⟩, ac, ad, cb, cq, cc, cd, ts⟩ : Ip)).toArray, .iface ty ev]) (by simp [results, Tryz.results96, go_sem, q0, q1, q2, q3, q4, iml]) rfl (st_ret Ho.out (fun W hW => Hv.out W _ Ho.out.b hW) (HEE.out))
  ·have HNR := Hd hR
   have Hr : Hid (repP m r = (m, right m.br (ptOf r))) := Hd (by rw [HRP.out, if_neg hR])
   rw [Hr.out]
   clear hR
   as_aux_lemma =>
    have HFR0 : Fr w m (⟨ab, some ⟨bb, oo, none⟩, ac, ad, cb, cq, cc, cd, ts⟩ : Ip) (cR r a14 a15 a16 a17 c14 c15 c16 c17) imz (((w.alloc (.cells (List.toArray [Value.slice ab m.br.length cb, .slice (some ⟨bb, oo, none⟩) ts.length cq, .slice ac m.cf.length cc, .slice ad m.dn.length cd, .int .i64 m.la]) 30)).alloc (.cells (List.toArray [Value.int .i64 r.k, .int .i64 r.br, .int .i64 r.ep, .int .i64 r.tp, .int .i64 r.pa, .int .i64 r.le, .int .i64 r.cl, .int .i64 r.se, .int .i64 r.co, .bool r.fl, .string ⟨r.nm.toArray⟩, .string ⟨r.ky.toArray⟩, .string ⟨r.va.toArray⟩, .string ⟨r.rk.toArray⟩, .slice a14 r.ids.length c14, .slice a15 r.isr.length c15, .slice a16 r.ad.length c16, .slice a17 r.dr.length c17]) 65)).alloc (.cells (List.toArray [Value.slice none 0 0, .slice none 0 0, .slice none 0 0, .slice none 0 0, .int .i64 0]) 30)) := Fr.mk0 w m _ _ _ _ _ (Below.refl _ _)
    clear hv hw hrw hf hrg _hk hok h0 hS
    unfold imv
    dsimp only
    show Calls _ _ #[_, .agg (List.toArray [.int .i64 r.k, .int .i64 r.br, .int .i64 r.ep, .int .i64 r.tp, .int .i64 r.pa, .int .i64 r.le, .int .i64 r.cl, .int .i64 r.se, .int .i64 r.co, .bool r.fl, .string ⟨r.nm.toArray⟩, .string ⟨r.ky.toArray⟩, .string ⟨r.va.toArray⟩, .string ⟨r.rk.toArray⟩, .slice a14 r.ids.length c14, .slice a15 r.isr.length c15, .slice a16 r.ad.length c16, .slice a17 r.dr.length c17])] _ _
    go_enter Tryz.func96, Tryz.ntmps96
    go_upto_region 1 with fail
    generalize ((w.alloc (.cells (List.toArray [Value.slice ab m.br.length cb, .slice (some ⟨bb, oo, none⟩) ts.length cq, .slice ac m.cf.length cc, .slice ad m.dn.length cd, .int .i64 m.la]) 30)).alloc (.cells (List.toArray [Value.int .i64 r.k, .int .i64 r.br, .int .i64 r.ep, .int .i64 r.tp, .int .i64 r.pa, .int .i64 r.le, .int .i64 r.cl, .int .i64 r.se, .int .i64 r.co, .bool r.fl, .string ⟨r.nm.toArray⟩, .string ⟨r.ky.toArray⟩, .string ⟨r.va.toArray⟩, .string ⟨r.rk.toArray⟩, .slice a14 r.ids.length c14, .slice a15 r.isr.length c15, .slice a16 r.ad.length c16, .slice a17 r.dr.length c17]) 65)).alloc (.cells (List.toArray [Value.slice none 0 0, .slice none 0 0, .slice none 0 0, .slice none 0 0, .int .i64 0]) 30) = X at HFR0 ⊢
    have Hf := Hd HFR0
    clear HFR0
    obtain ⟨i0, i1, i2, i3, i4⟩ := Hf.out.i.imx; have r0 := Hf.out.r.at 0 _ rfl; have r2 := Hf.out.r.at 2 _ rfl; have r3 := Hf.out.r.at 3 _ rfl; have r4 := Hf.out.r.at 4 _ rfl; have r5 := Hf.out.r.at 5 _ rfl; have r14 := Hf.out.r.at 14 _ rfl; have r15 := Hf.out.r.at 15 _ rfl; have r16 := Hf.out.r.at 16 _ rfl; have r17 := Hf.out.r.at 17 _ rfl
    unfold imv ptc at HMA
    unfold imv at HF
    unfold ptc at HAL
    unfold ptc cR at HFW
    dsimp only at HF HMA HAL HFW
    go_upto_region 4 with (first | (refine wpList_load_mid rfl _ _ rfl _ _ rfl _ _ Hf.out.i.c Tryz.underlying30 rfl (by kernel_rfl) ?_) | (refine wpList_load_mid rfl _ _ rfl _ _ rfl _ _ Hf.out.r.c Tryz.underlying65 rfl (by kernel_rfl) ?_) | (go_at_call 37; refine (HF.out _ Hf.out.b).mono ?_; rintro e wx ⟨i, hi, hib, hins, hrem, hlo, hhi, rfl, hbx⟩; have HIB := Hd hib; have HLO := Hd hlo; have HHI := Hd hhi; replace Hf := Hd (Hf.out.below hbx); clear i0 i1 i2 i3 i4 r0 r2 r3 r4 r5 r14 r15 r16 r17; clear hbx HF hins hrem hib hlo hhi; obtain ⟨i0, i1, i2, i3, i4⟩ := Hf.out.i.imx; have r0 := Hf.out.r.at 0 _ rfl; have r2 := Hf.out.r.at 2 _ rfl; have r3 := Hf.out.r.at 3 _ rfl; have r4 := Hf.out.r.at 4 _ rfl; have r5 := Hf.out.r.at 5 _ rfl; have r14 := Hf.out.r.at 14 _ rfl; have r15 := Hf.out.r.at 15 _ rfl; have r16 := Hf.out.r.at 16 _ rfl; have r17 := Hf.out.r.at 17 _ rfl))
    have hiI : (i : Int) < (ts.length : Int) := Int.ofNat_lt.2 hi
    go_upto_region 5 with (first | (refine wpList_load_mid rfl _ _ rfl _ _ rfl _ _ Hf.out.i.c Tryz.underlying30 rfl (by kernel_rfl) ?_) | (refine wpList_load_mid rfl _ _ rfl _ _ rfl _ _ Hf.out.r.c Tryz.underlying65 rfl (by kernel_rfl) ?_) | (go_at_call 21; refine (HAL.out _ Hf.out.b).mono ?_; rintro e wa ⟨q, hq1, rfl, hqo, hba⟩; have HQ1 := Hd hq1; have HQO := Hd (hqo.mono Hf.out.sz); replace Hf := Hd (Hf.out.below hba); clear i0 i1 i2 i3 i4 r0 r2 r3 r4 r5 r14 r15 r16 r17; clear hba HAL hq1 hqo))
    have HBQ := Hd (Bx.new wa [.slice q.2.a0 q.1.ids.length q.2.c0, .slice q.2.a1 q.1.isr.length q.2.c1, .int .i64 q.1.ld, .int .i64 q.1.ep, .slice q.2.a2 q.1.ad.length q.2.c2, .slice q.2.a3 q.1.dr.length q.2.c3] 44)
    have HWA := Hd (bA wa (.cells (List.toArray [Value.slice q.2.a0 q.1.ids.length q.2.c0, .slice q.2.a1 q.1.isr.length q.2.c1, .int .i64 q.1.ld, .int .i64 q.1.ep, .slice q.2.a2 q.1.ad.length q.2.c2, .slice q.2.a3 q.1.dr.length q.2.c3]) 44))
    have HNB := Hd Hf.out.sz
    replace Hf := Hd (Hf.out.below (bA wa (.cells (List.toArray [Value.slice q.2.a0 q.1.ids.length q.2.c0, .slice q.2.a1 q.1.isr.length q.2.c1, .int .i64 q.1.ld, .int .i64 q.1.ep, .slice q.2.a2 q.1.ad.length q.2.c2, .slice q.2.a3 q.1.dr.length q.2.c3]) 44)))
    generalize wa.alloc (.cells (List.toArray [Value.slice q.2.a0 q.1.ids.length q.2.c0, .slice q.2.a1 q.1.isr.length q.2.c1, .int .i64 q.1.ld, .int .i64 q.1.ep, .slice q.2.a2 q.1.ad.length q.2.c2, .slice q.2.a3 q.1.dr.length q.2.c3]) 44) = Y at Hf HBQ HWA ⊢
    obtain ⟨nb, hnb⟩ : ∃ nb, nb = wa.heap.size := ⟨_, rfl⟩
    rw [← hnb] at HBQ HNB ⊢
    have HNE := Hd hnb
    clear hnb
    obtain ⟨i0, i1, i2, i3, i4⟩ := Hf.out.i.imx; have r0 := Hf.out.r.at 0 _ rfl; have r2 := Hf.out.r.at 2 _ rfl; have r3 := Hf.out.r.at 3 _ rfl; have r4 := Hf.out.r.at 4 _ rfl; have r5 := Hf.out.r.at 5 _ rfl; have r14 := Hf.out.r.at 14 _ rfl; have r15 := Hf.out.r.at 15 _ rfl; have r16 := Hf.out.r.at 16 _ rfl; have r17 := Hf.out.r.at 17 _ rfl
    obtain ⟨y0, y1, y2, y3, y4, y5⟩ := HBQ.out.c6
    go_wp2_with (first | (first | (refine wpList_load_mid rfl _ _ rfl _ _ rfl _ _ Hf.out.i.c Tryz.underlying30 rfl (by kernel_rfl) ?_) | (refine wpList_load_mid rfl _ _ rfl _ _ rfl _ _ Hf.out.r.c Tryz.underlying65 rfl (by kernel_rfl) ?_) | (go_at_call 123; refine (HMA.out _ Hf.out.b q (HQO.out.keep (fun g _ hg => HWA.out.block g hg)).pt HQ1.out).mono ?_; rintro e wm ⟨E, rfl, hE, hbm⟩; obtain ⟨ty, ev, rfl⟩ := ercN hE HNR.out; have HEE := Hd hE; clear hE; replace Hf := Hd (Hf.out.below hbm); replace HBQ := Hd (HBQ.out.below hbm); replace HWA := Hd (HWA.out.trans (hbm.mono HWA.out.size)); clear i0 i1 i2 i3 i4 r0 r2 r3 r4 r5 r14 r15 r16 r17; clear y0 y1 y2 y3 y4 y5; clear hbm HMA; obtain ⟨i0, i1, i2, i3, i4⟩ := Hf.out.i.imx; have r0 := Hf.out.r.at 0 _ rfl; have r2 := Hf.out.r.at 2 _ rfl; have r3 := Hf.out.r.at 3 _ rfl; have r4 := Hf.out.r.at 4 _ rfl; have r5 := Hf.out.r.at 5 _ rfl; have r14 := Hf.out.r.at 14 _ rfl; have r15 := Hf.out.r.at 15 _ rfl; have r16 := Hf.out.r.at 16 _ rfl; have r17 := Hf.out.r.at 17 _ rfl; obtain ⟨y0, y1, y2, y3, y4, y5⟩ := HBQ.out.c6)) | (refine wS rfl _ _ _ rfl _ _ rfl Hf.out.z (iml m (⟨ab, some ⟨bb, oo, none⟩, ac, ad, cb, cq, cc, cd, ts⟩ : Ip)) rfl rfl (by kernel_rfl) rfl ?_; intro W3 hz _hk hb hp; have Ho := Hd (Hf.out.out hz _hk hb); clear hz _hk hb hp))
    obtain ⟨q0, q1, q2, q3, q4⟩ := Ho.out.z.imx
    exact bodyPost_ret (v := .tuple #[.agg (iml m (⟨ab, some ⟨bb, oo, none⟩, ac, ad, cb, cq, cc, cd, ts⟩ : Ip)).toArray, .iface ty ev]) (by simp [results, Tryz.results96, go_sem, q0, q1, q2, q3, q4, iml]) rfl (st_ret Ho.out (fun W hW => Hv.out W _ Ho.out.b hW) (HEE.out))
end Go.Proofs.YtlggjgapdpkhiaaGreat
