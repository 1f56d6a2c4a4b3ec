/-
  A PARTITION IS MADE ANOTHER ONE (image.replicate). Conditions: as for one that is made.
-/
import Derived.Test.YtlggjgapdpkhiaaGreatJKImKr
namespace Go.Proofs.YtlggjgapdpkhiaaGreat
open Go.RowKit
set_option maxRecDepth 100000 in
set_option maxHeartbeats 16000000 in
theorem replicate_old {ok : Nat → Prop} (m : Im) (p : Ip) (r : Rc) (v : Value) (w : World) (n0 : Nat → Prop) (hn0 : ∀ g, n0 g → g < w.heap.size) (hv : ∀ W, (∀ g, n0 g → W.heap[g]? = w.heap[g]?) → ImR W m p) (hw : Wf m 100000) (hr : IsR ok w v r) (hk : r.k = 9) (hok : WfP (ptOf r)) (h0 : 0 ≤ r.pa) (hS : (repP m r).2 = 0) : Calls Tryz.prog 96 #[imv m p, v] w fun e w' => StP n0 w w' (repP m r).1 (repP m r).2 e := by
 obtain ⟨a14, a15, a16, a17, c14, c15, c16, c17, rfl, hrw⟩ := hr
 have Hv := Hd (fun (W W3 : World) (hb : Below w.heap.size w W3) (hW : Agr n0 w.heap.size W3 W) => hv W (fun g hg => (hW g (.inl hg)).trans (hb.block g (hn0 g hg))))
 clear hn0
 replace hv : ImR w m p := hv w (fun _ _ => rfl)
 have HV := Hd (fun W (h : Below w.heap.size w W) => hv.below h)
 have HFN := Hd (hv.fT r.tp)
 cases hf : p.ts.find? (idQ r.tp) with
 | none =>
  obtain ⟨ab, aq, ac, ad, cb, cq, cc, cd, ts⟩ := p
  have HF := Hd (fun W (h : Below w.heap.size w W) => findTopic_no m _ r.tp W (hv.below h) hw hf)
  have Hr : Hid (repP m r = (m, 8)) := Hd (by unfold repP; rw [HFN.out, hf]; rfl)
  exact absurd hS (by rw [Hr.out]; show ¬ (8 : Int) = 0; decide)
 | some t =>
  have htm := List.mem_of_find?_eq_some hf
  have hne : 0 < p.ts.length := List.length_pos_of_mem htm
  have HID : Hid (t.id = r.tp) := Hd (by have := List.find?_some hf; simpa [idQ] using this)
  obtain ⟨bb, oo, hab, hrg⟩ := hv.t.rg hne
  obtain ⟨ab, aq, ac, ad, cb, cq, cc, cd, ts⟩ := p
  simp only at hab
  subst hab
  have HRW := Hd hrg
  have HLT : Hid (ts.length ≤ 100000) := Hd (by have := hv.len; simp only at this; rw [this]; exact hw.nt)
  have HF := Hd (fun W (h : Below w.heap.size w W) => findTopic_yes m _ r.tp W (hv.below h) hw t hf)
  have HAL := Hd (fun W (h : Below w.heap.size w W) => Alone_any (ptOf r, ⟨a14, a15, a16, a17, c14, c15, c16, c17⟩) W ⟨hrw.h14.sl.below h, hrw.h15.sl.below h, hrw.h16.sl.below h, hrw.h17.sl.below h⟩ hok)
  have HMA := Hd (fun W (h : Below w.heap.size w W) (q : Pp) (hq : PtR W q) (e : q.1 = ptOf r) => (e ▸ may_any m _ q W (hv.below h) hw hq (e ▸ hok) : Calls Tryz.prog 123 #[imv m _, .agg (ptc q).toArray] W fun e w' => ∃ E, e = .returned E ∧ Erc (right m.br (ptOf r)) E ∧ Below W.heap.size W w'))
  have HFW := Hd (fun W (h : Below w.heap.size w W) (q : Pp) (hq : PtR W q) (e : q.1 = ptOf r) => (e ▸ follows_any t.ps (.slice t.a t.ps.length t.c) q r a14 a15 a16 a17 c14 c15 c16 c17 W (((hv.below h).q t htm).ps) (fun o ho => ⟨((hv.below h).q t htm).pt o ho, hv.wp hw htm ho⟩) hq h0 (hv.np hw htm) : Calls Tryz.prog 124 #[_, .agg (cR r a14 a15 a16 a17 c14 c15 c16 c17).toArray, .agg (ptc q).toArray] W fun e w' => ∃ E, e = .returned E ∧ Erc (folP (t.ps.map (·.1)) r (ptOf r)) E ∧ Below W.heap.size W w'))
  have HRP : Hid (repP m r = if right m.br (ptOf r) = 0 then (if folP (t.ps.map (·.1)) r (ptOf r) = 0 then ({ m with ts := setT m.ts r.tp (putP (t.ps.map (·.1)) r.pa.toNat (ptOf r)) }, 0) else (m, folP (t.ps.map (·.1)) r (ptOf r))) else (m, right m.br (ptOf r))) := Hd (by unfold repP; rw [HFN.out, hf]; rfl)
  by_cases hR : right m.br (ptOf r) = 0
  ·have HRG := Hd hR
   by_cases hP : folP (t.ps.map (·.1)) r (ptOf r) = 0
   ·have HFP := Hd hP
    obtain ⟨T2, hT2⟩ : ∃ T, T = setT m.ts r.tp (putP (t.ps.map (·.1)) r.pa.toNat (ptOf r)) := ⟨_, rfl⟩
    have Hr : Hid (repP m r = ({ m with ts := T2 }, 0)) := Hd (by rw [HRP.out, if_pos hR, if_pos hP, hT2])
    rw [Hr.out]
    obtain ⟨L, hL⟩ : ∃ L : Pp → List Pp, L = fun q => t.ps.take r.pa.toNat ++ q :: t.ps.drop (r.pa.toNat + 1) := ⟨_, rfl⟩
    have HLM : Hid (∀ q : Pp, q.1 = ptOf r → (L q).map (·.1) = putP (t.ps.map (·.1)) r.pa.toNat (ptOf r)) := Hd (fun q e => by rw [hL]; simp [putP, List.map_take, List.map_drop, e])
    have HLI : Hid (∀ q p, p ∈ L q → p ∈ t.ps ∨ p = q) := Hd (fun q p hp => by
     rw [hL] at hp
     rcases List.mem_append.1 hp with h | h
     ·exact .inl (List.mem_of_mem_take h)
     ·rcases List.mem_cons.1 h with h | h
      ·exact .inr h
      ·exact .inl (List.mem_of_mem_drop h))
    have hpar : r.pa = (r.pa.toNat : Int) := by omega
    have HNPS := Hd (hv.np hw htm)
    have HPT := Hd (fun W (h : Below w.heap.size w W) i (hi : i < ts.length) x => putT_old ts (some ⟨bb, oo, none⟩) _ cq i x W rfl (hv.below h).t hi HLT.out)
    have HE2 : Hid (∀ i (hi : i < ts.length), ts[i] = t → (∀ x ∈ ts.take i, cmpN x.id r.tp < 0) → (∀ x ∈ ts.drop (i + 1), 0 < cmpN x.id r.tp) → ∀ q : Pp, q.1 = ptOf r → ∀ av cv, (ts.take i ++ (⟨t.id, t.nm, L q, av, cv⟩ : Tq) :: ts.drop (i + 1)).map Tq.tp = T2) := Hd (fun i hi hib hlo hhi q hq av cv => by
     rw [set_map hi (by rw [hib]; exact HID.out) hlo hhi (Q := (L q).map (·.1)) (by rw [hib]; rfl), HLM.out q hq, hT2]
     congr 1
     exact hv.e)
    have HTM := Hd htm
    ·have hk9 : (r.k == 9) = true := by rw [hk]; rfl
     have hpl : r.pa.toNat < t.ps.length := by
      unfold folP at hP
      rw [if_neg (by omega)] at hP
      by_cases hl : r.pa.toNat < t.ps.length
      ·exact hl
      ·rw [List.getElem?_eq_none (by rw [List.length_map]; omega)] at hP
       simp at hP
     have HPP := Hd (fun W (h : Below w.heap.size w W) (q : Pp) => (by
      have := putP_old t.ps t.a _ t.c r.pa.toNat q W rfl ((hv.below h).q t htm).ps hpl HNPS.out
      rwa [← hpar] at this : Calls Tryz.prog 125 #[.slice t.a t.ps.length t.c, .int .i64 r.pa, .bool true, .agg (ptc q).toArray] W fun e w' => ∃ v, e = .returned v ∧ Ro ptc 6 44 w' W.heap.size v (t.ps.take r.pa.toNat ++ q :: t.ps.drop (r.pa.toNat + 1)) ∧ Below W.heap.size W w'))
     have HLL : Hid (∀ q : Pp, q.1 = ptOf r → t.ps.take r.pa.toNat ++ q :: t.ps.drop (r.pa.toNat + 1) = L q) := Hd (fun q _ => by rw [hL])
     clear hR hP hT2 hL hpar hpl hk htm hS
     as_aux_lemma =>
      have HFR0 : Fr w m (⟨ab, some ⟨bb, oo, none⟩, ac, ad, cb, cq, cc, cd, ts⟩ : Ip) (cR r a14 a15 a16 a17 c14 c15 c16 c17) imz (((w.alloc (.cells (List.toArray [Value.slice ab m.br.length cb, .slice (some ⟨bb, oo, none⟩) ts.length cq, .slice ac m.cf.length cc, .slice ad m.dn.length cd, .int .i64 m.la]) 30)).alloc (.cells (List.toArray [Value.int .i64 r.k, .int .i64 r.br, .int .i64 r.ep, .int .i64 r.tp, .int .i64 r.pa, .int .i64 r.le, .int .i64 r.cl, .int .i64 r.se, .int .i64 r.co, .bool r.fl, .string ⟨r.nm.toArray⟩, .string ⟨r.ky.toArray⟩, .string ⟨r.va.toArray⟩, .string ⟨r.rk.toArray⟩, .slice a14 r.ids.length c14, .slice a15 r.isr.length c15, .slice a16 r.ad.length c16, .slice a17 r.dr.length c17]) 65)).alloc (.cells (List.toArray [Value.slice none 0 0, .slice none 0 0, .slice none 0 0, .slice none 0 0, .int .i64 0]) 30)) := Fr.mk0 w m _ _ _ _ _ (Below.refl _ _)
      clear hv hw hrw hf hrg hok h0
      unfold imv
      dsimp only
      show Calls _ _ #[_, .agg (List.toArray [.int .i64 r.k, .int .i64 r.br, .int .i64 r.ep, .int .i64 r.tp, .int .i64 r.pa, .int .i64 r.le, .int .i64 r.cl, .int .i64 r.se, .int .i64 r.co, .bool r.fl, .string ⟨r.nm.toArray⟩, .string ⟨r.ky.toArray⟩, .string ⟨r.va.toArray⟩, .string ⟨r.rk.toArray⟩, .slice a14 r.ids.length c14, .slice a15 r.isr.length c15, .slice a16 r.ad.length c16, .slice a17 r.dr.length c17])] _ _
      go_enter Tryz.func96, Tryz.ntmps96
      go_upto_region 1 with fail
      generalize ((w.alloc (.cells (List.toArray [Value.slice ab m.br.length cb, .slice (some ⟨bb, oo, none⟩) ts.length cq, .slice ac m.cf.length cc, .slice ad m.dn.length cd, .int .i64 m.la]) 30)).alloc (.cells (List.toArray [Value.int .i64 r.k, .int .i64 r.br, .int .i64 r.ep, .int .i64 r.tp, .int .i64 r.pa, .int .i64 r.le, .int .i64 r.cl, .int .i64 r.se, .int .i64 r.co, .bool r.fl, .string ⟨r.nm.toArray⟩, .string ⟨r.ky.toArray⟩, .string ⟨r.va.toArray⟩, .string ⟨r.rk.toArray⟩, .slice a14 r.ids.length c14, .slice a15 r.isr.length c15, .slice a16 r.ad.length c16, .slice a17 r.dr.length c17]) 65)).alloc (.cells (List.toArray [Value.slice none 0 0, .slice none 0 0, .slice none 0 0, .slice none 0 0, .int .i64 0]) 30) = X at HFR0 ⊢
      have Hf := Hd HFR0
      clear HFR0
      obtain ⟨i0, i1, i2, i3, i4⟩ := Hf.out.i.imx; have r0 := Hf.out.r.at 0 _ rfl; have r2 := Hf.out.r.at 2 _ rfl; have r3 := Hf.out.r.at 3 _ rfl; have r4 := Hf.out.r.at 4 _ rfl; have r5 := Hf.out.r.at 5 _ rfl; have r14 := Hf.out.r.at 14 _ rfl; have r15 := Hf.out.r.at 15 _ rfl; have r16 := Hf.out.r.at 16 _ rfl; have r17 := Hf.out.r.at 17 _ rfl
      unfold imv ptc at HMA
      unfold imv at HF
      unfold ptc at HAL
      unfold ptc cR at HFW
      unfold ptc at HPP
      unfold tpc at HPT
      dsimp only at HF HMA HAL HFW HPP HPT
      go_upto_region 4 with (first | (refine wpList_load_mid rfl _ _ rfl _ _ rfl _ _ Hf.out.i.c Tryz.underlying30 rfl (by kernel_rfl) ?_) | (refine wpList_load_mid rfl _ _ rfl _ _ rfl _ _ Hf.out.r.c Tryz.underlying65 rfl (by kernel_rfl) ?_) | (go_at_call 37; refine (HF.out _ Hf.out.b).mono ?_; rintro e wx ⟨i, hi, hib, hins, hrem, hlo, hhi, rfl, hbx⟩; have HIB := Hd hib; have HLO := Hd hlo; have HHI := Hd hhi; replace Hf := Hd (Hf.out.below hbx); clear i0 i1 i2 i3 i4 r0 r2 r3 r4 r5 r14 r15 r16 r17; clear hbx HF hins hrem hib hlo hhi; obtain ⟨i0, i1, i2, i3, i4⟩ := Hf.out.i.imx; have r0 := Hf.out.r.at 0 _ rfl; have r2 := Hf.out.r.at 2 _ rfl; have r3 := Hf.out.r.at 3 _ rfl; have r4 := Hf.out.r.at 4 _ rfl; have r5 := Hf.out.r.at 5 _ rfl; have r14 := Hf.out.r.at 14 _ rfl; have r15 := Hf.out.r.at 15 _ rfl; have r16 := Hf.out.r.at 16 _ rfl; have r17 := Hf.out.r.at 17 _ rfl))
      have hiI : (i : Int) < (ts.length : Int) := Int.ofNat_lt.2 hi
      go_upto_region 5 with (first | (refine wpList_load_mid rfl _ _ rfl _ _ rfl _ _ Hf.out.i.c Tryz.underlying30 rfl (by kernel_rfl) ?_) | (refine wpList_load_mid rfl _ _ rfl _ _ rfl _ _ Hf.out.r.c Tryz.underlying65 rfl (by kernel_rfl) ?_) | (go_at_call 21; refine (HAL.out _ Hf.out.b).mono ?_; rintro e wa ⟨q, hq1, rfl, hqo, hba⟩; have HQ1 := Hd hq1; have HQO := Hd (hqo.mono Hf.out.sz); replace Hf := Hd (Hf.out.below hba); clear i0 i1 i2 i3 i4 r0 r2 r3 r4 r5 r14 r15 r16 r17; clear hba HAL hq1 hqo))
      have HBQ := Hd (Bx.new wa [.slice q.2.a0 q.1.ids.length q.2.c0, .slice q.2.a1 q.1.isr.length q.2.c1, .int .i64 q.1.ld, .int .i64 q.1.ep, .slice q.2.a2 q.1.ad.length q.2.c2, .slice q.2.a3 q.1.dr.length q.2.c3] 44)
      have HWA := Hd (bA wa (.cells (List.toArray [Value.slice q.2.a0 q.1.ids.length q.2.c0, .slice q.2.a1 q.1.isr.length q.2.c1, .int .i64 q.1.ld, .int .i64 q.1.ep, .slice q.2.a2 q.1.ad.length q.2.c2, .slice q.2.a3 q.1.dr.length q.2.c3]) 44))
      have HNB := Hd Hf.out.sz
      replace Hf := Hd (Hf.out.below (bA wa (.cells (List.toArray [Value.slice q.2.a0 q.1.ids.length q.2.c0, .slice q.2.a1 q.1.isr.length q.2.c1, .int .i64 q.1.ld, .int .i64 q.1.ep, .slice q.2.a2 q.1.ad.length q.2.c2, .slice q.2.a3 q.1.dr.length q.2.c3]) 44)))
      generalize wa.alloc (.cells (List.toArray [Value.slice q.2.a0 q.1.ids.length q.2.c0, .slice q.2.a1 q.1.isr.length q.2.c1, .int .i64 q.1.ld, .int .i64 q.1.ep, .slice q.2.a2 q.1.ad.length q.2.c2, .slice q.2.a3 q.1.dr.length q.2.c3]) 44) = Y at Hf HBQ HWA ⊢
      obtain ⟨nb, hnb⟩ : ∃ nb, nb = wa.heap.size := ⟨_, rfl⟩
      rw [← hnb] at HBQ HNB ⊢
      have HNE := Hd hnb
      clear hnb
      obtain ⟨i0, i1, i2, i3, i4⟩ := Hf.out.i.imx; have r0 := Hf.out.r.at 0 _ rfl; have r2 := Hf.out.r.at 2 _ rfl; have r3 := Hf.out.r.at 3 _ rfl; have r4 := Hf.out.r.at 4 _ rfl; have r5 := Hf.out.r.at 5 _ rfl; have r14 := Hf.out.r.at 14 _ rfl; have r15 := Hf.out.r.at 15 _ rfl; have r16 := Hf.out.r.at 16 _ rfl; have r17 := Hf.out.r.at 17 _ rfl
      obtain ⟨y0, y1, y2, y3, y4, y5⟩ := HBQ.out.c6
      go_upto_region 8 with (first | (refine wpList_load_mid rfl _ _ rfl _ _ rfl _ _ Hf.out.i.c Tryz.underlying30 rfl (by kernel_rfl) ?_) | (refine wpList_load_mid rfl _ _ rfl _ _ rfl _ _ Hf.out.r.c Tryz.underlying65 rfl (by kernel_rfl) ?_) | (go_at_call 123; refine (HMA.out _ Hf.out.b q (HQO.out.keep (fun g _ hg => HWA.out.block g hg)).pt HQ1.out).mono ?_; rintro e wm ⟨E, rfl, hE, hbm⟩; rw [HRG.out] at hE; obtain rfl := erc0 hE; clear hE; replace Hf := Hd (Hf.out.below hbm); replace HBQ := Hd (HBQ.out.below hbm); replace HWA := Hd (HWA.out.trans (hbm.mono HWA.out.size)); clear i0 i1 i2 i3 i4 r0 r2 r3 r4 r5 r14 r15 r16 r17; clear y0 y1 y2 y3 y4 y5; clear hbm HMA; obtain ⟨i0, i1, i2, i3, i4⟩ := Hf.out.i.imx; have r0 := Hf.out.r.at 0 _ rfl; have r2 := Hf.out.r.at 2 _ rfl; have r3 := Hf.out.r.at 3 _ rfl; have r4 := Hf.out.r.at 4 _ rfl; have r5 := Hf.out.r.at 5 _ rfl; have r14 := Hf.out.r.at 14 _ rfl; have r15 := Hf.out.r.at 15 _ rfl; have r16 := Hf.out.r.at 16 _ rfl; have r17 := Hf.out.r.at 17 _ rfl; obtain ⟨y0, y1, y2, y3, y4, y5⟩ := HBQ.out.c6))
      have HE : Hid (wm.rangeAt bb (oo + i * 3) [.int .i64 t.id, .string ⟨t.nm.toArray⟩, .slice t.a t.ps.length t.c]) := Hd (by have := rg_bel (fm_at encT HRW.out hi) Hf.out.b; rw [HIB.out] at this; exact this)
      go_upto_region 9 with (refine wpList_load_mid rfl _ _ rfl _ _ rfl _ _ HE.out Tryz.underlying38 rfl (by kernel_rfl) ?_)
      clear i0 i1 i2 i3 i4 r0 r2 r3 r4 r5 r14 r15 r16 r17
      clear y0 y1 y2 y3 y4 y5
      have HNT : Hid (nb < wm.heap.size) := Hd HBQ.out.l
      have HBT := Hd (Bx.new wm [.int .i64 t.id, .string ⟨t.nm.toArray⟩, .slice t.a t.ps.length t.c] 38)
      replace HBQ := Hd (HBQ.out.alloc (.cells (List.toArray [Value.int .i64 t.id, .string ⟨t.nm.toArray⟩, .slice t.a t.ps.length t.c]) 38))
      replace HWA := Hd (HWA.out.trans ((bA wm (.cells (List.toArray [Value.int .i64 t.id, .string ⟨t.nm.toArray⟩, .slice t.a t.ps.length t.c]) 38)).mono HWA.out.size))
      replace Hf := Hd (Hf.out.below (bA wm (.cells (List.toArray [Value.int .i64 t.id, .string ⟨t.nm.toArray⟩, .slice t.a t.ps.length t.c]) 38)))
      generalize wm.alloc (.cells (List.toArray [Value.int .i64 t.id, .string ⟨t.nm.toArray⟩, .slice t.a t.ps.length t.c]) 38) = Z at Hf HBQ HBT HWA ⊢
      clear HE
      generalize wm.heap.size = nt at HBT HNT ⊢
      obtain ⟨i0, i1, i2, i3, i4⟩ := Hf.out.i.imx; have r0 := Hf.out.r.at 0 _ rfl; have r2 := Hf.out.r.at 2 _ rfl; have r3 := Hf.out.r.at 3 _ rfl; have r4 := Hf.out.r.at 4 _ rfl; have r5 := Hf.out.r.at 5 _ rfl; have r14 := Hf.out.r.at 14 _ rfl; have r15 := Hf.out.r.at 15 _ rfl; have r16 := Hf.out.r.at 16 _ rfl; have r17 := Hf.out.r.at 17 _ rfl
      obtain ⟨y0, y1, y2, y3, y4, y5⟩ := HBQ.out.c6
      obtain ⟨t0, t1, t2⟩ := HBT.out.c3
      go_upto_region 13 with (first | (first | (refine wpList_load_mid rfl _ _ rfl _ _ rfl _ _ Hf.out.i.c Tryz.underlying30 rfl (by kernel_rfl) ?_) | (refine wpList_load_mid rfl _ _ rfl _ _ rfl _ _ Hf.out.r.c Tryz.underlying65 rfl (by kernel_rfl) ?_) | (go_at_call 124; refine (HFW.out _ Hf.out.b q (HQO.out.keep (fun g _ hg => HWA.out.block g hg)).pt HQ1.out).mono ?_; rintro e wf ⟨E, rfl, hE, hbm⟩; rw [HFP.out] at hE; obtain rfl := erc0 hE; clear hE; replace Hf := Hd (Hf.out.below hbm); replace HBQ := Hd (HBQ.out.below hbm); replace HBT := Hd (HBT.out.below hbm); replace HWA := Hd (HWA.out.trans (hbm.mono HWA.out.size)); clear i0 i1 i2 i3 i4 r0 r2 r3 r4 r5 r14 r15 r16 r17; clear y0 y1 y2 y3 y4 y5; clear t0 t1 t2; clear hbm HFW; obtain ⟨i0, i1, i2, i3, i4⟩ := Hf.out.i.imx; have r0 := Hf.out.r.at 0 _ rfl; have r2 := Hf.out.r.at 2 _ rfl; have r3 := Hf.out.r.at 3 _ rfl; have r4 := Hf.out.r.at 4 _ rfl; have r5 := Hf.out.r.at 5 _ rfl; have r14 := Hf.out.r.at 14 _ rfl; have r15 := Hf.out.r.at 15 _ rfl; have r16 := Hf.out.r.at 16 _ rfl; have r17 := Hf.out.r.at 17 _ rfl; obtain ⟨y0, y1, y2, y3, y4, y5⟩ := HBQ.out.c6; obtain ⟨t0, t1, t2⟩ := HBT.out.c3)) | (go_at_call 125; refine (HPP.out _ Hf.out.b q).mono ?_; rintro e w7 ⟨v, rfl, hro, hb7⟩; rw [HLL.out q HQ1.out] at hro; obtain ⟨av, cv, rfl⟩ := hro.form; have HROp := Hd (hro.mono HBT.out.l); replace Hf := Hd (Hf.out.below hb7); replace HBT := Hd (HBT.out.below hb7); replace HWA := Hd (HWA.out.trans (hb7.mono HWA.out.size)); clear i0 i1 i2 i3 i4 r0 r2 r3 r4 r5 r14 r15 r16 r17; clear y0 y1 y2 y3 y4 y5; clear t0 t1 t2; clear hro hb7 HPP; obtain ⟨i0, i1, i2, i3, i4⟩ := Hf.out.i.imx; have r0 := Hf.out.r.at 0 _ rfl; have r2 := Hf.out.r.at 2 _ rfl; have r3 := Hf.out.r.at 3 _ rfl; have r4 := Hf.out.r.at 4 _ rfl; have r5 := Hf.out.r.at 5 _ rfl; have r14 := Hf.out.r.at 14 _ rfl; have r15 := Hf.out.r.at 15 _ rfl; have r16 := Hf.out.r.at 16 _ rfl; have r17 := Hf.out.r.at 17 _ rfl; obtain ⟨t0, t1, t2⟩ := HBT.out.c3; have g2 := HBT.out.f 2 (by simp)))
      clear i0 i1 i2 i3 i4 r0 r2 r3 r4 r5 r14 r15 r16 r17
      clear t0 t1 t2 g2
      have HFRn : Hid (Fr w m (⟨ab, some ⟨bb, oo, none⟩, ac, ad, cb, cq, cc, cd, ts⟩ : Ip) (cR r a14 a15 a16 a17 c14 c15 c16 c17) imz (w7.setCell ⟨nt, 2, none⟩ (.slice av (L q).length cv))) := Hd ⟨Hf.out.i.setOther (m := nt) (by have := HNT.out; have := HNB.out; omega) 2 (.slice av (L q).length cv), Hf.out.r.setOther (m := nt) (by have := HNT.out; have := HNB.out; omega) 2 (.slice av (L q).length cv), Hf.out.z.setOther (m := nt) (by have := HNT.out; have := HNB.out; omega) 2 (.slice av (L q).length cv), Hf.out.b.setCell (p := ⟨nt, 2, none⟩) (by have := HNT.out; have := HNB.out; show w.heap.size ≤ nt; omega) (.slice av (L q).length cv)⟩
      have HBTn := Hd (HBT.out.setCell 2 (by simp) (.slice av (L q).length cv))
      replace HROp := Hd (HROp.out.keepG (W' := w7.setCell ⟨nt, 2, none⟩ (.slice av (L q).length cv)) (fun g hg => Below.heap_setCell _ _ _ _ (show ¬ g = nt by omega)))
      replace HWA := Hd (HWA.out.setCell (p := ⟨nt, 2, none⟩) (by have := HNT.out; have := HNE.out; show wa.heap.size ≤ nt; omega) (.slice av (L q).length cv))
      clear Hf HBT
      generalize w7.setCell ⟨nt, 2, none⟩ (.slice av (L q).length cv) = Z2 at HFRn HBTn HROp HWA ⊢
      have Hf := Hd HFRn.out
      have HBT := Hd HBTn.out
      clear HFRn HBTn
      simp only [List.set] at HBT
      obtain ⟨i0, i1, i2, i3, i4⟩ := Hf.out.i.imx; have r0 := Hf.out.r.at 0 _ rfl; have r2 := Hf.out.r.at 2 _ rfl; have r3 := Hf.out.r.at 3 _ rfl; have r4 := Hf.out.r.at 4 _ rfl; have r5 := Hf.out.r.at 5 _ rfl; have r14 := Hf.out.r.at 14 _ rfl; have r15 := Hf.out.r.at 15 _ rfl; have r16 := Hf.out.r.at 16 _ rfl; have r17 := Hf.out.r.at 17 _ rfl
      obtain ⟨t0, t1, t2⟩ := HBT.out.c3
      go_wp2_with (first | (go_at_call 122; refine (HPT.out _ Hf.out.b i hi (⟨t.id, t.nm, L q, av, cv⟩ : Tq)).mono ?_; rintro e w8 ⟨v, rfl, hro, hb8⟩; obtain ⟨L2, hL2⟩ : ∃ L2, L2 = ts.take i ++ (⟨t.id, t.nm, L q, av, cv⟩ : Tq) :: ts.drop (i + 1) := ⟨_, rfl⟩; rw [← hL2] at hro; have HL2 := Hd hL2; obtain ⟨av2, cv2, rfl⟩ := hro.form; have HRO := Hd (hro.mono Hf.out.sz); replace HROp := Hd (HROp.out.below hb8); replace Hf := Hd (Hf.out.below hb8); replace HWA := Hd (HWA.out.trans (hb8.mono HWA.out.size)); clear i0 i1 i2 i3 i4 r0 r2 r3 r4 r5 r14 r15 r16 r17; clear t0 t1 t2; clear hro hb8 HPT hL2; obtain ⟨i0, i1, i2, i3, i4⟩ := Hf.out.i.imx; have r0 := Hf.out.r.at 0 _ rfl; have r2 := Hf.out.r.at 2 _ rfl; have r3 := Hf.out.r.at 3 _ rfl; have r4 := Hf.out.r.at 4 _ rfl; have r5 := Hf.out.r.at 5 _ rfl; have r14 := Hf.out.r.at 14 _ rfl; have r15 := Hf.out.r.at 15 _ rfl; have r16 := Hf.out.r.at 16 _ rfl; have r17 := Hf.out.r.at 17 _ rfl; have f1 := Hf.out.f 1 (by decide); have HFS := Hd (Hf.out.set 1 (.slice av2 L2.length cv2) { m with ts := T2 } (⟨ab, av2, ac, ad, cb, cv2, cc, cd, L2⟩ : Ip) (by decide) rfl)) | (refine wS rfl _ _ _ rfl _ _ rfl HFS.out.z (iml { m with ts := T2 } (⟨ab, av2, ac, ad, cb, cv2, cc, cd, L2⟩ : Ip)) rfl rfl (by kernel_rfl) rfl ?_; intro W3 hz hk hb hp; have Ho := Hd (HFS.out.out hz hk hb); have HKG : Hid (∀ g, w.heap.size + 1 + 1 + 1 ≤ g → W3.heap[g]? = w8.heap[g]?) := Hd (fun g hg => (hp g (by omega)).trans (Below.heap_setCell _ _ _ _ (show ¬ g = w.heap.size by omega))); clear hz hk hb hp))
      obtain ⟨q0, q1, q2, q3, q4⟩ := Ho.out.z.imx
      have HIM : Hid (∀ W, Agr n0 w.heap.size W3 W → ImR W { m with ts := T2 } (⟨ab, av2, ac, ad, cb, cv2, cc, cd, L2⟩ : Ip)) := Hd (fun W hW => by
       have hkg : ∀ g, w.heap.size + 1 + 1 + 1 ≤ g → W.heap[g]? = w8.heap[g]? := fun g hg => (hW g (.inr (by omega))).trans (HKG.out g hg)
       have hqw : PtR W q := (HQO.out.keep (fun g hg hlt => (hkg g hg).trans (HWA.out.block g hlt))).pt
       have hrw3 : Rs ptc W (.slice av (L q).length cv) (L q) := (HROp.out.keepG (fun g hg => hkg g (by have := HNT.out; have := HNB.out; omega))).rs
       have hvw := Hv.out W _ Ho.out.b hW
       refine ⟨hvw.b, (HRO.out.keepG hkg).rs, fun x hx => ?_, ?_, hvw.c, hvw.d⟩
       ·have hx' : x ∈ L2 := hx
        rw [HL2.out] at hx'
        rcases List.mem_append.1 hx' with h | h
        ·exact hvw.q x (List.mem_of_mem_take h)
        ·rcases List.mem_cons.1 h with h | h
         ·subst h
          refine ⟨hrw3, fun p hp => ?_⟩
          rcases HLI.out q p hp with h | h
          ·exact (hvw.q t HTM.out).pt p h
          ·rw [h]; exact hqw
         ·exact hvw.q x (List.mem_of_mem_drop h)
       ·show L2.map Tq.tp = T2
        rw [HL2.out]
        exact HE2.out i hi HIB.out HLO.out HHI.out q HQ1.out av cv)
      exact bodyPost_ret (v := .tuple #[.agg (iml { m with ts := T2 } (⟨ab, av2, ac, ad, cb, cv2, cc, cd, L2⟩ : Ip)).toArray, .nilIface]) (by simp [results, Tryz.results96, go_sem, q0, q1, q2, q3, q4, iml]) rfl (st_ret Ho.out HIM.out erc_nil)
   ·have HNF := Hd hP
    have Hr : Hid (repP m r = (m, folP (t.ps.map (·.1)) r (ptOf r))) := Hd (by rw [HRP.out, if_pos hR, if_neg hP])
    exact absurd hS (by rw [Hr.out]; exact hP)
  ·have HNR := Hd hR
   have Hr : Hid (repP m r = (m, right m.br (ptOf r))) := Hd (by rw [HRP.out, if_neg hR])
   exact absurd hS (by rw [Hr.out]; exact hR)
end Go.Proofs.YtlggjgapdpkhiaaGreat
