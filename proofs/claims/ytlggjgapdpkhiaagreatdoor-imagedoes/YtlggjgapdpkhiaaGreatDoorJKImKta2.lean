/-
  A BROKER IS TURNED: fenced, opened, leaving, gone (image.turn). Conditions: an image in order, its lists no longer than a hundred thousand; a record of one of these kinds.
  WHAT STEPS KEEP, as mathematics: what a legal step makes of an image, one by one; order and lengths; what may be stays so; who reigned reigns on or in a later epoch another one. No program in sight.
-/
import Derived.Test.YtlggjgapdpkhiaaGreatDoorJKImCba5
import Derived.Test.YtlggjgapdpkhiaaGreatDoorJKImKga5
import Derived.Test.YtlggjgapdpkhiaaGreatDoorJKImFaa3
import Derived.Test.YtlggjgapdpkhiaaGreatDoorJKImVa2
import Derived.Test.YtlggjgapdpkhiaaGreatDoorJKRecMa4
namespace Go.Proofs.YtlggjgapdpkhiaaGreatDoor
open Go.RowKit
def trnX (b : Bk) (k : Int) : Bk := if k = 3 then ⟨b.id, b.ep, b.rk, true, b.lv⟩ else if k = 4 then ⟨b.id, b.ep, b.rk, false, false⟩ else ⟨b.id, b.ep, b.rk, b.fe, true⟩
theorem trn_no {m : Im} {b : Bk} {k : Int} (h : trnQ m b k = false) : trnB m b k = (m, 10) := by
 unfold trnQ at h
 unfold trnB
 split
 ·rename_i h3
  rw [if_pos h3] at h
  rw [if_pos]
  cases hf : b.fe <;> simp_all
 ·rename_i h3
  rw [if_neg h3] at h
  split
  ·rename_i h4
   rw [if_pos h4] at h
   rw [if_pos h]
  ·rename_i h4
   rw [if_neg h4] at h
   split
   ·rename_i h5
    rw [if_pos h5] at h
    rw [if_pos]
    cases hf : b.fe <;> simp_all
   ·rename_i h5
    rw [if_neg h5] at h
    rw [if_pos (by simpa using h)]
theorem trn_yes {m : Im} {b : Bk} {k : Int} (h : trnQ m b k = true) (hk : k = 3 ∨ k = 4 ∨ k = 5) : trnB m b k = ({ m with br := putB m.br (trnX b k) }, 0) := by
 unfold trnQ at h
 unfold trnB trnX
 rcases hk with rfl | rfl | rfl
 ·simp at h
  simp [h]
 ·simp at h
  simp [h]
 ·simp at h
  simp [h]
theorem trn_gone {m : Im} {b : Bk} (h : trnQ m b 6 = true) : trnB m b 6 = ({ m with br := remB m.br b.id }, 0) := by
 unfold trnQ at h
 unfold trnB
 simp at h
 simp [h]
set_option maxRecDepth 100000 in
set_option maxHeartbeats 16000000 in
theorem turn_any {ok : Nat → Prop} (m : Im) (p : Ip) (r : Rc) (v : Value) (w : World) (n0 : Nat → Prop) (hn0 : ∀ g, n0 g → g < w.heap.size) (hv : ∀ W, (∀ g, n0 g → W.heap[g]? = w.heap[g]?) → ImR W m p) (hw : Wf m 100000) (hr : IsR ok w v r) (hk : r.k = 3 ∨ r.k = 4 ∨ r.k = 5 ∨ r.k = 6) : Calls Tryz.prog 54 #[imv m p, v] w fun e w' => StP n0 w w' (turB m r).1 (turB m r).2 e := by
 obtain ⟨a14, a15, a16, a17, c14, c15, c16, c17, rfl, hrw⟩ := hr
 have HVV := hide (fun (W W3 : World) (hb : Below w.heap.size w W3) (hW : Agr n0 w.heap.size W3 W) => hv W (fun g hg => (hW g (.inl hg)).trans (hb.block g (hn0 g hg))))
 clear hn0
 replace hv : ImR w m p := hv w (fun _ _ => rfl)
 have HV := hide (fun W (h : Below w.heap.size w W) => hv.below h)
 cases hf : fB m.br r.br with
 | none =>
  obtain ⟨ab, aq, ac, ad, cb, cq, cc, cd, ts⟩ := p
  have HF := hide (fun W (h : Below w.heap.size w W) => findBroker_no m _ r.br W (hv.below h) hw hf)
  have HRE : Hid (turB m r = (m, 8)) := hide (by unfold turB; rw [hf])
  rw [HRE.out]
  have HFR0 : Fr w m (⟨ab, aq, ac, ad, cb, cq, cc, cd, ts⟩ : Ip) (cellsR r a14 a15 a16 a17 c14 c15 c16 c17) imz (((w.alloc (.cells (List.toArray [Value.slice ab m.br.length cb, .slice aq ts.length cq, .slice ac m.cf.length cc, .slice ad m.dn.length cd, .int .i64 m.la]) 30)).alloc (.cells (List.toArray [Value.int .i64 r.k, .int .i64 r.br, .int .i64 r.ep, .int .i64 r.tp, .int .i64 r.pa, .int .i64 r.le, .int .i64 r.cl, .int .i64 r.se, .int .i64 r.co, .bool r.fl, .string ⟨r.nm.toArray⟩, .string ⟨r.ky.toArray⟩, .string ⟨r.va.toArray⟩, .string ⟨r.rk.toArray⟩, .slice a14 r.ids.length c14, .slice a15 r.isr.length c15, .slice a16 r.ad.length c16, .slice a17 r.dr.length c17]) 37)).alloc (.cells (List.toArray [Value.slice none 0 0, .slice none 0 0, .slice none 0 0, .slice none 0 0, .int .i64 0]) 30)) := Fr.mk0 w m _ _ _ _ _ (Below.refl _ _)
  clear hv hw hrw hf hk
  unfold imv
  dsimp only
  show Calls _ _ #[_, .agg (List.toArray [.int .i64 r.k, .int .i64 r.br, .int .i64 r.ep, .int .i64 r.tp, .int .i64 r.pa, .int .i64 r.le, .int .i64 r.cl, .int .i64 r.se, .int .i64 r.co, .bool r.fl, .string ⟨r.nm.toArray⟩, .string ⟨r.ky.toArray⟩, .string ⟨r.va.toArray⟩, .string ⟨r.rk.toArray⟩, .slice a14 r.ids.length c14, .slice a15 r.isr.length c15, .slice a16 r.ad.length c16, .slice a17 r.dr.length c17])] _ _
  go_enter Tryz.func54, Tryz.ntmps54
  go_upto_region 1 with fail
  generalize ((w.alloc (.cells (List.toArray [Value.slice ab m.br.length cb, .slice aq ts.length cq, .slice ac m.cf.length cc, .slice ad m.dn.length cd, .int .i64 m.la]) 30)).alloc (.cells (List.toArray [Value.int .i64 r.k, .int .i64 r.br, .int .i64 r.ep, .int .i64 r.tp, .int .i64 r.pa, .int .i64 r.le, .int .i64 r.cl, .int .i64 r.se, .int .i64 r.co, .bool r.fl, .string ⟨r.nm.toArray⟩, .string ⟨r.ky.toArray⟩, .string ⟨r.va.toArray⟩, .string ⟨r.rk.toArray⟩, .slice a14 r.ids.length c14, .slice a15 r.isr.length c15, .slice a16 r.ad.length c16, .slice a17 r.dr.length c17]) 37)).alloc (.cells (List.toArray [Value.slice none 0 0, .slice none 0 0, .slice none 0 0, .slice none 0 0, .int .i64 0]) 30) = X at HFR0 ⊢
  have HFR := hide HFR0
  clear HFR0
  obtain ⟨i0, i1, i2, i3, i4⟩ := HFR.out.i.imx; have r0 := HFR.out.r.at 0 _ rfl; have r1 := HFR.out.r.at 1 _ rfl; have r2 := HFR.out.r.at 2 _ rfl
  unfold imv at HF
  dsimp only at HF
  go_wp2_with (first | (go_at_call 38; refine (HF.out _ HFR.out.b).mono ?_; rintro e wx ⟨i9, _, _, rfl, hbx⟩; replace HFR := hide (HFR.out.below hbx); clear i0 i1 i2 i3 i4 r0 r1 r2; clear hbx HF; obtain ⟨i0, i1, i2, i3, i4⟩ := HFR.out.i.imx; have r0 := HFR.out.r.at 0 _ rfl; have r1 := HFR.out.r.at 1 _ rfl; have r2 := HFR.out.r.at 2 _ rfl) | (refine wpList_set rfl _ _ _ rfl _ _ rfl HFR.out.z (iml m (⟨ab, aq, ac, ad, cb, cq, cc, cd, ts⟩ : Ip)) rfl rfl (by kernel_rfl) rfl ?_; intro W3 hz hk hb hp; have HFO := hide (HFR.out.out hz hk hb); clear hz hk hb hp))
  obtain ⟨q0, q1, q2, q3, q4⟩ := HFO.out.z.imx
  exact bodyPost_ret (v := .tuple #[.agg (iml m (⟨ab, aq, ac, ad, cb, cq, cc, cd, ts⟩ : Ip)).toArray, .iface 38 (.int .i64 8)]) (by simp [results, Tryz.results54, go_sem, q0, q1, q2, q3, q4, iml]) rfl (st_ret HFO.out (fun W hW => HVV.out W _ HFO.out.b hW) (erc_code (by decide)))
 | some b =>
  have hne : 0 < m.br.length := List.length_pos_of_mem (List.mem_of_find?_eq_some hf)
  have HID : Hid (b.id = r.br) := hide (by have := List.find?_some hf; simpa [idB] using this)
  obtain ⟨bb, oo, hab, hrg⟩ := hv.b.rg hne
  obtain ⟨ab, aq, ac, ad, cb, cq, cc, cd, ts⟩ := p
  simp only at hab
  subst hab
  have HRG := hide hrg
  have HF := hide (fun W (h : Below w.heap.size w W) => findBroker_yes m _ r.br W (hv.below h) hw b hf)
  have HTU := hide (fun W (h : Below w.heap.size w W) => turns_any m _ b r.k W (hv.below h) hw)
  have HPU := hide (fun W (h : Below w.heap.size w W) i (hi : i < m.br.length) x => putB_old m.br (some ⟨bb, oo, none⟩) _ cb i x W rfl (hv.below h).b hi hw.nb)
  have HWO := hide (fun W (h : Below w.heap.size w W) i (hi : i < m.br.length) => woB_any m.br (some ⟨bb, oo, none⟩) _ cb i W rfl (hv.below h).b hi hw.nb)
  by_cases he : b.ep = r.ep
  ·have hne1 : (b.ep != r.ep) = false := by simpa using he
   have HTB : Hid (turB m r = trnB m b r.k) := hide (by unfold turB; rw [hf]; exact if_pos he)
   cases hq : trnQ m b r.k with
   | false =>
    have HRE : Hid (turB m r = (m, 10)) := hide (by rw [HTB.out, trn_no hq])
    rw [HRE.out]
    rw [hq] at HTU
    clear he hq
    have HFR0 : Fr w m (⟨some ⟨bb, oo, none⟩, aq, ac, ad, cb, cq, cc, cd, ts⟩ : Ip) (cellsR r a14 a15 a16 a17 c14 c15 c16 c17) imz (((w.alloc (.cells (List.toArray [Value.slice (some ⟨bb, oo, none⟩) m.br.length cb, .slice aq ts.length cq, .slice ac m.cf.length cc, .slice ad m.dn.length cd, .int .i64 m.la]) 30)).alloc (.cells (List.toArray [Value.int .i64 r.k, .int .i64 r.br, .int .i64 r.ep, .int .i64 r.tp, .int .i64 r.pa, .int .i64 r.le, .int .i64 r.cl, .int .i64 r.se, .int .i64 r.co, .bool r.fl, .string ⟨r.nm.toArray⟩, .string ⟨r.ky.toArray⟩, .string ⟨r.va.toArray⟩, .string ⟨r.rk.toArray⟩, .slice a14 r.ids.length c14, .slice a15 r.isr.length c15, .slice a16 r.ad.length c16, .slice a17 r.dr.length c17]) 37)).alloc (.cells (List.toArray [Value.slice none 0 0, .slice none 0 0, .slice none 0 0, .slice none 0 0, .int .i64 0]) 30)) := Fr.mk0 w m _ _ _ _ _ (Below.refl _ _)
    clear hv hw hrw hf hrg hk
    unfold imv
    dsimp only
    show Calls _ _ #[_, .agg (List.toArray [.int .i64 r.k, .int .i64 r.br, .int .i64 r.ep, .int .i64 r.tp, .int .i64 r.pa, .int .i64 r.le, .int .i64 r.cl, .int .i64 r.se, .int .i64 r.co, .bool r.fl, .string ⟨r.nm.toArray⟩, .string ⟨r.ky.toArray⟩, .string ⟨r.va.toArray⟩, .string ⟨r.rk.toArray⟩, .slice a14 r.ids.length c14, .slice a15 r.isr.length c15, .slice a16 r.ad.length c16, .slice a17 r.dr.length c17])] _ _
    go_enter Tryz.func54, Tryz.ntmps54
    go_upto_region 1 with fail
    generalize ((w.alloc (.cells (List.toArray [Value.slice (some ⟨bb, oo, none⟩) m.br.length cb, .slice aq ts.length cq, .slice ac m.cf.length cc, .slice ad m.dn.length cd, .int .i64 m.la]) 30)).alloc (.cells (List.toArray [Value.int .i64 r.k, .int .i64 r.br, .int .i64 r.ep, .int .i64 r.tp, .int .i64 r.pa, .int .i64 r.le, .int .i64 r.cl, .int .i64 r.se, .int .i64 r.co, .bool r.fl, .string ⟨r.nm.toArray⟩, .string ⟨r.ky.toArray⟩, .string ⟨r.va.toArray⟩, .string ⟨r.rk.toArray⟩, .slice a14 r.ids.length c14, .slice a15 r.isr.length c15, .slice a16 r.ad.length c16, .slice a17 r.dr.length c17]) 37)).alloc (.cells (List.toArray [Value.slice none 0 0, .slice none 0 0, .slice none 0 0, .slice none 0 0, .int .i64 0]) 30) = X at HFR0 ⊢
    have HFR := hide HFR0
    clear HFR0
    obtain ⟨i0, i1, i2, i3, i4⟩ := HFR.out.i.imx; have r0 := HFR.out.r.at 0 _ rfl; have r1 := HFR.out.r.at 1 _ rfl; have r2 := HFR.out.r.at 2 _ rfl
    unfold imv bkc at HTU
    unfold imv at HF
    dsimp only at HF HTU
    go_upto_region 4 with (go_at_call 38; refine (HF.out _ HFR.out.b).mono ?_; rintro e wx ⟨i, hi, hib, hins, hrem, _, _, rfl, hbx⟩; have HIN := hide hins; have HRM := hide hrem; have HIB := hide hib; replace HFR := hide (HFR.out.below hbx); clear i0 i1 i2 i3 i4 r0 r1 r2; clear hbx HF hins hrem hib; obtain ⟨i0, i1, i2, i3, i4⟩ := HFR.out.i.imx; have r0 := HFR.out.r.at 0 _ rfl; have r1 := HFR.out.r.at 1 _ rfl; have r2 := HFR.out.r.at 2 _ rfl)
    have hiI : (i : Int) < (m.br.length : Int) := Int.ofNat_lt.2 hi
    have HE : Hid (wx.rangeAt bb (oo + i * 5) [.int .i64 b.id, .int .i64 b.ep, .string ⟨b.rk.toArray⟩, .bool b.fe, .bool b.lv]) := hide (by have := rg_bel (fm_at encB HRG.out hi) HFR.out.b; rw [HIB.out] at this; exact this)
    go_upto_region 5 with (refine wpList_load_mid rfl _ _ rfl _ _ rfl _ _ HE.out Tryz.underlying54 rfl (by kernel_rfl) ?_)
    clear i0 i1 i2 i3 i4 r0 r1 r2
    have HNB := hide HFR.out.sz
    have HBX := hide (Bx.new wx [.int .i64 b.id, .int .i64 b.ep, .string ⟨b.rk.toArray⟩, .bool b.fe, .bool b.lv] 54)
    replace HFR := hide (HFR.out.below (below_al1 wx (.cells (List.toArray [Value.int .i64 b.id, .int .i64 b.ep, .string ⟨b.rk.toArray⟩, .bool b.fe, .bool b.lv]) 54)))
    generalize wx.alloc (.cells (List.toArray [Value.int .i64 b.id, .int .i64 b.ep, .string ⟨b.rk.toArray⟩, .bool b.fe, .bool b.lv]) 54) = Y at HFR HBX ⊢
    generalize wx.heap.size = nb at HBX HNB ⊢
    obtain ⟨i0, i1, i2, i3, i4⟩ := HFR.out.i.imx; have r0 := HFR.out.r.at 0 _ rfl; have r1 := HFR.out.r.at 1 _ rfl; have r2 := HFR.out.r.at 2 _ rfl
    obtain ⟨b0, b1, b2, b3, b4⟩ := HBX.out.c5
    go_wp2_with (first | (go_at_call 89; refine (HTU.out _ HFR.out.b).mono ?_; rintro e wy ⟨rfl, hby⟩; replace HFR := hide (HFR.out.below hby); replace HBX := hide (HBX.out.below hby); clear i0 i1 i2 i3 i4 r0 r1 r2; clear b0 b1 b2 b3 b4; clear hby HTU; obtain ⟨i0, i1, i2, i3, i4⟩ := HFR.out.i.imx; have r0 := HFR.out.r.at 0 _ rfl; have r1 := HFR.out.r.at 1 _ rfl; have r2 := HFR.out.r.at 2 _ rfl; obtain ⟨b0, b1, b2, b3, b4⟩ := HBX.out.c5) | (refine wpList_set rfl _ _ _ rfl _ _ rfl HFR.out.z (iml m (⟨some ⟨bb, oo, none⟩, aq, ac, ad, cb, cq, cc, cd, ts⟩ : Ip)) rfl rfl (by kernel_rfl) rfl ?_; intro W3 hz hk hb hp; have HFO := hide (HFR.out.out hz hk hb); clear hz hk hb hp))
    obtain ⟨q0, q1, q2, q3, q4⟩ := HFO.out.z.imx
    exact bodyPost_ret (v := .tuple #[.agg (iml m (⟨some ⟨bb, oo, none⟩, aq, ac, ad, cb, cq, cc, cd, ts⟩ : Ip)).toArray, .iface 38 (.int .i64 10)]) (by simp [results, Tryz.results54, go_sem, q0, q1, q2, q3, q4, iml]) rfl (st_ret HFO.out (fun W hW => HVV.out W _ HFO.out.b hW) (erc_code (by decide)))
   | true =>
    rw [hq] at HTU
    rcases hk with hk | hk | hk | hk
    ·obtain ⟨L, hL⟩ : ∃ L, L = putB m.br (trnX b r.k) := ⟨_, rfl⟩
     have HRE : Hid (turB m r = ({ m with br := L }, 0)) := hide (by rw [HTB.out, trn_yes hq (by omega), hL])
     rw [HRE.out]
     have HPL : Hid (∀ i, (∀ b, insO (fun x : Bk => cmpN x.id r.br) b m.br = m.br.take i ++ b :: m.br.drop (i + 1)) → m.br.take i ++ (⟨b.id, b.ep, b.rk, true, b.lv⟩ : Bk) :: m.br.drop (i + 1) = L) := hide (fun i hi => by rw [← hi, hL, hk]; exact (putB_ins (b := trnX b 3) (id := r.br) HID.out).symm)
     have HK := hide hk
     clear he hq hL hk
     have HFR0 : Fr w m (⟨some ⟨bb, oo, none⟩, aq, ac, ad, cb, cq, cc, cd, ts⟩ : Ip) (cellsR r a14 a15 a16 a17 c14 c15 c16 c17) imz (((w.alloc (.cells (List.toArray [Value.slice (some ⟨bb, oo, none⟩) m.br.length cb, .slice aq ts.length cq, .slice ac m.cf.length cc, .slice ad m.dn.length cd, .int .i64 m.la]) 30)).alloc (.cells (List.toArray [Value.int .i64 r.k, .int .i64 r.br, .int .i64 r.ep, .int .i64 r.tp, .int .i64 r.pa, .int .i64 r.le, .int .i64 r.cl, .int .i64 r.se, .int .i64 r.co, .bool r.fl, .string ⟨r.nm.toArray⟩, .string ⟨r.ky.toArray⟩, .string ⟨r.va.toArray⟩, .string ⟨r.rk.toArray⟩, .slice a14 r.ids.length c14, .slice a15 r.isr.length c15, .slice a16 r.ad.length c16, .slice a17 r.dr.length c17]) 37)).alloc (.cells (List.toArray [Value.slice none 0 0, .slice none 0 0, .slice none 0 0, .slice none 0 0, .int .i64 0]) 30)) := Fr.mk0 w m _ _ _ _ _ (Below.refl _ _)
     clear hv hw hrw hf hrg
     unfold imv
     dsimp only
     show Calls _ _ #[_, .agg (List.toArray [.int .i64 r.k, .int .i64 r.br, .int .i64 r.ep, .int .i64 r.tp, .int .i64 r.pa, .int .i64 r.le, .int .i64 r.cl, .int .i64 r.se, .int .i64 r.co, .bool r.fl, .string ⟨r.nm.toArray⟩, .string ⟨r.ky.toArray⟩, .string ⟨r.va.toArray⟩, .string ⟨r.rk.toArray⟩, .slice a14 r.ids.length c14, .slice a15 r.isr.length c15, .slice a16 r.ad.length c16, .slice a17 r.dr.length c17])] _ _
     go_enter Tryz.func54, Tryz.ntmps54
     go_upto_region 1 with fail
     generalize ((w.alloc (.cells (List.toArray [Value.slice (some ⟨bb, oo, none⟩) m.br.length cb, .slice aq ts.length cq, .slice ac m.cf.length cc, .slice ad m.dn.length cd, .int .i64 m.la]) 30)).alloc (.cells (List.toArray [Value.int .i64 r.k, .int .i64 r.br, .int .i64 r.ep, .int .i64 r.tp, .int .i64 r.pa, .int .i64 r.le, .int .i64 r.cl, .int .i64 r.se, .int .i64 r.co, .bool r.fl, .string ⟨r.nm.toArray⟩, .string ⟨r.ky.toArray⟩, .string ⟨r.va.toArray⟩, .string ⟨r.rk.toArray⟩, .slice a14 r.ids.length c14, .slice a15 r.isr.length c15, .slice a16 r.ad.length c16, .slice a17 r.dr.length c17]) 37)).alloc (.cells (List.toArray [Value.slice none 0 0, .slice none 0 0, .slice none 0 0, .slice none 0 0, .int .i64 0]) 30) = X at HFR0 ⊢
     have HFR := hide HFR0
     clear HFR0
     obtain ⟨i0, i1, i2, i3, i4⟩ := HFR.out.i.imx; have r0 := HFR.out.r.at 0 _ rfl; have r1 := HFR.out.r.at 1 _ rfl; have r2 := HFR.out.r.at 2 _ rfl
     unfold imv bkc at HTU
     unfold imv at HF
     dsimp only at HF HTU
     go_upto_region 4 with (go_at_call 38; refine (HF.out _ HFR.out.b).mono ?_; rintro e wx ⟨i, hi, hib, hins, hrem, _, _, rfl, hbx⟩; have HIN := hide hins; have HRM := hide hrem; have HIB := hide hib; replace HFR := hide (HFR.out.below hbx); clear i0 i1 i2 i3 i4 r0 r1 r2; clear hbx HF hins hrem hib; obtain ⟨i0, i1, i2, i3, i4⟩ := HFR.out.i.imx; have r0 := HFR.out.r.at 0 _ rfl; have r1 := HFR.out.r.at 1 _ rfl; have r2 := HFR.out.r.at 2 _ rfl)
     have hiI : (i : Int) < (m.br.length : Int) := Int.ofNat_lt.2 hi
     have HE : Hid (wx.rangeAt bb (oo + i * 5) [.int .i64 b.id, .int .i64 b.ep, .string ⟨b.rk.toArray⟩, .bool b.fe, .bool b.lv]) := hide (by have := rg_bel (fm_at encB HRG.out hi) HFR.out.b; rw [HIB.out] at this; exact this)
     go_upto_region 5 with (refine wpList_load_mid rfl _ _ rfl _ _ rfl _ _ HE.out Tryz.underlying54 rfl (by kernel_rfl) ?_)
     clear i0 i1 i2 i3 i4 r0 r1 r2
     have HNB := hide HFR.out.sz
     have HBX := hide (Bx.new wx [.int .i64 b.id, .int .i64 b.ep, .string ⟨b.rk.toArray⟩, .bool b.fe, .bool b.lv] 54)
     replace HFR := hide (HFR.out.below (below_al1 wx (.cells (List.toArray [Value.int .i64 b.id, .int .i64 b.ep, .string ⟨b.rk.toArray⟩, .bool b.fe, .bool b.lv]) 54)))
     generalize wx.alloc (.cells (List.toArray [Value.int .i64 b.id, .int .i64 b.ep, .string ⟨b.rk.toArray⟩, .bool b.fe, .bool b.lv]) 54) = Y at HFR HBX ⊢
     generalize wx.heap.size = nb at HBX HNB ⊢
     obtain ⟨i0, i1, i2, i3, i4⟩ := HFR.out.i.imx; have r0 := HFR.out.r.at 0 _ rfl; have r1 := HFR.out.r.at 1 _ rfl; have r2 := HFR.out.r.at 2 _ rfl
     obtain ⟨b0, b1, b2, b3, b4⟩ := HBX.out.c5
     go_upto_region 9 with (go_at_call 89; refine (HTU.out _ HFR.out.b).mono ?_; rintro e wy ⟨rfl, hby⟩; replace HFR := hide (HFR.out.below hby); replace HBX := hide (HBX.out.below hby); clear i0 i1 i2 i3 i4 r0 r1 r2; clear b0 b1 b2 b3 b4; clear hby HTU; obtain ⟨i0, i1, i2, i3, i4⟩ := HFR.out.i.imx; have r0 := HFR.out.r.at 0 _ rfl; have r1 := HFR.out.r.at 1 _ rfl; have r2 := HFR.out.r.at 2 _ rfl; obtain ⟨b0, b1, b2, b3, b4⟩ := HBX.out.c5)
     rw [HK.out] at r0
     have g3 := HBX.out.f 3 (by simp)
     go_upto_region 19 with fail
     clear i0 i1 i2 i3 i4 r0 r1 r2
     clear b0 b1 b2 b3 b4 g3
     have HFRn := hide (⟨HFR.out.i.setOther (m := nb) (by have := HNB.out; omega) 3 (.bool true), HFR.out.r.setOther (m := nb) (by have := HNB.out; omega) 3 (.bool true), HFR.out.z.setOther (m := nb) (by have := HNB.out; omega) 3 (.bool true), HFR.out.b.setCell (p := ⟨nb, 3, none⟩) (by have := HNB.out; show w.heap.size ≤ nb; omega) (.bool true)⟩ : Fr w m (⟨some ⟨bb, oo, none⟩, aq, ac, ad, cb, cq, cc, cd, ts⟩ : Ip) (cellsR r a14 a15 a16 a17 c14 c15 c16 c17) imz (wy.setCell ⟨nb, 3, none⟩ (.bool true)))
     have HBXn := hide (HBX.out.setCell 3 (by simp) (.bool true))
     clear HFR HBX
     generalize wy.setCell ⟨nb, 3, none⟩ (.bool true) = Z3 at HFRn HBXn ⊢
     have HFR := hide HFRn.out
     have HBX := hide HBXn.out
     clear HFRn HBXn
     simp only [List.set] at HBX
     obtain ⟨i0, i1, i2, i3, i4⟩ := HFR.out.i.imx; have r0 := HFR.out.r.at 0 _ rfl; have r1 := HFR.out.r.at 1 _ rfl; have r2 := HFR.out.r.at 2 _ rfl
     obtain ⟨b0, b1, b2, b3, b4⟩ := HBX.out.c5
     go_wp2_with (first | (go_at_call 88; refine (HPU.out _ HFR.out.b i hi (⟨b.id, b.ep, b.rk, true, b.lv⟩ : Bk)).mono ?_; rintro e w3 ⟨v, rfl, hro, hb3⟩; rw [HPL.out i HIN.out] at hro; obtain ⟨av, cv, rfl⟩ := hro.form; have HRO := hide (hro.mono HFR.out.sz); replace HFR := hide (HFR.out.below hb3); clear hro hb3 HPU; clear i0 i1 i2 i3 i4 r0 r1 r2; obtain ⟨i0, i1, i2, i3, i4⟩ := HFR.out.i.imx; have r0 := HFR.out.r.at 0 _ rfl; have r1 := HFR.out.r.at 1 _ rfl; have r2 := HFR.out.r.at 2 _ rfl; have f0 := HFR.out.f 0 (by decide); have HFS := hide (HFR.out.set 0 (.slice av L.length cv) { m with br := L } (⟨av, aq, ac, ad, cv, cq, cc, cd, ts⟩ : Ip) (by decide) rfl)) | (refine wpList_set rfl _ _ _ rfl _ _ rfl HFS.out.z (iml { m with br := L } (⟨av, aq, ac, ad, cv, cq, cc, cd, ts⟩ : Ip)) rfl rfl (by kernel_rfl) rfl ?_; intro W3 hz hk hb hp; have HFO := hide (HFS.out.out hz hk hb); have HRS := hide (fun W (hW : Agr n0 w.heap.size W3 W) => (HRO.out.keepG (fun g hg => (hW g (.inr (by omega))).trans ((hp g (by omega)).trans (Below.heap_setCell _ _ _ _ (show ¬ g = w.heap.size by omega))))).rs); clear hz hk hb hp))
     obtain ⟨q0, q1, q2, q3, q4⟩ := HFO.out.z.imx
     exact bodyPost_ret (v := .tuple #[.agg (iml { m with br := L } (⟨av, aq, ac, ad, cv, cq, cc, cd, ts⟩ : Ip)).toArray, .nilIface]) (by simp [results, Tryz.results54, go_sem, q0, q1, q2, q3, q4, iml]) rfl (st_ret HFO.out (fun W hW => (HVV.out W _ HFO.out.b hW).setB (HRS.out W hW)) erc_nil)
    ·obtain ⟨L, hL⟩ : ∃ L, L = putB m.br (trnX b r.k) := ⟨_, rfl⟩
     have HRE : Hid (turB m r = ({ m with br := L }, 0)) := hide (by rw [HTB.out, trn_yes hq (by omega), hL])
     rw [HRE.out]
     have HPL : Hid (∀ i, (∀ b, insO (fun x : Bk => cmpN x.id r.br) b m.br = m.br.take i ++ b :: m.br.drop (i + 1)) → m.br.take i ++ (⟨b.id, b.ep, b.rk, false, false⟩ : Bk) :: m.br.drop (i + 1) = L) := hide (fun i hi => by rw [← hi, hL, hk]; exact (putB_ins (b := trnX b 4) (id := r.br) HID.out).symm)
     have HK := hide hk
     clear he hq hL hk
     have HFR0 : Fr w m (⟨some ⟨bb, oo, none⟩, aq, ac, ad, cb, cq, cc, cd, ts⟩ : Ip) (cellsR r a14 a15 a16 a17 c14 c15 c16 c17) imz (((w.alloc (.cells (List.toArray [Value.slice (some ⟨bb, oo, none⟩) m.br.length cb, .slice aq ts.length cq, .slice ac m.cf.length cc, .slice ad m.dn.length cd, .int .i64 m.la]) 30)).alloc (.cells (List.toArray [Value.int .i64 r.k, .int .i64 r.br, .int .i64 r.ep, .int .i64 r.tp, .int .i64 r.pa, .int .i64 r.le, .int .i64 r.cl, .int .i64 r.se, .int .i64 r.co, .bool r.fl, .string ⟨r.nm.toArray⟩, .string ⟨r.ky.toArray⟩, .string ⟨r.va.toArray⟩, .string ⟨r.rk.toArray⟩, .slice a14 r.ids.length c14, .slice a15 r.isr.length c15, .slice a16 r.ad.length c16, .slice a17 r.dr.length c17]) 37)).alloc (.cells (List.toArray [Value.slice none 0 0, .slice none 0 0, .slice none 0 0, .slice none 0 0, .int .i64 0]) 30)) := Fr.mk0 w m _ _ _ _ _ (Below.refl _ _)
     clear hv hw hrw hf hrg
     unfold imv
     dsimp only
     show Calls _ _ #[_, .agg (List.toArray [.int .i64 r.k, .int .i64 r.br, .int .i64 r.ep, .int .i64 r.tp, .int .i64 r.pa, .int .i64 r.le, .int .i64 r.cl, .int .i64 r.se, .int .i64 r.co, .bool r.fl, .string ⟨r.nm.toArray⟩, .string ⟨r.ky.toArray⟩, .string ⟨r.va.toArray⟩, .string ⟨r.rk.toArray⟩, .slice a14 r.ids.length c14, .slice a15 r.isr.length c15, .slice a16 r.ad.length c16, .slice a17 r.dr.length c17])] _ _
     go_enter Tryz.func54, Tryz.ntmps54
     go_upto_region 1 with fail
     generalize ((w.alloc (.cells (List.toArray [Value.slice (some ⟨bb, oo, none⟩) m.br.length cb, .slice aq ts.length cq, .slice ac m.cf.length cc, .slice ad m.dn.length cd, .int .i64 m.la]) 30)).alloc (.cells (List.toArray [Value.int .i64 r.k, .int .i64 r.br, .int .i64 r.ep, .int .i64 r.tp, .int .i64 r.pa, .int .i64 r.le, .int .i64 r.cl, .int .i64 r.se, .int .i64 r.co, .bool r.fl, .string ⟨r.nm.toArray⟩, .string ⟨r.ky.toArray⟩, .string ⟨r.va.toArray⟩, .string ⟨r.rk.toArray⟩, .slice a14 r.ids.length c14, .slice a15 r.isr.length c15, .slice a16 r.ad.length c16, .slice a17 r.dr.length c17]) 37)).alloc (.cells (List.toArray [Value.slice none 0 0, .slice none 0 0, .slice none 0 0, .slice none 0 0, .int .i64 0]) 30) = X at HFR0 ⊢
     have HFR := hide HFR0
     clear HFR0
     obtain ⟨i0, i1, i2, i3, i4⟩ := HFR.out.i.imx; have r0 := HFR.out.r.at 0 _ rfl; have r1 := HFR.out.r.at 1 _ rfl; have r2 := HFR.out.r.at 2 _ rfl
     unfold imv bkc at HTU
     unfold imv at HF
     dsimp only at HF HTU
     go_upto_region 4 with (go_at_call 38; refine (HF.out _ HFR.out.b).mono ?_; rintro e wx ⟨i, hi, hib, hins, hrem, _, _, rfl, hbx⟩; have HIN := hide hins; have HRM := hide hrem; have HIB := hide hib; replace HFR := hide (HFR.out.below hbx); clear i0 i1 i2 i3 i4 r0 r1 r2; clear hbx HF hins hrem hib; obtain ⟨i0, i1, i2, i3, i4⟩ := HFR.out.i.imx; have r0 := HFR.out.r.at 0 _ rfl; have r1 := HFR.out.r.at 1 _ rfl; have r2 := HFR.out.r.at 2 _ rfl)
     have hiI : (i : Int) < (m.br.length : Int) := Int.ofNat_lt.2 hi
     have HE : Hid (wx.rangeAt bb (oo + i * 5) [.int .i64 b.id, .int .i64 b.ep, .string ⟨b.rk.toArray⟩, .bool b.fe, .bool b.lv]) := hide (by have := rg_bel (fm_at encB HRG.out hi) HFR.out.b; rw [HIB.out] at this; exact this)
     go_upto_region 5 with (refine wpList_load_mid rfl _ _ rfl _ _ rfl _ _ HE.out Tryz.underlying54 rfl (by kernel_rfl) ?_)
     clear i0 i1 i2 i3 i4 r0 r1 r2
     have HNB := hide HFR.out.sz
     have HBX := hide (Bx.new wx [.int .i64 b.id, .int .i64 b.ep, .string ⟨b.rk.toArray⟩, .bool b.fe, .bool b.lv] 54)
     replace HFR := hide (HFR.out.below (below_al1 wx (.cells (List.toArray [Value.int .i64 b.id, .int .i64 b.ep, .string ⟨b.rk.toArray⟩, .bool b.fe, .bool b.lv]) 54)))
     generalize wx.alloc (.cells (List.toArray [Value.int .i64 b.id, .int .i64 b.ep, .string ⟨b.rk.toArray⟩, .bool b.fe, .bool b.lv]) 54) = Y at HFR HBX ⊢
     generalize wx.heap.size = nb at HBX HNB ⊢
     obtain ⟨i0, i1, i2, i3, i4⟩ := HFR.out.i.imx; have r0 := HFR.out.r.at 0 _ rfl; have r1 := HFR.out.r.at 1 _ rfl; have r2 := HFR.out.r.at 2 _ rfl
     obtain ⟨b0, b1, b2, b3, b4⟩ := HBX.out.c5
     go_upto_region 9 with (go_at_call 89; refine (HTU.out _ HFR.out.b).mono ?_; rintro e wy ⟨rfl, hby⟩; replace HFR := hide (HFR.out.below hby); replace HBX := hide (HBX.out.below hby); clear i0 i1 i2 i3 i4 r0 r1 r2; clear b0 b1 b2 b3 b4; clear hby HTU; obtain ⟨i0, i1, i2, i3, i4⟩ := HFR.out.i.imx; have r0 := HFR.out.r.at 0 _ rfl; have r1 := HFR.out.r.at 1 _ rfl; have r2 := HFR.out.r.at 2 _ rfl; obtain ⟨b0, b1, b2, b3, b4⟩ := HBX.out.c5)
     rw [HK.out] at r0
     have g3 := HBX.out.f 3 (by simp)
     have g4 := HBX.out.f 4 (by simp)
     go_upto_region 19 with fail
     clear i0 i1 i2 i3 i4 r0 r1 r2
     clear b0 b1 b2 b3 b4 g3 g4
     have HFRn := hide (⟨HFR.out.i.setOther (m := nb) (by have := HNB.out; omega) 3 (.bool false), HFR.out.r.setOther (m := nb) (by have := HNB.out; omega) 3 (.bool false), HFR.out.z.setOther (m := nb) (by have := HNB.out; omega) 3 (.bool false), HFR.out.b.setCell (p := ⟨nb, 3, none⟩) (by have := HNB.out; show w.heap.size ≤ nb; omega) (.bool false)⟩ : Fr w m (⟨some ⟨bb, oo, none⟩, aq, ac, ad, cb, cq, cc, cd, ts⟩ : Ip) (cellsR r a14 a15 a16 a17 c14 c15 c16 c17) imz (wy.setCell ⟨nb, 3, none⟩ (.bool false)))
     have HBXn := hide (HBX.out.setCell 3 (by simp) (.bool false))
     clear HFR HBX
     generalize wy.setCell ⟨nb, 3, none⟩ (.bool false) = Z3 at HFRn HBXn ⊢
     have HFR := hide HFRn.out
     have HBX := hide HBXn.out
     clear HFRn HBXn
     have HFRn := hide (⟨HFR.out.i.setOther (m := nb) (by have := HNB.out; omega) 4 (.bool false), HFR.out.r.setOther (m := nb) (by have := HNB.out; omega) 4 (.bool false), HFR.out.z.setOther (m := nb) (by have := HNB.out; omega) 4 (.bool false), HFR.out.b.setCell (p := ⟨nb, 4, none⟩) (by have := HNB.out; show w.heap.size ≤ nb; omega) (.bool false)⟩ : Fr w m (⟨some ⟨bb, oo, none⟩, aq, ac, ad, cb, cq, cc, cd, ts⟩ : Ip) (cellsR r a14 a15 a16 a17 c14 c15 c16 c17) imz (Z3.setCell ⟨nb, 4, none⟩ (.bool false)))
     have HBXn := hide (HBX.out.setCell 4 (by simp) (.bool false))
     clear HFR HBX
     generalize Z3.setCell ⟨nb, 4, none⟩ (.bool false) = Z4 at HFRn HBXn ⊢
     have HFR := hide HFRn.out
     have HBX := hide HBXn.out
     clear HFRn HBXn
     simp only [List.set] at HBX
     obtain ⟨i0, i1, i2, i3, i4⟩ := HFR.out.i.imx; have r0 := HFR.out.r.at 0 _ rfl; have r1 := HFR.out.r.at 1 _ rfl; have r2 := HFR.out.r.at 2 _ rfl
     obtain ⟨b0, b1, b2, b3, b4⟩ := HBX.out.c5
     go_wp2_with (first | (go_at_call 88; refine (HPU.out _ HFR.out.b i hi (⟨b.id, b.ep, b.rk, false, false⟩ : Bk)).mono ?_; rintro e w3 ⟨v, rfl, hro, hb3⟩; rw [HPL.out i HIN.out] at hro; obtain ⟨av, cv, rfl⟩ := hro.form; have HRO := hide (hro.mono HFR.out.sz); replace HFR := hide (HFR.out.below hb3); clear hro hb3 HPU; clear i0 i1 i2 i3 i4 r0 r1 r2; obtain ⟨i0, i1, i2, i3, i4⟩ := HFR.out.i.imx; have r0 := HFR.out.r.at 0 _ rfl; have r1 := HFR.out.r.at 1 _ rfl; have r2 := HFR.out.r.at 2 _ rfl; have f0 := HFR.out.f 0 (by decide); have HFS := hide (HFR.out.set 0 (.slice av L.length cv) { m with br := L } (⟨av, aq, ac, ad, cv, cq, cc, cd, ts⟩ : Ip) (by decide) rfl)) | (refine wpList_set rfl _ _ _ rfl _ _ rfl HFS.out.z (iml { m with br := L } (⟨av, aq, ac, ad, cv, cq, cc, cd, ts⟩ : Ip)) rfl rfl (by kernel_rfl) rfl ?_; intro W3 hz hk hb hp; have HFO := hide (HFS.out.out hz hk hb); have HRS := hide (fun W (hW : Agr n0 w.heap.size W3 W) => (HRO.out.keepG (fun g hg => (hW g (.inr (by omega))).trans ((hp g (by omega)).trans (Below.heap_setCell _ _ _ _ (show ¬ g = w.heap.size by omega))))).rs); clear hz hk hb hp))
     obtain ⟨q0, q1, q2, q3, q4⟩ := HFO.out.z.imx
     exact bodyPost_ret (v := .tuple #[.agg (iml { m with br := L } (⟨av, aq, ac, ad, cv, cq, cc, cd, ts⟩ : Ip)).toArray, .nilIface]) (by simp [results, Tryz.results54, go_sem, q0, q1, q2, q3, q4, iml]) rfl (st_ret HFO.out (fun W hW => (HVV.out W _ HFO.out.b hW).setB (HRS.out W hW)) erc_nil)
    ·obtain ⟨L, hL⟩ : ∃ L, L = putB m.br (trnX b r.k) := ⟨_, rfl⟩
     have HRE : Hid (turB m r = ({ m with br := L }, 0)) := hide (by rw [HTB.out, trn_yes hq (by omega), hL])
     rw [HRE.out]
     have HPL : Hid (∀ i, (∀ b, insO (fun x : Bk => cmpN x.id r.br) b m.br = m.br.take i ++ b :: m.br.drop (i + 1)) → m.br.take i ++ (⟨b.id, b.ep, b.rk, b.fe, true⟩ : Bk) :: m.br.drop (i + 1) = L) := hide (fun i hi => by rw [← hi, hL, hk]; exact (putB_ins (b := trnX b 5) (id := r.br) HID.out).symm)
     have HK := hide hk
     clear he hq hL hk
     have HFR0 : Fr w m (⟨some ⟨bb, oo, none⟩, aq, ac, ad, cb, cq, cc, cd, ts⟩ : Ip) (cellsR r a14 a15 a16 a17 c14 c15 c16 c17) imz (((w.alloc (.cells (List.toArray [Value.slice (some ⟨bb, oo, none⟩) m.br.length cb, .slice aq ts.length cq, .slice ac m.cf.length cc, .slice ad m.dn.length cd, .int .i64 m.la]) 30)).alloc (.cells (List.toArray [Value.int .i64 r.k, .int .i64 r.br, .int .i64 r.ep, .int .i64 r.tp, .int .i64 r.pa, .int .i64 r.le, .int .i64 r.cl, .int .i64 r.se, .int .i64 r.co, .bool r.fl, .string ⟨r.nm.toArray⟩, .string ⟨r.ky.toArray⟩, .string ⟨r.va.toArray⟩, .string ⟨r.rk.toArray⟩, .slice a14 r.ids.length c14, .slice a15 r.isr.length c15, .slice a16 r.ad.length c16, .slice a17 r.dr.length c17]) 37)).alloc (.cells (List.toArray [Value.slice none 0 0, .slice none 0 0, .slice none 0 0, .slice none 0 0, .int .i64 0]) 30)) := Fr.mk0 w m _ _ _ _ _ (Below.refl _ _)
     clear hv hw hrw hf hrg
     unfold imv
     dsimp only
     show Calls _ _ #[_, .agg (List.toArray [.int .i64 r.k, .int .i64 r.br, .int .i64 r.ep, .int .i64 r.tp, .int .i64 r.pa, .int .i64 r.le, .int .i64 r.cl, .int .i64 r.se, .int .i64 r.co, .bool r.fl, .string ⟨r.nm.toArray⟩, .string ⟨r.ky.toArray⟩, .string ⟨r.va.toArray⟩, .string ⟨r.rk.toArray⟩, .slice a14 r.ids.length c14, .slice a15 r.isr.length c15, .slice a16 r.ad.length c16, .slice a17 r.dr.length c17])] _ _
     go_enter Tryz.func54, Tryz.ntmps54
     go_upto_region 1 with fail
     generalize ((w.alloc (.cells (List.toArray [Value.slice (some ⟨bb, oo, none⟩) m.br.length cb, .slice aq ts.length cq, .slice ac m.cf.length cc, .slice ad m.dn.length cd, .int .i64 m.la]) 30)).alloc (.cells (List.toArray [Value.int .i64 r.k, .int .i64 r.br, .int .i64 r.ep, .int .i64 r.tp, .int .i64 r.pa, .int .i64 r.le, .int .i64 r.cl, .int .i64 r.se, .int .i64 r.co, .bool r.fl, .string ⟨r.nm.toArray⟩, .string ⟨r.ky.toArray⟩, .string ⟨r.va.toArray⟩, .string ⟨r.rk.toArray⟩, .slice a14 r.ids.length c14, .slice a15 r.isr.length c15, .slice a16 r.ad.length c16, .slice a17 r.dr.length c17]) 37)).alloc (.cells (List.toArray [Value.slice none 0 0, .slice none 0 0, .slice none 0 0, .slice none 0 0, .int .i64 0]) 30) = X at HFR0 ⊢
     have HFR := hide HFR0
     clear HFR0
     obtain ⟨i0, i1, i2, i3, i4⟩ := HFR.out.i.imx; have r0 := HFR.out.r.at 0 _ rfl; have r1 := HFR.out.r.at 1 _ rfl; have r2 := HFR.out.r.at 2 _ rfl
     unfold imv bkc at HTU
     unfold imv at HF
     dsimp only at HF HTU
     go_upto_region 4 with (go_at_call 38; refine (HF.out _ HFR.out.b).mono ?_; rintro e wx ⟨i, hi, hib, hins, hrem, _, _, rfl, hbx⟩; have HIN := hide hins; have HRM := hide hrem; have HIB := hide hib; replace HFR := hide (HFR.out.below hbx); clear i0 i1 i2 i3 i4 r0 r1 r2; clear hbx HF hins hrem hib; obtain ⟨i0, i1, i2, i3, i4⟩ := HFR.out.i.imx; have r0 := HFR.out.r.at 0 _ rfl; have r1 := HFR.out.r.at 1 _ rfl; have r2 := HFR.out.r.at 2 _ rfl)
     have hiI : (i : Int) < (m.br.length : Int) := Int.ofNat_lt.2 hi
     have HE : Hid (wx.rangeAt bb (oo + i * 5) [.int .i64 b.id, .int .i64 b.ep, .string ⟨b.rk.toArray⟩, .bool b.fe, .bool b.lv]) := hide (by have := rg_bel (fm_at encB HRG.out hi) HFR.out.b; rw [HIB.out] at this; exact this)
     go_upto_region 5 with (refine wpList_load_mid rfl _ _ rfl _ _ rfl _ _ HE.out Tryz.underlying54 rfl (by kernel_rfl) ?_)
     clear i0 i1 i2 i3 i4 r0 r1 r2
     have HNB := hide HFR.out.sz
     have HBX := hide (Bx.new wx [.int .i64 b.id, .int .i64 b.ep, .string ⟨b.rk.toArray⟩, .bool b.fe, .bool b.lv] 54)
     replace HFR := hide (HFR.out.below (below_al1 wx (.cells (List.toArray [Value.int .i64 b.id, .int .i64 b.ep, .string ⟨b.rk.toArray⟩, .bool b.fe, .bool b.lv]) 54)))
     generalize wx.alloc (.cells (List.toArray [Value.int .i64 b.id, .int .i64 b.ep, .string ⟨b.rk.toArray⟩, .bool b.fe, .bool b.lv]) 54) = Y at HFR HBX ⊢
     generalize wx.heap.size = nb at HBX HNB ⊢
     obtain ⟨i0, i1, i2, i3, i4⟩ := HFR.out.i.imx; have r0 := HFR.out.r.at 0 _ rfl; have r1 := HFR.out.r.at 1 _ rfl; have r2 := HFR.out.r.at 2 _ rfl
     obtain ⟨b0, b1, b2, b3, b4⟩ := HBX.out.c5
     go_upto_region 9 with (go_at_call 89; refine (HTU.out _ HFR.out.b).mono ?_; rintro e wy ⟨rfl, hby⟩; replace HFR := hide (HFR.out.below hby); replace HBX := hide (HBX.out.below hby); clear i0 i1 i2 i3 i4 r0 r1 r2; clear b0 b1 b2 b3 b4; clear hby HTU; obtain ⟨i0, i1, i2, i3, i4⟩ := HFR.out.i.imx; have r0 := HFR.out.r.at 0 _ rfl; have r1 := HFR.out.r.at 1 _ rfl; have r2 := HFR.out.r.at 2 _ rfl; obtain ⟨b0, b1, b2, b3, b4⟩ := HBX.out.c5)
     rw [HK.out] at r0
     have g4 := HBX.out.f 4 (by simp)
     go_upto_region 19 with fail
     clear i0 i1 i2 i3 i4 r0 r1 r2
     clear b0 b1 b2 b3 b4 g4
     have HFRn := hide (⟨HFR.out.i.setOther (m := nb) (by have := HNB.out; omega) 4 (.bool true), HFR.out.r.setOther (m := nb) (by have := HNB.out; omega) 4 (.bool true), HFR.out.z.setOther (m := nb) (by have := HNB.out; omega) 4 (.bool true), HFR.out.b.setCell (p := ⟨nb, 4, none⟩) (by have := HNB.out; show w.heap.size ≤ nb; omega) (.bool true)⟩ : Fr w m (⟨some ⟨bb, oo, none⟩, aq, ac, ad, cb, cq, cc, cd, ts⟩ : Ip) (cellsR r a14 a15 a16 a17 c14 c15 c16 c17) imz (wy.setCell ⟨nb, 4, none⟩ (.bool true)))
     have HBXn := hide (HBX.out.setCell 4 (by simp) (.bool true))
     clear HFR HBX
     generalize wy.setCell ⟨nb, 4, none⟩ (.bool true) = Z4 at HFRn HBXn ⊢
     have HFR := hide HFRn.out
     have HBX := hide HBXn.out
     clear HFRn HBXn
     simp only [List.set] at HBX
     obtain ⟨i0, i1, i2, i3, i4⟩ := HFR.out.i.imx; have r0 := HFR.out.r.at 0 _ rfl; have r1 := HFR.out.r.at 1 _ rfl; have r2 := HFR.out.r.at 2 _ rfl
     obtain ⟨b0, b1, b2, b3, b4⟩ := HBX.out.c5
     go_wp2_with (first | (go_at_call 88; refine (HPU.out _ HFR.out.b i hi (⟨b.id, b.ep, b.rk, b.fe, true⟩ : Bk)).mono ?_; rintro e w3 ⟨v, rfl, hro, hb3⟩; rw [HPL.out i HIN.out] at hro; obtain ⟨av, cv, rfl⟩ := hro.form; have HRO := hide (hro.mono HFR.out.sz); replace HFR := hide (HFR.out.below hb3); clear hro hb3 HPU; clear i0 i1 i2 i3 i4 r0 r1 r2; obtain ⟨i0, i1, i2, i3, i4⟩ := HFR.out.i.imx; have r0 := HFR.out.r.at 0 _ rfl; have r1 := HFR.out.r.at 1 _ rfl; have r2 := HFR.out.r.at 2 _ rfl; have f0 := HFR.out.f 0 (by decide); have HFS := hide (HFR.out.set 0 (.slice av L.length cv) { m with br := L } (⟨av, aq, ac, ad, cv, cq, cc, cd, ts⟩ : Ip) (by decide) rfl)) | (refine wpList_set rfl _ _ _ rfl _ _ rfl HFS.out.z (iml { m with br := L } (⟨av, aq, ac, ad, cv, cq, cc, cd, ts⟩ : Ip)) rfl rfl (by kernel_rfl) rfl ?_; intro W3 hz hk hb hp; have HFO := hide (HFS.out.out hz hk hb); have HRS := hide (fun W (hW : Agr n0 w.heap.size W3 W) => (HRO.out.keepG (fun g hg => (hW g (.inr (by omega))).trans ((hp g (by omega)).trans (Below.heap_setCell _ _ _ _ (show ¬ g = w.heap.size by omega))))).rs); clear hz hk hb hp))
     obtain ⟨q0, q1, q2, q3, q4⟩ := HFO.out.z.imx
     exact bodyPost_ret (v := .tuple #[.agg (iml { m with br := L } (⟨av, aq, ac, ad, cv, cq, cc, cd, ts⟩ : Ip)).toArray, .nilIface]) (by simp [results, Tryz.results54, go_sem, q0, q1, q2, q3, q4, iml]) rfl (st_ret HFO.out (fun W hW => (HVV.out W _ HFO.out.b hW).setB (HRS.out W hW)) erc_nil)
    ·obtain ⟨L, hL⟩ : ∃ L, L = remB m.br b.id := ⟨_, rfl⟩
     have HRE : Hid (turB m r = ({ m with br := L }, 0)) := hide (by rw [HTB.out, hk, trn_gone (hk ▸ hq), hL])
     rw [HRE.out]
     have HPL : Hid (remO (fun x : Bk => cmpN x.id r.br) m.br = L) := hide (by rw [hL, remB_rem, HID.out])
     have HK := hide hk
     clear he hq hL hk
     have HFR0 : Fr w m (⟨some ⟨bb, oo, none⟩, aq, ac, ad, cb, cq, cc, cd, ts⟩ : Ip) (cellsR r a14 a15 a16 a17 c14 c15 c16 c17) imz (((w.alloc (.cells (List.toArray [Value.slice (some ⟨bb, oo, none⟩) m.br.length cb, .slice aq ts.length cq, .slice ac m.cf.length cc, .slice ad m.dn.length cd, .int .i64 m.la]) 30)).alloc (.cells (List.toArray [Value.int .i64 r.k, .int .i64 r.br, .int .i64 r.ep, .int .i64 r.tp, .int .i64 r.pa, .int .i64 r.le, .int .i64 r.cl, .int .i64 r.se, .int .i64 r.co, .bool r.fl, .string ⟨r.nm.toArray⟩, .string ⟨r.ky.toArray⟩, .string ⟨r.va.toArray⟩, .string ⟨r.rk.toArray⟩, .slice a14 r.ids.length c14, .slice a15 r.isr.length c15, .slice a16 r.ad.length c16, .slice a17 r.dr.length c17]) 37)).alloc (.cells (List.toArray [Value.slice none 0 0, .slice none 0 0, .slice none 0 0, .slice none 0 0, .int .i64 0]) 30)) := Fr.mk0 w m _ _ _ _ _ (Below.refl _ _)
     clear hv hw hrw hf hrg
     unfold imv
     dsimp only
     show Calls _ _ #[_, .agg (List.toArray [.int .i64 r.k, .int .i64 r.br, .int .i64 r.ep, .int .i64 r.tp, .int .i64 r.pa, .int .i64 r.le, .int .i64 r.cl, .int .i64 r.se, .int .i64 r.co, .bool r.fl, .string ⟨r.nm.toArray⟩, .string ⟨r.ky.toArray⟩, .string ⟨r.va.toArray⟩, .string ⟨r.rk.toArray⟩, .slice a14 r.ids.length c14, .slice a15 r.isr.length c15, .slice a16 r.ad.length c16, .slice a17 r.dr.length c17])] _ _
     go_enter Tryz.func54, Tryz.ntmps54
     go_upto_region 1 with fail
     generalize ((w.alloc (.cells (List.toArray [Value.slice (some ⟨bb, oo, none⟩) m.br.length cb, .slice aq ts.length cq, .slice ac m.cf.length cc, .slice ad m.dn.length cd, .int .i64 m.la]) 30)).alloc (.cells (List.toArray [Value.int .i64 r.k, .int .i64 r.br, .int .i64 r.ep, .int .i64 r.tp, .int .i64 r.pa, .int .i64 r.le, .int .i64 r.cl, .int .i64 r.se, .int .i64 r.co, .bool r.fl, .string ⟨r.nm.toArray⟩, .string ⟨r.ky.toArray⟩, .string ⟨r.va.toArray⟩, .string ⟨r.rk.toArray⟩, .slice a14 r.ids.length c14, .slice a15 r.isr.length c15, .slice a16 r.ad.length c16, .slice a17 r.dr.length c17]) 37)).alloc (.cells (List.toArray [Value.slice none 0 0, .slice none 0 0, .slice none 0 0, .slice none 0 0, .int .i64 0]) 30) = X at HFR0 ⊢
     have HFR := hide HFR0
     clear HFR0
     obtain ⟨i0, i1, i2, i3, i4⟩ := HFR.out.i.imx; have r0 := HFR.out.r.at 0 _ rfl; have r1 := HFR.out.r.at 1 _ rfl; have r2 := HFR.out.r.at 2 _ rfl
     unfold imv bkc at HTU
     unfold imv at HF
     dsimp only at HF HTU
     go_upto_region 4 with (go_at_call 38; refine (HF.out _ HFR.out.b).mono ?_; rintro e wx ⟨i, hi, hib, hins, hrem, _, _, rfl, hbx⟩; have HIN := hide hins; have HRM := hide hrem; have HIB := hide hib; replace HFR := hide (HFR.out.below hbx); clear i0 i1 i2 i3 i4 r0 r1 r2; clear hbx HF hins hrem hib; obtain ⟨i0, i1, i2, i3, i4⟩ := HFR.out.i.imx; have r0 := HFR.out.r.at 0 _ rfl; have r1 := HFR.out.r.at 1 _ rfl; have r2 := HFR.out.r.at 2 _ rfl)
     have hiI : (i : Int) < (m.br.length : Int) := Int.ofNat_lt.2 hi
     have HE : Hid (wx.rangeAt bb (oo + i * 5) [.int .i64 b.id, .int .i64 b.ep, .string ⟨b.rk.toArray⟩, .bool b.fe, .bool b.lv]) := hide (by have := rg_bel (fm_at encB HRG.out hi) HFR.out.b; rw [HIB.out] at this; exact this)
     go_upto_region 5 with (refine wpList_load_mid rfl _ _ rfl _ _ rfl _ _ HE.out Tryz.underlying54 rfl (by kernel_rfl) ?_)
     clear i0 i1 i2 i3 i4 r0 r1 r2
     have HNB := hide HFR.out.sz
     have HBX := hide (Bx.new wx [.int .i64 b.id, .int .i64 b.ep, .string ⟨b.rk.toArray⟩, .bool b.fe, .bool b.lv] 54)
     replace HFR := hide (HFR.out.below (below_al1 wx (.cells (List.toArray [Value.int .i64 b.id, .int .i64 b.ep, .string ⟨b.rk.toArray⟩, .bool b.fe, .bool b.lv]) 54)))
     generalize wx.alloc (.cells (List.toArray [Value.int .i64 b.id, .int .i64 b.ep, .string ⟨b.rk.toArray⟩, .bool b.fe, .bool b.lv]) 54) = Y at HFR HBX ⊢
     generalize wx.heap.size = nb at HBX HNB ⊢
     obtain ⟨i0, i1, i2, i3, i4⟩ := HFR.out.i.imx; have r0 := HFR.out.r.at 0 _ rfl; have r1 := HFR.out.r.at 1 _ rfl; have r2 := HFR.out.r.at 2 _ rfl
     obtain ⟨b0, b1, b2, b3, b4⟩ := HBX.out.c5
     go_upto_region 9 with (go_at_call 89; refine (HTU.out _ HFR.out.b).mono ?_; rintro e wy ⟨rfl, hby⟩; replace HFR := hide (HFR.out.below hby); replace HBX := hide (HBX.out.below hby); clear i0 i1 i2 i3 i4 r0 r1 r2; clear b0 b1 b2 b3 b4; clear hby HTU; obtain ⟨i0, i1, i2, i3, i4⟩ := HFR.out.i.imx; have r0 := HFR.out.r.at 0 _ rfl; have r1 := HFR.out.r.at 1 _ rfl; have r2 := HFR.out.r.at 2 _ rfl; obtain ⟨b0, b1, b2, b3, b4⟩ := HBX.out.c5)
     rw [HK.out] at r0
     go_wp2_with (first | (go_at_call 90; refine (HWO.out _ HFR.out.b i hi).mono ?_; rintro e w3 ⟨v, rfl, hro, hb3⟩; rw [← HRM.out, HPL.out] at hro; obtain ⟨av, cv, rfl⟩ := hro.form; have HRO := hide (hro.mono HFR.out.sz); replace HFR := hide (HFR.out.below hb3); clear hro hb3 HWO; clear i0 i1 i2 i3 i4 r0 r1 r2; obtain ⟨i0, i1, i2, i3, i4⟩ := HFR.out.i.imx; have r0 := HFR.out.r.at 0 _ rfl; have r1 := HFR.out.r.at 1 _ rfl; have r2 := HFR.out.r.at 2 _ rfl; have f0 := HFR.out.f 0 (by decide); have HFS := hide (HFR.out.set 0 (.slice av L.length cv) { m with br := L } (⟨av, aq, ac, ad, cv, cq, cc, cd, ts⟩ : Ip) (by decide) rfl)) | (refine wpList_set rfl _ _ _ rfl _ _ rfl HFS.out.z (iml { m with br := L } (⟨av, aq, ac, ad, cv, cq, cc, cd, ts⟩ : Ip)) rfl rfl (by kernel_rfl) rfl ?_; intro W3 hz hk hb hp; have HFO := hide (HFS.out.out hz hk hb); have HRS := hide (fun W (hW : Agr n0 w.heap.size W3 W) => (HRO.out.keepG (fun g hg => (hW g (.inr (by omega))).trans ((hp g (by omega)).trans (Below.heap_setCell _ _ _ _ (show ¬ g = w.heap.size by omega))))).rs); clear hz hk hb hp))
     obtain ⟨q0, q1, q2, q3, q4⟩ := HFO.out.z.imx
     exact bodyPost_ret (v := .tuple #[.agg (iml { m with br := L } (⟨av, aq, ac, ad, cv, cq, cc, cd, ts⟩ : Ip)).toArray, .nilIface]) (by simp [results, Tryz.results54, go_sem, q0, q1, q2, q3, q4, iml]) rfl (st_ret HFO.out (fun W hW => (HVV.out W _ HFO.out.b hW).setB (HRS.out W hW)) erc_nil)
  ·have hne1 : (b.ep != r.ep) = true := by simpa using he
   have HRE : Hid (turB m r = (m, 11)) := hide (by unfold turB; rw [hf]; exact if_neg he)
   rw [HRE.out]
   have HFR0 : Fr w m (⟨some ⟨bb, oo, none⟩, aq, ac, ad, cb, cq, cc, cd, ts⟩ : Ip) (cellsR r a14 a15 a16 a17 c14 c15 c16 c17) imz (((w.alloc (.cells (List.toArray [Value.slice (some ⟨bb, oo, none⟩) m.br.length cb, .slice aq ts.length cq, .slice ac m.cf.length cc, .slice ad m.dn.length cd, .int .i64 m.la]) 30)).alloc (.cells (List.toArray [Value.int .i64 r.k, .int .i64 r.br, .int .i64 r.ep, .int .i64 r.tp, .int .i64 r.pa, .int .i64 r.le, .int .i64 r.cl, .int .i64 r.se, .int .i64 r.co, .bool r.fl, .string ⟨r.nm.toArray⟩, .string ⟨r.ky.toArray⟩, .string ⟨r.va.toArray⟩, .string ⟨r.rk.toArray⟩, .slice a14 r.ids.length c14, .slice a15 r.isr.length c15, .slice a16 r.ad.length c16, .slice a17 r.dr.length c17]) 37)).alloc (.cells (List.toArray [Value.slice none 0 0, .slice none 0 0, .slice none 0 0, .slice none 0 0, .int .i64 0]) 30)) := Fr.mk0 w m _ _ _ _ _ (Below.refl _ _)
   clear hv hw hrw hf hrg hk
   unfold imv
   dsimp only
   show Calls _ _ #[_, .agg (List.toArray [.int .i64 r.k, .int .i64 r.br, .int .i64 r.ep, .int .i64 r.tp, .int .i64 r.pa, .int .i64 r.le, .int .i64 r.cl, .int .i64 r.se, .int .i64 r.co, .bool r.fl, .string ⟨r.nm.toArray⟩, .string ⟨r.ky.toArray⟩, .string ⟨r.va.toArray⟩, .string ⟨r.rk.toArray⟩, .slice a14 r.ids.length c14, .slice a15 r.isr.length c15, .slice a16 r.ad.length c16, .slice a17 r.dr.length c17])] _ _
   go_enter Tryz.func54, Tryz.ntmps54
   go_upto_region 1 with fail
   generalize ((w.alloc (.cells (List.toArray [Value.slice (some ⟨bb, oo, none⟩) m.br.length cb, .slice aq ts.length cq, .slice ac m.cf.length cc, .slice ad m.dn.length cd, .int .i64 m.la]) 30)).alloc (.cells (List.toArray [Value.int .i64 r.k, .int .i64 r.br, .int .i64 r.ep, .int .i64 r.tp, .int .i64 r.pa, .int .i64 r.le, .int .i64 r.cl, .int .i64 r.se, .int .i64 r.co, .bool r.fl, .string ⟨r.nm.toArray⟩, .string ⟨r.ky.toArray⟩, .string ⟨r.va.toArray⟩, .string ⟨r.rk.toArray⟩, .slice a14 r.ids.length c14, .slice a15 r.isr.length c15, .slice a16 r.ad.length c16, .slice a17 r.dr.length c17]) 37)).alloc (.cells (List.toArray [Value.slice none 0 0, .slice none 0 0, .slice none 0 0, .slice none 0 0, .int .i64 0]) 30) = X at HFR0 ⊢
   have HFR := hide HFR0
   clear HFR0
   obtain ⟨i0, i1, i2, i3, i4⟩ := HFR.out.i.imx; have r0 := HFR.out.r.at 0 _ rfl; have r1 := HFR.out.r.at 1 _ rfl; have r2 := HFR.out.r.at 2 _ rfl
   unfold imv at HF
   dsimp only at HF
   go_upto_region 4 with (go_at_call 38; refine (HF.out _ HFR.out.b).mono ?_; rintro e wx ⟨i, hi, hib, hins, hrem, _, _, rfl, hbx⟩; have HIN := hide hins; have HRM := hide hrem; have HIB := hide hib; replace HFR := hide (HFR.out.below hbx); clear i0 i1 i2 i3 i4 r0 r1 r2; clear hbx HF hins hrem hib; obtain ⟨i0, i1, i2, i3, i4⟩ := HFR.out.i.imx; have r0 := HFR.out.r.at 0 _ rfl; have r1 := HFR.out.r.at 1 _ rfl; have r2 := HFR.out.r.at 2 _ rfl)
   have hiI : (i : Int) < (m.br.length : Int) := Int.ofNat_lt.2 hi
   have HE : Hid (wx.rangeAt bb (oo + i * 5) [.int .i64 b.id, .int .i64 b.ep, .string ⟨b.rk.toArray⟩, .bool b.fe, .bool b.lv]) := hide (by have := rg_bel (fm_at encB HRG.out hi) HFR.out.b; rw [HIB.out] at this; exact this)
   go_upto_region 5 with (refine wpList_load_mid rfl _ _ rfl _ _ rfl _ _ HE.out Tryz.underlying54 rfl (by kernel_rfl) ?_)
   clear i0 i1 i2 i3 i4 r0 r1 r2
   have HNB := hide HFR.out.sz
   have HBX := hide (Bx.new wx [.int .i64 b.id, .int .i64 b.ep, .string ⟨b.rk.toArray⟩, .bool b.fe, .bool b.lv] 54)
   replace HFR := hide (HFR.out.below (below_al1 wx (.cells (List.toArray [Value.int .i64 b.id, .int .i64 b.ep, .string ⟨b.rk.toArray⟩, .bool b.fe, .bool b.lv]) 54)))
   generalize wx.alloc (.cells (List.toArray [Value.int .i64 b.id, .int .i64 b.ep, .string ⟨b.rk.toArray⟩, .bool b.fe, .bool b.lv]) 54) = Y at HFR HBX ⊢
   generalize wx.heap.size = nb at HBX HNB ⊢
   obtain ⟨i0, i1, i2, i3, i4⟩ := HFR.out.i.imx; have r0 := HFR.out.r.at 0 _ rfl; have r1 := HFR.out.r.at 1 _ rfl; have r2 := HFR.out.r.at 2 _ rfl
   obtain ⟨b0, b1, b2, b3, b4⟩ := HBX.out.c5
   go_wp2_with (first | (refine wpList_set rfl _ _ _ rfl _ _ rfl HFR.out.z (iml m (⟨some ⟨bb, oo, none⟩, aq, ac, ad, cb, cq, cc, cd, ts⟩ : Ip)) rfl rfl (by kernel_rfl) rfl ?_; intro W3 hz hk hb hp; have HFO := hide (HFR.out.out hz hk hb); clear hz hk hb hp))
   obtain ⟨q0, q1, q2, q3, q4⟩ := HFO.out.z.imx
   exact bodyPost_ret (v := .tuple #[.agg (iml m (⟨some ⟨bb, oo, none⟩, aq, ac, ad, cb, cq, cc, cd, ts⟩ : Ip)).toArray, .iface 38 (.int .i64 11)]) (by simp [results, Tryz.results54, go_sem, q0, q1, q2, q3, q4, iml]) rfl (st_ret HFO.out (fun W hW => HVV.out W _ HFO.out.b hW) (erc_code (by decide)))
end Go.Proofs.YtlggjgapdpkhiaaGreatDoor
namespace Go.Proofs.YtlggjgapdpkhiaaGreatDoor
open Go.RowKit
theorem rcis_pt {r : Rc} (h : RcIs r) : WfP (ptOf r) ∧ 0 ≤ r.pa := by
 have h0 := rowB_asks h.ids
 have h1 := rowB_asks h.isr
 have h2 := rowB_asks h.ad
 have h3 := rowB_asks h.dr
 have he := numB_asks h.ep
 have hp := numB_asks h.pa
 refine ⟨⟨?_, ?_, ?_, ?_, ?_⟩, ?_⟩
 ·show r.ids.length ≤ 7
  split at h0
  ·exact h0.1
  ·rw [h0]; decide
 ·show r.isr.length ≤ 7
  split at h1
  ·exact h1.1
  ·rw [h1]; decide
 ·show r.ad.length ≤ 7
  split at h2
  ·exact h2.1
  ·rw [h2]; decide
 ·show r.dr.length ≤ 7
  split at h3
  ·exact h3.1
  ·rw [h3]; decide
 ·show 0 ≤ r.ep ∧ r.ep ≤ 1073741824
  split at he <;> omega
 ·split at hp <;> omega
theorem fB_putB (l : List Bk) (c : Bk) (i : Int) : fB (putB l c) i = if i = c.id then some c else fB l i := by
 unfold fB putB
 rw [List.find?_append]
 by_cases h : i = c.id
 ·rw [if_pos h, List.find?_eq_none.2 (fun x hx => by
   have := (List.mem_filter.1 hx).2
   simp only [decide_eq_true_eq] at this
   simp only [idB, beq_iff_eq]; omega), Option.none_or, List.find?_cons_of_pos (by simp [idB, h])]
 ·rw [if_neg h, List.find?_cons_of_neg (by simp only [idB, beq_iff_eq]; omega)]
  rw [List.find?_filter, List.find?_filter]
  by_cases h2 : i < c.id
  ·have e1 : (fun a : Bk => decide (decide (a.id < c.id) = true ∧ idB i a = true)) = idB i := by
    funext x
    by_cases hx : x.id = i
    ·simp [idB, hx, h2]
    ·simp [idB, hx]
   have e2 : List.find? (fun a : Bk => decide (decide (c.id < a.id) = true ∧ idB i a = true)) l = none := by
    rw [List.find?_eq_none]
    intro x _
    simp only [idB, beq_iff_eq, decide_eq_true_eq]; omega
   rw [e1, e2, Option.or_none]
  ·have e1 : (fun a : Bk => decide (decide (c.id < a.id) = true ∧ idB i a = true)) = idB i := by
    funext x
    by_cases hx : x.id = i
    ·have : c.id < i := by omega
     simp [idB, hx, this]
    ·simp [idB, hx]
   have e2 : List.find? (fun a : Bk => decide (decide (a.id < c.id) = true ∧ idB i a = true)) l = none := by
    rw [List.find?_eq_none]
    intro x _
    simp only [idB, beq_iff_eq, decide_eq_true_eq]; omega
   rw [e1, e2, Option.none_or]
theorem fB_remB (l : List Bk) (id i : Int) : fB (remB l id) i = if i = id then none else fB l i := by
 unfold fB remB
 rw [List.find?_filter]
 by_cases h : i = id
 ·rw [if_pos h, List.find?_eq_none]
  intro x _
  simp only [idB, beq_iff_eq, decide_eq_true_eq, Bool.not_eq_true', beq_eq_false_iff_ne, ne_eq]; omega
 ·rw [if_neg h]
  congr 1
  funext x
  by_cases hx : x.id = i
  ·simp [idB, hx, h]
  ·simp [idB, hx]
theorem alive_putB (l : List Bk) (c : Bk) (i : Int) : alive (putB l c) i = if i = c.id then !c.fe else alive l i := by
 unfold alive
 rw [fB_putB]
 by_cases h : i = c.id
 ·rw [if_pos h, if_pos h]
 ·rw [if_neg h, if_neg h]
theorem alive_remB (l : List Bk) (id i : Int) : alive (remB l id) i = if i = id then false else alive l i := by
 unfold alive
 rw [fB_remB]
 by_cases h : i = id
 ·rw [if_pos h, if_pos h]
 ·rw [if_neg h, if_neg h]
def mvP (p : Pt) : Bool := p.ad.any (fun i => !p.ids.contains i) || p.dr.any (fun i => !p.ids.contains i) || p.ad.any (fun i => p.dr.contains i)
theorem right_iff {l : List Bk} {p : Pt} : right l p = 0 ↔ (p.ids ≠ [] ∧ ∀ i ∈ p.ids, (fB l i).isSome = true) ∧ (p.isr ≠ [] ∧ ∀ i ∈ p.isr, i ∈ p.ids) ∧ (p.ld = 0 ∨ p.ld ∈ p.isr ∧ alive l p.ld = true) ∧ mvP p = false := by
 unfold right
 by_cases h1 : (p.ids.isEmpty || p.ids.any fun i => (fB l i).isNone) = true
 ·rw [if_pos h1]
  refine ⟨fun h => absurd h (by decide), fun ⟨⟨a, b⟩, _⟩ => ?_⟩
  rw [Bool.or_eq_true] at h1
  rcases h1 with h1 | h1
  ·exact absurd (List.isEmpty_iff.1 h1) a
  ·obtain ⟨i, hi, hn⟩ := List.any_eq_true.1 h1
   have := b i hi
   rw [Option.isNone_iff_eq_none.1 hn] at this
   cases this
 ·rw [if_neg h1]
  have h1' := Bool.or_eq_false_iff.1 (Bool.eq_false_iff.2 h1)
  have a1 : p.ids ≠ [] := fun q => by rw [q] at h1'; exact absurd h1'.1 (by decide)
  have a2 : ∀ i ∈ p.ids, (fB l i).isSome = true := fun i hi => by
   have := List.any_eq_false.1 h1'.2 i hi
   cases hx : fB l i with
   | none => rw [hx] at this; exact absurd rfl this
   | some _ => rfl
  by_cases h2 : (p.isr.isEmpty || p.isr.any fun i => !p.ids.contains i) = true
  ·rw [if_pos h2]
   refine ⟨fun h => absurd h (by decide), fun ⟨_, ⟨a, b⟩, _⟩ => ?_⟩
   rw [Bool.or_eq_true] at h2
   rcases h2 with h2 | h2
   ·exact absurd (List.isEmpty_iff.1 h2) a
   ·obtain ⟨i, hi, hn⟩ := List.any_eq_true.1 h2
    have := b i hi
    simp [this] at hn
  ·rw [if_neg h2]
   have h2' := Bool.or_eq_false_iff.1 (Bool.eq_false_iff.2 h2)
   have b1 : p.isr ≠ [] := fun q => by rw [q] at h2'; exact absurd h2'.1 (by decide)
   have b2 : ∀ i ∈ p.isr, i ∈ p.ids := fun i hi => by
    have := List.any_eq_false.1 h2'.2 i hi
    simpa using this
   by_cases h3 : (p.ld != 0 && (!p.isr.contains p.ld || !alive l p.ld)) = true
   ·rw [if_pos h3]
    refine ⟨fun h => absurd h (by decide), fun ⟨_, _, c, _⟩ => ?_⟩
    rw [Bool.and_eq_true] at h3
    rcases c with c | ⟨c, d⟩
    ·rw [c] at h3; exact absurd h3.1 (by decide)
    ·rw [d] at h3; simp [c] at h3
   ·rw [if_neg h3]
    have c1 : p.ld = 0 ∨ p.ld ∈ p.isr ∧ alive l p.ld = true := by
     by_cases h0 : p.ld = 0
     ·exact .inl h0
     ·refine .inr ?_
      simp [h0] at h3
      exact h3
    show (if mvP p = true then (18 : Int) else 0) = 0 ↔ _
    cases hm : mvP p with
    | true => exact ⟨fun h => absurd h (by decide), fun h => absurd h.2.2.2 (by decide)⟩
    | false => exact ⟨fun _ => ⟨⟨a1, a2⟩, ⟨b1, b2⟩, c1, rfl⟩, fun _ => rfl⟩
theorem right_putB {l : List Bk} {p : Pt} {c : Bk} (h : right l p = 0) (hf : c.fe = true → alive l c.id = false ∨ p.ld ≠ c.id) : right (putB l c) p = 0 := by
 rw [right_iff] at *
 obtain ⟨⟨a1, a2⟩, b, d, e⟩ := h
 refine ⟨⟨a1, fun i hi => ?_⟩, b, ?_, e⟩
 ·rw [fB_putB]
  split
  ·rfl
  ·exact a2 i hi
 ·rcases d with d | ⟨d1, d2⟩
  ·exact .inl d
  ·refine .inr ⟨d1, ?_⟩
   rw [alive_putB]
   split
   ·rename_i q
    cases hc : c.fe with
    | false => rfl
    | true =>
     rcases hf hc with z | z
     ·rw [← q, d2] at z; cases z
     ·exact absurd q z
   ·exact d2
theorem right_remB {l : List Bk} {p : Pt} {id : Int} (h : right l p = 0) (hu : ¬ id ∈ p.ids) : right (remB l id) p = 0 := by
 rw [right_iff] at *
 obtain ⟨⟨a1, a2⟩, b, d, e⟩ := h
 refine ⟨⟨a1, fun i hi => ?_⟩, b, ?_, e⟩
 ·rw [fB_remB, if_neg (fun q : i = id => hu (q ▸ hi))]
  exact a2 i hi
 ·rcases d with d | ⟨d1, d2⟩
  ·exact .inl d
  ·refine .inr ⟨d1, ?_⟩
   rw [alive_remB, if_neg (fun q : p.ld = id => hu (q ▸ b.2 _ d1))]
   exact d2
theorem leads_no {l : List Tp} {id : Int} (h : leads l id = false) : ∀ t ∈ l, ∀ p ∈ t.ps, p.ld ≠ id := fun t ht p hp q => by
 have h1 := List.any_eq_false.1 h t ht
 exact h1 (List.any_eq_true.2 ⟨p, hp, by simpa using q⟩)
theorem used_no {l : List Tp} {id : Int} (h : used l id = false) : ∀ t ∈ l, ∀ p ∈ t.ps, ¬ id ∈ p.ids := fun t ht p hp q => by
 have h1 := List.any_eq_false.1 h t ht
 exact h1 (List.any_eq_true.2 ⟨p, hp, by simpa using q⟩)
inductive Stp (m : Im) (r : Rc) : Im → Prop
 | noop : Stp m r m
 | bro (c : Bk) (hf : c.fe = true → alive m.br c.id = false ∨ leads m.ts c.id = false) : Stp m r { m with br := putB m.br c }
 | gone (id : Int) (hu : used m.ts id = false) : Stp m r { m with br := remB m.br id }
 | top (h1 : r.tp = m.la + 1) (h2 : r.tp ≤ 1073741824) (h3 : fN m.ts r.nm = none) (h4 : m.ts.length < 256) : Stp m r { m with ts := m.ts ++ [⟨r.tp, r.nm, []⟩], la := r.tp }
 | drop (id : Int) : Stp m r { m with ts := m.ts.filter (fun t => !idT id t), cf := m.cf.filter fun c => !(c.tp == id) }
 | part (t : Tp) (h1 : fT m.ts r.tp = some t) (h2 : right m.br (ptOf r) = 0) (h3 : folP t.ps r (ptOf r) = 0) (h4 : rowB r.ids true = true) (hw : WfP (ptOf r)) (h5 : 0 ≤ r.pa) : Stp m r { m with ts := setT m.ts r.tp (putP t.ps r.pa.toNat (ptOf r)) }
 | crem (q : Cf → Bool) : Stp m r { m with cf := m.cf.filter q }
 | cput (c : Cf) : Stp m r { m with cf := putC m.cf c }
 | dput (d : Dn) : Stp m r { m with dn := putD m.dn d }
theorem fB_id {l : List Bk} {id : Int} {b : Bk} (h : fB l id = some b) : b.id = id := by
 have := List.find?_some h
 simpa [idB] using this
theorem stepI_stp {m : Im} {r : Rc} (h : RcIs r) (h0 : (stepI m r).2 = 0) : Stp m r (stepI m r).1 := by
 revert h0
 unfold stepI
 by_cases k2 : r.k = 2
 ·rw [if_pos k2]
  unfold regB
  cases hf : fB m.br r.br with
  | none => exact fun _ => .bro _ (fun _ => .inl (by show alive m.br r.br = false; unfold alive; rw [hf]))
  | some b =>
   simp only
   by_cases h1 : r.ep ≤ b.ep
   ·rw [if_pos h1]; exact fun q => absurd q (by decide : ¬ (11 : Int) = 0)
   ·rw [if_neg h1]
    by_cases h2 : leads m.ts r.br = true
    ·rw [if_pos h2]; exact fun q => absurd q (by decide : ¬ (10 : Int) = 0)
    ·rw [if_neg h2]
     exact fun _ => .bro _ (fun _ => .inr (Bool.eq_false_iff.2 h2))
 rw [if_neg k2]
 by_cases k3 : r.k = 3 ∨ r.k = 4 ∨ r.k = 5 ∨ r.k = 6
 ·rw [if_pos k3]
  unfold turB
  cases hf : fB m.br r.br with
  | none => exact fun q => absurd q (by decide : ¬ (8 : Int) = 0)
  | some b =>
   have hid := fB_id hf
   simp only
   by_cases h1 : b.ep = r.ep
   ·rw [if_pos h1]
    unfold trnB
    split
    ·split
     ·exact fun q => absurd q (by decide : ¬ (10 : Int) = 0)
     ·rename_i h2
      have h2' := Bool.or_eq_false_iff.1 (Bool.eq_false_iff.2 h2)
      exact fun _ => .bro _ (fun _ => .inr h2'.2)
    ·split
     ·split
      ·exact fun q => absurd q (by decide : ¬ (10 : Int) = 0)
      ·exact fun _ => .bro _ (fun q => by cases q)
     ·split
      ·split
       ·exact fun q => absurd q (by decide : ¬ (10 : Int) = 0)
       ·rename_i h2
        have h2' := Bool.or_eq_false_iff.1 (Bool.eq_false_iff.2 h2)
        exact fun _ => .bro _ (fun (q : b.fe = true) => by rw [h2'.1] at q; cases q)
      ·split
       ·exact fun q => absurd q (by decide : ¬ (10 : Int) = 0)
       ·rename_i h2
        exact fun _ => .gone _ (Bool.eq_false_iff.2 h2)
   ·rw [if_neg h1]; exact fun q => absurd q (by decide : ¬ (11 : Int) = 0)
 rw [if_neg k3]
 by_cases k7 : r.k = 7
 ·rw [if_pos k7]
  unfold crtT
  have ht := numB_asks h.tp
  have hh : hasL r.k 116 = true := by rw [k7]; decide
  rw [hh, if_pos rfl] at ht
  split
  ·rename_i h1
   split
   ·exact fun q => absurd q (by decide : ¬ (9 : Int) = 0)
   ·rename_i h2
    split
    ·exact fun q => absurd q (by decide : ¬ (6 : Int) = 0)
    ·rename_i h3
     refine fun _ => .top h1 ht.2 ?_ (by omega)
     cases hx : fN m.ts r.nm with
     | none => rfl
     | some _ => rw [hx] at h2; exact absurd rfl h2
  ·exact fun q => absurd q (by decide : ¬ (10 : Int) = 0)
 rw [if_neg k7]
 by_cases k8 : r.k = 8 ∨ r.k = 9
 ·rw [if_pos k8]
  unfold repP
  have hi := h.ids
  have hh : hasL r.k 105 = true := by rcases k8 with q | q <;> rw [q] <;> decide
  rw [hh] at hi
  cases hf : fT m.ts r.tp with
  | none => exact fun q => absurd q (by decide : ¬ (8 : Int) = 0)
  | some t =>
   simp only
   split
   ·rename_i h1
    split
    ·rename_i h2
     exact fun _ => .part t hf h1 h2 hi (rcis_pt h).1 (rcis_pt h).2
    ·rename_i h2
     exact fun q => absurd q h2
   ·rename_i h1
    exact fun q => absurd q h1
 rw [if_neg k8]
 by_cases k10 : r.k = 10
 ·rw [if_pos k10]
  unfold cfgC
  split
  ·exact fun q => absurd q (by decide : ¬ (8 : Int) = 0)
  ·split
   ·split
    ·exact fun q => absurd q (by decide : ¬ (8 : Int) = 0)
    ·exact fun _ => .crem _
   ·exact fun _ => .cput _
 rw [if_neg k10]
 by_cases k11 : r.k = 11
 ·rw [if_pos k11]
  unfold drpT
  split
  ·exact fun _ => .drop _
  ·exact fun q => absurd q (by decide : ¬ (8 : Int) = 0)
 rw [if_neg k11]
 by_cases k12 : r.k = 12
 ·rw [if_pos k12]
  unfold ansD
  split
  ·exact fun q => absurd q (by decide : ¬ (9 : Int) = 0)
  ·exact fun _ => .dput _
 rw [if_neg k12]
 exact fun _ => .noop
theorem stepI_err {m : Im} {r : Rc} (h : (stepI m r).2 ≠ 0) : (stepI m r).1 = m := by
 revert h
 unfold stepI regB turB trnB crtT repP cfgC drpT ansD
 intro h
 repeat' split
 all_goals first | rfl | (exfalso; simp_all)
theorem app_err {m : Im} {r : Rc} (h : (app m r).2 ≠ 0) : (app m r).1 = m := by
 unfold app at *
 split
 ·rename_i hc
  rw [if_pos hc] at h
  exact stepI_err h
 ·rfl
theorem app_stp (m : Im) (r : Rc) : Stp m r (app m r).1 := by
 by_cases h : (app m r).2 = 0
 ·unfold app at *
  by_cases hc : (chk r).2.2 = 0
  ·rw [if_pos hc] at *
   exact stepI_stp (chk_is hc) h
  ·rw [if_neg hc]
   exact .noop
 ·rw [app_err h]
  exact .noop
theorem fil2 {α : Type} (p q : α → Bool) (h : ∀ x, p x = true → q x = false) : ∀ l : List α, (l.filter p).length + (l.filter q).length ≤ l.length
 | [] => by simp
 | x :: l => by
  have ih := fil2 p q h l
  cases hp : p x with
  | true => rw [List.filter_cons_of_pos hp, List.filter_cons_of_neg (by rw [h x hp]; decide)]; simp only [List.length_cons]; omega
  | false =>
   rw [List.filter_cons_of_neg (by rw [hp]; decide)]
   cases hq : q x with
   | true => rw [List.filter_cons_of_pos hq]; simp only [List.length_cons]; omega
   | false => rw [List.filter_cons_of_neg (by rw [hq]; decide)]; simp only [List.length_cons]; omega
theorem putB_len (l : List Bk) (c : Bk) : (putB l c).length ≤ l.length + 1 := by
 have := fil2 (fun x : Bk => decide (x.id < c.id)) (fun x => decide (c.id < x.id)) (fun x h => by
  have h' := of_decide_eq_true h
  exact decide_eq_false (by omega)) l
 unfold putB
 simp only [List.length_append, List.length_cons]
 omega
theorem putC_len (l : List Cf) (c : Cf) : (putC l c).length ≤ l.length + 1 := by
 have := fil2 (fun x : Cf => decide (cmpC x c.tp c.ky < 0)) (fun x => decide (0 < cmpC x c.tp c.ky)) (fun x h => by
  have h' := of_decide_eq_true h
  exact decide_eq_false (by omega)) l
 unfold putC
 simp only [List.length_append, List.length_cons]
 omega
theorem putB_asc {l : List Bk} (h : l.Pairwise fun x y => x.id < y.id) (c : Bk) : (putB l c).Pairwise fun x y => x.id < y.id := by
 unfold putB
 refine List.pairwise_append.2 ⟨h.filter _, List.pairwise_cons.2 ⟨fun y hy => ?_, h.filter _⟩, fun x hx y hy => ?_⟩
 ·exact of_decide_eq_true (List.mem_filter.1 hy).2
 ·have hx' := of_decide_eq_true (List.mem_filter.1 hx).2
  rcases List.mem_cons.1 hy with rfl | hy
  ·exact hx'
  ·have hy' := of_decide_eq_true (List.mem_filter.1 hy).2
   omega
theorem putC_asc {l : List Cf} (h : l.Pairwise ltC) (c : Cf) : (putC l c).Pairwise ltC := by
 unfold putC
 refine List.pairwise_append.2 ⟨h.filter _, List.pairwise_cons.2 ⟨fun y hy => ?_, h.filter _⟩, fun x hx y hy => ?_⟩
 ·exact ltC_of_pos (v := c.va) (of_decide_eq_true (List.mem_filter.1 hy).2)
 ·have hx' : ltC x c := ltC_of_neg (v := c.va) (of_decide_eq_true (List.mem_filter.1 hx).2)
  rcases List.mem_cons.1 hy with rfl | hy
  ·exact hx'
  ·exact ltC_trans hx' (ltC_of_pos (v := c.va) (of_decide_eq_true (List.mem_filter.1 hy).2))
theorem fT_mem {l : List Tp} {id : Int} {t : Tp} (h : fT l id = some t) : t ∈ l ∧ t.id = id := ⟨List.mem_of_find?_eq_some h, by
 have := List.find?_some h
 simpa [idT] using this⟩
theorem setT_mem {l : List Tp} {id : Int} {q : List Pt} {t : Tp} (h : t ∈ setT l id q) : ∃ u ∈ l, t.id = u.id ∧ t.nm = u.nm ∧ ((u.id = id ∧ t.ps = q) ∨ (u.id ≠ id ∧ t = u)) := by
 obtain ⟨u, hu, rfl⟩ := List.mem_map.1 h
 by_cases e : u.id = id
 ·rw [if_pos e]; exact ⟨u, hu, rfl, rfl, .inl ⟨e, rfl⟩⟩
 ·rw [if_neg e]; exact ⟨u, hu, rfl, rfl, .inr ⟨e, rfl⟩⟩
theorem putP_mem {l : List Pt} {n : Nat} {p q : Pt} (h : q ∈ putP l n p) : q = p ∨ q ∈ l := by
 unfold putP at h
 rcases List.mem_append.1 h with h | h
 ·exact .inr (List.mem_of_mem_take h)
 ·rcases List.mem_cons.1 h with h | h
  ·exact .inl h
  ·exact .inr (List.mem_of_mem_drop h)
theorem putP_len (l : List Pt) (n : Nat) (p : Pt) : (putP l n p).length ≤ l.length + 1 := by
 unfold putP
 simp only [List.length_append, List.length_cons, List.length_take, List.length_drop]
 omega
theorem Wf.stp {m m' : Im} {r : Rc} {N : Nat} (h : Wf m N) (hs : Stp m r m') : Wf m' (N + 1) := by
 obtain ⟨b, t, c, u, la, nb, nt, nc, nd, np, p⟩ := h
 have np' : ∀ t ∈ m.ts, t.ps.length ≤ N + 1 := fun t ht => Nat.le_succ_of_le (np t ht)
 cases hs with
 | noop => exact ⟨b, t, c, u, la, by omega, by omega, by omega, by omega, np', p⟩
 | bro x hf =>
  have := putB_len m.br x
  exact ⟨putB_asc b x, t, c, u, la, by show (putB m.br x).length ≤ _; omega, by show m.ts.length ≤ _; omega, by show m.cf.length ≤ _; omega, by show m.dn.length ≤ _; omega, np', p⟩
 | gone id hu =>
  have : (remB m.br id).length ≤ m.br.length := List.length_filter_le _ _
  exact ⟨b.filter _, t, c, u, la, by show (remB m.br id).length ≤ _; omega, by show m.ts.length ≤ _; omega, by show m.cf.length ≤ _; omega, by show m.dn.length ≤ _; omega, np', p⟩
 | top h1 h2 h3 h4 =>
  refine ⟨b, ?_, c, fun x hx => ?_, by show 0 ≤ r.tp ∧ r.tp ≤ _; omega, by show m.br.length ≤ _; omega, by show (m.ts ++ [_]).length ≤ _; rw [List.length_append]; simp only [List.length_cons, List.length_nil]; omega, by show m.cf.length ≤ _; omega, by show m.dn.length ≤ _; omega, fun x hx => ?_, fun x hx => ?_⟩
  ·refine List.pairwise_append.2 ⟨t, List.pairwise_cons.2 ⟨fun _ h => (by cases h), List.Pairwise.nil⟩, fun x hx y hy => ?_⟩
   obtain rfl := List.mem_singleton.1 hy
   have := (u x hx).2
   show x.id < r.tp
   omega
  ·rcases List.mem_append.1 hx with hx | hx
   ·have := u x hx
    show 1 ≤ x.id ∧ x.id ≤ r.tp
    omega
   ·obtain rfl := List.mem_singleton.1 hx
    show 1 ≤ r.tp ∧ r.tp ≤ r.tp
    omega
  ·rcases List.mem_append.1 hx with hx | hx
   ·exact np' x hx
   ·obtain rfl := List.mem_singleton.1 hx
    exact Nat.zero_le _
  ·rcases List.mem_append.1 hx with hx | hx
   ·exact p x hx
   ·obtain rfl := List.mem_singleton.1 hx
    intro q hq; cases hq
 | drop id =>
  have h1 : (m.ts.filter (fun t => !idT id t)).length ≤ m.ts.length := List.length_filter_le _ _
  have h2 : (m.cf.filter (fun c => !(c.tp == id))).length ≤ m.cf.length := List.length_filter_le _ _
  exact ⟨b, t.filter _, c.filter _, fun x hx => u x (List.mem_filter.1 hx).1, la, by show m.br.length ≤ _; omega, by show (m.ts.filter (fun t => !idT id t)).length ≤ _; omega, by show (m.cf.filter (fun c => !(c.tp == id))).length ≤ _; omega, by show m.dn.length ≤ _; omega, fun x hx => np' x (List.mem_filter.1 hx).1, fun x hx => p x (List.mem_filter.1 hx).1⟩
 | part x h1 h2 h3 h4 hw h5 =>
  obtain ⟨hx, he⟩ := fT_mem h1
  refine ⟨b, ?_, c, fun y hy => ?_, la, by show m.br.length ≤ _; omega, by show (setT m.ts _ _).length ≤ _; unfold setT; rw [List.length_map]; omega, by show m.cf.length ≤ _; omega, by show m.dn.length ≤ _; omega, fun y hy => ?_, fun y hy q hq => ?_⟩
  ·show (setT m.ts _ _).Pairwise _
   unfold setT
   rw [List.pairwise_map]
   refine t.imp fun {x y} q => ?_
   split <;> split <;> exact q
  ·obtain ⟨v, hv, e1, _, _⟩ := setT_mem hy
   rw [e1]
   exact u v hv
  ·obtain ⟨v, hv, _, _, e | e⟩ := setT_mem hy
   ·rw [e.2]
    exact Nat.le_trans (putP_len _ _ _) (Nat.succ_le_succ (np x hx))
   ·rw [e.2]; exact np' v hv
  ·obtain ⟨v, hv, _, _, e | e⟩ := setT_mem hy
   ·rw [e.2] at hq
    rcases putP_mem hq with rfl | hq
    ·exact hw
    ·exact p x hx q hq
   ·rw [e.2] at hq; exact p v hv q hq
 | crem q =>
  have h2 : (m.cf.filter q).length ≤ m.cf.length := List.length_filter_le _ _
  exact ⟨b, t, c.filter _, u, la, by show m.br.length ≤ _; omega, by show m.ts.length ≤ _; omega, by show (m.cf.filter q).length ≤ _; omega, by show m.dn.length ≤ _; omega, np', p⟩
 | cput q =>
  have h2 := putC_len m.cf q
  exact ⟨b, t, putC_asc c q, u, la, by show m.br.length ≤ _; omega, by show m.ts.length ≤ _; omega, by show (putC m.cf q).length ≤ _; omega, by show m.dn.length ≤ _; omega, np', p⟩
 | dput d =>
  exact ⟨b, t, c, u, la, by show m.br.length ≤ _; omega, by show m.ts.length ≤ _; omega, by show m.cf.length ≤ _; omega, by show (putD m.dn d).length ≤ _; unfold putD; simp only [List.length_append, List.length_drop, List.length_cons, List.length_nil]; omega, np', p⟩
theorem Wf.mono {m : Im} {N M : Nat} (h : Wf m N) (hn : N ≤ M) : Wf m M := ⟨h.b, h.t, h.c, h.u, h.la, Nat.le_trans h.nb hn, Nat.le_trans h.nt hn, Nat.le_trans h.nc hn, Nat.le_trans h.nd hn, fun t ht => Nat.le_trans (h.np t ht) hn, h.p⟩
theorem wf_app {m : Im} {N : Nat} (h : Wf m N) (r : Rc) : Wf (app m r).1 (N + 1) := h.stp (app_stp m r)
theorem wf_zero (N : Nat) : Wf Im.zero N := ⟨List.Pairwise.nil, List.Pairwise.nil, List.Pairwise.nil, fun _ h => (by cases h), ⟨by decide, by decide⟩, Nat.zero_le _, Nat.zero_le _, Nat.zero_le _, Nat.zero_le _, fun _ h => (by cases h), fun _ h => (by cases h)⟩
theorem wf_made {m : Im} : ∀ {l : List Rc} {N : Nat}, Wf m N → Wf (made m l) (N + l.length) := by
 intro l
 induction l generalizing m with
 | nil => exact fun h => h
 | cons r l ih =>
  intro N h
  have := ih (wf_app h r)
  rw [List.length_cons]
  show Wf (made (app m r).1 l) _
  rw [show N + (l.length + 1) = N + 1 + l.length by omega]
  exact this
structure Who (m : Im) : Prop where
 n : m.ts.Pairwise fun x y => x.nm ≠ y.nm
 r : ∀ t ∈ m.ts, ∀ p ∈ t.ps, right m.br p = 0 ∧ rowB p.ids true = true
 d : m.dn.length ≤ 64
 t : m.ts.length ≤ 256
theorem Who.stp {m m' : Im} {r : Rc} (h : Who m) (hs : Stp m r m') : Who m' := by
 obtain ⟨n, rr, d, t⟩ := h
 cases hs with
 | noop => exact ⟨n, rr, d, t⟩
 | bro c hf =>
  refine ⟨n, fun x hx p hp => ⟨right_putB (rr x hx p hp).1 (fun q => ?_), (rr x hx p hp).2⟩, d, t⟩
  rcases hf q with z | z
  ·exact .inl z
  ·exact .inr (leads_no z x hx p hp)
 | gone id hu => exact ⟨n, fun x hx p hp => ⟨right_remB (rr x hx p hp).1 (used_no hu x hx p hp), (rr x hx p hp).2⟩, d, t⟩
 | top h1 h2 h3 h4 =>
  refine ⟨List.pairwise_append.2 ⟨n, List.pairwise_cons.2 ⟨fun _ h => (by cases h), List.Pairwise.nil⟩, fun x hx y hy => ?_⟩, fun x hx => ?_, d, by show (m.ts ++ [_]).length ≤ _; rw [List.length_append]; simp only [List.length_cons, List.length_nil]; omega⟩
  ·obtain rfl := List.mem_singleton.1 hy
   have := List.find?_eq_none.1 h3 x hx
   simpa using this
  ·rcases List.mem_append.1 hx with hx | hx
   ·exact rr x hx
   ·obtain rfl := List.mem_singleton.1 hx
    intro q hq; cases hq
 | drop id => exact ⟨n.filter _, fun x hx => rr x (List.mem_filter.1 hx).1, d, Nat.le_trans (List.length_filter_le _ _) t⟩
 | part x h1 h2 h3 h4 hw h5 =>
  obtain ⟨hx, he⟩ := fT_mem h1
  refine ⟨?_, fun y hy q hq => ?_, d, by show (setT m.ts _ _).length ≤ _; unfold setT; rw [List.length_map]; omega⟩
  ·show (setT m.ts _ _).Pairwise _
   unfold setT
   rw [List.pairwise_map]
   refine n.imp fun {x y} q => ?_
   split <;> split <;> exact q
  ·obtain ⟨v, hv, _, _, e | e⟩ := setT_mem hy
   ·rw [e.2] at hq
    rcases putP_mem hq with rfl | hq
    ·exact ⟨h2, h4⟩
    ·exact rr x hx q hq
   ·rw [e.2] at hq; exact rr v hv q hq
 | crem q => exact ⟨n, rr, d, t⟩
 | cput q => exact ⟨n, rr, d, t⟩
 | dput q => exact ⟨n, rr, by show (putD m.dn q).length ≤ _; unfold putD; simp only [List.length_append, List.length_drop, List.length_cons, List.length_nil]; omega, t⟩
structure Rgn where
 tp : Int
 pa : Int
 ep : Int
 ld : Int
structure Rei (m : Im) (l : List Rgn) : Prop where
 la : ∀ y ∈ l, y.tp ≤ m.la
 ats : ∀ y ∈ l, ∀ t ∈ m.ts, t.id = y.tp → ∃ k : Nat, y.pa = k ∧ ∃ h : k < t.ps.length, y.ep < (t.ps[k]).ep ∨ y.ep = (t.ps[k]).ep ∧ y.ld = (t.ps[k]).ld
theorem fol_putP {l : List Pt} {r : Rc} {p : Pt} (h : folP l r p = 0) (h5 : 0 ≤ r.pa) (k : Nat) (hk : k < l.length) : ∃ h : k < (putP l r.pa.toNat p).length, (l[k]).ep < ((putP l r.pa.toNat p)[k]).ep ∨ (l[k]).ep = ((putP l r.pa.toNat p)[k]).ep ∧ (l[k]).ld = ((putP l r.pa.toNat p)[k]).ld := by
 unfold folP at h
 split at h
 ·split at h
  ·rename_i hn
   have hn' : r.pa.toNat = l.length := by omega
   refine ⟨by rw [hn']; unfold putP; simp; omega, .inr ?_⟩
   have : (putP l r.pa.toNat p)[k]? = some l[k] := by
    rw [hn']; unfold putP
    rw [List.take_length, List.getElem?_append_left hk, List.getElem?_eq_getElem hk]
   obtain ⟨hk', e⟩ := List.getElem?_eq_some_iff.1 this
   rw [e]
   exact ⟨rfl, rfl⟩
  ·exact absurd h (by decide)
 ·cases ho : l[r.pa.toNat]? with
  | none => rw [ho] at h; exact absurd h (by decide : ¬ (8 : Int) = 0)
  | some o =>
   rw [ho] at h
   simp only at h
   obtain ⟨hlt, ho'⟩ := List.getElem?_eq_some_iff.1 ho
   split at h
   ·exact absurd h (by decide)
   ·rename_i hep
    have hlen : (putP l r.pa.toNat p).length = l.length := by
     unfold putP
     simp only [List.length_append, List.length_take, List.length_cons, List.length_drop]
     omega
    refine ⟨by rw [hlen]; exact hk, ?_⟩
    by_cases hkk : k = r.pa.toNat
    ·have : (putP l r.pa.toNat p)[k]? = some p := by
      unfold putP
      rw [List.getElem?_append_right (by rw [List.length_take]; omega), List.length_take, show k - min r.pa.toNat l.length = 0 by omega]
      rfl
     obtain ⟨hk', e⟩ := List.getElem?_eq_some_iff.1 this
     rw [e]
     subst hkk
     rw [ho']
     by_cases q1 : p.ep = o.ep + 1
     ·exact .inl (by omega)
     ·refine .inr ?_
      simp [q1] at hep
      exact ⟨hep.1.symm, hep.2.symm⟩
    ·have : (putP l r.pa.toNat p)[k]? = some l[k] := by
      unfold putP
      by_cases hl : k < r.pa.toNat
      ·rw [List.getElem?_append_left (by rw [List.length_take]; omega), List.getElem?_take_of_lt hl, List.getElem?_eq_getElem hk]
      ·rw [List.getElem?_append_right (by rw [List.length_take]; omega), List.length_take, List.getElem?_cons, if_neg (by omega), List.getElem?_drop, List.getElem?_eq_getElem (by omega)]
       congr 2
       omega
     obtain ⟨hk', e⟩ := List.getElem?_eq_some_iff.1 this
     rw [e]
     exact .inr ⟨rfl, rfl⟩
theorem Rei.stp {m m' : Im} {r : Rc} {l : List Rgn} (h : Rei m l) (hs : Stp m r m') : Rei m' l := by
 obtain ⟨la, at_⟩ := h
 cases hs with
 | noop => exact ⟨la, at_⟩
 | bro c hf => exact ⟨la, at_⟩
 | gone id hu => exact ⟨la, at_⟩
 | top h1 h2 h3 h4 =>
  refine ⟨fun y hy => ?_, fun y hy t ht => ?_⟩
  ·have := la y hy
   show y.tp ≤ r.tp
   omega
  ·rcases List.mem_append.1 ht with ht | ht
   ·exact at_ y hy t ht
   ·obtain rfl := List.mem_singleton.1 ht
    intro e
    have := la y hy
    have e' : r.tp = y.tp := e
    omega
 | drop id => exact ⟨la, fun y hy t ht => at_ y hy t (List.mem_filter.1 ht).1⟩
 | part x h1 h2 h3 h4 hp h5 =>
  obtain ⟨hx, he⟩ := fT_mem h1
  refine ⟨la, fun y hy t ht e => ?_⟩
  obtain ⟨v, hv, e1, _, e2 | e2⟩ := setT_mem ht
  ·have hvx : x.id = y.tp := by omega
   obtain ⟨k, hk, hl, hc⟩ := at_ y hy x hx hvx
   obtain ⟨hl', hc'⟩ := fol_putP h3 h5 k hl
   refine ⟨k, hk, by rw [e2.2]; exact hl', ?_⟩
   have ee : ∀ (z : List Pt) (hz : z = putP x.ps r.pa.toNat (ptOf r)) (hlz : k < z.length), y.ep < (z[k]).ep ∨ y.ep = (z[k]).ep ∧ y.ld = (z[k]).ld := by
    rintro z rfl hlz
    rcases hc with q | ⟨q1, q2⟩ <;> rcases hc' with z | ⟨z1, z2⟩
    ·exact .inl (by omega)
    ·exact .inl (by omega)
    ·exact .inl (by omega)
    ·exact .inr ⟨by omega, by omega⟩
   exact ee _ e2.2 _
  ·obtain ⟨_, rfl⟩ := e2
   exact at_ y hy t hv e
 | crem q => exact ⟨la, at_⟩
 | cput q => exact ⟨la, at_⟩
 | dput q => exact ⟨la, at_⟩
theorem Rei.ok {m : Im} {l : List Rgn} (h : Rei m l) {y : Rgn} (hy : y ∈ l) {t : Tp} (ht : t ∈ m.ts) (k : Nat) (hk : k < t.ps.length) (h1 : y.tp = t.id) (h2 : y.pa = k) : y.ep < (t.ps[k]).ep ∨ y.ep = (t.ps[k]).ep ∧ y.ld = (t.ps[k]).ld := by
 obtain ⟨j, e, hj, hc⟩ := h.ats y hy t ht h1.symm
 obtain rfl : j = k := by omega
 exact hc
end Go.Proofs.YtlggjgapdpkhiaaGreatDoor
