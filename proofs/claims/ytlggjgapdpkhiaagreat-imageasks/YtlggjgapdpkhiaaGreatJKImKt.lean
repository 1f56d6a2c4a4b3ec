/-
  A BROKER IS TURNED: fenced, opened, leaving, gone (image.turn). Conditions: an image in order, its lists no longer than a hundred thousand; a record of one of these kinds.
-/
import Derived.Test.YtlggjgapdpkhiaaGreatJKImCba5
import Derived.Test.YtlggjgapdpkhiaaGreatJKImKga5
import Derived.Test.YtlggjgapdpkhiaaGreatJKImFaa2
namespace Go.Proofs.YtlggjgapdpkhiaaGreat
open Go.RowKit
def trnX (b : Bk) (k : Int) : Bk := if k = 3 then ⟨b.id, b.ep, b.rk, true, b.lv⟩ else if k = 4 then ⟨b.id, b.ep, b.rk, false, false⟩ else ⟨b.id, b.ep, b.rk, b.fe, true⟩
theorem trn_no {m : Im} {b : Bk} {k : Int} (h : trnQ m b k = false) : trnB m b k = (m, 10) := by
 unfold trnQ at h
 unfold trnB
 split
 ·rename_i h3
  rw [if_pos h3] at h
  rw [if_pos]
  cases hf : b.fe <;> simp_all
 ·rename_i h3
  rw [if_neg h3] at h
  split
  ·rename_i h4
   rw [if_pos h4] at h
   rw [if_pos h]
  ·rename_i h4
   rw [if_neg h4] at h
   split
   ·rename_i h5
    rw [if_pos h5] at h
    rw [if_pos]
    cases hf : b.fe <;> simp_all
   ·rename_i h5
    rw [if_neg h5] at h
    rw [if_pos (by simpa using h)]
theorem trn_yes {m : Im} {b : Bk} {k : Int} (h : trnQ m b k = true) (hk : k = 3 ∨ k = 4 ∨ k = 5) : trnB m b k = ({ m with br := putB m.br (trnX b k) }, 0) := by
 unfold trnQ at h
 unfold trnB trnX
 rcases hk with rfl | rfl | rfl
 ·simp at h
  simp [h]
 ·simp at h
  simp [h]
 ·simp at h
  simp [h]
theorem trn_gone {m : Im} {b : Bk} (h : trnQ m b 6 = true) : trnB m b 6 = ({ m with br := remB m.br b.id }, 0) := by
 unfold trnQ at h
 unfold trnB
 simp at h
 simp [h]
set_option maxRecDepth 100000 in
set_option maxHeartbeats 16000000 in
theorem turn_any {ok : Nat → Prop} (m : Im) (p : Ip) (r : Rc) (v : Value) (w : World) (n0 : Nat → Prop) (hn0 : ∀ g, n0 g → g < w.heap.size) (hv : ∀ W, (∀ g, n0 g → W.heap[g]? = w.heap[g]?) → ImR W m p) (hw : Wf m 100000) (hr : IsR ok w v r) (hk : r.k = 3 ∨ r.k = 4 ∨ r.k = 5 ∨ r.k = 6) : Calls Tryz.prog 94 #[imv m p, v] w fun e w' => StP n0 w w' (turB m r).1 (turB m r).2 e := by
 obtain ⟨a14, a15, a16, a17, c14, c15, c16, c17, rfl, hrw⟩ := hr
 have Hv := Hd (fun (W W3 : World) (hb : Below w.heap.size w W3) (hW : Agr n0 w.heap.size W3 W) => hv W (fun g hg => (hW g (.inl hg)).trans (hb.block g (hn0 g hg))))
 clear hn0
 replace hv : ImR w m p := hv w (fun _ _ => rfl)
 have HV := Hd (fun W (h : Below w.heap.size w W) => hv.below h)
 cases hf : fB m.br r.br with
 | none =>
  obtain ⟨ab, aq, ac, ad, cb, cq, cc, cd, ts⟩ := p
  have HF := Hd (fun W (h : Below w.heap.size w W) => findBroker_no m _ r.br W (hv.below h) hw hf)
  have Hr : Hid (turB m r = (m, 8)) := Hd (by unfold turB; rw [hf])
  rw [Hr.out]
  have HFR0 : Fr w m (⟨ab, aq, ac, ad, cb, cq, cc, cd, ts⟩ : Ip) (cR r a14 a15 a16 a17 c14 c15 c16 c17) imz (((w.alloc (.cells (List.toArray [Value.slice ab m.br.length cb, .slice aq ts.length cq, .slice ac m.cf.length cc, .slice ad m.dn.length cd, .int .i64 m.la]) 30)).alloc (.cells (List.toArray [Value.int .i64 r.k, .int .i64 r.br, .int .i64 r.ep, .int .i64 r.tp, .int .i64 r.pa, .int .i64 r.le, .int .i64 r.cl, .int .i64 r.se, .int .i64 r.co, .bool r.fl, .string ⟨r.nm.toArray⟩, .string ⟨r.ky.toArray⟩, .string ⟨r.va.toArray⟩, .string ⟨r.rk.toArray⟩, .slice a14 r.ids.length c14, .slice a15 r.isr.length c15, .slice a16 r.ad.length c16, .slice a17 r.dr.length c17]) 65)).alloc (.cells (List.toArray [Value.slice none 0 0, .slice none 0 0, .slice none 0 0, .slice none 0 0, .int .i64 0]) 30)) := Fr.mk0 w m _ _ _ _ _ (Below.refl _ _)
  clear hv hw hrw hf hk
  unfold imv
  dsimp only
  show Calls _ _ #[_, .agg (List.toArray [.int .i64 r.k, .int .i64 r.br, .int .i64 r.ep, .int .i64 r.tp, .int .i64 r.pa, .int .i64 r.le, .int .i64 r.cl, .int .i64 r.se, .int .i64 r.co, .bool r.fl, .string ⟨r.nm.toArray⟩, .string ⟨r.ky.toArray⟩, .string ⟨r.va.toArray⟩, .string ⟨r.rk.toArray⟩, .slice a14 r.ids.length c14, .slice a15 r.isr.length c15, .slice a16 r.ad.length c16, .slice a17 r.dr.length c17])] _ _
  go_enter Tryz.func94, Tryz.ntmps94
  go_upto_region 1 with fail
  generalize ((w.alloc (.cells (List.toArray [Value.slice ab m.br.length cb, .slice aq ts.length cq, .slice ac m.cf.length cc, .slice ad m.dn.length cd, .int .i64 m.la]) 30)).alloc (.cells (List.toArray [Value.int .i64 r.k, .int .i64 r.br, .int .i64 r.ep, .int .i64 r.tp, .int .i64 r.pa, .int .i64 r.le, .int .i64 r.cl, .int .i64 r.se, .int .i64 r.co, .bool r.fl, .string ⟨r.nm.toArray⟩, .string ⟨r.ky.toArray⟩, .string ⟨r.va.toArray⟩, .string ⟨r.rk.toArray⟩, .slice a14 r.ids.length c14, .slice a15 r.isr.length c15, .slice a16 r.ad.length c16, .slice a17 r.dr.length c17]) 65)).alloc (.cells (List.toArray [Value.slice none 0 0, .slice none 0 0, .slice none 0 0, .slice none 0 0, .int .i64 0]) 30) = X at HFR0 ⊢
  have Hf := Hd HFR0
  clear HFR0
  obtain ⟨i0, i1, i2, i3, i4⟩ := Hf.out.i.imx; have r0 := Hf.out.r.at 0 _ rfl; have r1 := Hf.out.r.at 1 _ rfl; have r2 := Hf.out.r.at 2 _ rfl
  unfold imv at HF
  dsimp only at HF
  go_wp2_with (first | (go_at_call 35; refine (HF.out _ Hf.out.b).mono ?_; rintro e wx ⟨i9, _, _, rfl, hbx⟩; replace Hf := Hd (Hf.out.below hbx); clear i0 i1 i2 i3 i4 r0 r1 r2; clear hbx HF; obtain ⟨i0, i1, i2, i3, i4⟩ := Hf.out.i.imx; have r0 := Hf.out.r.at 0 _ rfl; have r1 := Hf.out.r.at 1 _ rfl; have r2 := Hf.out.r.at 2 _ rfl) | (refine wS rfl _ _ _ rfl _ _ rfl Hf.out.z (iml m (⟨ab, aq, ac, ad, cb, cq, cc, cd, ts⟩ : Ip)) rfl rfl (by kernel_rfl) rfl ?_; intro W3 hz hk hb hp; have Ho := Hd (Hf.out.out hz hk hb); clear hz hk hb hp))
  obtain ⟨q0, q1, q2, q3, q4⟩ := Ho.out.z.imx
  exact bodyPost_ret (v := .tuple #[.agg (iml m (⟨ab, aq, ac, ad, cb, cq, cc, cd, ts⟩ : Ip)).toArray, .iface 67 (.int .i64 8)]) (by simp [results, Tryz.results94, go_sem, q0, q1, q2, q3, q4, iml]) rfl (st_ret Ho.out (fun W hW => Hv.out W _ Ho.out.b hW) (erc_code (by decide)))
 | some b =>
  have hne : 0 < m.br.length := List.length_pos_of_mem (List.mem_of_find?_eq_some hf)
  have HID : Hid (b.id = r.br) := Hd (by have := List.find?_some hf; simpa [idB] using this)
  obtain ⟨bb, oo, hab, hrg⟩ := hv.b.rg hne
  obtain ⟨ab, aq, ac, ad, cb, cq, cc, cd, ts⟩ := p
  simp only at hab
  subst hab
  have HRG := Hd hrg
  have HF := Hd (fun W (h : Below w.heap.size w W) => findBroker_yes m _ r.br W (hv.below h) hw b hf)
  have HTU := Hd (fun W (h : Below w.heap.size w W) => turns_any m _ b r.k W (hv.below h) hw)
  have HPU := Hd (fun W (h : Below w.heap.size w W) i (hi : i < m.br.length) x => putB_old m.br (some ⟨bb, oo, none⟩) _ cb i x W rfl (hv.below h).b hi hw.nb)
  have HWO := Hd (fun W (h : Below w.heap.size w W) i (hi : i < m.br.length) => woB_any m.br (some ⟨bb, oo, none⟩) _ cb i W rfl (hv.below h).b hi hw.nb)
  by_cases he : b.ep = r.ep
  ·have hne1 : (b.ep != r.ep) = false := by simpa using he
   have HTB : Hid (turB m r = trnB m b r.k) := Hd (by unfold turB; rw [hf]; exact if_pos he)
   cases hq : trnQ m b r.k with
   | false =>
    have Hr : Hid (turB m r = (m, 10)) := Hd (by rw [HTB.out, trn_no hq])
    rw [Hr.out]
    rw [hq] at HTU
    clear he hq
    have HFR0 : Fr w m (⟨some ⟨bb, oo, none⟩, aq, ac, ad, cb, cq, cc, cd, ts⟩ : Ip) (cR r a14 a15 a16 a17 c14 c15 c16 c17) imz (((w.alloc (.cells (List.toArray [Value.slice (some ⟨bb, oo, none⟩) m.br.length cb, .slice aq ts.length cq, .slice ac m.cf.length cc, .slice ad m.dn.length cd, .int .i64 m.la]) 30)).alloc (.cells (List.toArray [Value.int .i64 r.k, .int .i64 r.br, .int .i64 r.ep, .int .i64 r.tp, .int .i64 r.pa, .int .i64 r.le, .int .i64 r.cl, .int .i64 r.se, .int .i64 r.co, .bool r.fl, .string ⟨r.nm.toArray⟩, .string ⟨r.ky.toArray⟩, .string ⟨r.va.toArray⟩, .string ⟨r.rk.toArray⟩, .slice a14 r.ids.length c14, .slice a15 r.isr.length c15, .slice a16 r.ad.length c16, .slice a17 r.dr.length c17]) 65)).alloc (.cells (List.toArray [Value.slice none 0 0, .slice none 0 0, .slice none 0 0, .slice none 0 0, .int .i64 0]) 30)) := Fr.mk0 w m _ _ _ _ _ (Below.refl _ _)
    clear hv hw hrw hf hrg hk
    unfold imv
    dsimp only
    show Calls _ _ #[_, .agg (List.toArray [.int .i64 r.k, .int .i64 r.br, .int .i64 r.ep, .int .i64 r.tp, .int .i64 r.pa, .int .i64 r.le, .int .i64 r.cl, .int .i64 r.se, .int .i64 r.co, .bool r.fl, .string ⟨r.nm.toArray⟩, .string ⟨r.ky.toArray⟩, .string ⟨r.va.toArray⟩, .string ⟨r.rk.toArray⟩, .slice a14 r.ids.length c14, .slice a15 r.isr.length c15, .slice a16 r.ad.length c16, .slice a17 r.dr.length c17])] _ _
    go_enter Tryz.func94, Tryz.ntmps94
    go_upto_region 1 with fail
    generalize ((w.alloc (.cells (List.toArray [Value.slice (some ⟨bb, oo, none⟩) m.br.length cb, .slice aq ts.length cq, .slice ac m.cf.length cc, .slice ad m.dn.length cd, .int .i64 m.la]) 30)).alloc (.cells (List.toArray [Value.int .i64 r.k, .int .i64 r.br, .int .i64 r.ep, .int .i64 r.tp, .int .i64 r.pa, .int .i64 r.le, .int .i64 r.cl, .int .i64 r.se, .int .i64 r.co, .bool r.fl, .string ⟨r.nm.toArray⟩, .string ⟨r.ky.toArray⟩, .string ⟨r.va.toArray⟩, .string ⟨r.rk.toArray⟩, .slice a14 r.ids.length c14, .slice a15 r.isr.length c15, .slice a16 r.ad.length c16, .slice a17 r.dr.length c17]) 65)).alloc (.cells (List.toArray [Value.slice none 0 0, .slice none 0 0, .slice none 0 0, .slice none 0 0, .int .i64 0]) 30) = X at HFR0 ⊢
    have Hf := Hd HFR0
    clear HFR0
    obtain ⟨i0, i1, i2, i3, i4⟩ := Hf.out.i.imx; have r0 := Hf.out.r.at 0 _ rfl; have r1 := Hf.out.r.at 1 _ rfl; have r2 := Hf.out.r.at 2 _ rfl
    unfold imv bkc at HTU
    unfold imv at HF
    dsimp only at HF HTU
    go_upto_region 4 with (go_at_call 35; refine (HF.out _ Hf.out.b).mono ?_; rintro e wx ⟨i, hi, hib, hins, hrem, _, _, rfl, hbx⟩; have HIN := Hd hins; have HRM := Hd hrem; have HIB := Hd hib; replace Hf := Hd (Hf.out.below hbx); clear i0 i1 i2 i3 i4 r0 r1 r2; clear hbx HF hins hrem hib; obtain ⟨i0, i1, i2, i3, i4⟩ := Hf.out.i.imx; have r0 := Hf.out.r.at 0 _ rfl; have r1 := Hf.out.r.at 1 _ rfl; have r2 := Hf.out.r.at 2 _ rfl)
    have hiI : (i : Int) < (m.br.length : Int) := Int.ofNat_lt.2 hi
    have HE : Hid (wx.rangeAt bb (oo + i * 5) [.int .i64 b.id, .int .i64 b.ep, .string ⟨b.rk.toArray⟩, .bool b.fe, .bool b.lv]) := Hd (by have := rg_bel (fm_at encB HRG.out hi) Hf.out.b; rw [HIB.out] at this; exact this)
    go_upto_region 5 with (refine wpList_load_mid rfl _ _ rfl _ _ rfl _ _ HE.out Tryz.underlying33 rfl (by kernel_rfl) ?_)
    clear i0 i1 i2 i3 i4 r0 r1 r2
    have HNB := Hd Hf.out.sz
    have HBX := Hd (Bx.new wx [.int .i64 b.id, .int .i64 b.ep, .string ⟨b.rk.toArray⟩, .bool b.fe, .bool b.lv] 33)
    replace Hf := Hd (Hf.out.below (bA wx (.cells (List.toArray [Value.int .i64 b.id, .int .i64 b.ep, .string ⟨b.rk.toArray⟩, .bool b.fe, .bool b.lv]) 33)))
    generalize wx.alloc (.cells (List.toArray [Value.int .i64 b.id, .int .i64 b.ep, .string ⟨b.rk.toArray⟩, .bool b.fe, .bool b.lv]) 33) = Y at Hf HBX ⊢
    generalize wx.heap.size = nb at HBX HNB ⊢
    obtain ⟨i0, i1, i2, i3, i4⟩ := Hf.out.i.imx; have r0 := Hf.out.r.at 0 _ rfl; have r1 := Hf.out.r.at 1 _ rfl; have r2 := Hf.out.r.at 2 _ rfl
    obtain ⟨b0, b1, b2, b3, b4⟩ := HBX.out.c5
    go_wp2_with (first | (go_at_call 120; refine (HTU.out _ Hf.out.b).mono ?_; rintro e wy ⟨rfl, hby⟩; replace Hf := Hd (Hf.out.below hby); replace HBX := Hd (HBX.out.below hby); clear i0 i1 i2 i3 i4 r0 r1 r2; clear b0 b1 b2 b3 b4; clear hby HTU; obtain ⟨i0, i1, i2, i3, i4⟩ := Hf.out.i.imx; have r0 := Hf.out.r.at 0 _ rfl; have r1 := Hf.out.r.at 1 _ rfl; have r2 := Hf.out.r.at 2 _ rfl; obtain ⟨b0, b1, b2, b3, b4⟩ := HBX.out.c5) | (refine wS rfl _ _ _ rfl _ _ rfl Hf.out.z (iml m (⟨some ⟨bb, oo, none⟩, aq, ac, ad, cb, cq, cc, cd, ts⟩ : Ip)) rfl rfl (by kernel_rfl) rfl ?_; intro W3 hz hk hb hp; have Ho := Hd (Hf.out.out hz hk hb); clear hz hk hb hp))
    obtain ⟨q0, q1, q2, q3, q4⟩ := Ho.out.z.imx
    exact bodyPost_ret (v := .tuple #[.agg (iml m (⟨some ⟨bb, oo, none⟩, aq, ac, ad, cb, cq, cc, cd, ts⟩ : Ip)).toArray, .iface 67 (.int .i64 10)]) (by simp [results, Tryz.results94, go_sem, q0, q1, q2, q3, q4, iml]) rfl (st_ret Ho.out (fun W hW => Hv.out W _ Ho.out.b hW) (erc_code (by decide)))
   | true =>
    rw [hq] at HTU
    rcases hk with hk | hk | hk | hk
    ·obtain ⟨L, hL⟩ : ∃ L, L = putB m.br (trnX b r.k) := ⟨_, rfl⟩
     have Hr : Hid (turB m r = ({ m with br := L }, 0)) := Hd (by rw [HTB.out, trn_yes hq (by omega), hL])
     rw [Hr.out]
     have HPL : Hid (∀ i, (∀ b, insO (fun x : Bk => cmpN x.id r.br) b m.br = m.br.take i ++ b :: m.br.drop (i + 1)) → m.br.take i ++ (⟨b.id, b.ep, b.rk, true, b.lv⟩ : Bk) :: m.br.drop (i + 1) = L) := Hd (fun i hi => by rw [← hi, hL, hk]; exact (putB_ins (b := trnX b 3) (id := r.br) HID.out).symm)
     have HK := Hd hk
     clear he hq hL hk
     have HFR0 : Fr w m (⟨some ⟨bb, oo, none⟩, aq, ac, ad, cb, cq, cc, cd, ts⟩ : Ip) (cR r a14 a15 a16 a17 c14 c15 c16 c17) imz (((w.alloc (.cells (List.toArray [Value.slice (some ⟨bb, oo, none⟩) m.br.length cb, .slice aq ts.length cq, .slice ac m.cf.length cc, .slice ad m.dn.length cd, .int .i64 m.la]) 30)).alloc (.cells (List.toArray [Value.int .i64 r.k, .int .i64 r.br, .int .i64 r.ep, .int .i64 r.tp, .int .i64 r.pa, .int .i64 r.le, .int .i64 r.cl, .int .i64 r.se, .int .i64 r.co, .bool r.fl, .string ⟨r.nm.toArray⟩, .string ⟨r.ky.toArray⟩, .string ⟨r.va.toArray⟩, .string ⟨r.rk.toArray⟩, .slice a14 r.ids.length c14, .slice a15 r.isr.length c15, .slice a16 r.ad.length c16, .slice a17 r.dr.length c17]) 65)).alloc (.cells (List.toArray [Value.slice none 0 0, .slice none 0 0, .slice none 0 0, .slice none 0 0, .int .i64 0]) 30)) := Fr.mk0 w m _ _ _ _ _ (Below.refl _ _)
     clear hv hw hrw hf hrg
     unfold imv
     dsimp only
     show Calls _ _ #[_, .agg (List.toArray [.int .i64 r.k, .int .i64 r.br, .int .i64 r.ep, .int .i64 r.tp, .int .i64 r.pa, .int .i64 r.le, .int .i64 r.cl, .int .i64 r.se, .int .i64 r.co, .bool r.fl, .string ⟨r.nm.toArray⟩, .string ⟨r.ky.toArray⟩, .string ⟨r.va.toArray⟩, .string ⟨r.rk.toArray⟩, .slice a14 r.ids.length c14, .slice a15 r.isr.length c15, .slice a16 r.ad.length c16, .slice a17 r.dr.length c17])] _ _
     go_enter Tryz.func94, Tryz.ntmps94
     go_upto_region 1 with fail
     generalize ((w.alloc (.cells (List.toArray [Value.slice (some ⟨bb, oo, none⟩) m.br.length cb, .slice aq ts.length cq, .slice ac m.cf.length cc, .slice ad m.dn.length cd, .int .i64 m.la]) 30)).alloc (.cells (List.toArray [Value.int .i64 r.k, .int .i64 r.br, .int .i64 r.ep, .int .i64 r.tp, .int .i64 r.pa, .int .i64 r.le, .int .i64 r.cl, .int .i64 r.se, .int .i64 r.co, .bool r.fl, .string ⟨r.nm.toArray⟩, .string ⟨r.ky.toArray⟩, .string ⟨r.va.toArray⟩, .string ⟨r.rk.toArray⟩, .slice a14 r.ids.length c14, .slice a15 r.isr.length c15, .slice a16 r.ad.length c16, .slice a17 r.dr.length c17]) 65)).alloc (.cells (List.toArray [Value.slice none 0 0, .slice none 0 0, .slice none 0 0, .slice none 0 0, .int .i64 0]) 30) = X at HFR0 ⊢
     have Hf := Hd HFR0
     clear HFR0
     obtain ⟨i0, i1, i2, i3, i4⟩ := Hf.out.i.imx; have r0 := Hf.out.r.at 0 _ rfl; have r1 := Hf.out.r.at 1 _ rfl; have r2 := Hf.out.r.at 2 _ rfl
     unfold imv bkc at HTU
     unfold imv at HF
     dsimp only at HF HTU
     go_upto_region 4 with (go_at_call 35; refine (HF.out _ Hf.out.b).mono ?_; rintro e wx ⟨i, hi, hib, hins, hrem, _, _, rfl, hbx⟩; have HIN := Hd hins; have HRM := Hd hrem; have HIB := Hd hib; replace Hf := Hd (Hf.out.below hbx); clear i0 i1 i2 i3 i4 r0 r1 r2; clear hbx HF hins hrem hib; obtain ⟨i0, i1, i2, i3, i4⟩ := Hf.out.i.imx; have r0 := Hf.out.r.at 0 _ rfl; have r1 := Hf.out.r.at 1 _ rfl; have r2 := Hf.out.r.at 2 _ rfl)
     have hiI : (i : Int) < (m.br.length : Int) := Int.ofNat_lt.2 hi
     have HE : Hid (wx.rangeAt bb (oo + i * 5) [.int .i64 b.id, .int .i64 b.ep, .string ⟨b.rk.toArray⟩, .bool b.fe, .bool b.lv]) := Hd (by have := rg_bel (fm_at encB HRG.out hi) Hf.out.b; rw [HIB.out] at this; exact this)
     go_upto_region 5 with (refine wpList_load_mid rfl _ _ rfl _ _ rfl _ _ HE.out Tryz.underlying33 rfl (by kernel_rfl) ?_)
     clear i0 i1 i2 i3 i4 r0 r1 r2
     have HNB := Hd Hf.out.sz
     have HBX := Hd (Bx.new wx [.int .i64 b.id, .int .i64 b.ep, .string ⟨b.rk.toArray⟩, .bool b.fe, .bool b.lv] 33)
     replace Hf := Hd (Hf.out.below (bA wx (.cells (List.toArray [Value.int .i64 b.id, .int .i64 b.ep, .string ⟨b.rk.toArray⟩, .bool b.fe, .bool b.lv]) 33)))
     generalize wx.alloc (.cells (List.toArray [Value.int .i64 b.id, .int .i64 b.ep, .string ⟨b.rk.toArray⟩, .bool b.fe, .bool b.lv]) 33) = Y at Hf HBX ⊢
     generalize wx.heap.size = nb at HBX HNB ⊢
     obtain ⟨i0, i1, i2, i3, i4⟩ := Hf.out.i.imx; have r0 := Hf.out.r.at 0 _ rfl; have r1 := Hf.out.r.at 1 _ rfl; have r2 := Hf.out.r.at 2 _ rfl
     obtain ⟨b0, b1, b2, b3, b4⟩ := HBX.out.c5
     go_upto_region 9 with (go_at_call 120; refine (HTU.out _ Hf.out.b).mono ?_; rintro e wy ⟨rfl, hby⟩; replace Hf := Hd (Hf.out.below hby); replace HBX := Hd (HBX.out.below hby); clear i0 i1 i2 i3 i4 r0 r1 r2; clear b0 b1 b2 b3 b4; clear hby HTU; obtain ⟨i0, i1, i2, i3, i4⟩ := Hf.out.i.imx; have r0 := Hf.out.r.at 0 _ rfl; have r1 := Hf.out.r.at 1 _ rfl; have r2 := Hf.out.r.at 2 _ rfl; obtain ⟨b0, b1, b2, b3, b4⟩ := HBX.out.c5)
     rw [HK.out] at r0
     have g3 := HBX.out.f 3 (by simp)
     go_upto_region 19 with fail
     clear i0 i1 i2 i3 i4 r0 r1 r2
     clear b0 b1 b2 b3 b4 g3
     have HFRn := Hd (⟨Hf.out.i.setOther (m := nb) (by have := HNB.out; omega) 3 (.bool true), Hf.out.r.setOther (m := nb) (by have := HNB.out; omega) 3 (.bool true), Hf.out.z.setOther (m := nb) (by have := HNB.out; omega) 3 (.bool true), Hf.out.b.setCell (p := ⟨nb, 3, none⟩) (by have := HNB.out; show w.heap.size ≤ nb; omega) (.bool true)⟩ : Fr w m (⟨some ⟨bb, oo, none⟩, aq, ac, ad, cb, cq, cc, cd, ts⟩ : Ip) (cR r a14 a15 a16 a17 c14 c15 c16 c17) imz (wy.setCell ⟨nb, 3, none⟩ (.bool true)))
     have HBXn := Hd (HBX.out.setCell 3 (by simp) (.bool true))
     clear Hf HBX
     generalize wy.setCell ⟨nb, 3, none⟩ (.bool true) = Z3 at HFRn HBXn ⊢
     have Hf := Hd HFRn.out
     have HBX := Hd HBXn.out
     clear HFRn HBXn
     simp only [List.set] at HBX
     obtain ⟨i0, i1, i2, i3, i4⟩ := Hf.out.i.imx; have r0 := Hf.out.r.at 0 _ rfl; have r1 := Hf.out.r.at 1 _ rfl; have r2 := Hf.out.r.at 2 _ rfl
     obtain ⟨b0, b1, b2, b3, b4⟩ := HBX.out.c5
     go_wp2_with (first | (go_at_call 119; refine (HPU.out _ Hf.out.b i hi (⟨b.id, b.ep, b.rk, true, b.lv⟩ : Bk)).mono ?_; rintro e w3 ⟨v, rfl, hro, hb3⟩; rw [HPL.out i HIN.out] at hro; obtain ⟨av, cv, rfl⟩ := hro.form; have HRO := Hd (hro.mono Hf.out.sz); replace Hf := Hd (Hf.out.below hb3); clear hro hb3 HPU; clear i0 i1 i2 i3 i4 r0 r1 r2; obtain ⟨i0, i1, i2, i3, i4⟩ := Hf.out.i.imx; have r0 := Hf.out.r.at 0 _ rfl; have r1 := Hf.out.r.at 1 _ rfl; have r2 := Hf.out.r.at 2 _ rfl; have f0 := Hf.out.f 0 (by decide); have HFS := Hd (Hf.out.set 0 (.slice av L.length cv) { m with br := L } (⟨av, aq, ac, ad, cv, cq, cc, cd, ts⟩ : Ip) (by decide) rfl)) | (refine wS rfl _ _ _ rfl _ _ rfl HFS.out.z (iml { m with br := L } (⟨av, aq, ac, ad, cv, cq, cc, cd, ts⟩ : Ip)) rfl rfl (by kernel_rfl) rfl ?_; intro W3 hz hk hb hp; have Ho := Hd (HFS.out.out hz hk hb); have HRS := Hd (fun W (hW : Agr n0 w.heap.size W3 W) => (HRO.out.keepG (fun g hg => (hW g (.inr (by omega))).trans ((hp g (by omega)).trans (Below.heap_setCell _ _ _ _ (show ¬ g = w.heap.size by omega))))).rs); clear hz hk hb hp))
     obtain ⟨q0, q1, q2, q3, q4⟩ := Ho.out.z.imx
     exact bodyPost_ret (v := .tuple #[.agg (iml { m with br := L } (⟨av, aq, ac, ad, cv, cq, cc, cd, ts⟩ : Ip)).toArray, .nilIface]) (by simp [results, Tryz.results94, go_sem, q0, q1, q2, q3, q4, iml]) rfl (st_ret Ho.out (fun W hW => (Hv.out W _ Ho.out.b hW).setB (HRS.out W hW)) erc_nil)
    ·obtain ⟨L, hL⟩ : ∃ L, L = putB m.br (trnX b r.k) := ⟨_, rfl⟩
     have Hr : Hid (turB m r = ({ m with br := L }, 0)) := Hd (by rw [HTB.out, trn_yes hq (by omega), hL])
     rw [Hr.out]
     have HPL : Hid (∀ i, (∀ b, insO (fun x : Bk => cmpN x.id r.br) b m.br = m.br.take i ++ b :: m.br.drop (i + 1)) → m.br.take i ++ (⟨b.id, b.ep, b.rk, false, false⟩ : Bk) :: m.br.drop (i + 1) = L) := Hd (fun i hi => by rw [← hi, hL, hk]; exact (putB_ins (b := trnX b 4) (id := r.br) HID.out).symm)
     have HK := Hd hk
     clear he hq hL hk
     have HFR0 : Fr w m (⟨some ⟨bb, oo, none⟩, aq, ac, ad, cb, cq, cc, cd, ts⟩ : Ip) (cR r a14 a15 a16 a17 c14 c15 c16 c17) imz (((w.alloc (.cells (List.toArray [Value.slice (some ⟨bb, oo, none⟩) m.br.length cb, .slice aq ts.length cq, .slice ac m.cf.length cc, .slice ad m.dn.length cd, .int .i64 m.la]) 30)).alloc (.cells (List.toArray [Value.int .i64 r.k, .int .i64 r.br, .int .i64 r.ep, .int .i64 r.tp, .int .i64 r.pa, .int .i64 r.le, .int .i64 r.cl, .int .i64 r.se, .int .i64 r.co, .bool r.fl, .string ⟨r.nm.toArray⟩, .string ⟨r.ky.toArray⟩, .string ⟨r.va.toArray⟩, .string ⟨r.rk.toArray⟩, .slice a14 r.ids.length c14, .slice a15 r.isr.length c15, .slice a16 r.ad.length c16, .slice a17 r.dr.length c17]) 65)).alloc (.cells (List.toArray [Value.slice none 0 0, .slice none 0 0, .slice none 0 0, .slice none 0 0, .int .i64 0]) 30)) := Fr.mk0 w m _ _ _ _ _ (Below.refl _ _)
     clear hv hw hrw hf hrg
     unfold imv
     dsimp only
     show Calls _ _ #[_, .agg (List.toArray [.int .i64 r.k, .int .i64 r.br, .int .i64 r.ep, .int .i64 r.tp, .int .i64 r.pa, .int .i64 r.le, .int .i64 r.cl, .int .i64 r.se, .int .i64 r.co, .bool r.fl, .string ⟨r.nm.toArray⟩, .string ⟨r.ky.toArray⟩, .string ⟨r.va.toArray⟩, .string ⟨r.rk.toArray⟩, .slice a14 r.ids.length c14, .slice a15 r.isr.length c15, .slice a16 r.ad.length c16, .slice a17 r.dr.length c17])] _ _
     go_enter Tryz.func94, Tryz.ntmps94
     go_upto_region 1 with fail
     generalize ((w.alloc (.cells (List.toArray [Value.slice (some ⟨bb, oo, none⟩) m.br.length cb, .slice aq ts.length cq, .slice ac m.cf.length cc, .slice ad m.dn.length cd, .int .i64 m.la]) 30)).alloc (.cells (List.toArray [Value.int .i64 r.k, .int .i64 r.br, .int .i64 r.ep, .int .i64 r.tp, .int .i64 r.pa, .int .i64 r.le, .int .i64 r.cl, .int .i64 r.se, .int .i64 r.co, .bool r.fl, .string ⟨r.nm.toArray⟩, .string ⟨r.ky.toArray⟩, .string ⟨r.va.toArray⟩, .string ⟨r.rk.toArray⟩, .slice a14 r.ids.length c14, .slice a15 r.isr.length c15, .slice a16 r.ad.length c16, .slice a17 r.dr.length c17]) 65)).alloc (.cells (List.toArray [Value.slice none 0 0, .slice none 0 0, .slice none 0 0, .slice none 0 0, .int .i64 0]) 30) = X at HFR0 ⊢
     have Hf := Hd HFR0
     clear HFR0
     obtain ⟨i0, i1, i2, i3, i4⟩ := Hf.out.i.imx; have r0 := Hf.out.r.at 0 _ rfl; have r1 := Hf.out.r.at 1 _ rfl; have r2 := Hf.out.r.at 2 _ rfl
     unfold imv bkc at HTU
     unfold imv at HF
     dsimp only at HF HTU
     go_upto_region 4 with (go_at_call 35; refine (HF.out _ Hf.out.b).mono ?_; rintro e wx ⟨i, hi, hib, hins, hrem, _, _, rfl, hbx⟩; have HIN := Hd hins; have HRM := Hd hrem; have HIB := Hd hib; replace Hf := Hd (Hf.out.below hbx); clear i0 i1 i2 i3 i4 r0 r1 r2; clear hbx HF hins hrem hib; obtain ⟨i0, i1, i2, i3, i4⟩ := Hf.out.i.imx; have r0 := Hf.out.r.at 0 _ rfl; have r1 := Hf.out.r.at 1 _ rfl; have r2 := Hf.out.r.at 2 _ rfl)
     have hiI : (i : Int) < (m.br.length : Int) := Int.ofNat_lt.2 hi
     have HE : Hid (wx.rangeAt bb (oo + i * 5) [.int .i64 b.id, .int .i64 b.ep, .string ⟨b.rk.toArray⟩, .bool b.fe, .bool b.lv]) := Hd (by have := rg_bel (fm_at encB HRG.out hi) Hf.out.b; rw [HIB.out] at this; exact this)
     go_upto_region 5 with (refine wpList_load_mid rfl _ _ rfl _ _ rfl _ _ HE.out Tryz.underlying33 rfl (by kernel_rfl) ?_)
     clear i0 i1 i2 i3 i4 r0 r1 r2
     have HNB := Hd Hf.out.sz
     have HBX := Hd (Bx.new wx [.int .i64 b.id, .int .i64 b.ep, .string ⟨b.rk.toArray⟩, .bool b.fe, .bool b.lv] 33)
     replace Hf := Hd (Hf.out.below (bA wx (.cells (List.toArray [Value.int .i64 b.id, .int .i64 b.ep, .string ⟨b.rk.toArray⟩, .bool b.fe, .bool b.lv]) 33)))
     generalize wx.alloc (.cells (List.toArray [Value.int .i64 b.id, .int .i64 b.ep, .string ⟨b.rk.toArray⟩, .bool b.fe, .bool b.lv]) 33) = Y at Hf HBX ⊢
     generalize wx.heap.size = nb at HBX HNB ⊢
     obtain ⟨i0, i1, i2, i3, i4⟩ := Hf.out.i.imx; have r0 := Hf.out.r.at 0 _ rfl; have r1 := Hf.out.r.at 1 _ rfl; have r2 := Hf.out.r.at 2 _ rfl
     obtain ⟨b0, b1, b2, b3, b4⟩ := HBX.out.c5
     go_upto_region 9 with (go_at_call 120; refine (HTU.out _ Hf.out.b).mono ?_; rintro e wy ⟨rfl, hby⟩; replace Hf := Hd (Hf.out.below hby); replace HBX := Hd (HBX.out.below hby); clear i0 i1 i2 i3 i4 r0 r1 r2; clear b0 b1 b2 b3 b4; clear hby HTU; obtain ⟨i0, i1, i2, i3, i4⟩ := Hf.out.i.imx; have r0 := Hf.out.r.at 0 _ rfl; have r1 := Hf.out.r.at 1 _ rfl; have r2 := Hf.out.r.at 2 _ rfl; obtain ⟨b0, b1, b2, b3, b4⟩ := HBX.out.c5)
     rw [HK.out] at r0
     have g3 := HBX.out.f 3 (by simp)
     have g4 := HBX.out.f 4 (by simp)
     go_upto_region 19 with fail
     clear i0 i1 i2 i3 i4 r0 r1 r2
     clear b0 b1 b2 b3 b4 g3 g4
     have HFRn := Hd (⟨Hf.out.i.setOther (m := nb) (by have := HNB.out; omega) 3 (.bool false), Hf.out.r.setOther (m := nb) (by have := HNB.out; omega) 3 (.bool false), Hf.out.z.setOther (m := nb) (by have := HNB.out; omega) 3 (.bool false), Hf.out.b.setCell (p := ⟨nb, 3, none⟩) (by have := HNB.out; show w.heap.size ≤ nb; omega) (.bool false)⟩ : Fr w m (⟨some ⟨bb, oo, none⟩, aq, ac, ad, cb, cq, cc, cd, ts⟩ : Ip) (cR r a14 a15 a16 a17 c14 c15 c16 c17) imz (wy.setCell ⟨nb, 3, none⟩ (.bool false)))
     have HBXn := Hd (HBX.out.setCell 3 (by simp) (.bool false))
     clear Hf HBX
     generalize wy.setCell ⟨nb, 3, none⟩ (.bool false) = Z3 at HFRn HBXn ⊢
     have Hf := Hd HFRn.out
     have HBX := Hd HBXn.out
     clear HFRn HBXn
     have HFRn := Hd (⟨Hf.out.i.setOther (m := nb) (by have := HNB.out; omega) 4 (.bool false), Hf.out.r.setOther (m := nb) (by have := HNB.out; omega) 4 (.bool false), Hf.out.z.setOther (m := nb) (by have := HNB.out; omega) 4 (.bool false), Hf.out.b.setCell (p := ⟨nb, 4, none⟩) (by have := HNB.out; show w.heap.size ≤ nb; omega) (.bool false)⟩ : Fr w m (⟨some ⟨bb, oo, none⟩, aq, ac, ad, cb, cq, cc, cd, ts⟩ : Ip) (cR r a14 a15 a16 a17 c14 c15 c16 c17) imz (Z3.setCell ⟨nb, 4, none⟩ (.bool false)))
     have HBXn := Hd (HBX.out.setCell 4 (by simp) (.bool false))
     clear Hf HBX
     generalize Z3.setCell ⟨nb, 4, none⟩ (.bool false) = Z4 at HFRn HBXn ⊢
     have Hf := Hd HFRn.out
     have HBX := Hd HBXn.out
     clear HFRn HBXn
     simp only [List.set] at HBX
     obtain ⟨i0, i1, i2, i3, i4⟩ := Hf.out.i.imx; have r0 := Hf.out.r.at 0 _ rfl; have r1 := Hf.out.r.at 1 _ rfl; have r2 := Hf.out.r.at 2 _ rfl
     obtain ⟨b0, b1, b2, b3, b4⟩ := HBX.out.c5
     go_wp2_with (first | (go_at_call 119; refine (HPU.out _ Hf.out.b i hi (⟨b.id, b.ep, b.rk, false, false⟩ : Bk)).mono ?_; rintro e w3 ⟨v, rfl, hro, hb3⟩; rw [HPL.out i HIN.out] at hro; obtain ⟨av, cv, rfl⟩ := hro.form; have HRO := Hd (hro.mono Hf.out.sz); replace Hf := Hd (Hf.out.below hb3); clear hro hb3 HPU; clear i0 i1 i2 i3 i4 r0 r1 r2; obtain ⟨i0, i1, i2, i3, i4⟩ := Hf.out.i.imx; have r0 := Hf.out.r.at 0 _ rfl; have r1 := Hf.out.r.at 1 _ rfl; have r2 := Hf.out.r.at 2 _ rfl; have f0 := Hf.out.f 0 (by decide); have HFS := Hd (Hf.out.set 0 (.slice av L.length cv) { m with br := L } (⟨av, aq, ac, ad, cv, cq, cc, cd, ts⟩ : Ip) (by decide) rfl)) | (refine wS rfl _ _ _ rfl _ _ rfl HFS.out.z (iml { m with br := L } (⟨av, aq, ac, ad, cv, cq, cc, cd, ts⟩ : Ip)) rfl rfl (by kernel_rfl) rfl ?_; intro W3 hz hk hb hp; have Ho := Hd (HFS.out.out hz hk hb); have HRS := Hd (fun W (hW : Agr n0 w.heap.size W3 W) => (HRO.out.keepG (fun g hg => (hW g (.inr (by omega))).trans ((hp g (by omega)).trans (Below.heap_setCell _ _ _ _ (show ¬ g = w.heap.size by omega))))).rs); clear hz hk hb hp))
     obtain ⟨q0, q1, q2, q3, q4⟩ := Ho.out.z.imx
     exact bodyPost_ret (v := .tuple #[.agg (iml { m with br := L } (⟨av, aq, ac, ad, cv, cq, cc, cd, ts⟩ : Ip)).toArray, .nilIface]) (by simp [results, Tryz.results94, go_sem, q0, q1, q2, q3, q4, iml]) rfl (st_ret Ho.out (fun W hW => (Hv.out W _ Ho.out.b hW).setB (HRS.out W hW)) erc_nil)
    ·obtain ⟨L, hL⟩ : ∃ L, L = putB m.br (trnX b r.k) := ⟨_, rfl⟩
     have Hr : Hid (turB m r = ({ m with br := L }, 0)) := Hd (by rw [HTB.out, trn_yes hq (by omega), hL])
     rw [Hr.out]
     have HPL : Hid (∀ i, (∀ b, insO (fun x : Bk => cmpN x.id r.br) b m.br = m.br.take i ++ b :: m.br.drop (i + 1)) → m.br.take i ++ (⟨b.id, b.ep, b.rk, b.fe, true⟩ : Bk) :: m.br.drop (i + 1) = L) := Hd (fun i hi => by rw [← hi, hL, hk]; exact (putB_ins (b := trnX b 5) (id := r.br) HID.out).symm)
     have HK := Hd hk
     clear he hq hL hk
     have HFR0 : Fr w m (⟨some ⟨bb, oo, none⟩, aq, ac, ad, cb, cq, cc, cd, ts⟩ : Ip) (cR r a14 a15 a16 a17 c14 c15 c16 c17) imz (((w.alloc (.cells (List.toArray [Value.slice (some ⟨bb, oo, none⟩) m.br.length cb, .slice aq ts.length cq, .slice ac m.cf.length cc, .slice ad m.dn.length cd, .int .i64 m.la]) 30)).alloc (.cells (List.toArray [Value.int .i64 r.k, .int .i64 r.br, .int .i64 r.ep, .int .i64 r.tp, .int .i64 r.pa, .int .i64 r.le, .int .i64 r.cl, .int .i64 r.se, .int .i64 r.co, .bool r.fl, .string ⟨r.nm.toArray⟩, .string ⟨r.ky.toArray⟩, .string ⟨r.va.toArray⟩, .string ⟨r.rk.toArray⟩, .slice a14 r.ids.length c14, .slice a15 r.isr.length c15, .slice a16 r.ad.length c16, .slice a17 r.dr.length c17]) 65)).alloc (.cells (List.toArray [Value.slice none 0 0, .slice none 0 0, .slice none 0 0, .slice none 0 0, .int .i64 0]) 30)) := Fr.mk0 w m _ _ _ _ _ (Below.refl _ _)
     clear hv hw hrw hf hrg
     unfold imv
     dsimp only
     show Calls _ _ #[_, .agg (List.toArray [.int .i64 r.k, .int .i64 r.br, .int .i64 r.ep, .int .i64 r.tp, .int .i64 r.pa, .int .i64 r.le, .int .i64 r.cl, .int .i64 r.se, .int .i64 r.co, .bool r.fl, .string ⟨r.nm.toArray⟩, .string ⟨r.ky.toArray⟩, .string ⟨r.va.toArray⟩, .string ⟨r.rk.toArray⟩, .slice a14 r.ids.length c14, .slice a15 r.isr.length c15, .slice a16 r.ad.length c16, .slice a17 r.dr.length c17])] _ _
     go_enter Tryz.func94, Tryz.ntmps94
     go_upto_region 1 with fail
     generalize ((w.alloc (.cells (List.toArray [Value.slice (some ⟨bb, oo, none⟩) m.br.length cb, .slice aq ts.length cq, .slice ac m.cf.length cc, .slice ad m.dn.length cd, .int .i64 m.la]) 30)).alloc (.cells (List.toArray [Value.int .i64 r.k, .int .i64 r.br, .int .i64 r.ep, .int .i64 r.tp, .int .i64 r.pa, .int .i64 r.le, .int .i64 r.cl, .int .i64 r.se, .int .i64 r.co, .bool r.fl, .string ⟨r.nm.toArray⟩, .string ⟨r.ky.toArray⟩, .string ⟨r.va.toArray⟩, .string ⟨r.rk.toArray⟩, .slice a14 r.ids.length c14, .slice a15 r.isr.length c15, .slice a16 r.ad.length c16, .slice a17 r.dr.length c17]) 65)).alloc (.cells (List.toArray [Value.slice none 0 0, .slice none 0 0, .slice none 0 0, .slice none 0 0, .int .i64 0]) 30) = X at HFR0 ⊢
     have Hf := Hd HFR0
     clear HFR0
     obtain ⟨i0, i1, i2, i3, i4⟩ := Hf.out.i.imx; have r0 := Hf.out.r.at 0 _ rfl; have r1 := Hf.out.r.at 1 _ rfl; have r2 := Hf.out.r.at 2 _ rfl
     unfold imv bkc at HTU
     unfold imv at HF
     dsimp only at HF HTU
     go_upto_region 4 with (go_at_call 35; refine (HF.out _ Hf.out.b).mono ?_; rintro e wx ⟨i, hi, hib, hins, hrem, _, _, rfl, hbx⟩; have HIN := Hd hins; have HRM := Hd hrem; have HIB := Hd hib; replace Hf := Hd (Hf.out.below hbx); clear i0 i1 i2 i3 i4 r0 r1 r2; clear hbx HF hins hrem hib; obtain ⟨i0, i1, i2, i3, i4⟩ := Hf.out.i.imx; have r0 := Hf.out.r.at 0 _ rfl; have r1 := Hf.out.r.at 1 _ rfl; have r2 := Hf.out.r.at 2 _ rfl)
     have hiI : (i : Int) < (m.br.length : Int) := Int.ofNat_lt.2 hi
     have HE : Hid (wx.rangeAt bb (oo + i * 5) [.int .i64 b.id, .int .i64 b.ep, .string ⟨b.rk.toArray⟩, .bool b.fe, .bool b.lv]) := Hd (by have := rg_bel (fm_at encB HRG.out hi) Hf.out.b; rw [HIB.out] at this; exact this)
     go_upto_region 5 with (refine wpList_load_mid rfl _ _ rfl _ _ rfl _ _ HE.out Tryz.underlying33 rfl (by kernel_rfl) ?_)
     clear i0 i1 i2 i3 i4 r0 r1 r2
     have HNB := Hd Hf.out.sz
     have HBX := Hd (Bx.new wx [.int .i64 b.id, .int .i64 b.ep, .string ⟨b.rk.toArray⟩, .bool b.fe, .bool b.lv] 33)
     replace Hf := Hd (Hf.out.below (bA wx (.cells (List.toArray [Value.int .i64 b.id, .int .i64 b.ep, .string ⟨b.rk.toArray⟩, .bool b.fe, .bool b.lv]) 33)))
     generalize wx.alloc (.cells (List.toArray [Value.int .i64 b.id, .int .i64 b.ep, .string ⟨b.rk.toArray⟩, .bool b.fe, .bool b.lv]) 33) = Y at Hf HBX ⊢
     generalize wx.heap.size = nb at HBX HNB ⊢
     obtain ⟨i0, i1, i2, i3, i4⟩ := Hf.out.i.imx; have r0 := Hf.out.r.at 0 _ rfl; have r1 := Hf.out.r.at 1 _ rfl; have r2 := Hf.out.r.at 2 _ rfl
     obtain ⟨b0, b1, b2, b3, b4⟩ := HBX.out.c5
     go_upto_region 9 with (go_at_call 120; refine (HTU.out _ Hf.out.b).mono ?_; rintro e wy ⟨rfl, hby⟩; replace Hf := Hd (Hf.out.below hby); replace HBX := Hd (HBX.out.below hby); clear i0 i1 i2 i3 i4 r0 r1 r2; clear b0 b1 b2 b3 b4; clear hby HTU; obtain ⟨i0, i1, i2, i3, i4⟩ := Hf.out.i.imx; have r0 := Hf.out.r.at 0 _ rfl; have r1 := Hf.out.r.at 1 _ rfl; have r2 := Hf.out.r.at 2 _ rfl; obtain ⟨b0, b1, b2, b3, b4⟩ := HBX.out.c5)
     rw [HK.out] at r0
     have g4 := HBX.out.f 4 (by simp)
     go_upto_region 19 with fail
     clear i0 i1 i2 i3 i4 r0 r1 r2
     clear b0 b1 b2 b3 b4 g4
     have HFRn := Hd (⟨Hf.out.i.setOther (m := nb) (by have := HNB.out; omega) 4 (.bool true), Hf.out.r.setOther (m := nb) (by have := HNB.out; omega) 4 (.bool true), Hf.out.z.setOther (m := nb) (by have := HNB.out; omega) 4 (.bool true), Hf.out.b.setCell (p := ⟨nb, 4, none⟩) (by have := HNB.out; show w.heap.size ≤ nb; omega) (.bool true)⟩ : Fr w m (⟨some ⟨bb, oo, none⟩, aq, ac, ad, cb, cq, cc, cd, ts⟩ : Ip) (cR r a14 a15 a16 a17 c14 c15 c16 c17) imz (wy.setCell ⟨nb, 4, none⟩ (.bool true)))
     have HBXn := Hd (HBX.out.setCell 4 (by simp) (.bool true))
     clear Hf HBX
     generalize wy.setCell ⟨nb, 4, none⟩ (.bool true) = Z4 at HFRn HBXn ⊢
     have Hf := Hd HFRn.out
     have HBX := Hd HBXn.out
     clear HFRn HBXn
     simp only [List.set] at HBX
     obtain ⟨i0, i1, i2, i3, i4⟩ := Hf.out.i.imx; have r0 := Hf.out.r.at 0 _ rfl; have r1 := Hf.out.r.at 1 _ rfl; have r2 := Hf.out.r.at 2 _ rfl
     obtain ⟨b0, b1, b2, b3, b4⟩ := HBX.out.c5
     go_wp2_with (first | (go_at_call 119; refine (HPU.out _ Hf.out.b i hi (⟨b.id, b.ep, b.rk, b.fe, true⟩ : Bk)).mono ?_; rintro e w3 ⟨v, rfl, hro, hb3⟩; rw [HPL.out i HIN.out] at hro; obtain ⟨av, cv, rfl⟩ := hro.form; have HRO := Hd (hro.mono Hf.out.sz); replace Hf := Hd (Hf.out.below hb3); clear hro hb3 HPU; clear i0 i1 i2 i3 i4 r0 r1 r2; obtain ⟨i0, i1, i2, i3, i4⟩ := Hf.out.i.imx; have r0 := Hf.out.r.at 0 _ rfl; have r1 := Hf.out.r.at 1 _ rfl; have r2 := Hf.out.r.at 2 _ rfl; have f0 := Hf.out.f 0 (by decide); have HFS := Hd (Hf.out.set 0 (.slice av L.length cv) { m with br := L } (⟨av, aq, ac, ad, cv, cq, cc, cd, ts⟩ : Ip) (by decide) rfl)) | (refine wS rfl _ _ _ rfl _ _ rfl HFS.out.z (iml { m with br := L } (⟨av, aq, ac, ad, cv, cq, cc, cd, ts⟩ : Ip)) rfl rfl (by kernel_rfl) rfl ?_; intro W3 hz hk hb hp; have Ho := Hd (HFS.out.out hz hk hb); have HRS := Hd (fun W (hW : Agr n0 w.heap.size W3 W) => (HRO.out.keepG (fun g hg => (hW g (.inr (by omega))).trans ((hp g (by omega)).trans (Below.heap_setCell _ _ _ _ (show ¬ g = w.heap.size by omega))))).rs); clear hz hk hb hp))
     obtain ⟨q0, q1, q2, q3, q4⟩ := Ho.out.z.imx
     exact bodyPost_ret (v := .tuple #[.agg (iml { m with br := L } (⟨av, aq, ac, ad, cv, cq, cc, cd, ts⟩ : Ip)).toArray, .nilIface]) (by simp [results, Tryz.results94, go_sem, q0, q1, q2, q3, q4, iml]) rfl (st_ret Ho.out (fun W hW => (Hv.out W _ Ho.out.b hW).setB (HRS.out W hW)) erc_nil)
    ·obtain ⟨L, hL⟩ : ∃ L, L = remB m.br b.id := ⟨_, rfl⟩
     have Hr : Hid (turB m r = ({ m with br := L }, 0)) := Hd (by rw [HTB.out, hk, trn_gone (hk ▸ hq), hL])
     rw [Hr.out]
     have HPL : Hid (remO (fun x : Bk => cmpN x.id r.br) m.br = L) := Hd (by rw [hL, remB_rem, HID.out])
     have HK := Hd hk
     clear he hq hL hk
     have HFR0 : Fr w m (⟨some ⟨bb, oo, none⟩, aq, ac, ad, cb, cq, cc, cd, ts⟩ : Ip) (cR r a14 a15 a16 a17 c14 c15 c16 c17) imz (((w.alloc (.cells (List.toArray [Value.slice (some ⟨bb, oo, none⟩) m.br.length cb, .slice aq ts.length cq, .slice ac m.cf.length cc, .slice ad m.dn.length cd, .int .i64 m.la]) 30)).alloc (.cells (List.toArray [Value.int .i64 r.k, .int .i64 r.br, .int .i64 r.ep, .int .i64 r.tp, .int .i64 r.pa, .int .i64 r.le, .int .i64 r.cl, .int .i64 r.se, .int .i64 r.co, .bool r.fl, .string ⟨r.nm.toArray⟩, .string ⟨r.ky.toArray⟩, .string ⟨r.va.toArray⟩, .string ⟨r.rk.toArray⟩, .slice a14 r.ids.length c14, .slice a15 r.isr.length c15, .slice a16 r.ad.length c16, .slice a17 r.dr.length c17]) 65)).alloc (.cells (List.toArray [Value.slice none 0 0, .slice none 0 0, .slice none 0 0, .slice none 0 0, .int .i64 0]) 30)) := Fr.mk0 w m _ _ _ _ _ (Below.refl _ _)
     clear hv hw hrw hf hrg
     unfold imv
     dsimp only
     show Calls _ _ #[_, .agg (List.toArray [.int .i64 r.k, .int .i64 r.br, .int .i64 r.ep, .int .i64 r.tp, .int .i64 r.pa, .int .i64 r.le, .int .i64 r.cl, .int .i64 r.se, .int .i64 r.co, .bool r.fl, .string ⟨r.nm.toArray⟩, .string ⟨r.ky.toArray⟩, .string ⟨r.va.toArray⟩, .string ⟨r.rk.toArray⟩, .slice a14 r.ids.length c14, .slice a15 r.isr.length c15, .slice a16 r.ad.length c16, .slice a17 r.dr.length c17])] _ _
     go_enter Tryz.func94, Tryz.ntmps94
     go_upto_region 1 with fail
     generalize ((w.alloc (.cells (List.toArray [Value.slice (some ⟨bb, oo, none⟩) m.br.length cb, .slice aq ts.length cq, .slice ac m.cf.length cc, .slice ad m.dn.length cd, .int .i64 m.la]) 30)).alloc (.cells (List.toArray [Value.int .i64 r.k, .int .i64 r.br, .int .i64 r.ep, .int .i64 r.tp, .int .i64 r.pa, .int .i64 r.le, .int .i64 r.cl, .int .i64 r.se, .int .i64 r.co, .bool r.fl, .string ⟨r.nm.toArray⟩, .string ⟨r.ky.toArray⟩, .string ⟨r.va.toArray⟩, .string ⟨r.rk.toArray⟩, .slice a14 r.ids.length c14, .slice a15 r.isr.length c15, .slice a16 r.ad.length c16, .slice a17 r.dr.length c17]) 65)).alloc (.cells (List.toArray [Value.slice none 0 0, .slice none 0 0, .slice none 0 0, .slice none 0 0, .int .i64 0]) 30) = X at HFR0 ⊢
     have Hf := Hd HFR0
     clear HFR0
     obtain ⟨i0, i1, i2, i3, i4⟩ := Hf.out.i.imx; have r0 := Hf.out.r.at 0 _ rfl; have r1 := Hf.out.r.at 1 _ rfl; have r2 := Hf.out.r.at 2 _ rfl
     unfold imv bkc at HTU
     unfold imv at HF
     dsimp only at HF HTU
     go_upto_region 4 with (go_at_call 35; refine (HF.out _ Hf.out.b).mono ?_; rintro e wx ⟨i, hi, hib, hins, hrem, _, _, rfl, hbx⟩; have HIN := Hd hins; have HRM := Hd hrem; have HIB := Hd hib; replace Hf := Hd (Hf.out.below hbx); clear i0 i1 i2 i3 i4 r0 r1 r2; clear hbx HF hins hrem hib; obtain ⟨i0, i1, i2, i3, i4⟩ := Hf.out.i.imx; have r0 := Hf.out.r.at 0 _ rfl; have r1 := Hf.out.r.at 1 _ rfl; have r2 := Hf.out.r.at 2 _ rfl)
     have hiI : (i : Int) < (m.br.length : Int) := Int.ofNat_lt.2 hi
     have HE : Hid (wx.rangeAt bb (oo + i * 5) [.int .i64 b.id, .int .i64 b.ep, .string ⟨b.rk.toArray⟩, .bool b.fe, .bool b.lv]) := Hd (by have := rg_bel (fm_at encB HRG.out hi) Hf.out.b; rw [HIB.out] at this; exact this)
     go_upto_region 5 with (refine wpList_load_mid rfl _ _ rfl _ _ rfl _ _ HE.out Tryz.underlying33 rfl (by kernel_rfl) ?_)
     clear i0 i1 i2 i3 i4 r0 r1 r2
     have HNB := Hd Hf.out.sz
     have HBX := Hd (Bx.new wx [.int .i64 b.id, .int .i64 b.ep, .string ⟨b.rk.toArray⟩, .bool b.fe, .bool b.lv] 33)
     replace Hf := Hd (Hf.out.below (bA wx (.cells (List.toArray [Value.int .i64 b.id, .int .i64 b.ep, .string ⟨b.rk.toArray⟩, .bool b.fe, .bool b.lv]) 33)))
     generalize wx.alloc (.cells (List.toArray [Value.int .i64 b.id, .int .i64 b.ep, .string ⟨b.rk.toArray⟩, .bool b.fe, .bool b.lv]) 33) = Y at Hf HBX ⊢
     generalize wx.heap.size = nb at HBX HNB ⊢
     obtain ⟨i0, i1, i2, i3, i4⟩ := Hf.out.i.imx; have r0 := Hf.out.r.at 0 _ rfl; have r1 := Hf.out.r.at 1 _ rfl; have r2 := Hf.out.r.at 2 _ rfl
     obtain ⟨b0, b1, b2, b3, b4⟩ := HBX.out.c5
     go_upto_region 9 with (go_at_call 120; refine (HTU.out _ Hf.out.b).mono ?_; rintro e wy ⟨rfl, hby⟩; replace Hf := Hd (Hf.out.below hby); replace HBX := Hd (HBX.out.below hby); clear i0 i1 i2 i3 i4 r0 r1 r2; clear b0 b1 b2 b3 b4; clear hby HTU; obtain ⟨i0, i1, i2, i3, i4⟩ := Hf.out.i.imx; have r0 := Hf.out.r.at 0 _ rfl; have r1 := Hf.out.r.at 1 _ rfl; have r2 := Hf.out.r.at 2 _ rfl; obtain ⟨b0, b1, b2, b3, b4⟩ := HBX.out.c5)
     rw [HK.out] at r0
     go_wp2_with (first | (go_at_call 121; refine (HWO.out _ Hf.out.b i hi).mono ?_; rintro e w3 ⟨v, rfl, hro, hb3⟩; rw [← HRM.out, HPL.out] at hro; obtain ⟨av, cv, rfl⟩ := hro.form; have HRO := Hd (hro.mono Hf.out.sz); replace Hf := Hd (Hf.out.below hb3); clear hro hb3 HWO; clear i0 i1 i2 i3 i4 r0 r1 r2; obtain ⟨i0, i1, i2, i3, i4⟩ := Hf.out.i.imx; have r0 := Hf.out.r.at 0 _ rfl; have r1 := Hf.out.r.at 1 _ rfl; have r2 := Hf.out.r.at 2 _ rfl; have f0 := Hf.out.f 0 (by decide); have HFS := Hd (Hf.out.set 0 (.slice av L.length cv) { m with br := L } (⟨av, aq, ac, ad, cv, cq, cc, cd, ts⟩ : Ip) (by decide) rfl)) | (refine wS rfl _ _ _ rfl _ _ rfl HFS.out.z (iml { m with br := L } (⟨av, aq, ac, ad, cv, cq, cc, cd, ts⟩ : Ip)) rfl rfl (by kernel_rfl) rfl ?_; intro W3 hz hk hb hp; have Ho := Hd (HFS.out.out hz hk hb); have HRS := Hd (fun W (hW : Agr n0 w.heap.size W3 W) => (HRO.out.keepG (fun g hg => (hW g (.inr (by omega))).trans ((hp g (by omega)).trans (Below.heap_setCell _ _ _ _ (show ¬ g = w.heap.size by omega))))).rs); clear hz hk hb hp))
     obtain ⟨q0, q1, q2, q3, q4⟩ := Ho.out.z.imx
     exact bodyPost_ret (v := .tuple #[.agg (iml { m with br := L } (⟨av, aq, ac, ad, cv, cq, cc, cd, ts⟩ : Ip)).toArray, .nilIface]) (by simp [results, Tryz.results94, go_sem, q0, q1, q2, q3, q4, iml]) rfl (st_ret Ho.out (fun W hW => (Hv.out W _ Ho.out.b hW).setB (HRS.out W hW)) erc_nil)
  ·have hne1 : (b.ep != r.ep) = true := by simpa using he
   have Hr : Hid (turB m r = (m, 11)) := Hd (by unfold turB; rw [hf]; exact if_neg he)
   rw [Hr.out]
   have HFR0 : Fr w m (⟨some ⟨bb, oo, none⟩, aq, ac, ad, cb, cq, cc, cd, ts⟩ : Ip) (cR r a14 a15 a16 a17 c14 c15 c16 c17) imz (((w.alloc (.cells (List.toArray [Value.slice (some ⟨bb, oo, none⟩) m.br.length cb, .slice aq ts.length cq, .slice ac m.cf.length cc, .slice ad m.dn.length cd, .int .i64 m.la]) 30)).alloc (.cells (List.toArray [Value.int .i64 r.k, .int .i64 r.br, .int .i64 r.ep, .int .i64 r.tp, .int .i64 r.pa, .int .i64 r.le, .int .i64 r.cl, .int .i64 r.se, .int .i64 r.co, .bool r.fl, .string ⟨r.nm.toArray⟩, .string ⟨r.ky.toArray⟩, .string ⟨r.va.toArray⟩, .string ⟨r.rk.toArray⟩, .slice a14 r.ids.length c14, .slice a15 r.isr.length c15, .slice a16 r.ad.length c16, .slice a17 r.dr.length c17]) 65)).alloc (.cells (List.toArray [Value.slice none 0 0, .slice none 0 0, .slice none 0 0, .slice none 0 0, .int .i64 0]) 30)) := Fr.mk0 w m _ _ _ _ _ (Below.refl _ _)
   clear hv hw hrw hf hrg hk
   unfold imv
   dsimp only
   show Calls _ _ #[_, .agg (List.toArray [.int .i64 r.k, .int .i64 r.br, .int .i64 r.ep, .int .i64 r.tp, .int .i64 r.pa, .int .i64 r.le, .int .i64 r.cl, .int .i64 r.se, .int .i64 r.co, .bool r.fl, .string ⟨r.nm.toArray⟩, .string ⟨r.ky.toArray⟩, .string ⟨r.va.toArray⟩, .string ⟨r.rk.toArray⟩, .slice a14 r.ids.length c14, .slice a15 r.isr.length c15, .slice a16 r.ad.length c16, .slice a17 r.dr.length c17])] _ _
   go_enter Tryz.func94, Tryz.ntmps94
   go_upto_region 1 with fail
   generalize ((w.alloc (.cells (List.toArray [Value.slice (some ⟨bb, oo, none⟩) m.br.length cb, .slice aq ts.length cq, .slice ac m.cf.length cc, .slice ad m.dn.length cd, .int .i64 m.la]) 30)).alloc (.cells (List.toArray [Value.int .i64 r.k, .int .i64 r.br, .int .i64 r.ep, .int .i64 r.tp, .int .i64 r.pa, .int .i64 r.le, .int .i64 r.cl, .int .i64 r.se, .int .i64 r.co, .bool r.fl, .string ⟨r.nm.toArray⟩, .string ⟨r.ky.toArray⟩, .string ⟨r.va.toArray⟩, .string ⟨r.rk.toArray⟩, .slice a14 r.ids.length c14, .slice a15 r.isr.length c15, .slice a16 r.ad.length c16, .slice a17 r.dr.length c17]) 65)).alloc (.cells (List.toArray [Value.slice none 0 0, .slice none 0 0, .slice none 0 0, .slice none 0 0, .int .i64 0]) 30) = X at HFR0 ⊢
   have Hf := Hd HFR0
   clear HFR0
   obtain ⟨i0, i1, i2, i3, i4⟩ := Hf.out.i.imx; have r0 := Hf.out.r.at 0 _ rfl; have r1 := Hf.out.r.at 1 _ rfl; have r2 := Hf.out.r.at 2 _ rfl
   unfold imv at HF
   dsimp only at HF
   go_upto_region 4 with (go_at_call 35; refine (HF.out _ Hf.out.b).mono ?_; rintro e wx ⟨i, hi, hib, hins, hrem, _, _, rfl, hbx⟩; have HIN := Hd hins; have HRM := Hd hrem; have HIB := Hd hib; replace Hf := Hd (Hf.out.below hbx); clear i0 i1 i2 i3 i4 r0 r1 r2; clear hbx HF hins hrem hib; obtain ⟨i0, i1, i2, i3, i4⟩ := Hf.out.i.imx; have r0 := Hf.out.r.at 0 _ rfl; have r1 := Hf.out.r.at 1 _ rfl; have r2 := Hf.out.r.at 2 _ rfl)
   have hiI : (i : Int) < (m.br.length : Int) := Int.ofNat_lt.2 hi
   have HE : Hid (wx.rangeAt bb (oo + i * 5) [.int .i64 b.id, .int .i64 b.ep, .string ⟨b.rk.toArray⟩, .bool b.fe, .bool b.lv]) := Hd (by have := rg_bel (fm_at encB HRG.out hi) Hf.out.b; rw [HIB.out] at this; exact this)
   go_upto_region 5 with (refine wpList_load_mid rfl _ _ rfl _ _ rfl _ _ HE.out Tryz.underlying33 rfl (by kernel_rfl) ?_)
   clear i0 i1 i2 i3 i4 r0 r1 r2
   have HNB := Hd Hf.out.sz
   have HBX := Hd (Bx.new wx [.int .i64 b.id, .int .i64 b.ep, .string ⟨b.rk.toArray⟩, .bool b.fe, .bool b.lv] 33)
   replace Hf := Hd (Hf.out.below (bA wx (.cells (List.toArray [Value.int .i64 b.id, .int .i64 b.ep, .string ⟨b.rk.toArray⟩, .bool b.fe, .bool b.lv]) 33)))
   generalize wx.alloc (.cells (List.toArray [Value.int .i64 b.id, .int .i64 b.ep, .string ⟨b.rk.toArray⟩, .bool b.fe, .bool b.lv]) 33) = Y at Hf HBX ⊢
   generalize wx.heap.size = nb at HBX HNB ⊢
   obtain ⟨i0, i1, i2, i3, i4⟩ := Hf.out.i.imx; have r0 := Hf.out.r.at 0 _ rfl; have r1 := Hf.out.r.at 1 _ rfl; have r2 := Hf.out.r.at 2 _ rfl
   obtain ⟨b0, b1, b2, b3, b4⟩ := HBX.out.c5
   go_wp2_with (first | (refine wS rfl _ _ _ rfl _ _ rfl Hf.out.z (iml m (⟨some ⟨bb, oo, none⟩, aq, ac, ad, cb, cq, cc, cd, ts⟩ : Ip)) rfl rfl (by kernel_rfl) rfl ?_; intro W3 hz hk hb hp; have Ho := Hd (Hf.out.out hz hk hb); clear hz hk hb hp))
   obtain ⟨q0, q1, q2, q3, q4⟩ := Ho.out.z.imx
   exact bodyPost_ret (v := .tuple #[.agg (iml m (⟨some ⟨bb, oo, none⟩, aq, ac, ad, cb, cq, cc, cd, ts⟩ : Ip)).toArray, .iface 67 (.int .i64 11)]) (by simp [results, Tryz.results94, go_sem, q0, q1, q2, q3, q4, iml]) rfl (st_ret Ho.out (fun W hW => Hv.out W _ Ho.out.b hW) (erc_code (by decide)))
end Go.Proofs.YtlggjgapdpkhiaaGreat
