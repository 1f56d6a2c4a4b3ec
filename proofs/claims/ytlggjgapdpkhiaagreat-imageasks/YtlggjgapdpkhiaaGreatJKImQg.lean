/-
  A BROKER IS FENCED, OPENED, LEAVES, OR IS GONE, AS THE DOCUMENT HAS IT (castellanref15.broker).
-/
import Derived.Test.YtlggjgapdpkhiaaGreatJKImQia2
import Derived.Test.YtlggjgapdpkhiaaGreatJKImQha3
namespace Go.Proofs.YtlggjgapdpkhiaaGreat
open Go.RowKit
structure Fb (w W : World) (m : Im) (p : Ip) (cs : List Value) (bk : Nat) (bs : List Value) (bo : Nat) (os : List Value) : Prop where
 f : Fo w W m p cs bo os
 k : Bx W bk bs
 ge : w.heap.size + 1 + 1 + 1 ≤ bk
 ne : bk < bo
section
variable {w W W' : World} {m : Im} {p : Ip} {cs bs os : List Value} {bk bo : Nat}
theorem Fb.below (h : Fb w W m p cs bk bs bo os) (hb : Below W.heap.size W W') : Fb w W' m p cs bk bs bo os := ⟨h.f.below hb, h.k.below hb, h.ge, h.ne⟩
theorem Fb.drewN (h : Fb w W m p cs bk bs bo os) (n : Nat) : Fb w (W.drewN n) m p cs bk bs bo os := ⟨h.f.drewN n, h.k.drewN n, h.ge, h.ne⟩
theorem Fb.low (h : Fb w W m p cs bk bs bo os) (hb : Below (bo + 1) W W') : Fb w W' m p cs bk bs bo os := ⟨h.f.low hb, h.k.lowB hb (by have := h.ne; omega), h.ge, h.ne⟩
theorem Fb.setO (h : Fb w W m p cs bk bs bo os) (j : Nat) (hj : j < os.length) (v : Value) : Fb w (W.setCell ⟨bo, j, none⟩ v) m p cs bk bs bo (os.set j v) :=
 have hn := h.ne
 ⟨h.f.set j hj v, h.k.setOther (by omega) j v, h.ge, h.ne⟩
theorem Fb.setK (h : Fb w W m p cs bk bs bo os) (j : Nat) (hj : j < bs.length) (v : Value) : Fb w (W.setCell ⟨bk, j, none⟩ v) m p cs bk (bs.set j v) bo os :=
 have hn := h.ne
 have hg := h.ge
 ⟨⟨⟨h.f.f.i.setOther (by omega) j v, h.f.f.r.setOther (by omega) j v, h.f.f.z.setOther (by omega) j v, h.f.f.b.setCell (p := ⟨bk, j, none⟩) (show w.heap.size ≤ bk by omega) v⟩, h.f.o.setOther (by omega) j v, h.f.ge⟩, h.k.setCell j hj v, hg, hn⟩
end
set_option maxRecDepth 100000 in
set_option maxHeartbeats 16000000 in
theorem rturn_any {ok : Nat → Prop} (m : Im) (p : Ip) (r : Rc) (v : Value) (w : World) (n0 : Nat → Prop) (hn0 : ∀ g, n0 g → g < w.heap.size) (hv : ∀ W, (∀ g, n0 g → W.heap[g]? = w.heap[g]?) → ImR W m p) (hw : Wf m 100000) (hr : IsR ok w v r) (hk : r.k = 3 ∨ r.k = 4 ∨ r.k = 5 ∨ r.k = 6) : Calls Tryz.prog 66 #[imv m p, v] w fun e w' => StD n0 w w' (turB m r).1 (turB m r).2 e := by
 obtain ⟨a14, a15, a16, a17, c14, c15, c16, c17, rfl, hrw⟩ := hr
 have Hv := Hd (fun (W W3 : World) (hb : Below w.heap.size w W3) (hW : Agr n0 w.heap.size W3 W) => hv W (fun g hg => (hW g (.inl hg)).trans (hb.block g (hn0 g hg))))
 replace hv : ImR w m p := hv w (fun _ _ => rfl)
 have HV := Hd (fun W (h : Below w.heap.size w W) => hv.below h)
 have HB := Hd (fun W (h : Below w.heap.size w W) => rbroker_any m p r.br W (hv.below h) hw.nb)
 have HPU := Hd (fun b W (h : Below w.heap.size w W) => rputb_any m.br _ b W (hv.below h).b hw.nb hw.b)
 cases hf : fB m.br r.br with
 | none =>
  have Hr : Hid (turB m r = (m, 8)) := Hd (by unfold turB; rw [hf])
  rw [Hr.out]
  rw [hf] at HB
  unfold brV at HB
  clear hf HPU hk
  unfold imv at HB
  have HFR0 := fF w m p r a14 a15 a16 a17 c14 c15 c16 c17
  clear hv hw hrw hn0
  unfold imv
  unfold cR
  go_enter Tryz.func66, Tryz.ntmps66
  go_upto_region 1 with fail
  rw [fE]
  generalize frW w m p r a14 a15 a16 a17 c14 c15 c16 c17 = X at HFR0 ⊢
  have Hf := Hd HFR0
  clear HFR0
  obtain ⟨i0, i1, i2, i3, i4⟩ := Hf.out.i.im; have r0 := Hf.out.r.at 0 _ rfl; have r1 := Hf.out.r.at 1 _ rfl; have r2 := Hf.out.r.at 2 _ rfl
  go_upto_region 2 with (first | (refine wpList_load_mid rfl _ _ rfl _ _ rfl _ _ Hf.out.i.c Tryz.underlying30 rfl (by kernel_rfl) ?_) | (go_at_call 8; refine (HB.out _ Hf.out.b).mono ?_; rintro e wx ⟨rfl, hbx⟩; replace Hf := Hd (Hf.out.below hbx); clear i0 i1 i2 i3 i4 r0 r1 r2; clear hbx HB))
  have HBK := Hd (Bx.new wx [.int .i64 0, .int .i64 0, .string ⟨#[]⟩, .bool false, .bool false] 33)
  have HGE := Hd Hf.out.sz
  replace Hf := Hd (Hf.out.below (bA wx (.cells (List.toArray [Value.int .i64 0, .int .i64 0, .string ⟨#[]⟩, .bool false, .bool false]) 33)))
  generalize wx.alloc (.cells (List.toArray [Value.int .i64 0, .int .i64 0, .string ⟨#[]⟩, .bool false, .bool false]) 33) = X2 at Hf HBK ⊢
  generalize wx.heap.size = bk at HBK HGE ⊢
  obtain ⟨i0, i1, i2, i3, i4⟩ := Hf.out.i.im; have r0 := Hf.out.r.at 0 _ rfl; have r1 := Hf.out.r.at 1 _ rfl; have r2 := Hf.out.r.at 2 _ rfl
  go_wp2_with (first | (refine wpList_load_mid rfl _ _ rfl _ _ rfl _ _ Hf.out.i.c Tryz.underlying30 rfl (by kernel_rfl) ?_) | (refine wS rfl _ _ _ rfl _ _ rfl Hf.out.z (iml m p) rfl rfl (by kernel_rfl) rfl ?_; intro W3 hz hk hb hp; have Ho := Hd (Hf.out.out hz hk hb); clear hz hk hb hp))
  obtain ⟨q0, q1, q2, q3, q4⟩ := Ho.out.z.im
  exact bodyPost_ret (v := .tuple #[.agg (iml m p).toArray, .int .i64 8]) (by simp [results, Tryz.results66, go_sem, q0, q1, q2, q3, q4, iml]) rfl (std_ret Ho.out (fun W hW => Hv.out W _ Ho.out.b hW))
 | some b =>
  rw [hf] at HB
  unfold brV at HB
  have HLD := Hd (fun W (h : Below w.heap.size w W) => rleads_any m p b.id W (hv.below h) hw)
  have HUS := Hd (fun W (h : Below w.heap.size w W) => rused_any m p b.id W (hv.below h) hw)
  have hnb := hw.nb
  have HNB := Hd hw.nb
  have HBR := Hd (fun W (h : Below w.heap.size w W) => (hv.below h).b)
  by_cases h1 : b.ep = r.ep
  ·have n1 : (b.ep != r.ep) = false := by simp [h1]
   have Hr : Hid (turB m r = trnB m b r.k) := Hd (by unfold turB; rw [hf]; simp only; rw [if_pos h1])
   rw [Hr.out]
   clear hf h1 Hr
   unfold imv at HB HLD HUS
   rcases hk with hk | hk | hk | hk
   ·rcases Bool.eq_false_or_eq_true b.fe with hfe | hfe
    ·have HFE := Hd hfe
     have HRE2 : Hid (trnB m b r.k = (m, 10)) := Hd (by rw [hk]; unfold trnB; rw [if_pos rfl, hfe]; rfl)
     rw [HRE2.out]
     have HK := Hd hk
     clear hk HPU hnb HBR HLD HUS
     (try clear hfe)
     (try clear hlv)
     have HFR0 := fF w m p r a14 a15 a16 a17 c14 c15 c16 c17
     clear hv hw hrw hn0
     unfold imv
     unfold cR
     go_enter Tryz.func66, Tryz.ntmps66
     go_upto_region 1 with fail
     rw [fE]
     generalize frW w m p r a14 a15 a16 a17 c14 c15 c16 c17 = X at HFR0 ⊢
     have Hf := Hd HFR0
     clear HFR0
     obtain ⟨i0, i1, i2, i3, i4⟩ := Hf.out.i.im; have r0 := Hf.out.r.at 0 _ rfl; have r1 := Hf.out.r.at 1 _ rfl; have r2 := Hf.out.r.at 2 _ rfl
     go_upto_region 2 with (first | (refine wpList_load_mid rfl _ _ rfl _ _ rfl _ _ Hf.out.i.c Tryz.underlying30 rfl (by kernel_rfl) ?_) | (go_at_call 8; refine (HB.out _ Hf.out.b).mono ?_; rintro e wx ⟨rfl, hbx⟩; replace Hf := Hd (Hf.out.below hbx); clear i0 i1 i2 i3 i4 r0 r1 r2; clear hbx HB))
     have HBK := Hd (Bx.new wx [.int .i64 b.id, .int .i64 b.ep, .string ⟨b.rk.toArray⟩, .bool b.fe, .bool b.lv] 33)
     have HGE := Hd Hf.out.sz
     replace Hf := Hd (Hf.out.below (bA wx (.cells (List.toArray [Value.int .i64 b.id, .int .i64 b.ep, .string ⟨b.rk.toArray⟩, .bool b.fe, .bool b.lv]) 33)))
     generalize wx.alloc (.cells (List.toArray [Value.int .i64 b.id, .int .i64 b.ep, .string ⟨b.rk.toArray⟩, .bool b.fe, .bool b.lv]) 33) = X2 at Hf HBK ⊢
     generalize wx.heap.size = bk at HBK HGE ⊢
     obtain ⟨i0, i1, i2, i3, i4⟩ := Hf.out.i.im; have r0 := Hf.out.r.at 0 _ rfl; have r1 := Hf.out.r.at 1 _ rfl; have r2 := Hf.out.r.at 2 _ rfl
     have k1 := HBK.out.at 1 _ rfl
     have HIU : Hid (X2.rangeAt w.heap.size 0 [Value.slice p.ab m.br.length p.cb, .slice p.aq p.ts.length p.cq, .slice p.ac m.cf.length p.cc, .slice p.ad m.dn.length p.cd, .int .i64 m.la]) := Hd Hf.out.i.c
     go_upto_region 7 with (first | (refine wpList_load_mid rfl _ _ rfl _ _ rfl _ _ HIU.out Tryz.underlying30 rfl (by kernel_rfl) ?_))
     clear HIU k1
     have Hq : Hid (Fb w (X2.alloc (.cells (List.toArray [Value.slice p.ab m.br.length p.cb, .slice p.aq p.ts.length p.cq, .slice p.ac m.cf.length p.cc, .slice p.ad m.dn.length p.cd, .int .i64 m.la]) 30)) m p (cR r a14 a15 a16 a17 c14 c15 c16 c17) bk [Value.int .i64 b.id, .int .i64 b.ep, .string ⟨b.rk.toArray⟩, .bool b.fe, .bool b.lv] X2.heap.size [Value.slice p.ab m.br.length p.cb, .slice p.aq p.ts.length p.cq, .slice p.ac m.cf.length p.cc, .slice p.ad m.dn.length p.cd, .int .i64 m.la]) := Hd ⟨Fo.new Hf.out [Value.slice p.ab m.br.length p.cb, .slice p.aq p.ts.length p.cq, .slice p.ac m.cf.length p.cc, .slice p.ad m.dn.length p.cd, .int .i64 m.la] 30, HBK.out.alloc _, HGE.out, HBK.out.l⟩
     clear i0 i1 i2 i3 i4 r0 r1 r2
     clear Hf HBK
     generalize X2.alloc (.cells (List.toArray [Value.slice p.ab m.br.length p.cb, .slice p.aq p.ts.length p.cq, .slice p.ac m.cf.length p.cc, .slice p.ad m.dn.length p.cd, .int .i64 m.la]) 30) = Y at Hq ⊢
     generalize X2.heap.size = bo at Hq ⊢
     have Hf := Hd Hq.out.f.f
     obtain ⟨i0, i1, i2, i3, i4⟩ := Hf.out.i.im; have r0 := Hf.out.r.at 0 _ rfl; have r1 := Hf.out.r.at 1 _ rfl; have r2 := Hf.out.r.at 2 _ rfl
     rw [HK.out] at r0
     have k0 := Hq.out.k.at 0 _ rfl
     have k3 := Hq.out.k.at 3 _ rfl
     have k4 := Hq.out.k.at 4 _ rfl
     have f3 := Hq.out.k.f 3 (by simp)
     have f4 := Hq.out.k.f 4 (by simp)
     rw [HFE.out] at k3
     go_wp2_with (first | (refine wpList_load_mid rfl _ _ rfl _ _ rfl _ _ Hf.out.i.c Tryz.underlying30 rfl (by kernel_rfl) ?_) | (refine wS rfl _ _ _ rfl _ _ rfl Hf.out.z (iml m p) rfl rfl (by kernel_rfl) rfl ?_; intro W3 hz hk hb hp; have Ho := Hd (Hf.out.out hz hk hb); clear hz hk hb hp))
     obtain ⟨q0, q1, q2, q3, q4⟩ := Ho.out.z.im
     exact bodyPost_ret (v := .tuple #[.agg (iml m p).toArray, .int .i64 10]) (by simp [results, Tryz.results66, go_sem, q0, q1, q2, q3, q4, iml]) rfl (std_ret Ho.out (fun W hW => Hv.out W _ Ho.out.b hW))
    ·have HFE := Hd hfe
     rcases Bool.eq_false_or_eq_true (leads m.ts b.id) with hld | hld
     ·rw [hld] at HLD
      have HRE2 : Hid (trnB m b r.k = (m, 10)) := Hd (by rw [hk]; unfold trnB; rw [if_pos rfl, hfe, hld]; rfl)
      rw [HRE2.out]
      have HK := Hd hk
      clear hk HPU hnb HBR HUS hld
      (try clear hfe)
      (try clear hlv)
      have HFR0 := fF w m p r a14 a15 a16 a17 c14 c15 c16 c17
      clear hv hw hrw hn0
      unfold imv
      unfold cR
      go_enter Tryz.func66, Tryz.ntmps66
      go_upto_region 1 with fail
      rw [fE]
      generalize frW w m p r a14 a15 a16 a17 c14 c15 c16 c17 = X at HFR0 ⊢
      have Hf := Hd HFR0
      clear HFR0
      obtain ⟨i0, i1, i2, i3, i4⟩ := Hf.out.i.im; have r0 := Hf.out.r.at 0 _ rfl; have r1 := Hf.out.r.at 1 _ rfl; have r2 := Hf.out.r.at 2 _ rfl
      go_upto_region 2 with (first | (refine wpList_load_mid rfl _ _ rfl _ _ rfl _ _ Hf.out.i.c Tryz.underlying30 rfl (by kernel_rfl) ?_) | (go_at_call 8; refine (HB.out _ Hf.out.b).mono ?_; rintro e wx ⟨rfl, hbx⟩; replace Hf := Hd (Hf.out.below hbx); clear i0 i1 i2 i3 i4 r0 r1 r2; clear hbx HB))
      have HBK := Hd (Bx.new wx [.int .i64 b.id, .int .i64 b.ep, .string ⟨b.rk.toArray⟩, .bool b.fe, .bool b.lv] 33)
      have HGE := Hd Hf.out.sz
      replace Hf := Hd (Hf.out.below (bA wx (.cells (List.toArray [Value.int .i64 b.id, .int .i64 b.ep, .string ⟨b.rk.toArray⟩, .bool b.fe, .bool b.lv]) 33)))
      generalize wx.alloc (.cells (List.toArray [Value.int .i64 b.id, .int .i64 b.ep, .string ⟨b.rk.toArray⟩, .bool b.fe, .bool b.lv]) 33) = X2 at Hf HBK ⊢
      generalize wx.heap.size = bk at HBK HGE ⊢
      obtain ⟨i0, i1, i2, i3, i4⟩ := Hf.out.i.im; have r0 := Hf.out.r.at 0 _ rfl; have r1 := Hf.out.r.at 1 _ rfl; have r2 := Hf.out.r.at 2 _ rfl
      have k1 := HBK.out.at 1 _ rfl
      have HIU : Hid (X2.rangeAt w.heap.size 0 [Value.slice p.ab m.br.length p.cb, .slice p.aq p.ts.length p.cq, .slice p.ac m.cf.length p.cc, .slice p.ad m.dn.length p.cd, .int .i64 m.la]) := Hd Hf.out.i.c
      go_upto_region 7 with (first | (refine wpList_load_mid rfl _ _ rfl _ _ rfl _ _ HIU.out Tryz.underlying30 rfl (by kernel_rfl) ?_))
      clear HIU k1
      have Hq : Hid (Fb w (X2.alloc (.cells (List.toArray [Value.slice p.ab m.br.length p.cb, .slice p.aq p.ts.length p.cq, .slice p.ac m.cf.length p.cc, .slice p.ad m.dn.length p.cd, .int .i64 m.la]) 30)) m p (cR r a14 a15 a16 a17 c14 c15 c16 c17) bk [Value.int .i64 b.id, .int .i64 b.ep, .string ⟨b.rk.toArray⟩, .bool b.fe, .bool b.lv] X2.heap.size [Value.slice p.ab m.br.length p.cb, .slice p.aq p.ts.length p.cq, .slice p.ac m.cf.length p.cc, .slice p.ad m.dn.length p.cd, .int .i64 m.la]) := Hd ⟨Fo.new Hf.out [Value.slice p.ab m.br.length p.cb, .slice p.aq p.ts.length p.cq, .slice p.ac m.cf.length p.cc, .slice p.ad m.dn.length p.cd, .int .i64 m.la] 30, HBK.out.alloc _, HGE.out, HBK.out.l⟩
      clear i0 i1 i2 i3 i4 r0 r1 r2
      clear Hf HBK
      generalize X2.alloc (.cells (List.toArray [Value.slice p.ab m.br.length p.cb, .slice p.aq p.ts.length p.cq, .slice p.ac m.cf.length p.cc, .slice p.ad m.dn.length p.cd, .int .i64 m.la]) 30) = Y at Hq ⊢
      generalize X2.heap.size = bo at Hq ⊢
      have Hf := Hd Hq.out.f.f
      obtain ⟨i0, i1, i2, i3, i4⟩ := Hf.out.i.im; have r0 := Hf.out.r.at 0 _ rfl; have r1 := Hf.out.r.at 1 _ rfl; have r2 := Hf.out.r.at 2 _ rfl
      rw [HK.out] at r0
      have k0 := Hq.out.k.at 0 _ rfl
      have k3 := Hq.out.k.at 3 _ rfl
      have k4 := Hq.out.k.at 4 _ rfl
      have f3 := Hq.out.k.f 3 (by simp)
      have f4 := Hq.out.k.f 4 (by simp)
      rw [HFE.out] at k3
      go_wp2_with (first | (refine wpList_load_mid rfl _ _ rfl _ _ rfl _ _ Hf.out.i.c Tryz.underlying30 rfl (by kernel_rfl) ?_) | (refine wpList_load_want (by go_simp; done) _ _ rfl _ _ rfl _ _ Hf.out.i.c Tryz.underlying30 rfl (by kernel_rfl) ?_) | (go_at_call 25; refine (HLD.out _ Hf.out.b).mono ?_; rintro e wl ⟨rfl, hbl⟩; replace Hq := Hd (Hq.out.below hbl); replace Hf := Hd (Hf.out.below hbl); clear i0 i1 i2 i3 i4 r0 r1 r2; clear k0 k3 k4 f3 f4; clear hbl HLD; obtain ⟨i0, i1, i2, i3, i4⟩ := Hf.out.i.im; have r0 := Hf.out.r.at 0 _ rfl; have r1 := Hf.out.r.at 1 _ rfl; have r2 := Hf.out.r.at 2 _ rfl; have k0 := Hq.out.k.at 0 _ rfl; have k3 := Hq.out.k.at 3 _ rfl; have k4 := Hq.out.k.at 4 _ rfl; have f3 := Hq.out.k.f 3 (by simp); have f4 := Hq.out.k.f 4 (by simp); rw [HFE.out] at k3) | (refine wS rfl _ _ _ rfl _ _ rfl Hf.out.z (iml m p) rfl rfl (by kernel_rfl) rfl ?_; intro W3 hz hk hb hp; have Ho := Hd (Hf.out.out hz hk hb); clear hz hk hb hp))
      obtain ⟨q0, q1, q2, q3, q4⟩ := Ho.out.z.im
      exact bodyPost_ret (v := .tuple #[.agg (iml m p).toArray, .int .i64 10]) (by simp [results, Tryz.results66, go_sem, q0, q1, q2, q3, q4, iml]) rfl (std_ret Ho.out (fun W hW => Hv.out W _ Ho.out.b hW))
     ·rw [hld] at HLD
      have HRE2 : Hid (trnB m b r.k = ({ m with br := putB m.br (⟨b.id, b.ep, b.rk, true, b.lv⟩ : Bk) }, 0)) := Hd (by rw [hk]; unfold trnB; rw [if_pos rfl, hfe, hld]; rfl)
      have HK := Hd hk
      clear hk hnb HBR HUS hld hfe
      have HFR0 := fF w m p r a14 a15 a16 a17 c14 c15 c16 c17
      clear hv hw hrw hn0
      unfold imv
      unfold cR
      go_enter Tryz.func66, Tryz.ntmps66
      go_upto_region 1 with fail
      rw [fE]
      generalize frW w m p r a14 a15 a16 a17 c14 c15 c16 c17 = X at HFR0 ⊢
      have Hf := Hd HFR0
      clear HFR0
      obtain ⟨i0, i1, i2, i3, i4⟩ := Hf.out.i.im; have r0 := Hf.out.r.at 0 _ rfl; have r1 := Hf.out.r.at 1 _ rfl; have r2 := Hf.out.r.at 2 _ rfl
      go_upto_region 2 with (first | (refine wpList_load_mid rfl _ _ rfl _ _ rfl _ _ Hf.out.i.c Tryz.underlying30 rfl (by kernel_rfl) ?_) | (go_at_call 8; refine (HB.out _ Hf.out.b).mono ?_; rintro e wx ⟨rfl, hbx⟩; replace Hf := Hd (Hf.out.below hbx); clear i0 i1 i2 i3 i4 r0 r1 r2; clear hbx HB))
      have HBK := Hd (Bx.new wx [.int .i64 b.id, .int .i64 b.ep, .string ⟨b.rk.toArray⟩, .bool b.fe, .bool b.lv] 33)
      have HGE := Hd Hf.out.sz
      replace Hf := Hd (Hf.out.below (bA wx (.cells (List.toArray [Value.int .i64 b.id, .int .i64 b.ep, .string ⟨b.rk.toArray⟩, .bool b.fe, .bool b.lv]) 33)))
      generalize wx.alloc (.cells (List.toArray [Value.int .i64 b.id, .int .i64 b.ep, .string ⟨b.rk.toArray⟩, .bool b.fe, .bool b.lv]) 33) = X2 at Hf HBK ⊢
      generalize wx.heap.size = bk at HBK HGE ⊢
      obtain ⟨i0, i1, i2, i3, i4⟩ := Hf.out.i.im; have r0 := Hf.out.r.at 0 _ rfl; have r1 := Hf.out.r.at 1 _ rfl; have r2 := Hf.out.r.at 2 _ rfl
      have k1 := HBK.out.at 1 _ rfl
      have HIU : Hid (X2.rangeAt w.heap.size 0 [Value.slice p.ab m.br.length p.cb, .slice p.aq p.ts.length p.cq, .slice p.ac m.cf.length p.cc, .slice p.ad m.dn.length p.cd, .int .i64 m.la]) := Hd Hf.out.i.c
      go_upto_region 7 with (first | (refine wpList_load_mid rfl _ _ rfl _ _ rfl _ _ HIU.out Tryz.underlying30 rfl (by kernel_rfl) ?_))
      clear HIU k1
      have Hq : Hid (Fb w (X2.alloc (.cells (List.toArray [Value.slice p.ab m.br.length p.cb, .slice p.aq p.ts.length p.cq, .slice p.ac m.cf.length p.cc, .slice p.ad m.dn.length p.cd, .int .i64 m.la]) 30)) m p (cR r a14 a15 a16 a17 c14 c15 c16 c17) bk [Value.int .i64 b.id, .int .i64 b.ep, .string ⟨b.rk.toArray⟩, .bool b.fe, .bool b.lv] X2.heap.size [Value.slice p.ab m.br.length p.cb, .slice p.aq p.ts.length p.cq, .slice p.ac m.cf.length p.cc, .slice p.ad m.dn.length p.cd, .int .i64 m.la]) := Hd ⟨Fo.new Hf.out [Value.slice p.ab m.br.length p.cb, .slice p.aq p.ts.length p.cq, .slice p.ac m.cf.length p.cc, .slice p.ad m.dn.length p.cd, .int .i64 m.la] 30, HBK.out.alloc _, HGE.out, HBK.out.l⟩
      clear i0 i1 i2 i3 i4 r0 r1 r2
      clear Hf HBK
      generalize X2.alloc (.cells (List.toArray [Value.slice p.ab m.br.length p.cb, .slice p.aq p.ts.length p.cq, .slice p.ac m.cf.length p.cc, .slice p.ad m.dn.length p.cd, .int .i64 m.la]) 30) = Y at Hq ⊢
      generalize X2.heap.size = bo at Hq ⊢
      have Hf := Hd Hq.out.f.f
      obtain ⟨i0, i1, i2, i3, i4⟩ := Hf.out.i.im; have r0 := Hf.out.r.at 0 _ rfl; have r1 := Hf.out.r.at 1 _ rfl; have r2 := Hf.out.r.at 2 _ rfl
      rw [HK.out] at r0
      have k0 := Hq.out.k.at 0 _ rfl
      have k3 := Hq.out.k.at 3 _ rfl
      have k4 := Hq.out.k.at 4 _ rfl
      have f3 := Hq.out.k.f 3 (by simp)
      have f4 := Hq.out.k.f 4 (by simp)
      rw [HFE.out] at k3
      go_upto_region 20 with (first | (refine wpList_load_want (by go_simp; done) _ _ rfl _ _ rfl _ _ Hf.out.i.c Tryz.underlying30 rfl (by kernel_rfl) ?_) | (go_at_call 25; refine (HLD.out _ Hf.out.b).mono ?_; rintro e wl ⟨rfl, hbl⟩; replace Hq := Hd (Hq.out.below hbl); replace Hf := Hd (Hf.out.below hbl); clear i0 i1 i2 i3 i4 r0 r1 r2; clear k0 k3 k4 f3 f4; clear hbl HLD; obtain ⟨i0, i1, i2, i3, i4⟩ := Hf.out.i.im; have r0 := Hf.out.r.at 0 _ rfl; have r1 := Hf.out.r.at 1 _ rfl; have r2 := Hf.out.r.at 2 _ rfl; have k0 := Hq.out.k.at 0 _ rfl; have k3 := Hq.out.k.at 3 _ rfl; have k4 := Hq.out.k.at 4 _ rfl; have f3 := Hq.out.k.f 3 (by simp); have f4 := Hq.out.k.f 4 (by simp); rw [HFE.out] at k3))
      go_upto_region 30 with fail
      have HFZ0 := Hd (Hq.out.setK 3 (by simp) (.bool true))
      simp only [List.set] at HFZ0
      have Hz : Hid (Fb w ((wl).setCell ⟨bk, 3, none⟩ (.bool true)) m p (cR r a14 a15 a16 a17 c14 c15 c16 c17) bk [Value.int .i64 b.id, .int .i64 b.ep, .string ⟨b.rk.toArray⟩, .bool true, .bool b.lv] bo [Value.slice p.ab m.br.length p.cb, .slice p.aq p.ts.length p.cq, .slice p.ac m.cf.length p.cc, .slice p.ad m.dn.length p.cd, .int .i64 m.la]) := HFZ0
      clear HFZ0 Hq Hf
      clear i0 i1 i2 i3 i4 r0 r1 r2
      clear k0 k3 k4 f3 f4
      generalize (wl).setCell ⟨bk, 3, none⟩ (.bool true) = Z1 at Hz ⊢
      have i0 := Hz.out.f.f.i.at 0 _ rfl
      have HYB : Hid (bo < Z1.heap.size) := Hd Hz.out.f.o.l
      obtain ⟨L, hL⟩ : ∃ L, L = putB m.br (⟨b.id, b.ep, b.rk, true, b.lv⟩ : Bk) := ⟨_, rfl⟩
      have HLL : Hid (putB m.br (⟨b.id, b.ep, b.rk, true, b.lv⟩ : Bk) = L) := Hd hL.symm
      clear hL
      unfold bkc at HPU
      go_upto_region 31 with (first | (refine wpList_load_mid rfl _ _ rfl _ _ rfl _ _ Hz.out.k.c Tryz.underlying33 rfl (by kernel_rfl) ?_) | (go_at_call 106; refine (HPU.out (⟨b.id, b.ep, b.rk, true, b.lv⟩ : Bk) _ Hz.out.f.f.b).mono ?_; rintro e w7 ⟨v', rfl, hro, hb7⟩; rw [HLL.out] at hro; obtain ⟨av, cv, rfl⟩ := hro.form; have HRO := Hd hro; have HFY := Hd (Hz.out.below hb7); clear hro hb7 HPU i0; have o0 := HFY.out.f.o.at 0 _ rfl; have f0 := HFY.out.f.o.f 0 (by simp)))
      have HFW0 := Hd (HFY.out.f.set 0 (by simp) (.slice av L.length cv))
      simp only [List.set] at HFW0
      have HG : Hid (∀ g, Z1.heap.size ≤ g → (w7.setCell ⟨bo, 0, none⟩ (.slice av L.length cv)).heap[g]? = w7.heap[g]?) := Hd (fun g hg => Below.heap_setCell _ _ _ _ (show ¬ g = bo by have := HYB.out; omega))
      clear o0 f0 HFY Hz
      have HFW := Hd HFW0.out
      clear HFW0
      generalize w7.setCell ⟨bo, 0, none⟩ (.slice av L.length cv) = Z at HFW HG ⊢
      go_wp2_with (first | (refine wpList_load_mid rfl _ _ rfl _ _ rfl _ _ HFW.out.o.c Tryz.underlying30 rfl (by kernel_rfl) ?_) | (refine wS rfl _ _ _ rfl _ _ rfl HFW.out.f.z (iml { m with br := L } { p with ab := av, cb := cv }) rfl rfl (by kernel_rfl) rfl ?_; intro W3 hz hk hb hp; have HZ := Hd hz; have Hb := Hd (hb _ _ (show w.heap.size ≤ w.heap.size + 1 + 1 by omega) HFW.out.f.b); have HRS := Hd (fun W (hW : Agr n0 w.heap.size W3 W) => (HRO.out.keepG (fun g hg => (hW g (.inr (by have := HYB.out; have := HFW.out.ge; omega))).trans ((hp g (by have := HYB.out; have := HFW.out.ge; omega)).trans (HG.out g hg)))).rs); clear hz hk hb hp))
      obtain ⟨q0, q1, q2, q3, q4⟩ := HZ.out.im
      refine bodyPost_ret (v := .tuple #[.agg (iml { m with br := L } { p with ab := av, cb := cv }).toArray, .int .i64 0]) (by simp [results, Tryz.results66, go_sem, q0, q1, q2, q3, q4, iml]) rfl ?_
      show StD n0 w W3 (trnB m b r.k).1 (trnB m b r.k).2 _
      rw [HRE2.out, HLL.out]
      exact ⟨_, rfl, (fun W hW => ⟨HRS.out W hW, (Hv.out W _ Hb.out hW).t, (Hv.out W _ Hb.out hW).q, (Hv.out W _ Hb.out hW).e, (Hv.out W _ Hb.out hW).c, (Hv.out W _ Hb.out hW).d⟩), Hb.out⟩
   ·rcases (Bool.eq_false_or_eq_true b.fe).symm with hfe | hfe
    ·have HFE := Hd hfe
     have HRE2 : Hid (trnB m b r.k = (m, 10)) := Hd (by rw [hk]; unfold trnB; rw [if_neg (by decide), if_pos rfl, hfe]; rfl)
     rw [HRE2.out]
     have HK := Hd hk
     clear hk HPU hnb HBR HLD HUS
     (try clear hfe)
     (try clear hlv)
     have HFR0 := fF w m p r a14 a15 a16 a17 c14 c15 c16 c17
     clear hv hw hrw hn0
     unfold imv
     unfold cR
     go_enter Tryz.func66, Tryz.ntmps66
     go_upto_region 1 with fail
     rw [fE]
     generalize frW w m p r a14 a15 a16 a17 c14 c15 c16 c17 = X at HFR0 ⊢
     have Hf := Hd HFR0
     clear HFR0
     obtain ⟨i0, i1, i2, i3, i4⟩ := Hf.out.i.im; have r0 := Hf.out.r.at 0 _ rfl; have r1 := Hf.out.r.at 1 _ rfl; have r2 := Hf.out.r.at 2 _ rfl
     go_upto_region 2 with (first | (refine wpList_load_mid rfl _ _ rfl _ _ rfl _ _ Hf.out.i.c Tryz.underlying30 rfl (by kernel_rfl) ?_) | (go_at_call 8; refine (HB.out _ Hf.out.b).mono ?_; rintro e wx ⟨rfl, hbx⟩; replace Hf := Hd (Hf.out.below hbx); clear i0 i1 i2 i3 i4 r0 r1 r2; clear hbx HB))
     have HBK := Hd (Bx.new wx [.int .i64 b.id, .int .i64 b.ep, .string ⟨b.rk.toArray⟩, .bool b.fe, .bool b.lv] 33)
     have HGE := Hd Hf.out.sz
     replace Hf := Hd (Hf.out.below (bA wx (.cells (List.toArray [Value.int .i64 b.id, .int .i64 b.ep, .string ⟨b.rk.toArray⟩, .bool b.fe, .bool b.lv]) 33)))
     generalize wx.alloc (.cells (List.toArray [Value.int .i64 b.id, .int .i64 b.ep, .string ⟨b.rk.toArray⟩, .bool b.fe, .bool b.lv]) 33) = X2 at Hf HBK ⊢
     generalize wx.heap.size = bk at HBK HGE ⊢
     obtain ⟨i0, i1, i2, i3, i4⟩ := Hf.out.i.im; have r0 := Hf.out.r.at 0 _ rfl; have r1 := Hf.out.r.at 1 _ rfl; have r2 := Hf.out.r.at 2 _ rfl
     have k1 := HBK.out.at 1 _ rfl
     have HIU : Hid (X2.rangeAt w.heap.size 0 [Value.slice p.ab m.br.length p.cb, .slice p.aq p.ts.length p.cq, .slice p.ac m.cf.length p.cc, .slice p.ad m.dn.length p.cd, .int .i64 m.la]) := Hd Hf.out.i.c
     go_upto_region 7 with (first | (refine wpList_load_mid rfl _ _ rfl _ _ rfl _ _ HIU.out Tryz.underlying30 rfl (by kernel_rfl) ?_))
     clear HIU k1
     have Hq : Hid (Fb w (X2.alloc (.cells (List.toArray [Value.slice p.ab m.br.length p.cb, .slice p.aq p.ts.length p.cq, .slice p.ac m.cf.length p.cc, .slice p.ad m.dn.length p.cd, .int .i64 m.la]) 30)) m p (cR r a14 a15 a16 a17 c14 c15 c16 c17) bk [Value.int .i64 b.id, .int .i64 b.ep, .string ⟨b.rk.toArray⟩, .bool b.fe, .bool b.lv] X2.heap.size [Value.slice p.ab m.br.length p.cb, .slice p.aq p.ts.length p.cq, .slice p.ac m.cf.length p.cc, .slice p.ad m.dn.length p.cd, .int .i64 m.la]) := Hd ⟨Fo.new Hf.out [Value.slice p.ab m.br.length p.cb, .slice p.aq p.ts.length p.cq, .slice p.ac m.cf.length p.cc, .slice p.ad m.dn.length p.cd, .int .i64 m.la] 30, HBK.out.alloc _, HGE.out, HBK.out.l⟩
     clear i0 i1 i2 i3 i4 r0 r1 r2
     clear Hf HBK
     generalize X2.alloc (.cells (List.toArray [Value.slice p.ab m.br.length p.cb, .slice p.aq p.ts.length p.cq, .slice p.ac m.cf.length p.cc, .slice p.ad m.dn.length p.cd, .int .i64 m.la]) 30) = Y at Hq ⊢
     generalize X2.heap.size = bo at Hq ⊢
     have Hf := Hd Hq.out.f.f
     obtain ⟨i0, i1, i2, i3, i4⟩ := Hf.out.i.im; have r0 := Hf.out.r.at 0 _ rfl; have r1 := Hf.out.r.at 1 _ rfl; have r2 := Hf.out.r.at 2 _ rfl
     rw [HK.out] at r0
     have k0 := Hq.out.k.at 0 _ rfl
     have k3 := Hq.out.k.at 3 _ rfl
     have k4 := Hq.out.k.at 4 _ rfl
     have f3 := Hq.out.k.f 3 (by simp)
     have f4 := Hq.out.k.f 4 (by simp)
     rw [HFE.out] at k3
     go_wp2_with (first | (refine wpList_load_mid rfl _ _ rfl _ _ rfl _ _ Hf.out.i.c Tryz.underlying30 rfl (by kernel_rfl) ?_) | (refine wS rfl _ _ _ rfl _ _ rfl Hf.out.z (iml m p) rfl rfl (by kernel_rfl) rfl ?_; intro W3 hz hk hb hp; have Ho := Hd (Hf.out.out hz hk hb); clear hz hk hb hp))
     obtain ⟨q0, q1, q2, q3, q4⟩ := Ho.out.z.im
     exact bodyPost_ret (v := .tuple #[.agg (iml m p).toArray, .int .i64 10]) (by simp [results, Tryz.results66, go_sem, q0, q1, q2, q3, q4, iml]) rfl (std_ret Ho.out (fun W hW => Hv.out W _ Ho.out.b hW))
    ·have HFE := Hd hfe
     have HRE2 : Hid (trnB m b r.k = ({ m with br := putB m.br (⟨b.id, b.ep, b.rk, false, false⟩ : Bk) }, 0)) := Hd (by rw [hk]; unfold trnB; rw [if_neg (by decide), if_pos rfl, hfe]; rfl)
     have HK := Hd hk
     clear hk hnb HBR HUS HLD hfe
     have HFR0 := fF w m p r a14 a15 a16 a17 c14 c15 c16 c17
     clear hv hw hrw hn0
     unfold imv
     unfold cR
     go_enter Tryz.func66, Tryz.ntmps66
     go_upto_region 1 with fail
     rw [fE]
     generalize frW w m p r a14 a15 a16 a17 c14 c15 c16 c17 = X at HFR0 ⊢
     have Hf := Hd HFR0
     clear HFR0
     obtain ⟨i0, i1, i2, i3, i4⟩ := Hf.out.i.im; have r0 := Hf.out.r.at 0 _ rfl; have r1 := Hf.out.r.at 1 _ rfl; have r2 := Hf.out.r.at 2 _ rfl
     go_upto_region 2 with (first | (refine wpList_load_mid rfl _ _ rfl _ _ rfl _ _ Hf.out.i.c Tryz.underlying30 rfl (by kernel_rfl) ?_) | (go_at_call 8; refine (HB.out _ Hf.out.b).mono ?_; rintro e wx ⟨rfl, hbx⟩; replace Hf := Hd (Hf.out.below hbx); clear i0 i1 i2 i3 i4 r0 r1 r2; clear hbx HB))
     have HBK := Hd (Bx.new wx [.int .i64 b.id, .int .i64 b.ep, .string ⟨b.rk.toArray⟩, .bool b.fe, .bool b.lv] 33)
     have HGE := Hd Hf.out.sz
     replace Hf := Hd (Hf.out.below (bA wx (.cells (List.toArray [Value.int .i64 b.id, .int .i64 b.ep, .string ⟨b.rk.toArray⟩, .bool b.fe, .bool b.lv]) 33)))
     generalize wx.alloc (.cells (List.toArray [Value.int .i64 b.id, .int .i64 b.ep, .string ⟨b.rk.toArray⟩, .bool b.fe, .bool b.lv]) 33) = X2 at Hf HBK ⊢
     generalize wx.heap.size = bk at HBK HGE ⊢
     obtain ⟨i0, i1, i2, i3, i4⟩ := Hf.out.i.im; have r0 := Hf.out.r.at 0 _ rfl; have r1 := Hf.out.r.at 1 _ rfl; have r2 := Hf.out.r.at 2 _ rfl
     have k1 := HBK.out.at 1 _ rfl
     have HIU : Hid (X2.rangeAt w.heap.size 0 [Value.slice p.ab m.br.length p.cb, .slice p.aq p.ts.length p.cq, .slice p.ac m.cf.length p.cc, .slice p.ad m.dn.length p.cd, .int .i64 m.la]) := Hd Hf.out.i.c
     go_upto_region 7 with (first | (refine wpList_load_mid rfl _ _ rfl _ _ rfl _ _ HIU.out Tryz.underlying30 rfl (by kernel_rfl) ?_))
     clear HIU k1
     have Hq : Hid (Fb w (X2.alloc (.cells (List.toArray [Value.slice p.ab m.br.length p.cb, .slice p.aq p.ts.length p.cq, .slice p.ac m.cf.length p.cc, .slice p.ad m.dn.length p.cd, .int .i64 m.la]) 30)) m p (cR r a14 a15 a16 a17 c14 c15 c16 c17) bk [Value.int .i64 b.id, .int .i64 b.ep, .string ⟨b.rk.toArray⟩, .bool b.fe, .bool b.lv] X2.heap.size [Value.slice p.ab m.br.length p.cb, .slice p.aq p.ts.length p.cq, .slice p.ac m.cf.length p.cc, .slice p.ad m.dn.length p.cd, .int .i64 m.la]) := Hd ⟨Fo.new Hf.out [Value.slice p.ab m.br.length p.cb, .slice p.aq p.ts.length p.cq, .slice p.ac m.cf.length p.cc, .slice p.ad m.dn.length p.cd, .int .i64 m.la] 30, HBK.out.alloc _, HGE.out, HBK.out.l⟩
     clear i0 i1 i2 i3 i4 r0 r1 r2
     clear Hf HBK
     generalize X2.alloc (.cells (List.toArray [Value.slice p.ab m.br.length p.cb, .slice p.aq p.ts.length p.cq, .slice p.ac m.cf.length p.cc, .slice p.ad m.dn.length p.cd, .int .i64 m.la]) 30) = Y at Hq ⊢
     generalize X2.heap.size = bo at Hq ⊢
     have Hf := Hd Hq.out.f.f
     obtain ⟨i0, i1, i2, i3, i4⟩ := Hf.out.i.im; have r0 := Hf.out.r.at 0 _ rfl; have r1 := Hf.out.r.at 1 _ rfl; have r2 := Hf.out.r.at 2 _ rfl
     rw [HK.out] at r0
     have k0 := Hq.out.k.at 0 _ rfl
     have k3 := Hq.out.k.at 3 _ rfl
     have k4 := Hq.out.k.at 4 _ rfl
     have f3 := Hq.out.k.f 3 (by simp)
     have f4 := Hq.out.k.f 4 (by simp)
     rw [HFE.out] at k3
     go_upto_region 30 with fail
     have HFZ0 := Hd ((Hq.out.setK 3 (by simp) (.bool false)).setK 4 (by simp) (.bool false))
     simp only [List.set] at HFZ0
     have Hz : Hid (Fb w (((Y).setCell ⟨bk, 3, none⟩ (.bool false)).setCell ⟨bk, 4, none⟩ (.bool false)) m p (cR r a14 a15 a16 a17 c14 c15 c16 c17) bk [Value.int .i64 b.id, .int .i64 b.ep, .string ⟨b.rk.toArray⟩, .bool false, .bool false] bo [Value.slice p.ab m.br.length p.cb, .slice p.aq p.ts.length p.cq, .slice p.ac m.cf.length p.cc, .slice p.ad m.dn.length p.cd, .int .i64 m.la]) := HFZ0
     clear HFZ0 Hq Hf
     clear i0 i1 i2 i3 i4 r0 r1 r2
     clear k0 k3 k4 f3 f4
     generalize ((Y).setCell ⟨bk, 3, none⟩ (.bool false)).setCell ⟨bk, 4, none⟩ (.bool false) = Z1 at Hz ⊢
     have i0 := Hz.out.f.f.i.at 0 _ rfl
     have HYB : Hid (bo < Z1.heap.size) := Hd Hz.out.f.o.l
     obtain ⟨L, hL⟩ : ∃ L, L = putB m.br (⟨b.id, b.ep, b.rk, false, false⟩ : Bk) := ⟨_, rfl⟩
     have HLL : Hid (putB m.br (⟨b.id, b.ep, b.rk, false, false⟩ : Bk) = L) := Hd hL.symm
     clear hL
     unfold bkc at HPU
     go_upto_region 31 with (first | (refine wpList_load_mid rfl _ _ rfl _ _ rfl _ _ Hz.out.k.c Tryz.underlying33 rfl (by kernel_rfl) ?_) | (go_at_call 106; refine (HPU.out (⟨b.id, b.ep, b.rk, false, false⟩ : Bk) _ Hz.out.f.f.b).mono ?_; rintro e w7 ⟨v', rfl, hro, hb7⟩; rw [HLL.out] at hro; obtain ⟨av, cv, rfl⟩ := hro.form; have HRO := Hd hro; have HFY := Hd (Hz.out.below hb7); clear hro hb7 HPU i0; have o0 := HFY.out.f.o.at 0 _ rfl; have f0 := HFY.out.f.o.f 0 (by simp)))
     have HFW0 := Hd (HFY.out.f.set 0 (by simp) (.slice av L.length cv))
     simp only [List.set] at HFW0
     have HG : Hid (∀ g, Z1.heap.size ≤ g → (w7.setCell ⟨bo, 0, none⟩ (.slice av L.length cv)).heap[g]? = w7.heap[g]?) := Hd (fun g hg => Below.heap_setCell _ _ _ _ (show ¬ g = bo by have := HYB.out; omega))
     clear o0 f0 HFY Hz
     have HFW := Hd HFW0.out
     clear HFW0
     generalize w7.setCell ⟨bo, 0, none⟩ (.slice av L.length cv) = Z at HFW HG ⊢
     go_wp2_with (first | (refine wpList_load_mid rfl _ _ rfl _ _ rfl _ _ HFW.out.o.c Tryz.underlying30 rfl (by kernel_rfl) ?_) | (refine wS rfl _ _ _ rfl _ _ rfl HFW.out.f.z (iml { m with br := L } { p with ab := av, cb := cv }) rfl rfl (by kernel_rfl) rfl ?_; intro W3 hz hk hb hp; have HZ := Hd hz; have Hb := Hd (hb _ _ (show w.heap.size ≤ w.heap.size + 1 + 1 by omega) HFW.out.f.b); have HRS := Hd (fun W (hW : Agr n0 w.heap.size W3 W) => (HRO.out.keepG (fun g hg => (hW g (.inr (by have := HYB.out; have := HFW.out.ge; omega))).trans ((hp g (by have := HYB.out; have := HFW.out.ge; omega)).trans (HG.out g hg)))).rs); clear hz hk hb hp))
     obtain ⟨q0, q1, q2, q3, q4⟩ := HZ.out.im
     refine bodyPost_ret (v := .tuple #[.agg (iml { m with br := L } { p with ab := av, cb := cv }).toArray, .int .i64 0]) (by simp [results, Tryz.results66, go_sem, q0, q1, q2, q3, q4, iml]) rfl ?_
     show StD n0 w W3 (trnB m b r.k).1 (trnB m b r.k).2 _
     rw [HRE2.out, HLL.out]
     exact ⟨_, rfl, (fun W hW => ⟨HRS.out W hW, (Hv.out W _ Hb.out hW).t, (Hv.out W _ Hb.out hW).q, (Hv.out W _ Hb.out hW).e, (Hv.out W _ Hb.out hW).c, (Hv.out W _ Hb.out hW).d⟩), Hb.out⟩
   ·rcases Bool.eq_false_or_eq_true b.fe with hfe | hfe
    ·have HFE := Hd hfe
     have HRE2 : Hid (trnB m b r.k = (m, 10)) := Hd (by rw [hk]; unfold trnB; rw [if_neg (by decide), if_neg (by decide), if_pos rfl, hfe]; rfl)
     rw [HRE2.out]
     have HK := Hd hk
     clear hk HPU hnb HBR HLD HUS
     (try clear hfe)
     (try clear hlv)
     have HFR0 := fF w m p r a14 a15 a16 a17 c14 c15 c16 c17
     clear hv hw hrw hn0
     unfold imv
     unfold cR
     go_enter Tryz.func66, Tryz.ntmps66
     go_upto_region 1 with fail
     rw [fE]
     generalize frW w m p r a14 a15 a16 a17 c14 c15 c16 c17 = X at HFR0 ⊢
     have Hf := Hd HFR0
     clear HFR0
     obtain ⟨i0, i1, i2, i3, i4⟩ := Hf.out.i.im; have r0 := Hf.out.r.at 0 _ rfl; have r1 := Hf.out.r.at 1 _ rfl; have r2 := Hf.out.r.at 2 _ rfl
     go_upto_region 2 with (first | (refine wpList_load_mid rfl _ _ rfl _ _ rfl _ _ Hf.out.i.c Tryz.underlying30 rfl (by kernel_rfl) ?_) | (go_at_call 8; refine (HB.out _ Hf.out.b).mono ?_; rintro e wx ⟨rfl, hbx⟩; replace Hf := Hd (Hf.out.below hbx); clear i0 i1 i2 i3 i4 r0 r1 r2; clear hbx HB))
     have HBK := Hd (Bx.new wx [.int .i64 b.id, .int .i64 b.ep, .string ⟨b.rk.toArray⟩, .bool b.fe, .bool b.lv] 33)
     have HGE := Hd Hf.out.sz
     replace Hf := Hd (Hf.out.below (bA wx (.cells (List.toArray [Value.int .i64 b.id, .int .i64 b.ep, .string ⟨b.rk.toArray⟩, .bool b.fe, .bool b.lv]) 33)))
     generalize wx.alloc (.cells (List.toArray [Value.int .i64 b.id, .int .i64 b.ep, .string ⟨b.rk.toArray⟩, .bool b.fe, .bool b.lv]) 33) = X2 at Hf HBK ⊢
     generalize wx.heap.size = bk at HBK HGE ⊢
     obtain ⟨i0, i1, i2, i3, i4⟩ := Hf.out.i.im; have r0 := Hf.out.r.at 0 _ rfl; have r1 := Hf.out.r.at 1 _ rfl; have r2 := Hf.out.r.at 2 _ rfl
     have k1 := HBK.out.at 1 _ rfl
     have HIU : Hid (X2.rangeAt w.heap.size 0 [Value.slice p.ab m.br.length p.cb, .slice p.aq p.ts.length p.cq, .slice p.ac m.cf.length p.cc, .slice p.ad m.dn.length p.cd, .int .i64 m.la]) := Hd Hf.out.i.c
     go_upto_region 7 with (first | (refine wpList_load_mid rfl _ _ rfl _ _ rfl _ _ HIU.out Tryz.underlying30 rfl (by kernel_rfl) ?_))
     clear HIU k1
     have Hq : Hid (Fb w (X2.alloc (.cells (List.toArray [Value.slice p.ab m.br.length p.cb, .slice p.aq p.ts.length p.cq, .slice p.ac m.cf.length p.cc, .slice p.ad m.dn.length p.cd, .int .i64 m.la]) 30)) m p (cR r a14 a15 a16 a17 c14 c15 c16 c17) bk [Value.int .i64 b.id, .int .i64 b.ep, .string ⟨b.rk.toArray⟩, .bool b.fe, .bool b.lv] X2.heap.size [Value.slice p.ab m.br.length p.cb, .slice p.aq p.ts.length p.cq, .slice p.ac m.cf.length p.cc, .slice p.ad m.dn.length p.cd, .int .i64 m.la]) := Hd ⟨Fo.new Hf.out [Value.slice p.ab m.br.length p.cb, .slice p.aq p.ts.length p.cq, .slice p.ac m.cf.length p.cc, .slice p.ad m.dn.length p.cd, .int .i64 m.la] 30, HBK.out.alloc _, HGE.out, HBK.out.l⟩
     clear i0 i1 i2 i3 i4 r0 r1 r2
     clear Hf HBK
     generalize X2.alloc (.cells (List.toArray [Value.slice p.ab m.br.length p.cb, .slice p.aq p.ts.length p.cq, .slice p.ac m.cf.length p.cc, .slice p.ad m.dn.length p.cd, .int .i64 m.la]) 30) = Y at Hq ⊢
     generalize X2.heap.size = bo at Hq ⊢
     have Hf := Hd Hq.out.f.f
     obtain ⟨i0, i1, i2, i3, i4⟩ := Hf.out.i.im; have r0 := Hf.out.r.at 0 _ rfl; have r1 := Hf.out.r.at 1 _ rfl; have r2 := Hf.out.r.at 2 _ rfl
     rw [HK.out] at r0
     have k0 := Hq.out.k.at 0 _ rfl
     have k3 := Hq.out.k.at 3 _ rfl
     have k4 := Hq.out.k.at 4 _ rfl
     have f3 := Hq.out.k.f 3 (by simp)
     have f4 := Hq.out.k.f 4 (by simp)
     rw [HFE.out] at k3
     go_wp2_with (first | (refine wpList_load_mid rfl _ _ rfl _ _ rfl _ _ Hf.out.i.c Tryz.underlying30 rfl (by kernel_rfl) ?_) | (refine wS rfl _ _ _ rfl _ _ rfl Hf.out.z (iml m p) rfl rfl (by kernel_rfl) rfl ?_; intro W3 hz hk hb hp; have Ho := Hd (Hf.out.out hz hk hb); clear hz hk hb hp))
     obtain ⟨q0, q1, q2, q3, q4⟩ := Ho.out.z.im
     exact bodyPost_ret (v := .tuple #[.agg (iml m p).toArray, .int .i64 10]) (by simp [results, Tryz.results66, go_sem, q0, q1, q2, q3, q4, iml]) rfl (std_ret Ho.out (fun W hW => Hv.out W _ Ho.out.b hW))
    ·have HFE := Hd hfe
     rcases Bool.eq_false_or_eq_true b.lv with hlv | hlv
     ·have HLV := Hd hlv
      have HRE2 : Hid (trnB m b r.k = (m, 10)) := Hd (by rw [hk]; unfold trnB; rw [if_neg (by decide), if_neg (by decide), if_pos rfl, hfe, hlv]; rfl)
      rw [HRE2.out]
      have HK := Hd hk
      clear hk HPU hnb HBR HLD HUS
      (try clear hfe)
      (try clear hlv)
      have HFR0 := fF w m p r a14 a15 a16 a17 c14 c15 c16 c17
      clear hv hw hrw hn0
      unfold imv
      unfold cR
      go_enter Tryz.func66, Tryz.ntmps66
      go_upto_region 1 with fail
      rw [fE]
      generalize frW w m p r a14 a15 a16 a17 c14 c15 c16 c17 = X at HFR0 ⊢
      have Hf := Hd HFR0
      clear HFR0
      obtain ⟨i0, i1, i2, i3, i4⟩ := Hf.out.i.im; have r0 := Hf.out.r.at 0 _ rfl; have r1 := Hf.out.r.at 1 _ rfl; have r2 := Hf.out.r.at 2 _ rfl
      go_upto_region 2 with (first | (refine wpList_load_mid rfl _ _ rfl _ _ rfl _ _ Hf.out.i.c Tryz.underlying30 rfl (by kernel_rfl) ?_) | (go_at_call 8; refine (HB.out _ Hf.out.b).mono ?_; rintro e wx ⟨rfl, hbx⟩; replace Hf := Hd (Hf.out.below hbx); clear i0 i1 i2 i3 i4 r0 r1 r2; clear hbx HB))
      have HBK := Hd (Bx.new wx [.int .i64 b.id, .int .i64 b.ep, .string ⟨b.rk.toArray⟩, .bool b.fe, .bool b.lv] 33)
      have HGE := Hd Hf.out.sz
      replace Hf := Hd (Hf.out.below (bA wx (.cells (List.toArray [Value.int .i64 b.id, .int .i64 b.ep, .string ⟨b.rk.toArray⟩, .bool b.fe, .bool b.lv]) 33)))
      generalize wx.alloc (.cells (List.toArray [Value.int .i64 b.id, .int .i64 b.ep, .string ⟨b.rk.toArray⟩, .bool b.fe, .bool b.lv]) 33) = X2 at Hf HBK ⊢
      generalize wx.heap.size = bk at HBK HGE ⊢
      obtain ⟨i0, i1, i2, i3, i4⟩ := Hf.out.i.im; have r0 := Hf.out.r.at 0 _ rfl; have r1 := Hf.out.r.at 1 _ rfl; have r2 := Hf.out.r.at 2 _ rfl
      have k1 := HBK.out.at 1 _ rfl
      have HIU : Hid (X2.rangeAt w.heap.size 0 [Value.slice p.ab m.br.length p.cb, .slice p.aq p.ts.length p.cq, .slice p.ac m.cf.length p.cc, .slice p.ad m.dn.length p.cd, .int .i64 m.la]) := Hd Hf.out.i.c
      go_upto_region 7 with (first | (refine wpList_load_mid rfl _ _ rfl _ _ rfl _ _ HIU.out Tryz.underlying30 rfl (by kernel_rfl) ?_))
      clear HIU k1
      have Hq : Hid (Fb w (X2.alloc (.cells (List.toArray [Value.slice p.ab m.br.length p.cb, .slice p.aq p.ts.length p.cq, .slice p.ac m.cf.length p.cc, .slice p.ad m.dn.length p.cd, .int .i64 m.la]) 30)) m p (cR r a14 a15 a16 a17 c14 c15 c16 c17) bk [Value.int .i64 b.id, .int .i64 b.ep, .string ⟨b.rk.toArray⟩, .bool b.fe, .bool b.lv] X2.heap.size [Value.slice p.ab m.br.length p.cb, .slice p.aq p.ts.length p.cq, .slice p.ac m.cf.length p.cc, .slice p.ad m.dn.length p.cd, .int .i64 m.la]) := Hd ⟨Fo.new Hf.out [Value.slice p.ab m.br.length p.cb, .slice p.aq p.ts.length p.cq, .slice p.ac m.cf.length p.cc, .slice p.ad m.dn.length p.cd, .int .i64 m.la] 30, HBK.out.alloc _, HGE.out, HBK.out.l⟩
      clear i0 i1 i2 i3 i4 r0 r1 r2
      clear Hf HBK
      generalize X2.alloc (.cells (List.toArray [Value.slice p.ab m.br.length p.cb, .slice p.aq p.ts.length p.cq, .slice p.ac m.cf.length p.cc, .slice p.ad m.dn.length p.cd, .int .i64 m.la]) 30) = Y at Hq ⊢
      generalize X2.heap.size = bo at Hq ⊢
      have Hf := Hd Hq.out.f.f
      obtain ⟨i0, i1, i2, i3, i4⟩ := Hf.out.i.im; have r0 := Hf.out.r.at 0 _ rfl; have r1 := Hf.out.r.at 1 _ rfl; have r2 := Hf.out.r.at 2 _ rfl
      rw [HK.out] at r0
      have k0 := Hq.out.k.at 0 _ rfl
      have k3 := Hq.out.k.at 3 _ rfl
      have k4 := Hq.out.k.at 4 _ rfl
      have f3 := Hq.out.k.f 3 (by simp)
      have f4 := Hq.out.k.f 4 (by simp)
      rw [HFE.out] at k3
      rw [HLV.out] at k4
      go_wp2_with (first | (refine wpList_load_mid rfl _ _ rfl _ _ rfl _ _ Hf.out.i.c Tryz.underlying30 rfl (by kernel_rfl) ?_) | (refine wS rfl _ _ _ rfl _ _ rfl Hf.out.z (iml m p) rfl rfl (by kernel_rfl) rfl ?_; intro W3 hz hk hb hp; have Ho := Hd (Hf.out.out hz hk hb); clear hz hk hb hp))
      obtain ⟨q0, q1, q2, q3, q4⟩ := Ho.out.z.im
      exact bodyPost_ret (v := .tuple #[.agg (iml m p).toArray, .int .i64 10]) (by simp [results, Tryz.results66, go_sem, q0, q1, q2, q3, q4, iml]) rfl (std_ret Ho.out (fun W hW => Hv.out W _ Ho.out.b hW))
     ·have HLV := Hd hlv
      have HRE2 : Hid (trnB m b r.k = ({ m with br := putB m.br (⟨b.id, b.ep, b.rk, b.fe, true⟩ : Bk) }, 0)) := Hd (by rw [hk]; unfold trnB; rw [if_neg (by decide), if_neg (by decide), if_pos rfl, hfe, hlv]; rfl)
      have HK := Hd hk
      clear hk hnb HBR HUS HLD hfe hlv
      have HFR0 := fF w m p r a14 a15 a16 a17 c14 c15 c16 c17
      clear hv hw hrw hn0
      unfold imv
      unfold cR
      go_enter Tryz.func66, Tryz.ntmps66
      go_upto_region 1 with fail
      rw [fE]
      generalize frW w m p r a14 a15 a16 a17 c14 c15 c16 c17 = X at HFR0 ⊢
      have Hf := Hd HFR0
      clear HFR0
      obtain ⟨i0, i1, i2, i3, i4⟩ := Hf.out.i.im; have r0 := Hf.out.r.at 0 _ rfl; have r1 := Hf.out.r.at 1 _ rfl; have r2 := Hf.out.r.at 2 _ rfl
      go_upto_region 2 with (first | (refine wpList_load_mid rfl _ _ rfl _ _ rfl _ _ Hf.out.i.c Tryz.underlying30 rfl (by kernel_rfl) ?_) | (go_at_call 8; refine (HB.out _ Hf.out.b).mono ?_; rintro e wx ⟨rfl, hbx⟩; replace Hf := Hd (Hf.out.below hbx); clear i0 i1 i2 i3 i4 r0 r1 r2; clear hbx HB))
      have HBK := Hd (Bx.new wx [.int .i64 b.id, .int .i64 b.ep, .string ⟨b.rk.toArray⟩, .bool b.fe, .bool b.lv] 33)
      have HGE := Hd Hf.out.sz
      replace Hf := Hd (Hf.out.below (bA wx (.cells (List.toArray [Value.int .i64 b.id, .int .i64 b.ep, .string ⟨b.rk.toArray⟩, .bool b.fe, .bool b.lv]) 33)))
      generalize wx.alloc (.cells (List.toArray [Value.int .i64 b.id, .int .i64 b.ep, .string ⟨b.rk.toArray⟩, .bool b.fe, .bool b.lv]) 33) = X2 at Hf HBK ⊢
      generalize wx.heap.size = bk at HBK HGE ⊢
      obtain ⟨i0, i1, i2, i3, i4⟩ := Hf.out.i.im; have r0 := Hf.out.r.at 0 _ rfl; have r1 := Hf.out.r.at 1 _ rfl; have r2 := Hf.out.r.at 2 _ rfl
      have k1 := HBK.out.at 1 _ rfl
      have HIU : Hid (X2.rangeAt w.heap.size 0 [Value.slice p.ab m.br.length p.cb, .slice p.aq p.ts.length p.cq, .slice p.ac m.cf.length p.cc, .slice p.ad m.dn.length p.cd, .int .i64 m.la]) := Hd Hf.out.i.c
      go_upto_region 7 with (first | (refine wpList_load_mid rfl _ _ rfl _ _ rfl _ _ HIU.out Tryz.underlying30 rfl (by kernel_rfl) ?_))
      clear HIU k1
      have Hq : Hid (Fb w (X2.alloc (.cells (List.toArray [Value.slice p.ab m.br.length p.cb, .slice p.aq p.ts.length p.cq, .slice p.ac m.cf.length p.cc, .slice p.ad m.dn.length p.cd, .int .i64 m.la]) 30)) m p (cR r a14 a15 a16 a17 c14 c15 c16 c17) bk [Value.int .i64 b.id, .int .i64 b.ep, .string ⟨b.rk.toArray⟩, .bool b.fe, .bool b.lv] X2.heap.size [Value.slice p.ab m.br.length p.cb, .slice p.aq p.ts.length p.cq, .slice p.ac m.cf.length p.cc, .slice p.ad m.dn.length p.cd, .int .i64 m.la]) := Hd ⟨Fo.new Hf.out [Value.slice p.ab m.br.length p.cb, .slice p.aq p.ts.length p.cq, .slice p.ac m.cf.length p.cc, .slice p.ad m.dn.length p.cd, .int .i64 m.la] 30, HBK.out.alloc _, HGE.out, HBK.out.l⟩
      clear i0 i1 i2 i3 i4 r0 r1 r2
      clear Hf HBK
      generalize X2.alloc (.cells (List.toArray [Value.slice p.ab m.br.length p.cb, .slice p.aq p.ts.length p.cq, .slice p.ac m.cf.length p.cc, .slice p.ad m.dn.length p.cd, .int .i64 m.la]) 30) = Y at Hq ⊢
      generalize X2.heap.size = bo at Hq ⊢
      have Hf := Hd Hq.out.f.f
      obtain ⟨i0, i1, i2, i3, i4⟩ := Hf.out.i.im; have r0 := Hf.out.r.at 0 _ rfl; have r1 := Hf.out.r.at 1 _ rfl; have r2 := Hf.out.r.at 2 _ rfl
      rw [HK.out] at r0
      have k0 := Hq.out.k.at 0 _ rfl
      have k3 := Hq.out.k.at 3 _ rfl
      have k4 := Hq.out.k.at 4 _ rfl
      have f3 := Hq.out.k.f 3 (by simp)
      have f4 := Hq.out.k.f 4 (by simp)
      rw [HFE.out] at k3
      rw [HLV.out] at k4
      go_upto_region 30 with fail
      have HFZ0 := Hd (Hq.out.setK 4 (by simp) (.bool true))
      simp only [List.set] at HFZ0
      have Hz : Hid (Fb w ((Y).setCell ⟨bk, 4, none⟩ (.bool true)) m p (cR r a14 a15 a16 a17 c14 c15 c16 c17) bk [Value.int .i64 b.id, .int .i64 b.ep, .string ⟨b.rk.toArray⟩, .bool b.fe, .bool true] bo [Value.slice p.ab m.br.length p.cb, .slice p.aq p.ts.length p.cq, .slice p.ac m.cf.length p.cc, .slice p.ad m.dn.length p.cd, .int .i64 m.la]) := HFZ0
      clear HFZ0 Hq Hf
      clear i0 i1 i2 i3 i4 r0 r1 r2
      clear k0 k3 k4 f3 f4
      generalize (Y).setCell ⟨bk, 4, none⟩ (.bool true) = Z1 at Hz ⊢
      have i0 := Hz.out.f.f.i.at 0 _ rfl
      have HYB : Hid (bo < Z1.heap.size) := Hd Hz.out.f.o.l
      obtain ⟨L, hL⟩ : ∃ L, L = putB m.br (⟨b.id, b.ep, b.rk, b.fe, true⟩ : Bk) := ⟨_, rfl⟩
      have HLL : Hid (putB m.br (⟨b.id, b.ep, b.rk, b.fe, true⟩ : Bk) = L) := Hd hL.symm
      clear hL
      unfold bkc at HPU
      go_upto_region 31 with (first | (refine wpList_load_mid rfl _ _ rfl _ _ rfl _ _ Hz.out.k.c Tryz.underlying33 rfl (by kernel_rfl) ?_) | (go_at_call 106; refine (HPU.out (⟨b.id, b.ep, b.rk, b.fe, true⟩ : Bk) _ Hz.out.f.f.b).mono ?_; rintro e w7 ⟨v', rfl, hro, hb7⟩; rw [HLL.out] at hro; obtain ⟨av, cv, rfl⟩ := hro.form; have HRO := Hd hro; have HFY := Hd (Hz.out.below hb7); clear hro hb7 HPU i0; have o0 := HFY.out.f.o.at 0 _ rfl; have f0 := HFY.out.f.o.f 0 (by simp)))
      have HFW0 := Hd (HFY.out.f.set 0 (by simp) (.slice av L.length cv))
      simp only [List.set] at HFW0
      have HG : Hid (∀ g, Z1.heap.size ≤ g → (w7.setCell ⟨bo, 0, none⟩ (.slice av L.length cv)).heap[g]? = w7.heap[g]?) := Hd (fun g hg => Below.heap_setCell _ _ _ _ (show ¬ g = bo by have := HYB.out; omega))
      clear o0 f0 HFY Hz
      have HFW := Hd HFW0.out
      clear HFW0
      generalize w7.setCell ⟨bo, 0, none⟩ (.slice av L.length cv) = Z at HFW HG ⊢
      go_wp2_with (first | (refine wpList_load_mid rfl _ _ rfl _ _ rfl _ _ HFW.out.o.c Tryz.underlying30 rfl (by kernel_rfl) ?_) | (refine wS rfl _ _ _ rfl _ _ rfl HFW.out.f.z (iml { m with br := L } { p with ab := av, cb := cv }) rfl rfl (by kernel_rfl) rfl ?_; intro W3 hz hk hb hp; have HZ := Hd hz; have Hb := Hd (hb _ _ (show w.heap.size ≤ w.heap.size + 1 + 1 by omega) HFW.out.f.b); have HRS := Hd (fun W (hW : Agr n0 w.heap.size W3 W) => (HRO.out.keepG (fun g hg => (hW g (.inr (by have := HYB.out; have := HFW.out.ge; omega))).trans ((hp g (by have := HYB.out; have := HFW.out.ge; omega)).trans (HG.out g hg)))).rs); clear hz hk hb hp))
      obtain ⟨q0, q1, q2, q3, q4⟩ := HZ.out.im
      refine bodyPost_ret (v := .tuple #[.agg (iml { m with br := L } { p with ab := av, cb := cv }).toArray, .int .i64 0]) (by simp [results, Tryz.results66, go_sem, q0, q1, q2, q3, q4, iml]) rfl ?_
      show StD n0 w W3 (trnB m b r.k).1 (trnB m b r.k).2 _
      rw [HRE2.out, HLL.out]
      exact ⟨_, rfl, (fun W hW => ⟨HRS.out W hW, (Hv.out W _ Hb.out hW).t, (Hv.out W _ Hb.out hW).q, (Hv.out W _ Hb.out hW).e, (Hv.out W _ Hb.out hW).c, (Hv.out W _ Hb.out hW).d⟩), Hb.out⟩
   ·rcases Bool.eq_false_or_eq_true (used m.ts b.id) with hus | hus
    ·rw [hus] at HUS
     have HRE2 : Hid (trnB m b r.k = (m, 10)) := Hd (by rw [hk]; unfold trnB; rw [if_neg (by decide), if_neg (by decide), if_neg (by decide), if_pos hus])
     rw [HRE2.out]
     have HK := Hd hk
     clear hk HPU hnb HBR HLD hus
     (try clear hfe)
     (try clear hlv)
     have HFR0 := fF w m p r a14 a15 a16 a17 c14 c15 c16 c17
     clear hv hw hrw hn0
     unfold imv
     unfold cR
     go_enter Tryz.func66, Tryz.ntmps66
     go_upto_region 1 with fail
     rw [fE]
     generalize frW w m p r a14 a15 a16 a17 c14 c15 c16 c17 = X at HFR0 ⊢
     have Hf := Hd HFR0
     clear HFR0
     obtain ⟨i0, i1, i2, i3, i4⟩ := Hf.out.i.im; have r0 := Hf.out.r.at 0 _ rfl; have r1 := Hf.out.r.at 1 _ rfl; have r2 := Hf.out.r.at 2 _ rfl
     go_upto_region 2 with (first | (refine wpList_load_mid rfl _ _ rfl _ _ rfl _ _ Hf.out.i.c Tryz.underlying30 rfl (by kernel_rfl) ?_) | (go_at_call 8; refine (HB.out _ Hf.out.b).mono ?_; rintro e wx ⟨rfl, hbx⟩; replace Hf := Hd (Hf.out.below hbx); clear i0 i1 i2 i3 i4 r0 r1 r2; clear hbx HB))
     have HBK := Hd (Bx.new wx [.int .i64 b.id, .int .i64 b.ep, .string ⟨b.rk.toArray⟩, .bool b.fe, .bool b.lv] 33)
     have HGE := Hd Hf.out.sz
     replace Hf := Hd (Hf.out.below (bA wx (.cells (List.toArray [Value.int .i64 b.id, .int .i64 b.ep, .string ⟨b.rk.toArray⟩, .bool b.fe, .bool b.lv]) 33)))
     generalize wx.alloc (.cells (List.toArray [Value.int .i64 b.id, .int .i64 b.ep, .string ⟨b.rk.toArray⟩, .bool b.fe, .bool b.lv]) 33) = X2 at Hf HBK ⊢
     generalize wx.heap.size = bk at HBK HGE ⊢
     obtain ⟨i0, i1, i2, i3, i4⟩ := Hf.out.i.im; have r0 := Hf.out.r.at 0 _ rfl; have r1 := Hf.out.r.at 1 _ rfl; have r2 := Hf.out.r.at 2 _ rfl
     have k1 := HBK.out.at 1 _ rfl
     have HIU : Hid (X2.rangeAt w.heap.size 0 [Value.slice p.ab m.br.length p.cb, .slice p.aq p.ts.length p.cq, .slice p.ac m.cf.length p.cc, .slice p.ad m.dn.length p.cd, .int .i64 m.la]) := Hd Hf.out.i.c
     go_upto_region 7 with (first | (refine wpList_load_mid rfl _ _ rfl _ _ rfl _ _ HIU.out Tryz.underlying30 rfl (by kernel_rfl) ?_))
     clear HIU k1
     have Hq : Hid (Fb w (X2.alloc (.cells (List.toArray [Value.slice p.ab m.br.length p.cb, .slice p.aq p.ts.length p.cq, .slice p.ac m.cf.length p.cc, .slice p.ad m.dn.length p.cd, .int .i64 m.la]) 30)) m p (cR r a14 a15 a16 a17 c14 c15 c16 c17) bk [Value.int .i64 b.id, .int .i64 b.ep, .string ⟨b.rk.toArray⟩, .bool b.fe, .bool b.lv] X2.heap.size [Value.slice p.ab m.br.length p.cb, .slice p.aq p.ts.length p.cq, .slice p.ac m.cf.length p.cc, .slice p.ad m.dn.length p.cd, .int .i64 m.la]) := Hd ⟨Fo.new Hf.out [Value.slice p.ab m.br.length p.cb, .slice p.aq p.ts.length p.cq, .slice p.ac m.cf.length p.cc, .slice p.ad m.dn.length p.cd, .int .i64 m.la] 30, HBK.out.alloc _, HGE.out, HBK.out.l⟩
     clear i0 i1 i2 i3 i4 r0 r1 r2
     clear Hf HBK
     generalize X2.alloc (.cells (List.toArray [Value.slice p.ab m.br.length p.cb, .slice p.aq p.ts.length p.cq, .slice p.ac m.cf.length p.cc, .slice p.ad m.dn.length p.cd, .int .i64 m.la]) 30) = Y at Hq ⊢
     generalize X2.heap.size = bo at Hq ⊢
     have Hf := Hd Hq.out.f.f
     obtain ⟨i0, i1, i2, i3, i4⟩ := Hf.out.i.im; have r0 := Hf.out.r.at 0 _ rfl; have r1 := Hf.out.r.at 1 _ rfl; have r2 := Hf.out.r.at 2 _ rfl
     rw [HK.out] at r0
     have k0 := Hq.out.k.at 0 _ rfl
     have k3 := Hq.out.k.at 3 _ rfl
     have k4 := Hq.out.k.at 4 _ rfl
     have f3 := Hq.out.k.f 3 (by simp)
     have f4 := Hq.out.k.f 4 (by simp)
     go_wp2_with (first | (refine wpList_load_mid rfl _ _ rfl _ _ rfl _ _ Hf.out.i.c Tryz.underlying30 rfl (by kernel_rfl) ?_) | (refine wpList_load_mid rfl _ _ rfl _ _ rfl _ _ Hf.out.i.c Tryz.underlying30 rfl (by kernel_rfl) ?_) | (go_at_call 107; refine (HUS.out _ Hf.out.b).mono ?_; rintro e wl ⟨rfl, hbl⟩; replace Hq := Hd (Hq.out.below hbl); replace Hf := Hd (Hf.out.below hbl); clear i0 i1 i2 i3 i4 r0 r1 r2; clear k0 k3 k4 f3 f4; clear hbl HUS; obtain ⟨i0, i1, i2, i3, i4⟩ := Hf.out.i.im; have r0 := Hf.out.r.at 0 _ rfl; have r1 := Hf.out.r.at 1 _ rfl; have r2 := Hf.out.r.at 2 _ rfl; have k0 := Hq.out.k.at 0 _ rfl; have k3 := Hq.out.k.at 3 _ rfl; have k4 := Hq.out.k.at 4 _ rfl; have f3 := Hq.out.k.f 3 (by simp); have f4 := Hq.out.k.f 4 (by simp)) | (refine wS rfl _ _ _ rfl _ _ rfl Hf.out.z (iml m p) rfl rfl (by kernel_rfl) rfl ?_; intro W3 hz hk hb hp; have Ho := Hd (Hf.out.out hz hk hb); clear hz hk hb hp))
     obtain ⟨q0, q1, q2, q3, q4⟩ := Ho.out.z.im
     exact bodyPost_ret (v := .tuple #[.agg (iml m p).toArray, .int .i64 10]) (by simp [results, Tryz.results66, go_sem, q0, q1, q2, q3, q4, iml]) rfl (std_ret Ho.out (fun W hW => Hv.out W _ Ho.out.b hW))
    ·have HRE2 : Hid (trnB m b r.k = ({ m with br := remB m.br b.id }, 0)) := Hd (by rw [hk]; unfold trnB; rw [if_neg (by decide), if_neg (by decide), if_neg (by decide), if_neg (by simp [hus])])
     have HK := Hd hk
     rw [hus] at HUS
     clear hk HBR HLD HPU hus
     have HFR0 := fF w m p r a14 a15 a16 a17 c14 c15 c16 c17
     clear hv hw hrw hn0
     unfold imv
     unfold cR
     go_enter Tryz.func66, Tryz.ntmps66
     go_upto_region 1 with fail
     rw [fE]
     generalize frW w m p r a14 a15 a16 a17 c14 c15 c16 c17 = X at HFR0 ⊢
     have Hf := Hd HFR0
     clear HFR0
     obtain ⟨i0, i1, i2, i3, i4⟩ := Hf.out.i.im; have r0 := Hf.out.r.at 0 _ rfl; have r1 := Hf.out.r.at 1 _ rfl; have r2 := Hf.out.r.at 2 _ rfl
     go_upto_region 2 with (first | (refine wpList_load_mid rfl _ _ rfl _ _ rfl _ _ Hf.out.i.c Tryz.underlying30 rfl (by kernel_rfl) ?_) | (go_at_call 8; refine (HB.out _ Hf.out.b).mono ?_; rintro e wx ⟨rfl, hbx⟩; replace Hf := Hd (Hf.out.below hbx); clear i0 i1 i2 i3 i4 r0 r1 r2; clear hbx HB))
     have HBK := Hd (Bx.new wx [.int .i64 b.id, .int .i64 b.ep, .string ⟨b.rk.toArray⟩, .bool b.fe, .bool b.lv] 33)
     have HGE := Hd Hf.out.sz
     replace Hf := Hd (Hf.out.below (bA wx (.cells (List.toArray [Value.int .i64 b.id, .int .i64 b.ep, .string ⟨b.rk.toArray⟩, .bool b.fe, .bool b.lv]) 33)))
     generalize wx.alloc (.cells (List.toArray [Value.int .i64 b.id, .int .i64 b.ep, .string ⟨b.rk.toArray⟩, .bool b.fe, .bool b.lv]) 33) = X2 at Hf HBK ⊢
     generalize wx.heap.size = bk at HBK HGE ⊢
     obtain ⟨i0, i1, i2, i3, i4⟩ := Hf.out.i.im; have r0 := Hf.out.r.at 0 _ rfl; have r1 := Hf.out.r.at 1 _ rfl; have r2 := Hf.out.r.at 2 _ rfl
     have k1 := HBK.out.at 1 _ rfl
     have HIU : Hid (X2.rangeAt w.heap.size 0 [Value.slice p.ab m.br.length p.cb, .slice p.aq p.ts.length p.cq, .slice p.ac m.cf.length p.cc, .slice p.ad m.dn.length p.cd, .int .i64 m.la]) := Hd Hf.out.i.c
     go_upto_region 7 with (first | (refine wpList_load_mid rfl _ _ rfl _ _ rfl _ _ HIU.out Tryz.underlying30 rfl (by kernel_rfl) ?_))
     clear HIU k1
     have Hq : Hid (Fb w (X2.alloc (.cells (List.toArray [Value.slice p.ab m.br.length p.cb, .slice p.aq p.ts.length p.cq, .slice p.ac m.cf.length p.cc, .slice p.ad m.dn.length p.cd, .int .i64 m.la]) 30)) m p (cR r a14 a15 a16 a17 c14 c15 c16 c17) bk [Value.int .i64 b.id, .int .i64 b.ep, .string ⟨b.rk.toArray⟩, .bool b.fe, .bool b.lv] X2.heap.size [Value.slice p.ab m.br.length p.cb, .slice p.aq p.ts.length p.cq, .slice p.ac m.cf.length p.cc, .slice p.ad m.dn.length p.cd, .int .i64 m.la]) := Hd ⟨Fo.new Hf.out [Value.slice p.ab m.br.length p.cb, .slice p.aq p.ts.length p.cq, .slice p.ac m.cf.length p.cc, .slice p.ad m.dn.length p.cd, .int .i64 m.la] 30, HBK.out.alloc _, HGE.out, HBK.out.l⟩
     clear i0 i1 i2 i3 i4 r0 r1 r2
     clear Hf HBK
     generalize X2.alloc (.cells (List.toArray [Value.slice p.ab m.br.length p.cb, .slice p.aq p.ts.length p.cq, .slice p.ac m.cf.length p.cc, .slice p.ad m.dn.length p.cd, .int .i64 m.la]) 30) = Y at Hq ⊢
     generalize X2.heap.size = bo at Hq ⊢
     have Hf := Hd Hq.out.f.f
     obtain ⟨i0, i1, i2, i3, i4⟩ := Hf.out.i.im; have r0 := Hf.out.r.at 0 _ rfl; have r1 := Hf.out.r.at 1 _ rfl; have r2 := Hf.out.r.at 2 _ rfl
     rw [HK.out] at r0
     have k0 := Hq.out.k.at 0 _ rfl
     have k3 := Hq.out.k.at 3 _ rfl
     have k4 := Hq.out.k.at 4 _ rfl
     have f3 := Hq.out.k.f 3 (by simp)
     have f4 := Hq.out.k.f 4 (by simp)
     go_upto_region 10 with (first | (refine wpList_load_mid rfl _ _ rfl _ _ rfl _ _ Hf.out.i.c Tryz.underlying30 rfl (by kernel_rfl) ?_) | (go_at_call 107; refine (HUS.out _ Hf.out.b).mono ?_; rintro e wl ⟨rfl, hbl⟩; replace Hq := Hd (Hq.out.below hbl); replace Hf := Hd (Hf.out.below hbl); clear i0 i1 i2 i3 i4 r0 r1 r2; clear k0 k3 k4 f3 f4; clear hbl HUS; obtain ⟨i0, i1, i2, i3, i4⟩ := Hf.out.i.im; have r0 := Hf.out.r.at 0 _ rfl; have r1 := Hf.out.r.at 1 _ rfl; have r2 := Hf.out.r.at 2 _ rfl; have k0 := Hq.out.k.at 0 _ rfl; have k3 := Hq.out.k.at 3 _ rfl; have k4 := Hq.out.k.at 4 _ rfl; have f3 := Hq.out.k.f 3 (by simp); have f4 := Hq.out.k.f 4 (by simp)))
     have o0 := Hq.out.f.o.at 0 _ rfl
     have f0 := Hq.out.f.o.f 0 (by simp)
     go_upto_region 11 with fail
     clear o0 f0 Hf
     clear i0 i1 i2 i3 i4 r0 r1 r2
     clear k0 k3 k4 f3 f4
     have HFZ0 := Hd (Hq.out.setO 0 (by simp) (.slice none 0 0))
     simp only [List.set] at HFZ0
     clear Hq
     generalize wl.setCell ⟨bo, 0, none⟩ (.slice none 0 0) = Y1 at HFZ0 ⊢
     have Hz := Hd HFZ0.out
     clear HFZ0
     go_upto_region 12 with fail
     go_loopw [9] (fun i W => ∃ (k : Nat) (av : Option Addr) (cv : Nat) (Q : List Bk), k ≤ m.br.length ∧ i = .int .i64 (k : Int) ∧ Fb w W m p (cR r a14 a15 a16 a17 c14 c15 c16 c17) bk [Value.int .i64 b.id, .int .i64 b.ep, .string ⟨b.rk.toArray⟩, .bool b.fe, .bool b.lv] bo [Value.slice av Q.length cv, .slice p.aq p.ts.length p.cq, .slice p.ac m.cf.length p.cc, .slice p.ad m.dn.length p.cd, .int .i64 m.la] ∧ Ro bkc 5 33 W (bo + 1) (.slice av Q.length cv) Q ∧ Hid (Q = (m.br.take k).filter fun x => !idB b.id x)) (fun i _ => m.br.length - (ivQ i).toNat)
     case atStart => exact ⟨0, none, 0, [], Nat.zero_le _, rfl, Hz.out, ro_nil _ _ _ _ _, Hd rfl⟩
     case round =>
      clear Hz
      obtain ⟨k, av, cv, Q, hk, rfl, hf, hr, HQ⟩ := hrel
      have Hq := Hd hf
      have HRO := Hd hr
      clear hf hr
      have i0 := Hq.out.f.f.i.at 0 _ rfl
      by_cases hlt : k < m.br.length
      ·have hltI : (k : Int) < (m.br.length : Int) := by omega
       obtain ⟨bb, ob, hab, hrg⟩ := (HV.out wr Hq.out.f.f.b).b.rg (show 0 < m.br.length by omega)
       have HPA := Hd hab
       have HXA : Hid (∀ W, Below w.heap.size w W → W.rangeAt bb (ob + k * 5) (bkc m.br[k])) := Hd (fun W h => by
        have hh := (HV.out W h).b
        rw [hab] at hh
        exact hh.at encB hlt)
       rw [hab] at i0
       clear hab hrg
       have HT : Hid (∀ c, c = !idB b.id m.br[k] → (m.br.take (k + 1)).filter (fun x => !idB b.id x) = Q ++ (if c then [m.br[k]] else [])) := Hd (fun c hc => by
        rw [List.take_succ_eq_append_getElem hlt, List.filter_append, ← HQ.out, hc, List.filter_cons, List.filter_nil])
       generalize m.br[k] = x at HXA HT
       unfold bkc at HXA
       have c0 : wr.cell? ⟨bb, ob + k * 5, none⟩ = some (.int .i64 x.id) := HXA.out wr Hq.out.f.f.b 0 _ rfl
       have k0 := Hq.out.k.at 0 _ rfl
       by_cases hx : x.id = b.id
       ·have n1 : (x.id != b.id) = false := by simp [hx]
        have HQ3 : Hid (Q = (m.br.take (k + 1)).filter fun x => !idB b.id x) := Hd (by rw [HT.out false (by simp [idB, hx])]; simp)
        clear hx
        go_wp2_with fail
        go_quiet (fail)
        have HFN := Hd (Hq.out.drewN nq)
        clear c0 k0 i0
        go_wp2_with fail
        go_roundw
        case rel => exact ⟨k + 1, av, cv, Q, by omega, by go_num, HFN.out, HRO.out, HQ3⟩
        case measure => simp [ivQ]; omega
       ·have n1 : (x.id != b.id) = true := by simpa using hx
        obtain ⟨Q2, hq2⟩ : ∃ Q2, Q2 = Q ++ [x] := ⟨_, rfl⟩
        have HQ2 := Hd hq2
        have HQ3 : Hid (Q2 = (m.br.take (k + 1)).filter fun x => !idB b.id x) := Hd (by rw [HT.out true (by simp [idB, hx]), hq2]; simp)
        have HQL : Hid (Q.length + [x].length ≤ 2000000000) := Hd (by rw [HQ.out]; have h1 := List.length_filter_le (fun x => !idB b.id x) (m.br.take k); have h2 : (m.br.take k).length ≤ k := (by rw [List.length_take]; omega); have := HNB.out; simp only [List.length_cons, List.length_nil]; omega)
        clear hx hq2
        go_wp2_with fail
        go_quiet (fail)
        have HFV0 := Hd (Hq.out.drewN nq)
        have HRV0 : Hid (Ro bkc 5 33 (wr.drewN nq) (bo + 1) (.slice av Q.length cv) Q) := Hd HRO.out
        clear c0 k0 i0
        generalize wr.drewN nq = V at HFV0 HRV0 ⊢
        have HFV := Hd HFV0.out
        have HRV := Hd HRV0.out
        clear HFV0 HRV0
        go_wp2_with fail
        have hdw : Below V.heap.size V V.drew := (Below.refl _ _).drew
        refine wp_region_held_drew (S := fun W => Fr w m p (cR r a14 a15 a16 a17 c14 c15 c16 c17) imz W) (by kernel_rfl) (HFV.out.f.f.drewN 1) (fun hHeld => ?_)
        have HF4 : Hid (Fb w V.drew m p (cR r a14 a15 a16 a17 c14 c15 c16 c17) bk [Value.int .i64 b.id, .int .i64 b.ep, .string ⟨b.rk.toArray⟩, .bool b.fe, .bool b.lv] bo [Value.slice av Q.length cv, .slice p.aq p.ts.length p.cq, .slice p.ac m.cf.length p.cc, .slice p.ad m.dn.length p.cd, .int .i64 m.la]) := Hd (HFV.out.drewN 1)
        have HR4 : Hid (Ro bkc 5 33 V.drew (bo + 1) (.slice av Q.length cv) Q) := Hd HRV.out
        generalize V.drew = V4 at hHeld HF4 HR4 ⊢
        clear hdw HFV HRV
        refine tk 0 51 (.pointer (some ⟨bo, 0, none⟩)) rfl rfl hHeld ?_
        simp only [Act.put, zA, zB, zC]
        refine tk 2 53 (.pointer (some ⟨w.heap.size, 0, none⟩)) rfl rfl hHeld ?_
        simp only [Act.put, zA, zB, zC]
        refine tky 3 54 (.slice (some ⟨bb, ob, none⟩) m.br.length p.cb) rfl rfl (Or.inl ⟨by rfl, by intro w hSw; have h0 := hSw.i.at 0 _ rfl; rw [HPA.out] at h0; go_simp⟩) hHeld ?_
        simp only [Act.put, zA, zB, zC]
        refine tk 4 55 (.int .i64 (k : Int)) rfl rfl hHeld ?_
        simp only [Act.put, zA, zB, zC]
        refine tk 5 56 (.pointer (some ⟨bb, ob + k * 5, none⟩)) rfl rfl hHeld ?_
        simp only [Act.put, zA, zB, zC]
        refine tky 6 57 (_) rfl rfl (yieldsIf_load_mid (by rfl) _ _ rfl _ _ rfl ([Value.int .i64 x.id, .int .i64 x.ep, .string ⟨x.rk.toArray⟩, .bool x.fe, .bool x.lv]) _ (fun W hW => HXA.out W hW.b) Tryz.underlying33 rfl (by kernel_rfl)) hHeld ?_
        simp only [Act.put, zA, zB, zC]
        refine wpAnyH_ready (rs := [1, 7]) (by kernel_rfl) (by simp) ?_
        refine AllReadyH.cons (o := _) rfl (fun K hK => ?_) (AllReadyH.cons (o := _) rfl (fun K hK => ?_) AllReadyH.nil)
        ·have h0 := HF4.out.f.o.at 0 _ rfl
         go_simp
         clear h0
         refine hK.out _ _ hHeld (fun hHeld1 => ?_)
         clear hK K hHeld
         have hHeld := hHeld1
         clear hHeld1
         refine wpAnyH_ready (rs := [7]) (by kernel_rfl) (by simp) ?_
         refine AllReadyH.cons (o := _) rfl (fun K hK => ?_) AllReadyH.nil
         go_simp
         have HF5 := Hd (HF4.out.below (bA V4 (.cells (List.toArray [Value.int .i64 x.id, .int .i64 x.ep, .string ⟨x.rk.toArray⟩, .bool x.fe, .bool x.lv]) 33)))
         have HR5 := Hd (HR4.out.below (bA V4 (.cells (List.toArray [Value.int .i64 x.id, .int .i64 x.ep, .string ⟨x.rk.toArray⟩, .bool x.fe, .bool x.lv]) 33)))
         have HC5 := Hd (Bx.new V4 [Value.int .i64 x.id, .int .i64 x.ep, .string ⟨x.rk.toArray⟩, .bool x.fe, .bool x.lv] 33).c
         refine hK.out _ _ HF5.out.f.f (fun hHeld1 => ?_)
         clear hK K hHeld
         have hHeld := hHeld1
         clear hHeld1
         refine wpAnyH_ready (rs := [8]) (by kernel_rfl) (by simp) ?_
         refine AllReadyH.cons (o := _) rfl (fun K hK => ?_) AllReadyH.nil
         refine step_appR tyiB encB rfl _ _ rfl (bo + 1) (.slice av Q.length cv) Q rfl HR5.out (by have := HF5.out.f.o.l; omega) _ [x] rfl ⟨_, 1, rfl, Nat.le_refl _, fun _ => ⟨_, 0, rfl, by have := HC5.out; simpa [bkc] using this⟩⟩ HQL.out ?_
         intro av2 cv2 w1 ho1 hb1
         have HF6 := Hd (HF5.out.low hb1)
         have HR6 := Hd ho1
         clear ho1 hb1
         rw [← HQ2.out] at HR6 ⊢
         refine hK.out _ _ HF6.out.f.f (fun hHeld1 => ?_)
         clear hK K hHeld
         have hHeld := hHeld1
         clear hHeld1
         change wpAnyH _ _ _ _ _ _ _ (Act.put _ (some 59) _) _
         simp only [Act.put, zA, zB, zC]
         refine tk 9 60 (.pointer (some ⟨bo, 0, none⟩)) rfl rfl hHeld ?_
         simp only [Act.put, zA, zB, zC]
         refine wpAnyH_ready (rs := [10]) (by kernel_rfl) (by simp) ?_
         refine AllReadyH.cons (o := _) rfl (fun K hK => ?_) AllReadyH.nil
         have o0 := HF6.out.f.o.at 0 _ rfl
         have f0 := HF6.out.f.o.f 0 (by simp)
         go_simp
         clear o0 f0
         have HF70 := Hd (HF6.out.setO 0 (by simp) (.slice av2 Q2.length cv2))
         simp only [List.set] at HF70
         have HR7 := Hd (HR6.out.keepG (W' := w1.setCell ⟨bo, 0, none⟩ (.slice av2 Q2.length cv2)) (fun g hg => Below.heap_setCell _ _ _ _ (show ¬ g = bo by omega)))
         refine hK.out _ _ HF70.out.f.f (fun hHeld1 => ?_)
         clear hK K hHeld
         have hHeld := hHeld1
         clear hHeld1
         refine wpAnyH_done (by kernel_rfl) ?_ _
         clear hHeld
         go_wp2_with fail
         go_roundw
         case rel => exact ⟨k + 1, av2, cv2, Q2, by omega, by go_num, HF70.out, HR7.out, HQ3⟩
         case measure => simp [ivQ]; omega
        ·go_simp
         have HF5 := Hd (HF4.out.below (bA V4 (.cells (List.toArray [Value.int .i64 x.id, .int .i64 x.ep, .string ⟨x.rk.toArray⟩, .bool x.fe, .bool x.lv]) 33)))
         have HR5 := Hd (HR4.out.below (bA V4 (.cells (List.toArray [Value.int .i64 x.id, .int .i64 x.ep, .string ⟨x.rk.toArray⟩, .bool x.fe, .bool x.lv]) 33)))
         have HC5 := Hd (Bx.new V4 [Value.int .i64 x.id, .int .i64 x.ep, .string ⟨x.rk.toArray⟩, .bool x.fe, .bool x.lv] 33).c
         refine hK.out _ _ HF5.out.f.f (fun hHeld1 => ?_)
         clear hK K hHeld
         have hHeld := hHeld1
         clear hHeld1
         refine wpAnyH_ready (rs := [1]) (by kernel_rfl) (by simp) ?_
         refine AllReadyH.cons (o := _) rfl (fun K hK => ?_) AllReadyH.nil
         have h0 := HF5.out.f.o.at 0 _ rfl
         go_simp
         clear h0
         refine hK.out _ _ hHeld (fun hHeld1 => ?_)
         clear hK K hHeld
         have hHeld := hHeld1
         clear hHeld1
         refine wpAnyH_ready (rs := [8]) (by kernel_rfl) (by simp) ?_
         refine AllReadyH.cons (o := _) rfl (fun K hK => ?_) AllReadyH.nil
         refine step_appR tyiB encB rfl _ _ rfl (bo + 1) (.slice av Q.length cv) Q rfl HR5.out (by have := HF5.out.f.o.l; omega) _ [x] rfl ⟨_, 1, rfl, Nat.le_refl _, fun _ => ⟨_, 0, rfl, by have := HC5.out; simpa [bkc] using this⟩⟩ HQL.out ?_
         intro av2 cv2 w1 ho1 hb1
         have HF6 := Hd (HF5.out.low hb1)
         have HR6 := Hd ho1
         clear ho1 hb1
         rw [← HQ2.out] at HR6 ⊢
         refine hK.out _ _ HF6.out.f.f (fun hHeld1 => ?_)
         clear hK K hHeld
         have hHeld := hHeld1
         clear hHeld1
         change wpAnyH _ _ _ _ _ _ _ (Act.put _ (some 59) _) _
         simp only [Act.put, zA, zB, zC]
         refine tk 9 60 (.pointer (some ⟨bo, 0, none⟩)) rfl rfl hHeld ?_
         simp only [Act.put, zA, zB, zC]
         refine wpAnyH_ready (rs := [10]) (by kernel_rfl) (by simp) ?_
         refine AllReadyH.cons (o := _) rfl (fun K hK => ?_) AllReadyH.nil
         have o0 := HF6.out.f.o.at 0 _ rfl
         have f0 := HF6.out.f.o.f 0 (by simp)
         go_simp
         clear o0 f0
         have HF70 := Hd (HF6.out.setO 0 (by simp) (.slice av2 Q2.length cv2))
         simp only [List.set] at HF70
         have HR7 := Hd (HR6.out.keepG (W' := w1.setCell ⟨bo, 0, none⟩ (.slice av2 Q2.length cv2)) (fun g hg => Below.heap_setCell _ _ _ _ (show ¬ g = bo by omega)))
         refine hK.out _ _ HF70.out.f.f (fun hHeld1 => ?_)
         clear hK K hHeld
         have hHeld := hHeld1
         clear hHeld1
         refine wpAnyH_done (by kernel_rfl) ?_ _
         clear hHeld
         go_wp2_with fail
         go_roundw
         case rel => exact ⟨k + 1, av2, cv2, Q2, by omega, by go_num, HF70.out, HR7.out, HQ3⟩
         case measure => simp [ivQ]; omega
      ·obtain rfl : k = m.br.length := by omega
       have HLL : Hid (remB m.br b.id = Q) := Hd (by rw [HQ.out, List.take_length]; rfl)
       have HYB : Hid (bo < wr.heap.size) := Hd Hq.out.f.o.l
       have HFW := Hd Hq.out.f
       have HG : Hid (∀ g, bo + 1 ≤ g → wr.heap[g]? = wr.heap[g]?) := Hd (fun _ _ => rfl)
       go_wp2_with (first | (refine wpList_load_mid rfl _ _ rfl _ _ rfl _ _ HFW.out.o.c Tryz.underlying30 rfl (by kernel_rfl) ?_) | (refine wS rfl _ _ _ rfl _ _ rfl HFW.out.f.z (iml { m with br := Q } { p with ab := av, cb := cv }) rfl rfl (by kernel_rfl) rfl ?_; intro W3 hz hk hb hp; have HZ := Hd hz; have Hb := Hd (hb _ _ (show w.heap.size ≤ w.heap.size + 1 + 1 by omega) HFW.out.f.b); have HRS := Hd (fun W (hW : Agr n0 w.heap.size W3 W) => (HRO.out.keepG (fun g hg => (hW g (.inr (by have := HYB.out; have := HFW.out.ge; omega))).trans ((hp g (by have := HYB.out; have := HFW.out.ge; omega)).trans (HG.out g hg)))).rs); clear hz hk hb hp))
       obtain ⟨q0, q1, q2, q3, q4⟩ := HZ.out.im
       refine bodyPost_ret (v := .tuple #[.agg (iml { m with br := Q } { p with ab := av, cb := cv }).toArray, .int .i64 0]) (by simp [results, Tryz.results66, go_sem, q0, q1, q2, q3, q4, iml]) rfl ?_
       show StD n0 w W3 (trnB m b r.k).1 (trnB m b r.k).2 _
       rw [HRE2.out, HLL.out]
       exact ⟨_, rfl, (fun W hW => ⟨HRS.out W hW, (Hv.out W _ Hb.out hW).t, (Hv.out W _ Hb.out hW).q, (Hv.out W _ Hb.out hW).e, (Hv.out W _ Hb.out hW).c, (Hv.out W _ Hb.out hW).d⟩), Hb.out⟩
  ·have n1 : (b.ep != r.ep) = true := by simpa using h1
   have Hr : Hid (turB m r = (m, 11)) := Hd (by unfold turB; rw [hf]; simp only; rw [if_neg h1])
   rw [Hr.out]
   clear hf h1 HPU HLD HUS HBR hk
   unfold imv at HB
   have HFR0 := fF w m p r a14 a15 a16 a17 c14 c15 c16 c17
   clear hv hw hrw hn0
   unfold imv
   unfold cR
   go_enter Tryz.func66, Tryz.ntmps66
   go_upto_region 1 with fail
   rw [fE]
   generalize frW w m p r a14 a15 a16 a17 c14 c15 c16 c17 = X at HFR0 ⊢
   have Hf := Hd HFR0
   clear HFR0
   obtain ⟨i0, i1, i2, i3, i4⟩ := Hf.out.i.im; have r0 := Hf.out.r.at 0 _ rfl; have r1 := Hf.out.r.at 1 _ rfl; have r2 := Hf.out.r.at 2 _ rfl
   go_upto_region 2 with (first | (refine wpList_load_mid rfl _ _ rfl _ _ rfl _ _ Hf.out.i.c Tryz.underlying30 rfl (by kernel_rfl) ?_) | (go_at_call 8; refine (HB.out _ Hf.out.b).mono ?_; rintro e wx ⟨rfl, hbx⟩; replace Hf := Hd (Hf.out.below hbx); clear i0 i1 i2 i3 i4 r0 r1 r2; clear hbx HB))
   have HBK := Hd (Bx.new wx [.int .i64 b.id, .int .i64 b.ep, .string ⟨b.rk.toArray⟩, .bool b.fe, .bool b.lv] 33)
   have HGE := Hd Hf.out.sz
   replace Hf := Hd (Hf.out.below (bA wx (.cells (List.toArray [Value.int .i64 b.id, .int .i64 b.ep, .string ⟨b.rk.toArray⟩, .bool b.fe, .bool b.lv]) 33)))
   generalize wx.alloc (.cells (List.toArray [Value.int .i64 b.id, .int .i64 b.ep, .string ⟨b.rk.toArray⟩, .bool b.fe, .bool b.lv]) 33) = X2 at Hf HBK ⊢
   generalize wx.heap.size = bk at HBK HGE ⊢
   obtain ⟨i0, i1, i2, i3, i4⟩ := Hf.out.i.im; have r0 := Hf.out.r.at 0 _ rfl; have r1 := Hf.out.r.at 1 _ rfl; have r2 := Hf.out.r.at 2 _ rfl
   have k1 := HBK.out.at 1 _ rfl
   go_wp2_with (first | (refine wpList_load_mid rfl _ _ rfl _ _ rfl _ _ Hf.out.i.c Tryz.underlying30 rfl (by kernel_rfl) ?_) | (refine wS rfl _ _ _ rfl _ _ rfl Hf.out.z (iml m p) rfl rfl (by kernel_rfl) rfl ?_; intro W3 hz hk hb hp; have Ho := Hd (Hf.out.out hz hk hb); clear hz hk hb hp))
   obtain ⟨q0, q1, q2, q3, q4⟩ := Ho.out.z.im
   exact bodyPost_ret (v := .tuple #[.agg (iml m p).toArray, .int .i64 11]) (by simp [results, Tryz.results66, go_sem, q0, q1, q2, q3, q4, iml]) rfl (std_ret Ho.out (fun W hW => Hv.out W _ Ho.out.b hW))
end Go.Proofs.YtlggjgapdpkhiaaGreat
