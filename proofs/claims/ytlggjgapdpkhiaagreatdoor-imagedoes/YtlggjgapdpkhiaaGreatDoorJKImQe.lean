/-
  WHAT THE DOCUMENT's STEPS ANSWER; A BROKER IS REGISTERED, AS THE DOCUMENT HAS IT (castellanref15.register). Conditions: an image in order, its lists no longer than a hundred thousand.
-/
import Derived.Test.YtlggjgapdpkhiaaGreatDoorJKImCpa3
import Derived.Test.YtlggjgapdpkhiaaGreatDoorJKImCba5
namespace Go.Proofs.YtlggjgapdpkhiaaGreatDoor
open Go.RowKit
def StD (n0 : Nat → Prop) (w w' : World) (m : Im) (c : Int) (e : Ending) : Prop := ∃ p, e = .returned (.tuple #[imv m p, .int .i64 c]) ∧ (∀ W, Agr n0 w.heap.size w' W → ImR W m p) ∧ Below w.heap.size w w'
theorem std_ret {n0 : Nat → Prop} {w W : World} {m : Im} {p : Ip} {cs : List Value} {c : Int} (h : Fr w m p cs (iml m p) W) (hv : ∀ W', Agr n0 w.heap.size W W' → ImR W' m p) : StD n0 w W m c (.returned (.tuple #[.agg (iml m p).toArray, .int .i64 c])) := ⟨_, rfl, hv, h.b⟩
structure Fo (w W : World) (m : Im) (p : Ip) (cs : List Value) (bo : Nat) (os : List Value) : Prop where
 f : Fr w m p cs imz W
 o : Bx W bo os
 ge : w.heap.size + 1 + 1 + 1 ≤ bo
section
variable {w W W' : World} {m : Im} {p : Ip} {cs os : List Value} {bo : Nat}
theorem Fo.below (h : Fo w W m p cs bo os) (hb : Below W.heap.size W W') : Fo w W' m p cs bo os := ⟨h.f.below hb, h.o.below hb, h.ge⟩
theorem Fo.drewN (h : Fo w W m p cs bo os) (n : Nat) : Fo w (W.drewN n) m p cs bo os := ⟨h.f.drewN n, h.o.drewN n, h.ge⟩
theorem Fo.set (h : Fo w W m p cs bo os) (j : Nat) (hj : j < os.length) (v : Value) : Fo w (W.setCell ⟨bo, j, none⟩ v) m p cs bo (os.set j v) :=
 have hg := h.ge
 ⟨⟨h.f.i.setOther (by omega) j v, h.f.r.setOther (by omega) j v, h.f.z.setOther (by omega) j v, h.f.b.setCell (p := ⟨bo, j, none⟩) (show w.heap.size ≤ bo by omega) v⟩, h.o.setCell j hj v, hg⟩
theorem Fo.new (h : Fr w m p cs imz W) (os : List Value) (t : TypeId) : Fo w (W.alloc (.cells os.toArray t)) m p cs W.heap.size os := ⟨h.below (below_al1 W _), Bx.new W os t, h.sz⟩
end
set_option maxRecDepth 100000 in
set_option maxHeartbeats 16000000 in
theorem rregister_any {ok : Nat → Prop} (m : Im) (p : Ip) (r : Rc) (v : Value) (w : World) (n0 : Nat → Prop) (hn0 : ∀ g, n0 g → g < w.heap.size) (hv : ∀ W, (∀ g, n0 g → W.heap[g]? = w.heap[g]?) → ImR W m p) (hw : Wf m 100000) (hr : IsR ok w v r) : Calls Tryz.prog 26 #[imv m p, v] w fun e w' => StD n0 w w' (regB m r).1 (regB m r).2 e := by
 obtain ⟨a14, a15, a16, a17, c14, c15, c16, c17, rfl, hrw⟩ := hr
 have HVV := hide (fun (W W3 : World) (hb : Below w.heap.size w W3) (hW : Agr n0 w.heap.size W3 W) => hv W (fun g hg => (hW g (.inl hg)).trans (hb.block g (hn0 g hg))))
 replace hv : ImR w m p := hv w (fun _ _ => rfl)
 have HV := hide (fun W (h : Below w.heap.size w W) => hv.below h)
 have HB := hide (fun W (h : Below w.heap.size w W) => rbroker_any m p r.br W (hv.below h) hw.nb)
 have HPU := hide (fun W (h : Below w.heap.size w W) => rputb_any m.br _ (⟨r.br, r.ep, r.rk, true, false⟩ : Bk) W (hv.below h).b hw.nb hw.b)
 have HLD := hide (fun W (h : Below w.heap.size w W) => rleads_any m p r.br W (hv.below h) hw)
 obtain ⟨L, hL⟩ : ∃ L, L = putB m.br (⟨r.br, r.ep, r.rk, true, false⟩ : Bk) := ⟨_, rfl⟩
 have HBR : Hid (putB m.br (⟨r.br, r.ep, r.rk, true, false⟩ : Bk) = L) := hide hL.symm
 cases hf : fB m.br r.br with
 | none =>
  have HRE : Hid (regB m r = ({ m with br := L }, 0)) := hide (by unfold regB; rw [hf, hL])
  rw [HRE.out]
  rw [hf] at HB
  unfold brV at HB
  clear hf hL HLD
  unfold imv at HB
  unfold bkc at HPU
  have HFR0 := frW_fr w m p r a14 a15 a16 a17 c14 c15 c16 c17
  clear hv hw hrw hn0
  unfold imv
  unfold cellsR
  go_enter Tryz.func26, Tryz.ntmps26
  go_upto_region 1 with fail
  rw [frW_eq]
  generalize frW w m p r a14 a15 a16 a17 c14 c15 c16 c17 = X at HFR0 ⊢
  have HFR := hide HFR0
  clear HFR0
  obtain ⟨i0, i1, i2, i3, i4⟩ := HFR.out.i.im; have r1 := HFR.out.r.at 1 _ rfl; have r2 := HFR.out.r.at 2 _ rfl; have r13 := HFR.out.r.at 13 _ rfl
  go_upto_region 2 with (first | (refine wpList_load_mid rfl _ _ rfl _ _ rfl _ _ HFR.out.i.c Tryz.underlying30 rfl (by kernel_rfl) ?_) | (go_at_call 64; refine (HB.out _ HFR.out.b).mono ?_; rintro e wx ⟨rfl, hbx⟩; replace HFR := hide (HFR.out.below hbx); clear i0 i1 i2 i3 i4 r1 r2 r13; clear hbx HB))
  have HBK := hide (Bx.new wx [.int .i64 0, .int .i64 0, .string ⟨#[]⟩, .bool false, .bool false] 54)
  replace HFR := hide (HFR.out.below (below_al1 wx (.cells (List.toArray [Value.int .i64 0, .int .i64 0, .string ⟨#[]⟩, .bool false, .bool false]) 54)))
  generalize wx.alloc (.cells (List.toArray [Value.int .i64 0, .int .i64 0, .string ⟨#[]⟩, .bool false, .bool false]) 54) = X2 at HFR HBK ⊢
  generalize wx.heap.size = bk at HBK ⊢
  obtain ⟨i0, i1, i2, i3, i4⟩ := HFR.out.i.im; have r1 := HFR.out.r.at 1 _ rfl; have r2 := HFR.out.r.at 2 _ rfl; have r13 := HFR.out.r.at 13 _ rfl
  have HIU : Hid (X2.rangeAt w.heap.size 0 [Value.slice p.ab m.br.length p.cb, .slice p.aq p.ts.length p.cq, .slice p.ac m.cf.length p.cc, .slice p.ad m.dn.length p.cd, .int .i64 m.la]) := hide HFR.out.i.c
  go_upto_region 7 with (first | (refine wpList_load_mid rfl _ _ rfl _ _ rfl _ _ HIU.out Tryz.underlying30 rfl (by kernel_rfl) ?_))
  clear HIU
  have HFZ := hide (Fo.new HFR.out [Value.slice p.ab m.br.length p.cb, .slice p.aq p.ts.length p.cq, .slice p.ac m.cf.length p.cc, .slice p.ad m.dn.length p.cd, .int .i64 m.la] 30)
  generalize X2.alloc (.cells (List.toArray [Value.slice p.ab m.br.length p.cb, .slice p.aq p.ts.length p.cq, .slice p.ac m.cf.length p.cc, .slice p.ad m.dn.length p.cd, .int .i64 m.la]) 30) = Y at HFZ ⊢
  clear i0 i1 i2 i3 i4 r1 r2 r13
  obtain ⟨bo, hbo⟩ : ∃ bo, bo = X2.heap.size := ⟨_, rfl⟩
  rw [← hbo] at HFZ ⊢
  clear hbo
  have i0 := HFZ.out.f.i.at 0 _ rfl
  have r1 := HFZ.out.f.r.at 1 _ rfl
  have r2 := HFZ.out.f.r.at 2 _ rfl
  have r13 := HFZ.out.f.r.at 13 _ rfl
  have HYB : Hid (bo < Y.heap.size) := hide HFZ.out.o.l
  go_upto_region 8 with (first | (go_at_call 66; refine (HPU.out _ HFZ.out.f.b).mono ?_; rintro e w7 ⟨v', rfl, hro, hb7⟩; rw [HBR.out] at hro; obtain ⟨av, cv, rfl⟩ := hro.form; have HRO := hide hro; have HFY := hide (HFZ.out.below hb7); have HSZ := hide hb7.size; clear hro hb7 HPU; (try (clear i0 r1 r2 r13)); have o0 := HFY.out.o.at 0 _ rfl; have f0 := HFY.out.o.f 0 (by simp)))
  have HFW := hide (HFY.out.set 0 (by simp) (.slice av L.length cv))
  have HG : Hid (∀ g, Y.heap.size ≤ g → (w7.setCell ⟨bo, 0, none⟩ (.slice av L.length cv)).heap[g]? = w7.heap[g]?) := hide (fun g hg => Below.heap_setCell _ _ _ _ (show ¬ g = bo by have := HYB.out; omega))
  clear o0 f0 HFY HFZ
  simp only [List.set] at HFW
  generalize w7.setCell ⟨bo, 0, none⟩ (.slice av L.length cv) = Z at HFW HG ⊢
  go_wp2_with (first | (refine wpList_load_mid rfl _ _ rfl _ _ rfl _ _ HFW.out.o.c Tryz.underlying30 rfl (by kernel_rfl) ?_) | (refine wpList_set rfl _ _ _ rfl _ _ rfl HFW.out.f.z (iml { m with br := L } { p with ab := av, cb := cv }) rfl rfl (by kernel_rfl) rfl ?_; intro W3 hz hk hb hp; have HZ := hide hz; have HBB := hide (hb _ _ (show w.heap.size ≤ w.heap.size + 1 + 1 by omega) HFW.out.f.b); have HRS := hide (fun W (hW : Agr n0 w.heap.size W3 W) => (HRO.out.keepG (fun g hg => (hW g (.inr (by have := HYB.out; have := HFW.out.ge; omega))).trans ((hp g (by have := HYB.out; have := HFW.out.ge; omega)).trans (HG.out g hg)))).rs); clear hz hk hb hp))
  obtain ⟨q0, q1, q2, q3, q4⟩ := HZ.out.im
  exact bodyPost_ret (v := .tuple #[.agg (iml { m with br := L } { p with ab := av, cb := cv }).toArray, .int .i64 0]) (by simp [results, Tryz.results26, go_sem, q0, q1, q2, q3, q4, iml]) rfl ⟨_, rfl, (fun W hW => ⟨HRS.out W hW, (HVV.out W _ HBB.out hW).t, (HVV.out W _ HBB.out hW).q, (HVV.out W _ HBB.out hW).e, (HVV.out W _ HBB.out hW).c, (HVV.out W _ HBB.out hW).d⟩), HBB.out⟩
 | some b =>
  rw [hf] at HB
  unfold brV at HB
  by_cases h1 : r.ep ≤ b.ep
  ·have HRE : Hid (regB m r = (m, 11)) := hide (by unfold regB; rw [hf]; simp only; rw [if_pos h1])
   rw [HRE.out]
   clear hf hL HLD HPU HBR
   unfold imv at HB
   have HFR0 := frW_fr w m p r a14 a15 a16 a17 c14 c15 c16 c17
   clear hv hw hrw hn0
   unfold imv
   unfold cellsR
   go_enter Tryz.func26, Tryz.ntmps26
   go_upto_region 1 with fail
   rw [frW_eq]
   generalize frW w m p r a14 a15 a16 a17 c14 c15 c16 c17 = X at HFR0 ⊢
   have HFR := hide HFR0
   clear HFR0
   obtain ⟨i0, i1, i2, i3, i4⟩ := HFR.out.i.im; have r1 := HFR.out.r.at 1 _ rfl; have r2 := HFR.out.r.at 2 _ rfl; have r13 := HFR.out.r.at 13 _ rfl
   go_upto_region 2 with (first | (refine wpList_load_mid rfl _ _ rfl _ _ rfl _ _ HFR.out.i.c Tryz.underlying30 rfl (by kernel_rfl) ?_) | (go_at_call 64; refine (HB.out _ HFR.out.b).mono ?_; rintro e wx ⟨rfl, hbx⟩; replace HFR := hide (HFR.out.below hbx); clear i0 i1 i2 i3 i4 r1 r2 r13; clear hbx HB))
   have HBK := hide (Bx.new wx [.int .i64 b.id, .int .i64 b.ep, .string ⟨b.rk.toArray⟩, .bool b.fe, .bool b.lv] 54)
   replace HFR := hide (HFR.out.below (below_al1 wx (.cells (List.toArray [Value.int .i64 b.id, .int .i64 b.ep, .string ⟨b.rk.toArray⟩, .bool b.fe, .bool b.lv]) 54)))
   generalize wx.alloc (.cells (List.toArray [Value.int .i64 b.id, .int .i64 b.ep, .string ⟨b.rk.toArray⟩, .bool b.fe, .bool b.lv]) 54) = X2 at HFR HBK ⊢
   generalize wx.heap.size = bk at HBK ⊢
   obtain ⟨i0, i1, i2, i3, i4⟩ := HFR.out.i.im; have r1 := HFR.out.r.at 1 _ rfl; have r2 := HFR.out.r.at 2 _ rfl; have r13 := HFR.out.r.at 13 _ rfl
   have k1 := HBK.out.at 1 _ rfl
   go_wp2_with (first | (refine wpList_load_mid rfl _ _ rfl _ _ rfl _ _ HFR.out.i.c Tryz.underlying30 rfl (by kernel_rfl) ?_) | (refine wpList_set rfl _ _ _ rfl _ _ rfl HFR.out.z (iml m p) rfl rfl (by kernel_rfl) rfl ?_; intro W3 hz hk hb hp; have HFO := hide (HFR.out.out hz hk hb); clear hz hk hb hp))
   obtain ⟨q0, q1, q2, q3, q4⟩ := HFO.out.z.im
   exact bodyPost_ret (v := .tuple #[.agg (iml m p).toArray, .int .i64 11]) (by simp [results, Tryz.results26, go_sem, q0, q1, q2, q3, q4, iml]) rfl (std_ret HFO.out (fun W hW => HVV.out W _ HFO.out.b hW))
  ·cases hld : leads m.ts r.br with
   | true =>
    have HRE : Hid (regB m r = (m, 10)) := hide (by unfold regB; rw [hf]; simp only; rw [if_neg h1, if_pos hld])
    rw [HRE.out]
    rw [hld] at HLD
    clear hf hL HPU HBR hld
    unfold imv at HB HLD
    have HFR0 := frW_fr w m p r a14 a15 a16 a17 c14 c15 c16 c17
    clear hv hw hrw hn0
    unfold imv
    unfold cellsR
    go_enter Tryz.func26, Tryz.ntmps26
    go_upto_region 1 with fail
    rw [frW_eq]
    generalize frW w m p r a14 a15 a16 a17 c14 c15 c16 c17 = X at HFR0 ⊢
    have HFR := hide HFR0
    clear HFR0
    obtain ⟨i0, i1, i2, i3, i4⟩ := HFR.out.i.im; have r1 := HFR.out.r.at 1 _ rfl; have r2 := HFR.out.r.at 2 _ rfl; have r13 := HFR.out.r.at 13 _ rfl
    go_upto_region 2 with (first | (refine wpList_load_mid rfl _ _ rfl _ _ rfl _ _ HFR.out.i.c Tryz.underlying30 rfl (by kernel_rfl) ?_) | (go_at_call 64; refine (HB.out _ HFR.out.b).mono ?_; rintro e wx ⟨rfl, hbx⟩; replace HFR := hide (HFR.out.below hbx); clear i0 i1 i2 i3 i4 r1 r2 r13; clear hbx HB))
    have HBK := hide (Bx.new wx [.int .i64 b.id, .int .i64 b.ep, .string ⟨b.rk.toArray⟩, .bool b.fe, .bool b.lv] 54)
    replace HFR := hide (HFR.out.below (below_al1 wx (.cells (List.toArray [Value.int .i64 b.id, .int .i64 b.ep, .string ⟨b.rk.toArray⟩, .bool b.fe, .bool b.lv]) 54)))
    generalize wx.alloc (.cells (List.toArray [Value.int .i64 b.id, .int .i64 b.ep, .string ⟨b.rk.toArray⟩, .bool b.fe, .bool b.lv]) 54) = X2 at HFR HBK ⊢
    generalize wx.heap.size = bk at HBK ⊢
    obtain ⟨i0, i1, i2, i3, i4⟩ := HFR.out.i.im; have r1 := HFR.out.r.at 1 _ rfl; have r2 := HFR.out.r.at 2 _ rfl; have r13 := HFR.out.r.at 13 _ rfl
    have k1 := HBK.out.at 1 _ rfl
    go_upto_region 5 with (first | (go_at_call 65; refine (HLD.out _ HFR.out.b).mono ?_; rintro e wl ⟨rfl, hbl⟩; replace HFR := hide (HFR.out.below hbl); clear i0 i1 i2 i3 i4 r1 r2 r13; clear hbl HLD; obtain ⟨i0, i1, i2, i3, i4⟩ := HFR.out.i.im; have r1 := HFR.out.r.at 1 _ rfl; have r2 := HFR.out.r.at 2 _ rfl; have r13 := HFR.out.r.at 13 _ rfl))
    go_wp2_with (first | (refine wpList_load_mid rfl _ _ rfl _ _ rfl _ _ HFR.out.i.c Tryz.underlying30 rfl (by kernel_rfl) ?_) | (refine wpList_set rfl _ _ _ rfl _ _ rfl HFR.out.z (iml m p) rfl rfl (by kernel_rfl) rfl ?_; intro W3 hz hk hb hp; have HFO := hide (HFR.out.out hz hk hb); clear hz hk hb hp))
    obtain ⟨q0, q1, q2, q3, q4⟩ := HFO.out.z.im
    exact bodyPost_ret (v := .tuple #[.agg (iml m p).toArray, .int .i64 10]) (by simp [results, Tryz.results26, go_sem, q0, q1, q2, q3, q4, iml]) rfl (std_ret HFO.out (fun W hW => HVV.out W _ HFO.out.b hW))
   | false =>
    have HRE : Hid (regB m r = ({ m with br := L }, 0)) := hide (by unfold regB; rw [hf]; simp only; rw [if_neg h1, if_neg (by simp [hld]), hL])
    rw [HRE.out]
    rw [hld] at HLD
    clear hf hL hld
    unfold imv at HB HLD
    unfold bkc at HPU
    have HFR0 := frW_fr w m p r a14 a15 a16 a17 c14 c15 c16 c17
    clear hv hw hrw hn0
    unfold imv
    unfold cellsR
    go_enter Tryz.func26, Tryz.ntmps26
    go_upto_region 1 with fail
    rw [frW_eq]
    generalize frW w m p r a14 a15 a16 a17 c14 c15 c16 c17 = X at HFR0 ⊢
    have HFR := hide HFR0
    clear HFR0
    obtain ⟨i0, i1, i2, i3, i4⟩ := HFR.out.i.im; have r1 := HFR.out.r.at 1 _ rfl; have r2 := HFR.out.r.at 2 _ rfl; have r13 := HFR.out.r.at 13 _ rfl
    go_upto_region 2 with (first | (refine wpList_load_mid rfl _ _ rfl _ _ rfl _ _ HFR.out.i.c Tryz.underlying30 rfl (by kernel_rfl) ?_) | (go_at_call 64; refine (HB.out _ HFR.out.b).mono ?_; rintro e wx ⟨rfl, hbx⟩; replace HFR := hide (HFR.out.below hbx); clear i0 i1 i2 i3 i4 r1 r2 r13; clear hbx HB))
    have HBK := hide (Bx.new wx [.int .i64 b.id, .int .i64 b.ep, .string ⟨b.rk.toArray⟩, .bool b.fe, .bool b.lv] 54)
    replace HFR := hide (HFR.out.below (below_al1 wx (.cells (List.toArray [Value.int .i64 b.id, .int .i64 b.ep, .string ⟨b.rk.toArray⟩, .bool b.fe, .bool b.lv]) 54)))
    generalize wx.alloc (.cells (List.toArray [Value.int .i64 b.id, .int .i64 b.ep, .string ⟨b.rk.toArray⟩, .bool b.fe, .bool b.lv]) 54) = X2 at HFR HBK ⊢
    generalize wx.heap.size = bk at HBK ⊢
    obtain ⟨i0, i1, i2, i3, i4⟩ := HFR.out.i.im; have r1 := HFR.out.r.at 1 _ rfl; have r2 := HFR.out.r.at 2 _ rfl; have r13 := HFR.out.r.at 13 _ rfl
    have k1 := HBK.out.at 1 _ rfl
    go_upto_region 6 with (first | (go_at_call 65; refine (HLD.out _ HFR.out.b).mono ?_; rintro e wl ⟨rfl, hbl⟩; replace HFR := hide (HFR.out.below hbl); clear i0 i1 i2 i3 i4 r1 r2 r13; clear hbl HLD; obtain ⟨i0, i1, i2, i3, i4⟩ := HFR.out.i.im; have r1 := HFR.out.r.at 1 _ rfl; have r2 := HFR.out.r.at 2 _ rfl; have r13 := HFR.out.r.at 13 _ rfl))
    clear k1
    have HIU : Hid (wl.rangeAt w.heap.size 0 [Value.slice p.ab m.br.length p.cb, .slice p.aq p.ts.length p.cq, .slice p.ac m.cf.length p.cc, .slice p.ad m.dn.length p.cd, .int .i64 m.la]) := hide HFR.out.i.c
    go_upto_region 7 with (first | (refine wpList_load_mid rfl _ _ rfl _ _ rfl _ _ HIU.out Tryz.underlying30 rfl (by kernel_rfl) ?_))
    clear HIU
    have HFZ := hide (Fo.new HFR.out [Value.slice p.ab m.br.length p.cb, .slice p.aq p.ts.length p.cq, .slice p.ac m.cf.length p.cc, .slice p.ad m.dn.length p.cd, .int .i64 m.la] 30)
    generalize wl.alloc (.cells (List.toArray [Value.slice p.ab m.br.length p.cb, .slice p.aq p.ts.length p.cq, .slice p.ac m.cf.length p.cc, .slice p.ad m.dn.length p.cd, .int .i64 m.la]) 30) = Y at HFZ ⊢
    clear i0 i1 i2 i3 i4 r1 r2 r13
    obtain ⟨bo, hbo⟩ : ∃ bo, bo = wl.heap.size := ⟨_, rfl⟩
    rw [← hbo] at HFZ ⊢
    clear hbo
    have i0 := HFZ.out.f.i.at 0 _ rfl
    have r1 := HFZ.out.f.r.at 1 _ rfl
    have r2 := HFZ.out.f.r.at 2 _ rfl
    have r13 := HFZ.out.f.r.at 13 _ rfl
    have HYB : Hid (bo < Y.heap.size) := hide HFZ.out.o.l
    go_upto_region 8 with (first | (go_at_call 66; refine (HPU.out _ HFZ.out.f.b).mono ?_; rintro e w7 ⟨v', rfl, hro, hb7⟩; rw [HBR.out] at hro; obtain ⟨av, cv, rfl⟩ := hro.form; have HRO := hide hro; have HFY := hide (HFZ.out.below hb7); have HSZ := hide hb7.size; clear hro hb7 HPU; (try (clear i0 r1 r2 r13)); have o0 := HFY.out.o.at 0 _ rfl; have f0 := HFY.out.o.f 0 (by simp)))
    have HFW := hide (HFY.out.set 0 (by simp) (.slice av L.length cv))
    have HG : Hid (∀ g, Y.heap.size ≤ g → (w7.setCell ⟨bo, 0, none⟩ (.slice av L.length cv)).heap[g]? = w7.heap[g]?) := hide (fun g hg => Below.heap_setCell _ _ _ _ (show ¬ g = bo by have := HYB.out; omega))
    clear o0 f0 HFY HFZ
    simp only [List.set] at HFW
    generalize w7.setCell ⟨bo, 0, none⟩ (.slice av L.length cv) = Z at HFW HG ⊢
    go_wp2_with (first | (refine wpList_load_mid rfl _ _ rfl _ _ rfl _ _ HFW.out.o.c Tryz.underlying30 rfl (by kernel_rfl) ?_) | (refine wpList_set rfl _ _ _ rfl _ _ rfl HFW.out.f.z (iml { m with br := L } { p with ab := av, cb := cv }) rfl rfl (by kernel_rfl) rfl ?_; intro W3 hz hk hb hp; have HZ := hide hz; have HBB := hide (hb _ _ (show w.heap.size ≤ w.heap.size + 1 + 1 by omega) HFW.out.f.b); have HRS := hide (fun W (hW : Agr n0 w.heap.size W3 W) => (HRO.out.keepG (fun g hg => (hW g (.inr (by have := HYB.out; have := HFW.out.ge; omega))).trans ((hp g (by have := HYB.out; have := HFW.out.ge; omega)).trans (HG.out g hg)))).rs); clear hz hk hb hp))
    obtain ⟨q0, q1, q2, q3, q4⟩ := HZ.out.im
    exact bodyPost_ret (v := .tuple #[.agg (iml { m with br := L } { p with ab := av, cb := cv }).toArray, .int .i64 0]) (by simp [results, Tryz.results26, go_sem, q0, q1, q2, q3, q4, iml]) rfl ⟨_, rfl, (fun W hW => ⟨HRS.out W hW, (HVV.out W _ HBB.out hW).t, (HVV.out W _ HBB.out hW).q, (HVV.out W _ HBB.out hW).e, (HVV.out W _ HBB.out hW).c, (HVV.out W _ HBB.out hW).d⟩), HBB.out⟩
end Go.Proofs.YtlggjgapdpkhiaaGreatDoor
