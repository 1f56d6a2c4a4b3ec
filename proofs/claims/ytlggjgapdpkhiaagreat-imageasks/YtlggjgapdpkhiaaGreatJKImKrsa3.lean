/-
  A PARTITION IS MADE, OR ANOTHER ONE (image.replicate).
  AN IMAGE BEHIND A RECORD THAT MAY BE (image.step).
  AN IMAGE BEHIND A RECORD (image.Apply).
-/
import Derived.Test.YtlggjgapdpkhiaaGreatJKImKre
import Derived.Test.YtlggjgapdpkhiaaGreatJKImKrn
import Derived.Test.YtlggjgapdpkhiaaGreatJKImKro
import Derived.Test.YtlggjgapdpkhiaaGreatJKImDgTa5
import Derived.Test.YtlggjgapdpkhiaaGreatJKImQza5
import Derived.Test.YtlggjgapdpkhiaaGreatJKImKga5
import Derived.Test.YtlggjgapdpkhiaaGreatJKImKt
import Derived.Test.YtlggjgapdpkhiaaGreatJKImIa4
import Derived.Test.YtlggjgapdpkhiaaGreatJKRecChc
namespace Go.Proofs.YtlggjgapdpkhiaaGreat
open Go.RowKit
set_option maxRecDepth 100000 in
set_option maxHeartbeats 16000000 in
theorem replicate_any {ok : Nat → Prop} (m : Im) (p : Ip) (r : Rc) (v : Value) (w : World) (n0 : Nat → Prop) (hn0 : ∀ g, n0 g → g < w.heap.size) (hv : ∀ W, (∀ g, n0 g → W.heap[g]? = w.heap[g]?) → ImR W m p) (hw : Wf m 100000) (hr : IsR ok w v r) (hk : r.k = 8 ∨ r.k = 9) (hok : WfP (ptOf r)) (h0 : 0 ≤ r.pa) : Calls Tryz.prog 96 #[imv m p, v] w fun e w' => StP n0 w w' (repP m r).1 (repP m r).2 e := by
 by_cases hS : (repP m r).2 = 0
 ·rcases hk with hk | hk
  ·exact replicate_new m p r v w n0 hn0 hv hw hr hk hok h0 hS
  ·exact replicate_old m p r v w n0 hn0 hv hw hr hk hok h0 hS
 ·exact replicate_err m p r v w n0 hn0 hv hw hr hk hok h0 hS
end Go.Proofs.YtlggjgapdpkhiaaGreat
namespace Go.Proofs.YtlggjgapdpkhiaaGreat
open Go.RowKit
set_option maxRecDepth 100000 in
set_option maxHeartbeats 16000000 in
theorem step_any {ok : Nat → Prop} (m : Im) (p : Ip) (r : Rc) (v : Value) (w : World) (n0 : Nat → Prop) (hn0 : ∀ g, n0 g → g < w.heap.size) (hv : ∀ W, (∀ g, n0 g → W.heap[g]? = w.heap[g]?) → ImR W m p) (hw : Wf m 100000) (hr : IsR ok w v r) (hc : RcIs r) : Calls Tryz.prog 61 #[imv m p, v] w fun e w' => StP n0 w w' (stepI m r).1 (stepI m r).2 e := by
 obtain ⟨a14, a15, a16, a17, c14, c15, c16, c17, rfl, hrw⟩ := hr
 have Hv := Hd (fun (W W3 : World) (hb : Below w.heap.size w W3) (hW : Agr n0 w.heap.size W3 W) => hv W (fun g hg => (hW g (.inl hg)).trans (hb.block g (hn0 g hg))))
 have hv0 := hv
 replace hv : ImR w m p := hv w (fun _ _ => rfl)
 have HV := Hd (fun W (h : Below w.heap.size w W) => hv.below h)
 obtain ⟨hpt, hpa⟩ := rcis_pt hc
 have HN0 := Hd hn0
 have HVL := Hd (fun W (h : Below w.heap.size w W) => (fun W' (hg : ∀ g, n0 g → W'.heap[g]? = W.heap[g]?) => hv0 W' (fun g hlt => (hg g hlt).trans (h.block g (hn0 g hlt)))))
 have HR := Hd (fun W (h : Below w.heap.size w W) => (⟨a14, a15, a16, a17, c14, c15, c16, c17, rfl, hrw.below h⟩ : IsR ok W (.agg (cR r a14 a15 a16 a17 c14 c15 c16 c17).toArray) r))
 have hkk : r.k = 1 ∨ r.k = 2 ∨ r.k = 3 ∨ r.k = 4 ∨ r.k = 5 ∨ r.k = 6 ∨ r.k = 7 ∨ r.k = 8 ∨ r.k = 9 ∨ r.k = 10 ∨ r.k = 11 ∨ r.k = 12 := by have := hc.k1; have := hc.k2; omega
 rcases hkk with hk0 | hk0 | hk0 | hk0 | hk0 | hk0 | hk0 | hk0 | hk0 | hk0 | hk0 | hk0
 ·have Hr : Hid (stepI m r = (m, 0)) := Hd (by unfold stepI; rw [hk0]; rfl)
  rw [Hr.out]
  have HK : Hid (r.k = 1) := Hd hk0
  clear hk0 Hr
  as_aux_lemma =>
   have HFR0 := fF w m p r a14 a15 a16 a17 c14 c15 c16 c17
   clear hv hw hrw hc hpt hpa HR hn0 HVL hv0
   unfold imv
   unfold cR
   go_enter Tryz.func61, Tryz.ntmps61
   go_upto_region 1 with fail
   rw [fE]
   generalize frW w m p r a14 a15 a16 a17 c14 c15 c16 c17 = X at HFR0 ⊢
   have Hf := Hd HFR0
   clear HFR0
   obtain ⟨i0, i1, i2, i3, i4⟩ := Hf.out.i.im; have r0 := Hf.out.r.at 0 _ rfl
   rw [HK.out] at r0
   go_wp2_with (first | (refine wpList_load_mid rfl _ _ rfl _ _ rfl _ _ Hf.out.i.c Tryz.underlying30 rfl (by kernel_rfl) ?_) | (refine wS rfl _ _ _ rfl _ _ rfl Hf.out.z (iml m p) rfl rfl (by kernel_rfl) rfl ?_; intro W3 hz hk hb hp; have Ho := Hd (Hf.out.out hz hk hb); clear hz hk hb hp))
   obtain ⟨q0, q1, q2, q3, q4⟩ := Ho.out.z.im
   exact bodyPost_ret (v := .tuple #[.agg (iml m p).toArray, .nilIface]) (by simp [results, Tryz.results61, go_sem, q0, q1, q2, q3, q4, iml]) rfl (st_ret Ho.out (fun W hW => Hv.out W _ Ho.out.b hW) erc_nil)
 ·have Hr : Hid (stepI m r = regB m r) := Hd (by unfold stepI; rw [hk0]; rfl)
  rw [Hr.out]
  have HC := Hd (fun W (h : Below w.heap.size w W) => register_any m p r _ W n0 (fun g hg => Nat.lt_of_lt_of_le (hn0 g hg) h.size) (HVL.out W h) hw (HR.out W h))
  have HK : Hid (r.k = 2) := Hd hk0
  clear hk0 Hr
  as_aux_lemma =>
   have HFR0 := fF w m p r a14 a15 a16 a17 c14 c15 c16 c17
   clear hv hw hrw hc hpt hpa HR hn0 HVL hv0
   unfold imv
   unfold cR
   go_enter Tryz.func61, Tryz.ntmps61
   go_upto_region 1 with fail
   rw [fE]
   generalize frW w m p r a14 a15 a16 a17 c14 c15 c16 c17 = X at HFR0 ⊢
   have Hf := Hd HFR0
   clear HFR0
   obtain ⟨i0, i1, i2, i3, i4⟩ := Hf.out.i.im; have r0 := Hf.out.r.at 0 _ rfl
   rw [HK.out] at r0
   go_wp2_with (first | (refine wpList_load_mid rfl _ _ rfl _ _ rfl _ _ Hf.out.i.c Tryz.underlying30 rfl (by kernel_rfl) ?_) | (refine wpList_load_mid rfl _ _ rfl _ _ rfl _ _ Hf.out.r.c Tryz.underlying65 rfl (by kernel_rfl) ?_) | (go_at_call 93; refine (HC.out _ Hf.out.b).mono ?_; rintro e wx ⟨p', E, rfl, him, hE, hbx⟩; have HIM := Hd him; have HEE := Hd hE; have HSX := Hd Hf.out.sz; replace Hf := Hd (Hf.out.below hbx); clear i0 i1 i2 i3 i4 r0; clear hbx HC him hE; unfold imv; dsimp only) | (refine wS rfl _ _ _ rfl _ _ rfl Hf.out.z (iml (regB m r).1 p') rfl rfl (by kernel_rfl) rfl ?_; intro W3 hz hk hb hp; have Hb := Hd (hb _ _ (show w.heap.size ≤ w.heap.size + 1 + 1 by omega) Hf.out.b); have HZ := Hd hz; have HPP := Hd hp; clear hz hk hb hp))
   obtain ⟨q0, q1, q2, q3, q4⟩ := HZ.out.im
   have HIF : Hid (∀ W, Agr n0 w.heap.size W3 W → ImR W (regB m r).1 p') := Hd (fun W hW => HIM.out W (fun g hg => by
    rcases hg with hg | hg
    ·exact (hW g (.inl hg)).trans (HPP.out g (by have := HN0.out g hg; omega))
    ·exact (hW g (.inr (by have := HSX.out; omega))).trans (HPP.out g (by have := HSX.out; omega))))
   exact bodyPost_ret (v := .tuple #[.agg (iml (regB m r).1 p').toArray, E]) (by simp [results, Tryz.results61, go_sem, q0, q1, q2, q3, q4, iml]) rfl ⟨p', E, rfl, HIF.out, HEE.out, Hb.out⟩
 ·have Hr : Hid (stepI m r = turB m r) := Hd (by unfold stepI; rw [hk0]; rfl)
  rw [Hr.out]
  have HC := Hd (fun W (h : Below w.heap.size w W) => turn_any m p r _ W n0 (fun g hg => Nat.lt_of_lt_of_le (hn0 g hg) h.size) (HVL.out W h) hw (HR.out W h) (by omega))
  have HK : Hid (r.k = 3) := Hd hk0
  clear hk0 Hr
  as_aux_lemma =>
   have HFR0 := fF w m p r a14 a15 a16 a17 c14 c15 c16 c17
   clear hv hw hrw hc hpt hpa HR hn0 HVL hv0
   unfold imv
   unfold cR
   go_enter Tryz.func61, Tryz.ntmps61
   go_upto_region 1 with fail
   rw [fE]
   generalize frW w m p r a14 a15 a16 a17 c14 c15 c16 c17 = X at HFR0 ⊢
   have Hf := Hd HFR0
   clear HFR0
   obtain ⟨i0, i1, i2, i3, i4⟩ := Hf.out.i.im; have r0 := Hf.out.r.at 0 _ rfl
   rw [HK.out] at r0
   go_wp2_with (first | (refine wpList_load_mid rfl _ _ rfl _ _ rfl _ _ Hf.out.i.c Tryz.underlying30 rfl (by kernel_rfl) ?_) | (refine wpList_load_mid rfl _ _ rfl _ _ rfl _ _ Hf.out.r.c Tryz.underlying65 rfl (by kernel_rfl) ?_) | (go_at_call 94; refine (HC.out _ Hf.out.b).mono ?_; rintro e wx ⟨p', E, rfl, him, hE, hbx⟩; have HIM := Hd him; have HEE := Hd hE; have HSX := Hd Hf.out.sz; replace Hf := Hd (Hf.out.below hbx); clear i0 i1 i2 i3 i4 r0; clear hbx HC him hE; unfold imv; dsimp only) | (refine wS rfl _ _ _ rfl _ _ rfl Hf.out.z (iml (turB m r).1 p') rfl rfl (by kernel_rfl) rfl ?_; intro W3 hz hk hb hp; have Hb := Hd (hb _ _ (show w.heap.size ≤ w.heap.size + 1 + 1 by omega) Hf.out.b); have HZ := Hd hz; have HPP := Hd hp; clear hz hk hb hp))
   obtain ⟨q0, q1, q2, q3, q4⟩ := HZ.out.im
   have HIF : Hid (∀ W, Agr n0 w.heap.size W3 W → ImR W (turB m r).1 p') := Hd (fun W hW => HIM.out W (fun g hg => by
    rcases hg with hg | hg
    ·exact (hW g (.inl hg)).trans (HPP.out g (by have := HN0.out g hg; omega))
    ·exact (hW g (.inr (by have := HSX.out; omega))).trans (HPP.out g (by have := HSX.out; omega))))
   exact bodyPost_ret (v := .tuple #[.agg (iml (turB m r).1 p').toArray, E]) (by simp [results, Tryz.results61, go_sem, q0, q1, q2, q3, q4, iml]) rfl ⟨p', E, rfl, HIF.out, HEE.out, Hb.out⟩
 ·have Hr : Hid (stepI m r = turB m r) := Hd (by unfold stepI; rw [hk0]; rfl)
  rw [Hr.out]
  have HC := Hd (fun W (h : Below w.heap.size w W) => turn_any m p r _ W n0 (fun g hg => Nat.lt_of_lt_of_le (hn0 g hg) h.size) (HVL.out W h) hw (HR.out W h) (by omega))
  have HK : Hid (r.k = 4) := Hd hk0
  clear hk0 Hr
  as_aux_lemma =>
   have HFR0 := fF w m p r a14 a15 a16 a17 c14 c15 c16 c17
   clear hv hw hrw hc hpt hpa HR hn0 HVL hv0
   unfold imv
   unfold cR
   go_enter Tryz.func61, Tryz.ntmps61
   go_upto_region 1 with fail
   rw [fE]
   generalize frW w m p r a14 a15 a16 a17 c14 c15 c16 c17 = X at HFR0 ⊢
   have Hf := Hd HFR0
   clear HFR0
   obtain ⟨i0, i1, i2, i3, i4⟩ := Hf.out.i.im; have r0 := Hf.out.r.at 0 _ rfl
   rw [HK.out] at r0
   go_wp2_with (first | (refine wpList_load_mid rfl _ _ rfl _ _ rfl _ _ Hf.out.i.c Tryz.underlying30 rfl (by kernel_rfl) ?_) | (refine wpList_load_mid rfl _ _ rfl _ _ rfl _ _ Hf.out.r.c Tryz.underlying65 rfl (by kernel_rfl) ?_) | (go_at_call 94; refine (HC.out _ Hf.out.b).mono ?_; rintro e wx ⟨p', E, rfl, him, hE, hbx⟩; have HIM := Hd him; have HEE := Hd hE; have HSX := Hd Hf.out.sz; replace Hf := Hd (Hf.out.below hbx); clear i0 i1 i2 i3 i4 r0; clear hbx HC him hE; unfold imv; dsimp only) | (refine wS rfl _ _ _ rfl _ _ rfl Hf.out.z (iml (turB m r).1 p') rfl rfl (by kernel_rfl) rfl ?_; intro W3 hz hk hb hp; have Hb := Hd (hb _ _ (show w.heap.size ≤ w.heap.size + 1 + 1 by omega) Hf.out.b); have HZ := Hd hz; have HPP := Hd hp; clear hz hk hb hp))
   obtain ⟨q0, q1, q2, q3, q4⟩ := HZ.out.im
   have HIF : Hid (∀ W, Agr n0 w.heap.size W3 W → ImR W (turB m r).1 p') := Hd (fun W hW => HIM.out W (fun g hg => by
    rcases hg with hg | hg
    ·exact (hW g (.inl hg)).trans (HPP.out g (by have := HN0.out g hg; omega))
    ·exact (hW g (.inr (by have := HSX.out; omega))).trans (HPP.out g (by have := HSX.out; omega))))
   exact bodyPost_ret (v := .tuple #[.agg (iml (turB m r).1 p').toArray, E]) (by simp [results, Tryz.results61, go_sem, q0, q1, q2, q3, q4, iml]) rfl ⟨p', E, rfl, HIF.out, HEE.out, Hb.out⟩
 ·have Hr : Hid (stepI m r = turB m r) := Hd (by unfold stepI; rw [hk0]; rfl)
  rw [Hr.out]
  have HC := Hd (fun W (h : Below w.heap.size w W) => turn_any m p r _ W n0 (fun g hg => Nat.lt_of_lt_of_le (hn0 g hg) h.size) (HVL.out W h) hw (HR.out W h) (by omega))
  have HK : Hid (r.k = 5) := Hd hk0
  clear hk0 Hr
  as_aux_lemma =>
   have HFR0 := fF w m p r a14 a15 a16 a17 c14 c15 c16 c17
   clear hv hw hrw hc hpt hpa HR hn0 HVL hv0
   unfold imv
   unfold cR
   go_enter Tryz.func61, Tryz.ntmps61
   go_upto_region 1 with fail
   rw [fE]
   generalize frW w m p r a14 a15 a16 a17 c14 c15 c16 c17 = X at HFR0 ⊢
   have Hf := Hd HFR0
   clear HFR0
   obtain ⟨i0, i1, i2, i3, i4⟩ := Hf.out.i.im; have r0 := Hf.out.r.at 0 _ rfl
   rw [HK.out] at r0
   go_wp2_with (first | (refine wpList_load_mid rfl _ _ rfl _ _ rfl _ _ Hf.out.i.c Tryz.underlying30 rfl (by kernel_rfl) ?_) | (refine wpList_load_mid rfl _ _ rfl _ _ rfl _ _ Hf.out.r.c Tryz.underlying65 rfl (by kernel_rfl) ?_) | (go_at_call 94; refine (HC.out _ Hf.out.b).mono ?_; rintro e wx ⟨p', E, rfl, him, hE, hbx⟩; have HIM := Hd him; have HEE := Hd hE; have HSX := Hd Hf.out.sz; replace Hf := Hd (Hf.out.below hbx); clear i0 i1 i2 i3 i4 r0; clear hbx HC him hE; unfold imv; dsimp only) | (refine wS rfl _ _ _ rfl _ _ rfl Hf.out.z (iml (turB m r).1 p') rfl rfl (by kernel_rfl) rfl ?_; intro W3 hz hk hb hp; have Hb := Hd (hb _ _ (show w.heap.size ≤ w.heap.size + 1 + 1 by omega) Hf.out.b); have HZ := Hd hz; have HPP := Hd hp; clear hz hk hb hp))
   obtain ⟨q0, q1, q2, q3, q4⟩ := HZ.out.im
   have HIF : Hid (∀ W, Agr n0 w.heap.size W3 W → ImR W (turB m r).1 p') := Hd (fun W hW => HIM.out W (fun g hg => by
    rcases hg with hg | hg
    ·exact (hW g (.inl hg)).trans (HPP.out g (by have := HN0.out g hg; omega))
    ·exact (hW g (.inr (by have := HSX.out; omega))).trans (HPP.out g (by have := HSX.out; omega))))
   exact bodyPost_ret (v := .tuple #[.agg (iml (turB m r).1 p').toArray, E]) (by simp [results, Tryz.results61, go_sem, q0, q1, q2, q3, q4, iml]) rfl ⟨p', E, rfl, HIF.out, HEE.out, Hb.out⟩
 ·have Hr : Hid (stepI m r = turB m r) := Hd (by unfold stepI; rw [hk0]; rfl)
  rw [Hr.out]
  have HC := Hd (fun W (h : Below w.heap.size w W) => turn_any m p r _ W n0 (fun g hg => Nat.lt_of_lt_of_le (hn0 g hg) h.size) (HVL.out W h) hw (HR.out W h) (by omega))
  have HK : Hid (r.k = 6) := Hd hk0
  clear hk0 Hr
  as_aux_lemma =>
   have HFR0 := fF w m p r a14 a15 a16 a17 c14 c15 c16 c17
   clear hv hw hrw hc hpt hpa HR hn0 HVL hv0
   unfold imv
   unfold cR
   go_enter Tryz.func61, Tryz.ntmps61
   go_upto_region 1 with fail
   rw [fE]
   generalize frW w m p r a14 a15 a16 a17 c14 c15 c16 c17 = X at HFR0 ⊢
   have Hf := Hd HFR0
   clear HFR0
   obtain ⟨i0, i1, i2, i3, i4⟩ := Hf.out.i.im; have r0 := Hf.out.r.at 0 _ rfl
   rw [HK.out] at r0
   go_wp2_with (first | (refine wpList_load_mid rfl _ _ rfl _ _ rfl _ _ Hf.out.i.c Tryz.underlying30 rfl (by kernel_rfl) ?_) | (refine wpList_load_mid rfl _ _ rfl _ _ rfl _ _ Hf.out.r.c Tryz.underlying65 rfl (by kernel_rfl) ?_) | (go_at_call 94; refine (HC.out _ Hf.out.b).mono ?_; rintro e wx ⟨p', E, rfl, him, hE, hbx⟩; have HIM := Hd him; have HEE := Hd hE; have HSX := Hd Hf.out.sz; replace Hf := Hd (Hf.out.below hbx); clear i0 i1 i2 i3 i4 r0; clear hbx HC him hE; unfold imv; dsimp only) | (refine wS rfl _ _ _ rfl _ _ rfl Hf.out.z (iml (turB m r).1 p') rfl rfl (by kernel_rfl) rfl ?_; intro W3 hz hk hb hp; have Hb := Hd (hb _ _ (show w.heap.size ≤ w.heap.size + 1 + 1 by omega) Hf.out.b); have HZ := Hd hz; have HPP := Hd hp; clear hz hk hb hp))
   obtain ⟨q0, q1, q2, q3, q4⟩ := HZ.out.im
   have HIF : Hid (∀ W, Agr n0 w.heap.size W3 W → ImR W (turB m r).1 p') := Hd (fun W hW => HIM.out W (fun g hg => by
    rcases hg with hg | hg
    ·exact (hW g (.inl hg)).trans (HPP.out g (by have := HN0.out g hg; omega))
    ·exact (hW g (.inr (by have := HSX.out; omega))).trans (HPP.out g (by have := HSX.out; omega))))
   exact bodyPost_ret (v := .tuple #[.agg (iml (turB m r).1 p').toArray, E]) (by simp [results, Tryz.results61, go_sem, q0, q1, q2, q3, q4, iml]) rfl ⟨p', E, rfl, HIF.out, HEE.out, Hb.out⟩
 ·have Hr : Hid (stepI m r = crtT m r) := Hd (by unfold stepI; rw [hk0]; rfl)
  rw [Hr.out]
  have HC := Hd (fun W (h : Below w.heap.size w W) => create_any m p r _ W n0 (fun g hg => Nat.lt_of_lt_of_le (hn0 g hg) h.size) (HVL.out W h) hw (HR.out W h))
  have HK : Hid (r.k = 7) := Hd hk0
  clear hk0 Hr
  as_aux_lemma =>
   have HFR0 := fF w m p r a14 a15 a16 a17 c14 c15 c16 c17
   clear hv hw hrw hc hpt hpa HR hn0 HVL hv0
   unfold imv
   unfold cR
   go_enter Tryz.func61, Tryz.ntmps61
   go_upto_region 1 with fail
   rw [fE]
   generalize frW w m p r a14 a15 a16 a17 c14 c15 c16 c17 = X at HFR0 ⊢
   have Hf := Hd HFR0
   clear HFR0
   obtain ⟨i0, i1, i2, i3, i4⟩ := Hf.out.i.im; have r0 := Hf.out.r.at 0 _ rfl
   rw [HK.out] at r0
   go_wp2_with (first | (refine wpList_load_mid rfl _ _ rfl _ _ rfl _ _ Hf.out.i.c Tryz.underlying30 rfl (by kernel_rfl) ?_) | (refine wpList_load_mid rfl _ _ rfl _ _ rfl _ _ Hf.out.r.c Tryz.underlying65 rfl (by kernel_rfl) ?_) | (go_at_call 95; refine (HC.out _ Hf.out.b).mono ?_; rintro e wx ⟨p', E, rfl, him, hE, hbx⟩; have HIM := Hd him; have HEE := Hd hE; have HSX := Hd Hf.out.sz; replace Hf := Hd (Hf.out.below hbx); clear i0 i1 i2 i3 i4 r0; clear hbx HC him hE; unfold imv; dsimp only) | (refine wS rfl _ _ _ rfl _ _ rfl Hf.out.z (iml (crtT m r).1 p') rfl rfl (by kernel_rfl) rfl ?_; intro W3 hz hk hb hp; have Hb := Hd (hb _ _ (show w.heap.size ≤ w.heap.size + 1 + 1 by omega) Hf.out.b); have HZ := Hd hz; have HPP := Hd hp; clear hz hk hb hp))
   obtain ⟨q0, q1, q2, q3, q4⟩ := HZ.out.im
   have HIF : Hid (∀ W, Agr n0 w.heap.size W3 W → ImR W (crtT m r).1 p') := Hd (fun W hW => HIM.out W (fun g hg => by
    rcases hg with hg | hg
    ·exact (hW g (.inl hg)).trans (HPP.out g (by have := HN0.out g hg; omega))
    ·exact (hW g (.inr (by have := HSX.out; omega))).trans (HPP.out g (by have := HSX.out; omega))))
   exact bodyPost_ret (v := .tuple #[.agg (iml (crtT m r).1 p').toArray, E]) (by simp [results, Tryz.results61, go_sem, q0, q1, q2, q3, q4, iml]) rfl ⟨p', E, rfl, HIF.out, HEE.out, Hb.out⟩
 ·have Hr : Hid (stepI m r = repP m r) := Hd (by unfold stepI; rw [hk0]; rfl)
  rw [Hr.out]
  have HC := Hd (fun W (h : Below w.heap.size w W) => replicate_any m p r _ W n0 (fun g hg => Nat.lt_of_lt_of_le (hn0 g hg) h.size) (HVL.out W h) hw (HR.out W h) (by omega) hpt hpa)
  have HK : Hid (r.k = 8) := Hd hk0
  clear hk0 Hr
  as_aux_lemma =>
   have HFR0 := fF w m p r a14 a15 a16 a17 c14 c15 c16 c17
   clear hv hw hrw hc hpt hpa HR hn0 HVL hv0
   unfold imv
   unfold cR
   go_enter Tryz.func61, Tryz.ntmps61
   go_upto_region 1 with fail
   rw [fE]
   generalize frW w m p r a14 a15 a16 a17 c14 c15 c16 c17 = X at HFR0 ⊢
   have Hf := Hd HFR0
   clear HFR0
   obtain ⟨i0, i1, i2, i3, i4⟩ := Hf.out.i.im; have r0 := Hf.out.r.at 0 _ rfl
   rw [HK.out] at r0
   go_wp2_with (first | (refine wpList_load_mid rfl _ _ rfl _ _ rfl _ _ Hf.out.i.c Tryz.underlying30 rfl (by kernel_rfl) ?_) | (refine wpList_load_mid rfl _ _ rfl _ _ rfl _ _ Hf.out.r.c Tryz.underlying65 rfl (by kernel_rfl) ?_) | (go_at_call 96; refine (HC.out _ Hf.out.b).mono ?_; rintro e wx ⟨p', E, rfl, him, hE, hbx⟩; have HIM := Hd him; have HEE := Hd hE; have HSX := Hd Hf.out.sz; replace Hf := Hd (Hf.out.below hbx); clear i0 i1 i2 i3 i4 r0; clear hbx HC him hE; unfold imv; dsimp only) | (refine wS rfl _ _ _ rfl _ _ rfl Hf.out.z (iml (repP m r).1 p') rfl rfl (by kernel_rfl) rfl ?_; intro W3 hz hk hb hp; have Hb := Hd (hb _ _ (show w.heap.size ≤ w.heap.size + 1 + 1 by omega) Hf.out.b); have HZ := Hd hz; have HPP := Hd hp; clear hz hk hb hp))
   obtain ⟨q0, q1, q2, q3, q4⟩ := HZ.out.im
   have HIF : Hid (∀ W, Agr n0 w.heap.size W3 W → ImR W (repP m r).1 p') := Hd (fun W hW => HIM.out W (fun g hg => by
    rcases hg with hg | hg
    ·exact (hW g (.inl hg)).trans (HPP.out g (by have := HN0.out g hg; omega))
    ·exact (hW g (.inr (by have := HSX.out; omega))).trans (HPP.out g (by have := HSX.out; omega))))
   exact bodyPost_ret (v := .tuple #[.agg (iml (repP m r).1 p').toArray, E]) (by simp [results, Tryz.results61, go_sem, q0, q1, q2, q3, q4, iml]) rfl ⟨p', E, rfl, HIF.out, HEE.out, Hb.out⟩
 ·have Hr : Hid (stepI m r = repP m r) := Hd (by unfold stepI; rw [hk0]; rfl)
  rw [Hr.out]
  have HC := Hd (fun W (h : Below w.heap.size w W) => replicate_any m p r _ W n0 (fun g hg => Nat.lt_of_lt_of_le (hn0 g hg) h.size) (HVL.out W h) hw (HR.out W h) (by omega) hpt hpa)
  have HK : Hid (r.k = 9) := Hd hk0
  clear hk0 Hr
  as_aux_lemma =>
   have HFR0 := fF w m p r a14 a15 a16 a17 c14 c15 c16 c17
   clear hv hw hrw hc hpt hpa HR hn0 HVL hv0
   unfold imv
   unfold cR
   go_enter Tryz.func61, Tryz.ntmps61
   go_upto_region 1 with fail
   rw [fE]
   generalize frW w m p r a14 a15 a16 a17 c14 c15 c16 c17 = X at HFR0 ⊢
   have Hf := Hd HFR0
   clear HFR0
   obtain ⟨i0, i1, i2, i3, i4⟩ := Hf.out.i.im; have r0 := Hf.out.r.at 0 _ rfl
   rw [HK.out] at r0
   go_wp2_with (first | (refine wpList_load_mid rfl _ _ rfl _ _ rfl _ _ Hf.out.i.c Tryz.underlying30 rfl (by kernel_rfl) ?_) | (refine wpList_load_mid rfl _ _ rfl _ _ rfl _ _ Hf.out.r.c Tryz.underlying65 rfl (by kernel_rfl) ?_) | (go_at_call 96; refine (HC.out _ Hf.out.b).mono ?_; rintro e wx ⟨p', E, rfl, him, hE, hbx⟩; have HIM := Hd him; have HEE := Hd hE; have HSX := Hd Hf.out.sz; replace Hf := Hd (Hf.out.below hbx); clear i0 i1 i2 i3 i4 r0; clear hbx HC him hE; unfold imv; dsimp only) | (refine wS rfl _ _ _ rfl _ _ rfl Hf.out.z (iml (repP m r).1 p') rfl rfl (by kernel_rfl) rfl ?_; intro W3 hz hk hb hp; have Hb := Hd (hb _ _ (show w.heap.size ≤ w.heap.size + 1 + 1 by omega) Hf.out.b); have HZ := Hd hz; have HPP := Hd hp; clear hz hk hb hp))
   obtain ⟨q0, q1, q2, q3, q4⟩ := HZ.out.im
   have HIF : Hid (∀ W, Agr n0 w.heap.size W3 W → ImR W (repP m r).1 p') := Hd (fun W hW => HIM.out W (fun g hg => by
    rcases hg with hg | hg
    ·exact (hW g (.inl hg)).trans (HPP.out g (by have := HN0.out g hg; omega))
    ·exact (hW g (.inr (by have := HSX.out; omega))).trans (HPP.out g (by have := HSX.out; omega))))
   exact bodyPost_ret (v := .tuple #[.agg (iml (repP m r).1 p').toArray, E]) (by simp [results, Tryz.results61, go_sem, q0, q1, q2, q3, q4, iml]) rfl ⟨p', E, rfl, HIF.out, HEE.out, Hb.out⟩
 ·have Hr : Hid (stepI m r = cfgC m r) := Hd (by unfold stepI; rw [hk0]; rfl)
  rw [Hr.out]
  have HC := Hd (fun W (h : Below w.heap.size w W) => configure_any m p r _ W n0 (fun g hg => Nat.lt_of_lt_of_le (hn0 g hg) h.size) (HVL.out W h) hw (HR.out W h))
  have HK : Hid (r.k = 10) := Hd hk0
  clear hk0 Hr
  as_aux_lemma =>
   have HFR0 := fF w m p r a14 a15 a16 a17 c14 c15 c16 c17
   clear hv hw hrw hc hpt hpa HR hn0 HVL hv0
   unfold imv
   unfold cR
   go_enter Tryz.func61, Tryz.ntmps61
   go_upto_region 1 with fail
   rw [fE]
   generalize frW w m p r a14 a15 a16 a17 c14 c15 c16 c17 = X at HFR0 ⊢
   have Hf := Hd HFR0
   clear HFR0
   obtain ⟨i0, i1, i2, i3, i4⟩ := Hf.out.i.im; have r0 := Hf.out.r.at 0 _ rfl
   rw [HK.out] at r0
   go_wp2_with (first | (refine wpList_load_mid rfl _ _ rfl _ _ rfl _ _ Hf.out.i.c Tryz.underlying30 rfl (by kernel_rfl) ?_) | (refine wpList_load_mid rfl _ _ rfl _ _ rfl _ _ Hf.out.r.c Tryz.underlying65 rfl (by kernel_rfl) ?_) | (go_at_call 97; refine (HC.out _ Hf.out.b).mono ?_; rintro e wx ⟨p', E, rfl, him, hE, hbx⟩; have HIM := Hd him; have HEE := Hd hE; have HSX := Hd Hf.out.sz; replace Hf := Hd (Hf.out.below hbx); clear i0 i1 i2 i3 i4 r0; clear hbx HC him hE; unfold imv; dsimp only) | (refine wS rfl _ _ _ rfl _ _ rfl Hf.out.z (iml (cfgC m r).1 p') rfl rfl (by kernel_rfl) rfl ?_; intro W3 hz hk hb hp; have Hb := Hd (hb _ _ (show w.heap.size ≤ w.heap.size + 1 + 1 by omega) Hf.out.b); have HZ := Hd hz; have HPP := Hd hp; clear hz hk hb hp))
   obtain ⟨q0, q1, q2, q3, q4⟩ := HZ.out.im
   have HIF : Hid (∀ W, Agr n0 w.heap.size W3 W → ImR W (cfgC m r).1 p') := Hd (fun W hW => HIM.out W (fun g hg => by
    rcases hg with hg | hg
    ·exact (hW g (.inl hg)).trans (HPP.out g (by have := HN0.out g hg; omega))
    ·exact (hW g (.inr (by have := HSX.out; omega))).trans (HPP.out g (by have := HSX.out; omega))))
   exact bodyPost_ret (v := .tuple #[.agg (iml (cfgC m r).1 p').toArray, E]) (by simp [results, Tryz.results61, go_sem, q0, q1, q2, q3, q4, iml]) rfl ⟨p', E, rfl, HIF.out, HEE.out, Hb.out⟩
 ·have Hr : Hid (stepI m r = drpT m r) := Hd (by unfold stepI; rw [hk0]; rfl)
  rw [Hr.out]
  have HC := Hd (fun W (h : Below w.heap.size w W) => drop_any m p r _ W n0 (fun g hg => Nat.lt_of_lt_of_le (hn0 g hg) h.size) (HVL.out W h) hw (HR.out W h))
  have HK : Hid (r.k = 11) := Hd hk0
  clear hk0 Hr
  as_aux_lemma =>
   have HFR0 := fF w m p r a14 a15 a16 a17 c14 c15 c16 c17
   clear hv hw hrw hc hpt hpa HR hn0 HVL hv0
   unfold imv
   unfold cR
   go_enter Tryz.func61, Tryz.ntmps61
   go_upto_region 1 with fail
   rw [fE]
   generalize frW w m p r a14 a15 a16 a17 c14 c15 c16 c17 = X at HFR0 ⊢
   have Hf := Hd HFR0
   clear HFR0
   obtain ⟨i0, i1, i2, i3, i4⟩ := Hf.out.i.im; have r0 := Hf.out.r.at 0 _ rfl
   rw [HK.out] at r0
   go_wp2_with (first | (refine wpList_load_mid rfl _ _ rfl _ _ rfl _ _ Hf.out.i.c Tryz.underlying30 rfl (by kernel_rfl) ?_) | (refine wpList_load_mid rfl _ _ rfl _ _ rfl _ _ Hf.out.r.c Tryz.underlying65 rfl (by kernel_rfl) ?_) | (go_at_call 98; refine (HC.out _ Hf.out.b).mono ?_; rintro e wx ⟨p', E, rfl, him, hE, hbx⟩; have HIM := Hd him; have HEE := Hd hE; have HSX := Hd Hf.out.sz; replace Hf := Hd (Hf.out.below hbx); clear i0 i1 i2 i3 i4 r0; clear hbx HC him hE; unfold imv; dsimp only) | (refine wS rfl _ _ _ rfl _ _ rfl Hf.out.z (iml (drpT m r).1 p') rfl rfl (by kernel_rfl) rfl ?_; intro W3 hz hk hb hp; have Hb := Hd (hb _ _ (show w.heap.size ≤ w.heap.size + 1 + 1 by omega) Hf.out.b); have HZ := Hd hz; have HPP := Hd hp; clear hz hk hb hp))
   obtain ⟨q0, q1, q2, q3, q4⟩ := HZ.out.im
   have HIF : Hid (∀ W, Agr n0 w.heap.size W3 W → ImR W (drpT m r).1 p') := Hd (fun W hW => HIM.out W (fun g hg => by
    rcases hg with hg | hg
    ·exact (hW g (.inl hg)).trans (HPP.out g (by have := HN0.out g hg; omega))
    ·exact (hW g (.inr (by have := HSX.out; omega))).trans (HPP.out g (by have := HSX.out; omega))))
   exact bodyPost_ret (v := .tuple #[.agg (iml (drpT m r).1 p').toArray, E]) (by simp [results, Tryz.results61, go_sem, q0, q1, q2, q3, q4, iml]) rfl ⟨p', E, rfl, HIF.out, HEE.out, Hb.out⟩
 ·have Hr : Hid (stepI m r = ansD m r) := Hd (by unfold stepI; rw [hk0]; rfl)
  rw [Hr.out]
  have HC := Hd (fun W (h : Below w.heap.size w W) => answer_any m p r _ W n0 (fun g hg => Nat.lt_of_lt_of_le (hn0 g hg) h.size) (HVL.out W h) hw (HR.out W h))
  have HK : Hid (r.k = 12) := Hd hk0
  clear hk0 Hr
  as_aux_lemma =>
   have HFR0 := fF w m p r a14 a15 a16 a17 c14 c15 c16 c17
   clear hv hw hrw hc hpt hpa HR hn0 HVL hv0
   unfold imv
   unfold cR
   go_enter Tryz.func61, Tryz.ntmps61
   go_upto_region 1 with fail
   rw [fE]
   generalize frW w m p r a14 a15 a16 a17 c14 c15 c16 c17 = X at HFR0 ⊢
   have Hf := Hd HFR0
   clear HFR0
   obtain ⟨i0, i1, i2, i3, i4⟩ := Hf.out.i.im; have r0 := Hf.out.r.at 0 _ rfl
   rw [HK.out] at r0
   go_wp2_with (first | (refine wpList_load_mid rfl _ _ rfl _ _ rfl _ _ Hf.out.i.c Tryz.underlying30 rfl (by kernel_rfl) ?_) | (refine wpList_load_mid rfl _ _ rfl _ _ rfl _ _ Hf.out.r.c Tryz.underlying65 rfl (by kernel_rfl) ?_) | (go_at_call 99; refine (HC.out _ Hf.out.b).mono ?_; rintro e wx ⟨p', E, rfl, him, hE, hbx⟩; have HIM := Hd him; have HEE := Hd hE; have HSX := Hd Hf.out.sz; replace Hf := Hd (Hf.out.below hbx); clear i0 i1 i2 i3 i4 r0; clear hbx HC him hE; unfold imv; dsimp only) | (refine wS rfl _ _ _ rfl _ _ rfl Hf.out.z (iml (ansD m r).1 p') rfl rfl (by kernel_rfl) rfl ?_; intro W3 hz hk hb hp; have Hb := Hd (hb _ _ (show w.heap.size ≤ w.heap.size + 1 + 1 by omega) Hf.out.b); have HZ := Hd hz; have HPP := Hd hp; clear hz hk hb hp))
   obtain ⟨q0, q1, q2, q3, q4⟩ := HZ.out.im
   have HIF : Hid (∀ W, Agr n0 w.heap.size W3 W → ImR W (ansD m r).1 p') := Hd (fun W hW => HIM.out W (fun g hg => by
    rcases hg with hg | hg
    ·exact (hW g (.inl hg)).trans (HPP.out g (by have := HN0.out g hg; omega))
    ·exact (hW g (.inr (by have := HSX.out; omega))).trans (HPP.out g (by have := HSX.out; omega))))
   exact bodyPost_ret (v := .tuple #[.agg (iml (ansD m r).1 p').toArray, E]) (by simp [results, Tryz.results61, go_sem, q0, q1, q2, q3, q4, iml]) rfl ⟨p', E, rfl, HIF.out, HEE.out, Hb.out⟩
end Go.Proofs.YtlggjgapdpkhiaaGreat
namespace Go.Proofs.YtlggjgapdpkhiaaGreat
open Go.RowKit
theorem erc_wrap {c : Int} {E : Value} (h : Erc c E) (hc : c ≠ 0) : ∃ t v, E = .iface t v ∧ ∀ (op : ByteArray) (a : Int), Erc c (.iface 117 (.agg #[.string op, .int .i64 a, .iface t v])) := by
 rcases h with ⟨h, _⟩ | ⟨_, l, rfl⟩
 ·exact absurd h hc
 ·obtain ⟨t, v, e⟩ := chn_form l c
  exact ⟨t, v, e, fun op a => .inr ⟨hc, (op, a) :: l, by rw [← e]; rfl⟩⟩
theorem ern_wrap {op' : ByteArray} {a' c : Int} (hc : c ≠ 0) : ∃ t v, erN op' a' c = .iface t v ∧ ∀ (op : ByteArray) (a : Int), Erc c (.iface 117 (.agg #[.string op, .int .i64 a, .iface t v])) := by
 unfold erN
 rw [if_neg hc]
 exact ⟨_, _, rfl, fun op a => .inr ⟨hc, [(op, a), (op', a')], rfl⟩⟩
theorem erc_zero {E : Value} (h : Erc 0 E) : E = .nilIface := by
 rcases h with ⟨_, h⟩ | ⟨h, _⟩
 ·exact h
 ·exact absurd rfl h
theorem ImR.lift {n0 : Nat → Prop} {n1 : Nat} {A W : World} {m : Im} {p : Ip} (h : ∀ W, Agr n0 n1 A W → ImR W m p) (hk : ∀ g, (n0 g ∨ n1 ≤ g) → g < A.heap.size → W.heap[g]? = A.heap[g]?) : ImR W m p := by
 have key : ∀ g, g < A.heap.size → (W.heap.extract 0 A.heap.size)[g]? = W.heap[g]? := fun g hl => by
  rw [Array.getElem?_extract]
  by_cases hw : g < W.heap.size
  ·rw [if_pos (by omega), Nat.zero_add]
  ·rw [if_neg (by omega), Array.getElem?_eq_none (by omega)]
 have h0 : ImR { W with heap := W.heap.extract 0 A.heap.size } m p := h _ (fun g hg => by
  by_cases hl : g < A.heap.size
  ·exact (key g hl).trans (hk g hg hl)
  ·have e2 : A.heap[g]? = none := Array.getElem?_eq_none (by omega)
   rw [e2]
   exact Array.getElem?_eq_none (by
    show (W.heap.extract 0 A.heap.size).size ≤ g
    rw [Array.size_extract]; omega))
 refine h0.below ⟨rfl, rfl, rfl, ?_, fun k hk' => ?_⟩
 ·show (W.heap.extract 0 A.heap.size).size ≤ _
  rw [Array.size_extract]; omega
 ·have hk2 : k < (W.heap.extract 0 A.heap.size).size := hk'
  rw [Array.size_extract] at hk2
  exact (key k (by omega)).symm
theorem Fr.ret {w W : World} {m : Im} {p : Ip} {cs zs : List Value} (h : Fr w m p cs zs W) (hl : zs.length = 5) : Fr w m p cs (iml m p) ((W.setCells (w.heap.size + 1 + 1) 0 (iml m p)).drewN 1) :=
 Fr.drewN (zs := iml m p) (⟨h.i.apart (by omega) (iml m p) 0, h.r.apart (by omega) (iml m p) 0, h.z.set (iml m p) (by rw [hl]; rfl), below_sets (by omega) (iml m p) 0 _ h.b⟩ : Fr w m p cs (iml m p) (W.setCells (w.heap.size + 1 + 1) 0 (iml m p))) 1
set_option maxRecDepth 100000 in
set_option maxHeartbeats 16000000 in
theorem Apply_any {ok : Nat → Prop} (m : Im) (p : Ip) (r : Rc) (v : Value) (w : World) (n0 : Nat → Prop) (hn0 : ∀ g, n0 g → g < w.heap.size) (hv : ∀ W, (∀ g, n0 g → W.heap[g]? = w.heap[g]?) → ImR W m p) (hw : Wf m 100000) (hr : IsR ok w v r) (ht : TxR r) : Calls Tryz.prog 32 #[imv m p, v] w fun e w' => StP n0 w w' (app m r).1 (app m r).2 e := by
 obtain ⟨a14, a15, a16, a17, c14, c15, c16, c17, rfl, hrw⟩ := hr
 have Hv := Hd (fun (W W3 : World) (hb : Below w.heap.size w W3) (hW : Agr n0 w.heap.size W3 W) => hv W (fun g hg => (hW g (.inl hg)).trans (hb.block g (hn0 g hg))))
 have hv0 := hv
 replace hv : ImR w m p := hv w (fun _ _ => rfl)
 have HV := Hd (fun W (h : Below w.heap.size w W) => hv.below h)
 have HVL := Hd (fun W (h : Below w.heap.size w W) => (fun W' (hg : ∀ g, n0 g → W'.heap[g]? = W.heap[g]?) => hv0 W' (fun g hlt => (hg g hlt).trans (h.block g (hn0 g hlt)))))
 have HR := Hd (fun W (h : Below w.heap.size w W) => (⟨a14, a15, a16, a17, c14, c15, c16, c17, rfl, hrw.below h⟩ : IsR ok W (.agg (cR r a14 a15 a16 a17 c14 c15 c16 c17).toArray) r))
 have HN0 := Hd hn0
 by_cases hc : (chk r).2.2 = 0
 ·have HS := Hd (fun W (h : Below w.heap.size w W) => step_any m p r _ W n0 (fun g hg => Nat.lt_of_lt_of_le (hn0 g hg) h.size) (HVL.out W h) hw (HR.out W h) (chk_is hc))
  have HC : Hid (∀ W, Below w.heap.size w W → Calls Tryz.prog 60 #[.agg (cR r a14 a15 a16 a17 c14 c15 c16 c17).toArray] W fun e w' => e = .returned .nilIface ∧ Below W.heap.size W w') := Hd (fun W h => by
   have := ccheck_any r _ W (HR.out W h) ht
   unfold erN at this
   rw [if_pos hc] at this
   exact this)
  have HEI : Hid ((stepI m r).2 ≠ 0 → (stepI m r).1 = m) := Hd stepI_err
  have Hr : Hid (app m r = stepI m r) := Hd (by unfold app; rw [if_pos hc])
  rw [Hr.out]
  clear Hr hc HVL
  generalize stepI m r = sr at HS HEI ⊢
  obtain ⟨m', c'⟩ := sr
  by_cases hs : c' = 0
  ·subst hs
   clear HEI
   have HFR0 := fF w m p r a14 a15 a16 a17 c14 c15 c16 c17
   clear hv hv0 hw hrw HR hn0 ht
   unfold imv
   unfold cR
   go_enter Tryz.func32, Tryz.ntmps32
   go_upto_region 1 with fail
   rw [fE]
   generalize frW w m p r a14 a15 a16 a17 c14 c15 c16 c17 = X at HFR0 ⊢
   have Hf := Hd HFR0
   clear HFR0
   obtain ⟨i0, i1, i2, i3, i4⟩ := Hf.out.i.im; have r0 := Hf.out.r.at 0 _ rfl
   go_upto_region 7 with (first | (refine wpList_load_mid rfl _ _ rfl _ _ rfl _ _ Hf.out.i.c Tryz.underlying30 rfl (by kernel_rfl) ?_) | (refine wpList_load_mid rfl _ _ rfl _ _ rfl _ _ Hf.out.r.c Tryz.underlying65 rfl (by kernel_rfl) ?_) | (go_at_call 60; refine (HC.out _ Hf.out.b).mono ?_; rintro e wx ⟨rfl, hbx⟩; replace Hf := Hd (Hf.out.below hbx); clear i0 i1 i2 i3 i4 r0; clear hbx HC; obtain ⟨i0, i1, i2, i3, i4⟩ := Hf.out.i.im; have r0 := Hf.out.r.at 0 _ rfl) | (go_at_call 61; refine (HS.out _ Hf.out.b).mono ?_; rintro e wx ⟨p', E, rfl, him, hE, hbx⟩; obtain rfl := erc_zero hE; clear hE; have HXS := Hd hbx.size; have HIM := Hd him; have HSX := Hd Hf.out.sz; replace Hf := Hd (Hf.out.below hbx); clear i0 i1 i2 i3 i4 r0; clear hbx him HS; unfold imv; dsimp only))
   have HNX := Hd (Bx.new wx [Value.slice p'.ab m'.br.length p'.cb, .slice p'.aq p'.ts.length p'.cq, .slice p'.ac m'.cf.length p'.cc, .slice p'.ad m'.dn.length p'.cd, .int .i64 m'.la] 30)
   have HAL : Hid (∀ g, g < wx.heap.size → (wx.alloc (.cells (List.toArray [Value.slice p'.ab m'.br.length p'.cb, .slice p'.aq p'.ts.length p'.cq, .slice p'.ac m'.cf.length p'.cc, .slice p'.ad m'.dn.length p'.cd, .int .i64 m'.la]) 30)).heap[g]? = wx.heap[g]?) := Hd (fun g hg => (bA wx _).block g hg)
   have HSA : Hid (wx.heap.size < (wx.alloc (.cells (List.toArray [Value.slice p'.ab m'.br.length p'.cb, .slice p'.aq p'.ts.length p'.cq, .slice p'.ac m'.cf.length p'.cc, .slice p'.ad m'.dn.length p'.cd, .int .i64 m'.la]) 30)).heap.size) := Hd (by simp)
   replace Hf := Hd (Hf.out.below (bA wx (.cells (List.toArray [Value.slice p'.ab m'.br.length p'.cb, .slice p'.aq p'.ts.length p'.cq, .slice p'.ac m'.cf.length p'.cc, .slice p'.ad m'.dn.length p'.cd, .int .i64 m'.la]) 30)))
   generalize wx.alloc (.cells (List.toArray [Value.slice p'.ab m'.br.length p'.cb, .slice p'.aq p'.ts.length p'.cq, .slice p'.ac m'.cf.length p'.cc, .slice p'.ad m'.dn.length p'.cd, .int .i64 m'.la]) 30) = X3 at Hf HNX HAL HSA ⊢
   go_wp2_with (first | (refine wpList_load_mid rfl _ _ rfl _ _ rfl _ _ HNX.out.c Tryz.underlying30 rfl (by kernel_rfl) ?_) | (refine wS rfl _ _ _ rfl _ _ rfl Hf.out.z (iml m' p') rfl rfl (by kernel_rfl) rfl ?_; intro W3 hz hk hb hp; have Hb := Hd (hb _ _ (show w.heap.size ≤ w.heap.size + 1 + 1 by omega) Hf.out.b); have HZ := Hd hz; have HPP := Hd hp; have HZS := Hd (hb 0 X3 (by omega) (Below.refl _ _)).size; clear hz hk hb hp))
   obtain ⟨q0, q1, q2, q3, q4⟩ := HZ.out.im
   have HIF : Hid (∀ W, Agr n0 w.heap.size W3 W → ImR W m' p') := Hd (fun W hW => by
    have h1 := HSX.out; have h2 := HXS.out; have h3 := HSA.out; have h4 := HZS.out
    refine ImR.lift HIM.out (fun g hg hl => ?_)
    rcases hg with hg | hg
    ·have := HN0.out g hg
     exact (hW g (.inl hg)).trans ((HPP.out g (by omega)).trans (HAL.out g hl))
    ·exact (hW g (.inr (by omega))).trans ((HPP.out g (by omega)).trans (HAL.out g hl)))
   exact bodyPost_ret (v := .tuple #[.agg (iml m' p').toArray, .nilIface]) (by simp [results, Tryz.results32, go_sem, q0, q1, q2, q3, q4, iml]) rfl ⟨p', .nilIface, rfl, HIF.out, erc_nil, Hb.out⟩
  ·have HSE := Hd hs
   rw [HEI.out hs] at HS ⊢
   clear HEI hs
   have HFR0 := fF w m p r a14 a15 a16 a17 c14 c15 c16 c17
   clear hv hv0 hw hrw HR hn0 ht
   unfold imv
   unfold cR
   go_enter Tryz.func32, Tryz.ntmps32
   go_upto_region 1 with fail
   rw [fE]
   generalize frW w m p r a14 a15 a16 a17 c14 c15 c16 c17 = X at HFR0 ⊢
   have Hf := Hd HFR0
   clear HFR0
   obtain ⟨i0, i1, i2, i3, i4⟩ := Hf.out.i.im; have r0 := Hf.out.r.at 0 _ rfl
   go_upto_region 6 with (first | (refine wpList_load_mid rfl _ _ rfl _ _ rfl _ _ Hf.out.i.c Tryz.underlying30 rfl (by kernel_rfl) ?_) | (refine wpList_load_mid rfl _ _ rfl _ _ rfl _ _ Hf.out.r.c Tryz.underlying65 rfl (by kernel_rfl) ?_) | (go_at_call 60; refine (HC.out _ Hf.out.b).mono ?_; rintro e wx ⟨rfl, hbx⟩; replace Hf := Hd (Hf.out.below hbx); clear i0 i1 i2 i3 i4 r0; clear hbx HC; obtain ⟨i0, i1, i2, i3, i4⟩ := Hf.out.i.im; have r0 := Hf.out.r.at 0 _ rfl) | (go_at_call 61; refine (HS.out _ Hf.out.b).mono ?_; rintro e wx ⟨p', E, rfl, him, hE, hbx⟩; obtain ⟨tE, vE, rfl, hew⟩ := erc_wrap hE HSE.out; clear hE; have HEW := Hd hew; clear hew; have HIM := Hd him; have HSX := Hd Hf.out.sz; replace Hf := Hd (Hf.out.below hbx); clear i0 i1 i2 i3 i4 r0; clear hbx him HS; unfold imv; dsimp only))
   have HNX := Hd (Bx.new wx [Value.slice p'.ab m.br.length p'.cb, .slice p'.aq p'.ts.length p'.cq, .slice p'.ac m.cf.length p'.cc, .slice p'.ad m.dn.length p'.cd, .int .i64 m.la] 30)
   have HAL : Hid (∀ g, g < wx.heap.size → (wx.alloc (.cells (List.toArray [Value.slice p'.ab m.br.length p'.cb, .slice p'.aq p'.ts.length p'.cq, .slice p'.ac m.cf.length p'.cc, .slice p'.ad m.dn.length p'.cd, .int .i64 m.la]) 30)).heap[g]? = wx.heap[g]?) := Hd (fun g hg => (bA wx _).block g hg)
   have HSA : Hid (wx.heap.size < (wx.alloc (.cells (List.toArray [Value.slice p'.ab m.br.length p'.cb, .slice p'.aq p'.ts.length p'.cq, .slice p'.ac m.cf.length p'.cc, .slice p'.ad m.dn.length p'.cd, .int .i64 m.la]) 30)).heap.size) := Hd (by simp)
   replace Hf := Hd (Hf.out.below (bA wx (.cells (List.toArray [Value.slice p'.ab m.br.length p'.cb, .slice p'.aq p'.ts.length p'.cq, .slice p'.ac m.cf.length p'.cc, .slice p'.ad m.dn.length p'.cd, .int .i64 m.la]) 30)))
   generalize wx.alloc (.cells (List.toArray [Value.slice p'.ab m.br.length p'.cb, .slice p'.aq p'.ts.length p'.cq, .slice p'.ac m.cf.length p'.cc, .slice p'.ad m.dn.length p'.cd, .int .i64 m.la]) 30) = X3 at Hf HNX HAL HSA ⊢
   clear HNX HAL HSA
   obtain ⟨i0, i1, i2, i3, i4⟩ := Hf.out.i.im; have r0 := Hf.out.r.at 0 _ rfl
   obtain ⟨z0, z1, z2, z3, z4⟩ := Hf.out.z.c5
   have f0 := Hf.out.z.f 0 (by decide)
   have f1 := Hf.out.z.f 1 (by decide)
   have f2 := Hf.out.z.f 2 (by decide)
   have f3 := Hf.out.z.f 3 (by decide)
   have f4 := Hf.out.z.f 4 (by decide)
   have hz := Hf.out.z.there (m := 5) rfl
   have Ho : Hid (Fr w m p (cR r a14 a15 a16 a17 c14 c15 c16 c17) (iml m p) ((((((X3.setCell ⟨w.heap.size + 1 + 1, 0, none⟩ (.slice p.ab m.br.length p.cb)).setCell ⟨w.heap.size + 1 + 1, 1, none⟩ (.slice p.aq p.ts.length p.cq)).setCell ⟨w.heap.size + 1 + 1, 2, none⟩ (.slice p.ac m.cf.length p.cc)).setCell ⟨w.heap.size + 1 + 1, 3, none⟩ (.slice p.ad m.dn.length p.cd)).setCell ⟨w.heap.size + 1 + 1, 4, none⟩ (.int .i64 m.la)).drew)) := Hd (Hf.out.ret rfl)
   go_region_with (first | (go_at_call 59; refine (wrap_some _ _ _ _ _).mono ?_; rintro e wy ⟨rfl, hwy⟩; rw [hwy]; clear hwy wy))
   all_goals
    generalize (((((X3.setCell ⟨w.heap.size + 1 + 1, 0, none⟩ (.slice p.ab m.br.length p.cb)).setCell ⟨w.heap.size + 1 + 1, 1, none⟩ (.slice p.aq p.ts.length p.cq)).setCell ⟨w.heap.size + 1 + 1, 2, none⟩ (.slice p.ac m.cf.length p.cc)).setCell ⟨w.heap.size + 1 + 1, 3, none⟩ (.slice p.ad m.dn.length p.cd)).setCell ⟨w.heap.size + 1 + 1, 4, none⟩ (.int .i64 m.la)).drew = W3 at Ho ⊢
    clear z0 z1 z2 z3 z4 f0 f1 f2 f3 f4 hz
    obtain ⟨q0, q1, q2, q3, q4⟩ := Ho.out.z.im
    go_wp2_with fail
    exact bodyPost_ret (v := .tuple #[.agg (iml m p).toArray, .iface 117 (.agg #[.string ⟨#[97, 112, 112, 108, 121]⟩, .int .i64 r.k, .iface tE vE])]) (by simp [results, Tryz.results32, go_sem, q0, q1, q2, q3, q4, iml]) rfl (st_ret Ho.out (fun W hW => Hv.out W _ Ho.out.b hW) (HEW.out ⟨#[97, 112, 112, 108, 121]⟩ r.k))
 ·have Hr : Hid (app m r = (m, (chk r).2.2)) := Hd (by unfold app; rw [if_neg hc])
  rw [Hr.out]
  obtain ⟨tE, vE, hE, hEW⟩ := ern_wrap (op' := (chk r).1) (a' := (chk r).2.1) hc
  have HEW := Hd hEW
  have HC : Hid (∀ W, Below w.heap.size w W → Calls Tryz.prog 60 #[.agg (cR r a14 a15 a16 a17 c14 c15 c16 c17).toArray] W fun e w' => e = .returned (.iface tE vE) ∧ Below W.heap.size W w') := Hd (fun W h => by
   have := ccheck_any r _ W (HR.out W h) ht
   rw [hE] at this
   exact this)
  clear hE hEW hc HVL
  have HFR0 := fF w m p r a14 a15 a16 a17 c14 c15 c16 c17
  clear hv hv0 hw hrw HR hn0 ht
  unfold imv
  unfold cR
  go_enter Tryz.func32, Tryz.ntmps32
  go_upto_region 1 with fail
  rw [fE]
  generalize frW w m p r a14 a15 a16 a17 c14 c15 c16 c17 = X at HFR0 ⊢
  have Hf := Hd HFR0
  clear HFR0
  obtain ⟨i0, i1, i2, i3, i4⟩ := Hf.out.i.im; have r0 := Hf.out.r.at 0 _ rfl
  go_upto_region 3 with (first | (refine wpList_load_mid rfl _ _ rfl _ _ rfl _ _ Hf.out.r.c Tryz.underlying65 rfl (by kernel_rfl) ?_) | (go_at_call 60; refine (HC.out _ Hf.out.b).mono ?_; rintro e wx ⟨rfl, hbx⟩; replace Hf := Hd (Hf.out.below hbx); clear i0 i1 i2 i3 i4 r0; clear hbx HC; obtain ⟨i0, i1, i2, i3, i4⟩ := Hf.out.i.im; have r0 := Hf.out.r.at 0 _ rfl))
  obtain ⟨z0, z1, z2, z3, z4⟩ := Hf.out.z.c5
  have f0 := Hf.out.z.f 0 (by decide)
  have f1 := Hf.out.z.f 1 (by decide)
  have f2 := Hf.out.z.f 2 (by decide)
  have f3 := Hf.out.z.f 3 (by decide)
  have f4 := Hf.out.z.f 4 (by decide)
  have hz := Hf.out.z.there (m := 5) rfl
  have Ho : Hid (Fr w m p (cR r a14 a15 a16 a17 c14 c15 c16 c17) (iml m p) ((((((wx.setCell ⟨w.heap.size + 1 + 1, 0, none⟩ (.slice p.ab m.br.length p.cb)).setCell ⟨w.heap.size + 1 + 1, 1, none⟩ (.slice p.aq p.ts.length p.cq)).setCell ⟨w.heap.size + 1 + 1, 2, none⟩ (.slice p.ac m.cf.length p.cc)).setCell ⟨w.heap.size + 1 + 1, 3, none⟩ (.slice p.ad m.dn.length p.cd)).setCell ⟨w.heap.size + 1 + 1, 4, none⟩ (.int .i64 m.la)).drew)) := Hd (Hf.out.ret rfl)
  go_region_with (first | (go_at_call 59; refine (wrap_some _ _ _ _ _).mono ?_; rintro e wy ⟨rfl, hwy⟩; rw [hwy]; clear hwy wy))
  all_goals
   generalize (((((wx.setCell ⟨w.heap.size + 1 + 1, 0, none⟩ (.slice p.ab m.br.length p.cb)).setCell ⟨w.heap.size + 1 + 1, 1, none⟩ (.slice p.aq p.ts.length p.cq)).setCell ⟨w.heap.size + 1 + 1, 2, none⟩ (.slice p.ac m.cf.length p.cc)).setCell ⟨w.heap.size + 1 + 1, 3, none⟩ (.slice p.ad m.dn.length p.cd)).setCell ⟨w.heap.size + 1 + 1, 4, none⟩ (.int .i64 m.la)).drew = W3 at Ho ⊢
   clear z0 z1 z2 z3 z4 f0 f1 f2 f3 f4 hz
   obtain ⟨q0, q1, q2, q3, q4⟩ := Ho.out.z.im
   go_wp2_with fail
   exact bodyPost_ret (v := .tuple #[.agg (iml m p).toArray, .iface 117 (.agg #[.string ⟨#[114, 101, 99, 111, 114, 100]⟩, .int .i64 r.k, .iface tE vE])]) (by simp [results, Tryz.results32, go_sem, q0, q1, q2, q3, q4, iml]) rfl (st_ret Ho.out (fun W hW => Hv.out W _ Ho.out.b hW) (HEW.out ⟨#[114, 101, 99, 111, 114, 100]⟩ r.k))
end Go.Proofs.YtlggjgapdpkhiaaGreat
