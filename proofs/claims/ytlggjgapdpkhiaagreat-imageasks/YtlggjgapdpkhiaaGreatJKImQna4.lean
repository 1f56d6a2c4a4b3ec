/-
  AN IMAGE BEHIND A RECORD, AS THE DOCUMENT HAS IT (castellanref15.Apply).
  AN IMAGE BEHIND RECORDS, ONE BEHIND THE OTHER, AS THE DOCUMENT HAS IT.
  ARE RECORDS NO MORE THAN IS WAITED FOR (castellanref06.Short)? Conditions: the records' cells hold them.
  NO MORE RECORDS THAN ARE WAITED FOR (castellanlaw15.light, half). Conditions: the records' cells hold them.
-/
import Derived.Test.YtlggjgapdpkhiaaGreatJKImQg
import Derived.Test.YtlggjgapdpkhiaaGreatJKImQla3
import Derived.Test.YtlggjgapdpkhiaaGreatJKImQm
import Derived.Test.YtlggjgapdpkhiaaGreatJKImKrsa3
import Derived.Test.YtlggjgapdpkhiaaGreatJKRecWrg
import Derived.Test.YtlggjgapdpkhiaaGreatJKImAl
import Derived.Deep.RegionHeldLaw
import Derived.Deep.RegionHeld3
import Derived.Deep.DeepCutAuto
import Derived.Test.YtlggjgapdpkhiaaGreatJKImQha3
import Derived.Test.YtlggjgapdpkhiaaGreatJKFrameReca5
import Derived.Test.YtlggjgapdpkhiaaGreatJKIsca5
namespace Go.Proofs.YtlggjgapdpkhiaaGreat
open Go.RowKit
set_option maxRecDepth 100000 in
set_option maxHeartbeats 16000000 in
theorem rapply_any {ok : Nat → Prop} (m : Im) (p : Ip) (r : Rc) (v : Value) (w : World) (n0 : Nat → Prop) (hn0 : ∀ g, n0 g → g < w.heap.size) (hv : ∀ W, (∀ g, n0 g → W.heap[g]? = w.heap[g]?) → ImR W m p) (hw : Wf m 100000) (hr0 : ∀ W, (∀ g, n0 g → W.heap[g]? = w.heap[g]?) → IsR ok W v r) (ht : TxR r) : Calls Tryz.prog 34 #[imv m p, v] w fun e w' => StD n0 w w' (app m r).1 (app m r).2 e := by
 obtain ⟨a14, a15, a16, a17, c14, c15, c16, c17, rfl, hrw⟩ := hr0 w (fun _ _ => rfl)
 have Hv := Hd (fun (W W3 : World) (hb : Below w.heap.size w W3) (hW : Agr n0 w.heap.size W3 W) => hv W (fun g hg => (hW g (.inl hg)).trans (hb.block g (hn0 g hg))))
 have HN0 := Hd hn0
 have HVL := Hd (fun W (h : Below w.heap.size w W) => (fun W' (hg : ∀ g, n0 g → W'.heap[g]? = W.heap[g]?) => hv W' (fun g hlt => (hg g hlt).trans (h.block g (hn0 g hlt)))))
 have HRL := Hd (fun W (h : Below w.heap.size w W) => (fun W' (hg : ∀ g, n0 g → W'.heap[g]? = W.heap[g]?) => hr0 W' (fun g hlt => (hg g hlt).trans (h.block g (hn0 g hlt)))))
 have HR := Hd (fun W (h : Below w.heap.size w W) => HRL.out W h W (fun _ _ => rfl))
 have HC : Hid (∀ W, Below w.heap.size w W → Calls Tryz.prog 64 #[.agg (cR r a14 a15 a16 a17 c14 c15 c16 c17).toArray] W fun e w' => e = .returned (wr3 (chk r).1 (chk r).2.1 (chk r).2.2) ∧ Below W.heap.size W w') := Hd (fun W h => check_any r.k r.br r.ep r.tp r.pa r.le r.cl r.se r.co r.fl r.nm r.ky r.va r.rk a14 a15 a16 a17 c14 c15 c16 c17 r.ids r.isr r.ad r.dr W ht.nm ht.ky ht.va ht.rk (hrw.h14.sl.below h) (hrw.h15.sl.below h) (hrw.h16.sl.below h) (hrw.h17.sl.below h))
 unfold wr3 at HC
 by_cases hc : (chk r).2.2 = 0
 ·have hi := chk_is hc
  obtain ⟨hpt, hpa⟩ := rcis_pt hi
  have HAE : Hid (app m r = stepI m r) := Hd (by unfold app; rw [if_pos hc])
  rw [HAE.out]
  rw [hc] at HC
  generalize (chk r).1 = wo at HC
  generalize (chk r).2.1 = wa at HC
  clear HAE
  have hkk : r.k = 1 ∨ r.k = 2 ∨ r.k = 3 ∨ r.k = 4 ∨ r.k = 5 ∨ r.k = 6 ∨ r.k = 7 ∨ r.k = 8 ∨ r.k = 9 ∨ r.k = 10 ∨ r.k = 11 ∨ r.k = 12 := by have := hi.k1; have := hi.k2; omega
  clear hc hi
  rcases hkk with hk0 | hk0 | hk0 | hk0 | hk0 | hk0 | hk0 | hk0 | hk0 | hk0 | hk0 | hk0
  ·have Hr : Hid (stepI m r = (m, 0)) := Hd (by unfold stepI; rw [hk0]; rfl)
   rw [Hr.out]
   have HK : Hid (r.k = 1) := Hd hk0
   clear hk0 Hr
   as_aux_lemma =>
    have HFR0 := fF w m p r a14 a15 a16 a17 c14 c15 c16 c17
    clear hv hw hrw hpt hpa HR HRL hn0 HVL hr0 ht
    unfold imv
    unfold cR
    go_enter Tryz.func34, Tryz.ntmps34
    go_upto_region 1 with fail
    rw [fE]
    generalize frW w m p r a14 a15 a16 a17 c14 c15 c16 c17 = X at HFR0 ⊢
    have Hf := Hd HFR0
    clear HFR0
    obtain ⟨i0, i1, i2, i3, i4⟩ := Hf.out.i.im; have r0 := Hf.out.r.at 0 _ rfl; have r3 := Hf.out.r.at 3 _ rfl
    rw [HK.out] at r0
    go_upto_region 2 with (first | (refine wpList_load_mid rfl _ _ rfl _ _ rfl _ _ Hf.out.r.c Tryz.underlying65 rfl (by kernel_rfl) ?_) | (go_at_call 64; refine (HC.out _ Hf.out.b).mono ?_; rintro e wx ⟨rfl, hbx⟩; replace Hf := Hd (Hf.out.below hbx); clear i0 i1 i2 i3 i4 r0 r3; clear hbx HC))
    have HWB := Hd (Bx.new wx [Value.string wo, .int .i64 wa, .int .i64 0] 102)
    have HWG := Hd Hf.out.sz
    replace Hf := Hd (Hf.out.below (bA wx (.cells (List.toArray [Value.string wo, .int .i64 wa, .int .i64 0]) 102)))
    generalize wx.alloc (.cells (List.toArray [Value.string wo, .int .i64 wa, .int .i64 0]) 102) = X2 at Hf HWB ⊢
    generalize wx.heap.size = wb at HWB HWG ⊢
    obtain ⟨i0, i1, i2, i3, i4⟩ := Hf.out.i.im; have r0 := Hf.out.r.at 0 _ rfl; have r3 := Hf.out.r.at 3 _ rfl
    rw [HK.out] at r0
    have e2 := HWB.out.at 2 _ rfl
    go_wp2_with (first | (refine wpList_load_mid rfl _ _ rfl _ _ rfl _ _ Hf.out.i.c Tryz.underlying30 rfl (by kernel_rfl) ?_) | (refine wS rfl _ _ _ rfl _ _ rfl Hf.out.z (iml m p) rfl rfl (by kernel_rfl) rfl ?_; intro W3 hz hk hb hp; have Ho := Hd (Hf.out.out hz hk hb); clear hz hk hb hp))
    obtain ⟨q0, q1, q2, q3, q4⟩ := Ho.out.z.im
    exact bodyPost_ret (v := .tuple #[.agg (iml m p).toArray, .int .i64 0]) (by simp [results, Tryz.results34, go_sem, q0, q1, q2, q3, q4, iml]) rfl (std_ret Ho.out (fun W hW => Hv.out W _ Ho.out.b hW))
  ·have Hr : Hid (stepI m r = regB m r) := Hd (by unfold stepI; rw [hk0]; rfl)
   rw [Hr.out]
   have HCC : Hid (∀ W, Below w.heap.size w W → Calls Tryz.prog 65 #[imv m p, .agg (cR r a14 a15 a16 a17 c14 c15 c16 c17).toArray] W fun e w' => StD n0 W w' (regB m r).1 (regB m r).2 e) := Hd (fun W h => rregister_any m p r _ W n0 (fun g hg => Nat.lt_of_lt_of_le (hn0 g hg) h.size) (HVL.out W h) hw (HR.out W h))
   have HK : Hid (r.k = 2) := Hd hk0
   clear hk0 Hr
   as_aux_lemma =>
    unfold imv at HCC
    have HFR0 := fF w m p r a14 a15 a16 a17 c14 c15 c16 c17
    clear hv hw hrw hpt hpa HR HRL hn0 HVL hr0 ht
    unfold imv
    unfold cR
    go_enter Tryz.func34, Tryz.ntmps34
    go_upto_region 1 with fail
    rw [fE]
    generalize frW w m p r a14 a15 a16 a17 c14 c15 c16 c17 = X at HFR0 ⊢
    have Hf := Hd HFR0
    clear HFR0
    obtain ⟨i0, i1, i2, i3, i4⟩ := Hf.out.i.im; have r0 := Hf.out.r.at 0 _ rfl; have r3 := Hf.out.r.at 3 _ rfl
    rw [HK.out] at r0
    go_upto_region 2 with (first | (refine wpList_load_mid rfl _ _ rfl _ _ rfl _ _ Hf.out.r.c Tryz.underlying65 rfl (by kernel_rfl) ?_) | (go_at_call 64; refine (HC.out _ Hf.out.b).mono ?_; rintro e wx ⟨rfl, hbx⟩; replace Hf := Hd (Hf.out.below hbx); clear i0 i1 i2 i3 i4 r0 r3; clear hbx HC))
    have HWB := Hd (Bx.new wx [Value.string wo, .int .i64 wa, .int .i64 0] 102)
    have HWG := Hd Hf.out.sz
    replace Hf := Hd (Hf.out.below (bA wx (.cells (List.toArray [Value.string wo, .int .i64 wa, .int .i64 0]) 102)))
    generalize wx.alloc (.cells (List.toArray [Value.string wo, .int .i64 wa, .int .i64 0]) 102) = X2 at Hf HWB ⊢
    generalize wx.heap.size = wb at HWB HWG ⊢
    obtain ⟨i0, i1, i2, i3, i4⟩ := Hf.out.i.im; have r0 := Hf.out.r.at 0 _ rfl; have r3 := Hf.out.r.at 3 _ rfl
    rw [HK.out] at r0
    have e2 := HWB.out.at 2 _ rfl
    go_wp2_with (first | (refine wpList_load_mid rfl _ _ rfl _ _ rfl _ _ Hf.out.i.c Tryz.underlying30 rfl (by kernel_rfl) ?_) | (refine wpList_load_mid rfl _ _ rfl _ _ rfl _ _ Hf.out.r.c Tryz.underlying65 rfl (by kernel_rfl) ?_) | (go_at_call 65; refine (HCC.out _ Hf.out.b).mono ?_; rintro e w6 ⟨p', rfl, him, hbx⟩; have HIM := Hd him; have HSX := Hd Hf.out.sz; replace Hf := Hd (Hf.out.below hbx); clear i0 i1 i2 i3 i4 r0 r3; clear hbx HCC him; unfold imv; dsimp only) | (refine wS rfl _ _ _ rfl _ _ rfl Hf.out.z (iml (regB m r).1 p') rfl rfl (by kernel_rfl) rfl ?_; intro W3 hz hk hb hp; have Hb := Hd (hb _ _ (show w.heap.size ≤ w.heap.size + 1 + 1 by omega) Hf.out.b); have HZ := Hd hz; have HPP := Hd hp; clear hz hk hb hp))
    obtain ⟨q0, q1, q2, q3, q4⟩ := HZ.out.im
    have HIF : Hid (∀ W, Agr n0 w.heap.size W3 W → ImR W (regB m r).1 p') := Hd (fun W hW => HIM.out W (fun g hg => by
     rcases hg with hg | hg
     ·exact (hW g (.inl hg)).trans (HPP.out g (by have := HN0.out g hg; omega))
     ·exact (hW g (.inr (by have := HSX.out; omega))).trans (HPP.out g (by have := HSX.out; omega))))
    exact bodyPost_ret (v := .tuple #[.agg (iml (regB m r).1 p').toArray, .int .i64 (regB m r).2]) (by simp [results, Tryz.results34, go_sem, q0, q1, q2, q3, q4, iml]) rfl ⟨p', rfl, HIF.out, Hb.out⟩
  ·have Hr : Hid (stepI m r = turB m r) := Hd (by unfold stepI; rw [hk0]; rfl)
   rw [Hr.out]
   have HCC : Hid (∀ W, Below w.heap.size w W → Calls Tryz.prog 66 #[imv m p, .agg (cR r a14 a15 a16 a17 c14 c15 c16 c17).toArray] W fun e w' => StD n0 W w' (turB m r).1 (turB m r).2 e) := Hd (fun W h => rturn_any m p r _ W n0 (fun g hg => Nat.lt_of_lt_of_le (hn0 g hg) h.size) (HVL.out W h) hw (HR.out W h) (by omega))
   have HK : Hid (r.k = 3) := Hd hk0
   clear hk0 Hr
   as_aux_lemma =>
    unfold imv at HCC
    have HFR0 := fF w m p r a14 a15 a16 a17 c14 c15 c16 c17
    clear hv hw hrw hpt hpa HR HRL hn0 HVL hr0 ht
    unfold imv
    unfold cR
    go_enter Tryz.func34, Tryz.ntmps34
    go_upto_region 1 with fail
    rw [fE]
    generalize frW w m p r a14 a15 a16 a17 c14 c15 c16 c17 = X at HFR0 ⊢
    have Hf := Hd HFR0
    clear HFR0
    obtain ⟨i0, i1, i2, i3, i4⟩ := Hf.out.i.im; have r0 := Hf.out.r.at 0 _ rfl; have r3 := Hf.out.r.at 3 _ rfl
    rw [HK.out] at r0
    go_upto_region 2 with (first | (refine wpList_load_mid rfl _ _ rfl _ _ rfl _ _ Hf.out.r.c Tryz.underlying65 rfl (by kernel_rfl) ?_) | (go_at_call 64; refine (HC.out _ Hf.out.b).mono ?_; rintro e wx ⟨rfl, hbx⟩; replace Hf := Hd (Hf.out.below hbx); clear i0 i1 i2 i3 i4 r0 r3; clear hbx HC))
    have HWB := Hd (Bx.new wx [Value.string wo, .int .i64 wa, .int .i64 0] 102)
    have HWG := Hd Hf.out.sz
    replace Hf := Hd (Hf.out.below (bA wx (.cells (List.toArray [Value.string wo, .int .i64 wa, .int .i64 0]) 102)))
    generalize wx.alloc (.cells (List.toArray [Value.string wo, .int .i64 wa, .int .i64 0]) 102) = X2 at Hf HWB ⊢
    generalize wx.heap.size = wb at HWB HWG ⊢
    obtain ⟨i0, i1, i2, i3, i4⟩ := Hf.out.i.im; have r0 := Hf.out.r.at 0 _ rfl; have r3 := Hf.out.r.at 3 _ rfl
    rw [HK.out] at r0
    have e2 := HWB.out.at 2 _ rfl
    go_wp2_with (first | (refine wpList_load_mid rfl _ _ rfl _ _ rfl _ _ Hf.out.i.c Tryz.underlying30 rfl (by kernel_rfl) ?_) | (refine wpList_load_mid rfl _ _ rfl _ _ rfl _ _ Hf.out.r.c Tryz.underlying65 rfl (by kernel_rfl) ?_) | (go_at_call 66; refine (HCC.out _ Hf.out.b).mono ?_; rintro e w6 ⟨p', rfl, him, hbx⟩; have HIM := Hd him; have HSX := Hd Hf.out.sz; replace Hf := Hd (Hf.out.below hbx); clear i0 i1 i2 i3 i4 r0 r3; clear hbx HCC him; unfold imv; dsimp only) | (refine wS rfl _ _ _ rfl _ _ rfl Hf.out.z (iml (turB m r).1 p') rfl rfl (by kernel_rfl) rfl ?_; intro W3 hz hk hb hp; have Hb := Hd (hb _ _ (show w.heap.size ≤ w.heap.size + 1 + 1 by omega) Hf.out.b); have HZ := Hd hz; have HPP := Hd hp; clear hz hk hb hp))
    obtain ⟨q0, q1, q2, q3, q4⟩ := HZ.out.im
    have HIF : Hid (∀ W, Agr n0 w.heap.size W3 W → ImR W (turB m r).1 p') := Hd (fun W hW => HIM.out W (fun g hg => by
     rcases hg with hg | hg
     ·exact (hW g (.inl hg)).trans (HPP.out g (by have := HN0.out g hg; omega))
     ·exact (hW g (.inr (by have := HSX.out; omega))).trans (HPP.out g (by have := HSX.out; omega))))
    exact bodyPost_ret (v := .tuple #[.agg (iml (turB m r).1 p').toArray, .int .i64 (turB m r).2]) (by simp [results, Tryz.results34, go_sem, q0, q1, q2, q3, q4, iml]) rfl ⟨p', rfl, HIF.out, Hb.out⟩
  ·have Hr : Hid (stepI m r = turB m r) := Hd (by unfold stepI; rw [hk0]; rfl)
   rw [Hr.out]
   have HCC : Hid (∀ W, Below w.heap.size w W → Calls Tryz.prog 66 #[imv m p, .agg (cR r a14 a15 a16 a17 c14 c15 c16 c17).toArray] W fun e w' => StD n0 W w' (turB m r).1 (turB m r).2 e) := Hd (fun W h => rturn_any m p r _ W n0 (fun g hg => Nat.lt_of_lt_of_le (hn0 g hg) h.size) (HVL.out W h) hw (HR.out W h) (by omega))
   have HK : Hid (r.k = 4) := Hd hk0
   clear hk0 Hr
   as_aux_lemma =>
    unfold imv at HCC
    have HFR0 := fF w m p r a14 a15 a16 a17 c14 c15 c16 c17
    clear hv hw hrw hpt hpa HR HRL hn0 HVL hr0 ht
    unfold imv
    unfold cR
    go_enter Tryz.func34, Tryz.ntmps34
    go_upto_region 1 with fail
    rw [fE]
    generalize frW w m p r a14 a15 a16 a17 c14 c15 c16 c17 = X at HFR0 ⊢
    have Hf := Hd HFR0
    clear HFR0
    obtain ⟨i0, i1, i2, i3, i4⟩ := Hf.out.i.im; have r0 := Hf.out.r.at 0 _ rfl; have r3 := Hf.out.r.at 3 _ rfl
    rw [HK.out] at r0
    go_upto_region 2 with (first | (refine wpList_load_mid rfl _ _ rfl _ _ rfl _ _ Hf.out.r.c Tryz.underlying65 rfl (by kernel_rfl) ?_) | (go_at_call 64; refine (HC.out _ Hf.out.b).mono ?_; rintro e wx ⟨rfl, hbx⟩; replace Hf := Hd (Hf.out.below hbx); clear i0 i1 i2 i3 i4 r0 r3; clear hbx HC))
    have HWB := Hd (Bx.new wx [Value.string wo, .int .i64 wa, .int .i64 0] 102)
    have HWG := Hd Hf.out.sz
    replace Hf := Hd (Hf.out.below (bA wx (.cells (List.toArray [Value.string wo, .int .i64 wa, .int .i64 0]) 102)))
    generalize wx.alloc (.cells (List.toArray [Value.string wo, .int .i64 wa, .int .i64 0]) 102) = X2 at Hf HWB ⊢
    generalize wx.heap.size = wb at HWB HWG ⊢
    obtain ⟨i0, i1, i2, i3, i4⟩ := Hf.out.i.im; have r0 := Hf.out.r.at 0 _ rfl; have r3 := Hf.out.r.at 3 _ rfl
    rw [HK.out] at r0
    have e2 := HWB.out.at 2 _ rfl
    go_wp2_with (first | (refine wpList_load_mid rfl _ _ rfl _ _ rfl _ _ Hf.out.i.c Tryz.underlying30 rfl (by kernel_rfl) ?_) | (refine wpList_load_mid rfl _ _ rfl _ _ rfl _ _ Hf.out.r.c Tryz.underlying65 rfl (by kernel_rfl) ?_) | (go_at_call 66; refine (HCC.out _ Hf.out.b).mono ?_; rintro e w6 ⟨p', rfl, him, hbx⟩; have HIM := Hd him; have HSX := Hd Hf.out.sz; replace Hf := Hd (Hf.out.below hbx); clear i0 i1 i2 i3 i4 r0 r3; clear hbx HCC him; unfold imv; dsimp only) | (refine wS rfl _ _ _ rfl _ _ rfl Hf.out.z (iml (turB m r).1 p') rfl rfl (by kernel_rfl) rfl ?_; intro W3 hz hk hb hp; have Hb := Hd (hb _ _ (show w.heap.size ≤ w.heap.size + 1 + 1 by omega) Hf.out.b); have HZ := Hd hz; have HPP := Hd hp; clear hz hk hb hp))
    obtain ⟨q0, q1, q2, q3, q4⟩ := HZ.out.im
    have HIF : Hid (∀ W, Agr n0 w.heap.size W3 W → ImR W (turB m r).1 p') := Hd (fun W hW => HIM.out W (fun g hg => by
     rcases hg with hg | hg
     ·exact (hW g (.inl hg)).trans (HPP.out g (by have := HN0.out g hg; omega))
     ·exact (hW g (.inr (by have := HSX.out; omega))).trans (HPP.out g (by have := HSX.out; omega))))
    exact bodyPost_ret (v := .tuple #[.agg (iml (turB m r).1 p').toArray, .int .i64 (turB m r).2]) (by simp [results, Tryz.results34, go_sem, q0, q1, q2, q3, q4, iml]) rfl ⟨p', rfl, HIF.out, Hb.out⟩
  ·have Hr : Hid (stepI m r = turB m r) := Hd (by unfold stepI; rw [hk0]; rfl)
   rw [Hr.out]
   have HCC : Hid (∀ W, Below w.heap.size w W → Calls Tryz.prog 66 #[imv m p, .agg (cR r a14 a15 a16 a17 c14 c15 c16 c17).toArray] W fun e w' => StD n0 W w' (turB m r).1 (turB m r).2 e) := Hd (fun W h => rturn_any m p r _ W n0 (fun g hg => Nat.lt_of_lt_of_le (hn0 g hg) h.size) (HVL.out W h) hw (HR.out W h) (by omega))
   have HK : Hid (r.k = 5) := Hd hk0
   clear hk0 Hr
   as_aux_lemma =>
    unfold imv at HCC
    have HFR0 := fF w m p r a14 a15 a16 a17 c14 c15 c16 c17
    clear hv hw hrw hpt hpa HR HRL hn0 HVL hr0 ht
    unfold imv
    unfold cR
    go_enter Tryz.func34, Tryz.ntmps34
    go_upto_region 1 with fail
    rw [fE]
    generalize frW w m p r a14 a15 a16 a17 c14 c15 c16 c17 = X at HFR0 ⊢
    have Hf := Hd HFR0
    clear HFR0
    obtain ⟨i0, i1, i2, i3, i4⟩ := Hf.out.i.im; have r0 := Hf.out.r.at 0 _ rfl; have r3 := Hf.out.r.at 3 _ rfl
    rw [HK.out] at r0
    go_upto_region 2 with (first | (refine wpList_load_mid rfl _ _ rfl _ _ rfl _ _ Hf.out.r.c Tryz.underlying65 rfl (by kernel_rfl) ?_) | (go_at_call 64; refine (HC.out _ Hf.out.b).mono ?_; rintro e wx ⟨rfl, hbx⟩; replace Hf := Hd (Hf.out.below hbx); clear i0 i1 i2 i3 i4 r0 r3; clear hbx HC))
    have HWB := Hd (Bx.new wx [Value.string wo, .int .i64 wa, .int .i64 0] 102)
    have HWG := Hd Hf.out.sz
    replace Hf := Hd (Hf.out.below (bA wx (.cells (List.toArray [Value.string wo, .int .i64 wa, .int .i64 0]) 102)))
    generalize wx.alloc (.cells (List.toArray [Value.string wo, .int .i64 wa, .int .i64 0]) 102) = X2 at Hf HWB ⊢
    generalize wx.heap.size = wb at HWB HWG ⊢
    obtain ⟨i0, i1, i2, i3, i4⟩ := Hf.out.i.im; have r0 := Hf.out.r.at 0 _ rfl; have r3 := Hf.out.r.at 3 _ rfl
    rw [HK.out] at r0
    have e2 := HWB.out.at 2 _ rfl
    go_wp2_with (first | (refine wpList_load_mid rfl _ _ rfl _ _ rfl _ _ Hf.out.i.c Tryz.underlying30 rfl (by kernel_rfl) ?_) | (refine wpList_load_mid rfl _ _ rfl _ _ rfl _ _ Hf.out.r.c Tryz.underlying65 rfl (by kernel_rfl) ?_) | (go_at_call 66; refine (HCC.out _ Hf.out.b).mono ?_; rintro e w6 ⟨p', rfl, him, hbx⟩; have HIM := Hd him; have HSX := Hd Hf.out.sz; replace Hf := Hd (Hf.out.below hbx); clear i0 i1 i2 i3 i4 r0 r3; clear hbx HCC him; unfold imv; dsimp only) | (refine wS rfl _ _ _ rfl _ _ rfl Hf.out.z (iml (turB m r).1 p') rfl rfl (by kernel_rfl) rfl ?_; intro W3 hz hk hb hp; have Hb := Hd (hb _ _ (show w.heap.size ≤ w.heap.size + 1 + 1 by omega) Hf.out.b); have HZ := Hd hz; have HPP := Hd hp; clear hz hk hb hp))
    obtain ⟨q0, q1, q2, q3, q4⟩ := HZ.out.im
    have HIF : Hid (∀ W, Agr n0 w.heap.size W3 W → ImR W (turB m r).1 p') := Hd (fun W hW => HIM.out W (fun g hg => by
     rcases hg with hg | hg
     ·exact (hW g (.inl hg)).trans (HPP.out g (by have := HN0.out g hg; omega))
     ·exact (hW g (.inr (by have := HSX.out; omega))).trans (HPP.out g (by have := HSX.out; omega))))
    exact bodyPost_ret (v := .tuple #[.agg (iml (turB m r).1 p').toArray, .int .i64 (turB m r).2]) (by simp [results, Tryz.results34, go_sem, q0, q1, q2, q3, q4, iml]) rfl ⟨p', rfl, HIF.out, Hb.out⟩
  ·have Hr : Hid (stepI m r = turB m r) := Hd (by unfold stepI; rw [hk0]; rfl)
   rw [Hr.out]
   have HCC : Hid (∀ W, Below w.heap.size w W → Calls Tryz.prog 66 #[imv m p, .agg (cR r a14 a15 a16 a17 c14 c15 c16 c17).toArray] W fun e w' => StD n0 W w' (turB m r).1 (turB m r).2 e) := Hd (fun W h => rturn_any m p r _ W n0 (fun g hg => Nat.lt_of_lt_of_le (hn0 g hg) h.size) (HVL.out W h) hw (HR.out W h) (by omega))
   have HK : Hid (r.k = 6) := Hd hk0
   clear hk0 Hr
   as_aux_lemma =>
    unfold imv at HCC
    have HFR0 := fF w m p r a14 a15 a16 a17 c14 c15 c16 c17
    clear hv hw hrw hpt hpa HR HRL hn0 HVL hr0 ht
    unfold imv
    unfold cR
    go_enter Tryz.func34, Tryz.ntmps34
    go_upto_region 1 with fail
    rw [fE]
    generalize frW w m p r a14 a15 a16 a17 c14 c15 c16 c17 = X at HFR0 ⊢
    have Hf := Hd HFR0
    clear HFR0
    obtain ⟨i0, i1, i2, i3, i4⟩ := Hf.out.i.im; have r0 := Hf.out.r.at 0 _ rfl; have r3 := Hf.out.r.at 3 _ rfl
    rw [HK.out] at r0
    go_upto_region 2 with (first | (refine wpList_load_mid rfl _ _ rfl _ _ rfl _ _ Hf.out.r.c Tryz.underlying65 rfl (by kernel_rfl) ?_) | (go_at_call 64; refine (HC.out _ Hf.out.b).mono ?_; rintro e wx ⟨rfl, hbx⟩; replace Hf := Hd (Hf.out.below hbx); clear i0 i1 i2 i3 i4 r0 r3; clear hbx HC))
    have HWB := Hd (Bx.new wx [Value.string wo, .int .i64 wa, .int .i64 0] 102)
    have HWG := Hd Hf.out.sz
    replace Hf := Hd (Hf.out.below (bA wx (.cells (List.toArray [Value.string wo, .int .i64 wa, .int .i64 0]) 102)))
    generalize wx.alloc (.cells (List.toArray [Value.string wo, .int .i64 wa, .int .i64 0]) 102) = X2 at Hf HWB ⊢
    generalize wx.heap.size = wb at HWB HWG ⊢
    obtain ⟨i0, i1, i2, i3, i4⟩ := Hf.out.i.im; have r0 := Hf.out.r.at 0 _ rfl; have r3 := Hf.out.r.at 3 _ rfl
    rw [HK.out] at r0
    have e2 := HWB.out.at 2 _ rfl
    go_wp2_with (first | (refine wpList_load_mid rfl _ _ rfl _ _ rfl _ _ Hf.out.i.c Tryz.underlying30 rfl (by kernel_rfl) ?_) | (refine wpList_load_mid rfl _ _ rfl _ _ rfl _ _ Hf.out.r.c Tryz.underlying65 rfl (by kernel_rfl) ?_) | (go_at_call 66; refine (HCC.out _ Hf.out.b).mono ?_; rintro e w6 ⟨p', rfl, him, hbx⟩; have HIM := Hd him; have HSX := Hd Hf.out.sz; replace Hf := Hd (Hf.out.below hbx); clear i0 i1 i2 i3 i4 r0 r3; clear hbx HCC him; unfold imv; dsimp only) | (refine wS rfl _ _ _ rfl _ _ rfl Hf.out.z (iml (turB m r).1 p') rfl rfl (by kernel_rfl) rfl ?_; intro W3 hz hk hb hp; have Hb := Hd (hb _ _ (show w.heap.size ≤ w.heap.size + 1 + 1 by omega) Hf.out.b); have HZ := Hd hz; have HPP := Hd hp; clear hz hk hb hp))
    obtain ⟨q0, q1, q2, q3, q4⟩ := HZ.out.im
    have HIF : Hid (∀ W, Agr n0 w.heap.size W3 W → ImR W (turB m r).1 p') := Hd (fun W hW => HIM.out W (fun g hg => by
     rcases hg with hg | hg
     ·exact (hW g (.inl hg)).trans (HPP.out g (by have := HN0.out g hg; omega))
     ·exact (hW g (.inr (by have := HSX.out; omega))).trans (HPP.out g (by have := HSX.out; omega))))
    exact bodyPost_ret (v := .tuple #[.agg (iml (turB m r).1 p').toArray, .int .i64 (turB m r).2]) (by simp [results, Tryz.results34, go_sem, q0, q1, q2, q3, q4, iml]) rfl ⟨p', rfl, HIF.out, Hb.out⟩
  ·have Hr : Hid (stepI m r = crtT m r) := Hd (by unfold stepI; rw [hk0]; rfl)
   rw [Hr.out]
   have HCC : Hid (∀ W, Below w.heap.size w W → Calls Tryz.prog 68 #[imv m p, .agg (cR r a14 a15 a16 a17 c14 c15 c16 c17).toArray] W fun e w' => StD n0 W w' (crtT m r).1 (crtT m r).2 e) := Hd (fun W h => rcreate_any m p r _ W n0 (fun g hg => Nat.lt_of_lt_of_le (hn0 g hg) h.size) (HVL.out W h) hw (HR.out W h))
   have HK : Hid (r.k = 7) := Hd hk0
   clear hk0 Hr
   as_aux_lemma =>
    unfold imv at HCC
    have HFR0 := fF w m p r a14 a15 a16 a17 c14 c15 c16 c17
    clear hv hw hrw hpt hpa HR HRL hn0 HVL hr0 ht
    unfold imv
    unfold cR
    go_enter Tryz.func34, Tryz.ntmps34
    go_upto_region 1 with fail
    rw [fE]
    generalize frW w m p r a14 a15 a16 a17 c14 c15 c16 c17 = X at HFR0 ⊢
    have Hf := Hd HFR0
    clear HFR0
    obtain ⟨i0, i1, i2, i3, i4⟩ := Hf.out.i.im; have r0 := Hf.out.r.at 0 _ rfl; have r3 := Hf.out.r.at 3 _ rfl
    rw [HK.out] at r0
    go_upto_region 2 with (first | (refine wpList_load_mid rfl _ _ rfl _ _ rfl _ _ Hf.out.r.c Tryz.underlying65 rfl (by kernel_rfl) ?_) | (go_at_call 64; refine (HC.out _ Hf.out.b).mono ?_; rintro e wx ⟨rfl, hbx⟩; replace Hf := Hd (Hf.out.below hbx); clear i0 i1 i2 i3 i4 r0 r3; clear hbx HC))
    have HWB := Hd (Bx.new wx [Value.string wo, .int .i64 wa, .int .i64 0] 102)
    have HWG := Hd Hf.out.sz
    replace Hf := Hd (Hf.out.below (bA wx (.cells (List.toArray [Value.string wo, .int .i64 wa, .int .i64 0]) 102)))
    generalize wx.alloc (.cells (List.toArray [Value.string wo, .int .i64 wa, .int .i64 0]) 102) = X2 at Hf HWB ⊢
    generalize wx.heap.size = wb at HWB HWG ⊢
    obtain ⟨i0, i1, i2, i3, i4⟩ := Hf.out.i.im; have r0 := Hf.out.r.at 0 _ rfl; have r3 := Hf.out.r.at 3 _ rfl
    rw [HK.out] at r0
    have e2 := HWB.out.at 2 _ rfl
    go_wp2_with (first | (refine wpList_load_mid rfl _ _ rfl _ _ rfl _ _ Hf.out.i.c Tryz.underlying30 rfl (by kernel_rfl) ?_) | (refine wpList_load_mid rfl _ _ rfl _ _ rfl _ _ Hf.out.r.c Tryz.underlying65 rfl (by kernel_rfl) ?_) | (go_at_call 68; refine (HCC.out _ Hf.out.b).mono ?_; rintro e w6 ⟨p', rfl, him, hbx⟩; have HIM := Hd him; have HSX := Hd Hf.out.sz; replace Hf := Hd (Hf.out.below hbx); clear i0 i1 i2 i3 i4 r0 r3; clear hbx HCC him; unfold imv; dsimp only) | (refine wS rfl _ _ _ rfl _ _ rfl Hf.out.z (iml (crtT m r).1 p') rfl rfl (by kernel_rfl) rfl ?_; intro W3 hz hk hb hp; have Hb := Hd (hb _ _ (show w.heap.size ≤ w.heap.size + 1 + 1 by omega) Hf.out.b); have HZ := Hd hz; have HPP := Hd hp; clear hz hk hb hp))
    obtain ⟨q0, q1, q2, q3, q4⟩ := HZ.out.im
    have HIF : Hid (∀ W, Agr n0 w.heap.size W3 W → ImR W (crtT m r).1 p') := Hd (fun W hW => HIM.out W (fun g hg => by
     rcases hg with hg | hg
     ·exact (hW g (.inl hg)).trans (HPP.out g (by have := HN0.out g hg; omega))
     ·exact (hW g (.inr (by have := HSX.out; omega))).trans (HPP.out g (by have := HSX.out; omega))))
    exact bodyPost_ret (v := .tuple #[.agg (iml (crtT m r).1 p').toArray, .int .i64 (crtT m r).2]) (by simp [results, Tryz.results34, go_sem, q0, q1, q2, q3, q4, iml]) rfl ⟨p', rfl, HIF.out, Hb.out⟩
  ·have Hr : Hid (stepI m r = repP m r) := Hd (by unfold stepI; rw [hk0]; rfl)
   rw [Hr.out]
   have HCC : Hid (∀ W, Below w.heap.size w W → Calls Tryz.prog 67 #[imv m p, .agg (cR r a14 a15 a16 a17 c14 c15 c16 c17).toArray] W fun e w' => StD n0 W w' (repP m r).1 (repP m r).2 e) := Hd (fun W h => rpart_any m p r _ W n0 (fun g hg => Nat.lt_of_lt_of_le (hn0 g hg) h.size) (HVL.out W h) hw (HRL.out W h) (by omega) hpt hpa)
   have HK : Hid (r.k = 8) := Hd hk0
   clear hk0 Hr
   as_aux_lemma =>
    unfold imv at HCC
    have HFR0 := fF w m p r a14 a15 a16 a17 c14 c15 c16 c17
    clear hv hw hrw hpt hpa HR HRL hn0 HVL hr0 ht
    unfold imv
    unfold cR
    go_enter Tryz.func34, Tryz.ntmps34
    go_upto_region 1 with fail
    rw [fE]
    generalize frW w m p r a14 a15 a16 a17 c14 c15 c16 c17 = X at HFR0 ⊢
    have Hf := Hd HFR0
    clear HFR0
    obtain ⟨i0, i1, i2, i3, i4⟩ := Hf.out.i.im; have r0 := Hf.out.r.at 0 _ rfl; have r3 := Hf.out.r.at 3 _ rfl
    rw [HK.out] at r0
    go_upto_region 2 with (first | (refine wpList_load_mid rfl _ _ rfl _ _ rfl _ _ Hf.out.r.c Tryz.underlying65 rfl (by kernel_rfl) ?_) | (go_at_call 64; refine (HC.out _ Hf.out.b).mono ?_; rintro e wx ⟨rfl, hbx⟩; replace Hf := Hd (Hf.out.below hbx); clear i0 i1 i2 i3 i4 r0 r3; clear hbx HC))
    have HWB := Hd (Bx.new wx [Value.string wo, .int .i64 wa, .int .i64 0] 102)
    have HWG := Hd Hf.out.sz
    replace Hf := Hd (Hf.out.below (bA wx (.cells (List.toArray [Value.string wo, .int .i64 wa, .int .i64 0]) 102)))
    generalize wx.alloc (.cells (List.toArray [Value.string wo, .int .i64 wa, .int .i64 0]) 102) = X2 at Hf HWB ⊢
    generalize wx.heap.size = wb at HWB HWG ⊢
    obtain ⟨i0, i1, i2, i3, i4⟩ := Hf.out.i.im; have r0 := Hf.out.r.at 0 _ rfl; have r3 := Hf.out.r.at 3 _ rfl
    rw [HK.out] at r0
    have e2 := HWB.out.at 2 _ rfl
    go_wp2_with (first | (refine wpList_load_mid rfl _ _ rfl _ _ rfl _ _ Hf.out.i.c Tryz.underlying30 rfl (by kernel_rfl) ?_) | (refine wpList_load_mid rfl _ _ rfl _ _ rfl _ _ Hf.out.r.c Tryz.underlying65 rfl (by kernel_rfl) ?_) | (go_at_call 67; refine (HCC.out _ Hf.out.b).mono ?_; rintro e w6 ⟨p', rfl, him, hbx⟩; have HIM := Hd him; have HSX := Hd Hf.out.sz; replace Hf := Hd (Hf.out.below hbx); clear i0 i1 i2 i3 i4 r0 r3; clear hbx HCC him; unfold imv; dsimp only) | (refine wS rfl _ _ _ rfl _ _ rfl Hf.out.z (iml (repP m r).1 p') rfl rfl (by kernel_rfl) rfl ?_; intro W3 hz hk hb hp; have Hb := Hd (hb _ _ (show w.heap.size ≤ w.heap.size + 1 + 1 by omega) Hf.out.b); have HZ := Hd hz; have HPP := Hd hp; clear hz hk hb hp))
    obtain ⟨q0, q1, q2, q3, q4⟩ := HZ.out.im
    have HIF : Hid (∀ W, Agr n0 w.heap.size W3 W → ImR W (repP m r).1 p') := Hd (fun W hW => HIM.out W (fun g hg => by
     rcases hg with hg | hg
     ·exact (hW g (.inl hg)).trans (HPP.out g (by have := HN0.out g hg; omega))
     ·exact (hW g (.inr (by have := HSX.out; omega))).trans (HPP.out g (by have := HSX.out; omega))))
    exact bodyPost_ret (v := .tuple #[.agg (iml (repP m r).1 p').toArray, .int .i64 (repP m r).2]) (by simp [results, Tryz.results34, go_sem, q0, q1, q2, q3, q4, iml]) rfl ⟨p', rfl, HIF.out, Hb.out⟩
  ·have Hr : Hid (stepI m r = repP m r) := Hd (by unfold stepI; rw [hk0]; rfl)
   rw [Hr.out]
   have HCC : Hid (∀ W, Below w.heap.size w W → Calls Tryz.prog 67 #[imv m p, .agg (cR r a14 a15 a16 a17 c14 c15 c16 c17).toArray] W fun e w' => StD n0 W w' (repP m r).1 (repP m r).2 e) := Hd (fun W h => rpart_any m p r _ W n0 (fun g hg => Nat.lt_of_lt_of_le (hn0 g hg) h.size) (HVL.out W h) hw (HRL.out W h) (by omega) hpt hpa)
   have HK : Hid (r.k = 9) := Hd hk0
   clear hk0 Hr
   as_aux_lemma =>
    unfold imv at HCC
    have HFR0 := fF w m p r a14 a15 a16 a17 c14 c15 c16 c17
    clear hv hw hrw hpt hpa HR HRL hn0 HVL hr0 ht
    unfold imv
    unfold cR
    go_enter Tryz.func34, Tryz.ntmps34
    go_upto_region 1 with fail
    rw [fE]
    generalize frW w m p r a14 a15 a16 a17 c14 c15 c16 c17 = X at HFR0 ⊢
    have Hf := Hd HFR0
    clear HFR0
    obtain ⟨i0, i1, i2, i3, i4⟩ := Hf.out.i.im; have r0 := Hf.out.r.at 0 _ rfl; have r3 := Hf.out.r.at 3 _ rfl
    rw [HK.out] at r0
    go_upto_region 2 with (first | (refine wpList_load_mid rfl _ _ rfl _ _ rfl _ _ Hf.out.r.c Tryz.underlying65 rfl (by kernel_rfl) ?_) | (go_at_call 64; refine (HC.out _ Hf.out.b).mono ?_; rintro e wx ⟨rfl, hbx⟩; replace Hf := Hd (Hf.out.below hbx); clear i0 i1 i2 i3 i4 r0 r3; clear hbx HC))
    have HWB := Hd (Bx.new wx [Value.string wo, .int .i64 wa, .int .i64 0] 102)
    have HWG := Hd Hf.out.sz
    replace Hf := Hd (Hf.out.below (bA wx (.cells (List.toArray [Value.string wo, .int .i64 wa, .int .i64 0]) 102)))
    generalize wx.alloc (.cells (List.toArray [Value.string wo, .int .i64 wa, .int .i64 0]) 102) = X2 at Hf HWB ⊢
    generalize wx.heap.size = wb at HWB HWG ⊢
    obtain ⟨i0, i1, i2, i3, i4⟩ := Hf.out.i.im; have r0 := Hf.out.r.at 0 _ rfl; have r3 := Hf.out.r.at 3 _ rfl
    rw [HK.out] at r0
    have e2 := HWB.out.at 2 _ rfl
    go_wp2_with (first | (refine wpList_load_mid rfl _ _ rfl _ _ rfl _ _ Hf.out.i.c Tryz.underlying30 rfl (by kernel_rfl) ?_) | (refine wpList_load_mid rfl _ _ rfl _ _ rfl _ _ Hf.out.r.c Tryz.underlying65 rfl (by kernel_rfl) ?_) | (go_at_call 67; refine (HCC.out _ Hf.out.b).mono ?_; rintro e w6 ⟨p', rfl, him, hbx⟩; have HIM := Hd him; have HSX := Hd Hf.out.sz; replace Hf := Hd (Hf.out.below hbx); clear i0 i1 i2 i3 i4 r0 r3; clear hbx HCC him; unfold imv; dsimp only) | (refine wS rfl _ _ _ rfl _ _ rfl Hf.out.z (iml (repP m r).1 p') rfl rfl (by kernel_rfl) rfl ?_; intro W3 hz hk hb hp; have Hb := Hd (hb _ _ (show w.heap.size ≤ w.heap.size + 1 + 1 by omega) Hf.out.b); have HZ := Hd hz; have HPP := Hd hp; clear hz hk hb hp))
    obtain ⟨q0, q1, q2, q3, q4⟩ := HZ.out.im
    have HIF : Hid (∀ W, Agr n0 w.heap.size W3 W → ImR W (repP m r).1 p') := Hd (fun W hW => HIM.out W (fun g hg => by
     rcases hg with hg | hg
     ·exact (hW g (.inl hg)).trans (HPP.out g (by have := HN0.out g hg; omega))
     ·exact (hW g (.inr (by have := HSX.out; omega))).trans (HPP.out g (by have := HSX.out; omega))))
    exact bodyPost_ret (v := .tuple #[.agg (iml (repP m r).1 p').toArray, .int .i64 (repP m r).2]) (by simp [results, Tryz.results34, go_sem, q0, q1, q2, q3, q4, iml]) rfl ⟨p', rfl, HIF.out, Hb.out⟩
  ·have Hr : Hid (stepI m r = cfgC m r) := Hd (by unfold stepI; rw [hk0]; rfl)
   rw [Hr.out]
   have HCC : Hid (∀ W, Below w.heap.size w W → Calls Tryz.prog 70 #[imv m p, .agg (cR r a14 a15 a16 a17 c14 c15 c16 c17).toArray] W fun e w' => StD n0 W w' (cfgC m r).1 (cfgC m r).2 e) := Hd (fun W h => rcfg_any m p r _ W n0 (fun g hg => Nat.lt_of_lt_of_le (hn0 g hg) h.size) (HVL.out W h) hw (HR.out W h))
   have HK : Hid (r.k = 10) := Hd hk0
   clear hk0 Hr
   as_aux_lemma =>
    unfold imv at HCC
    have HFR0 := fF w m p r a14 a15 a16 a17 c14 c15 c16 c17
    clear hv hw hrw hpt hpa HR HRL hn0 HVL hr0 ht
    unfold imv
    unfold cR
    go_enter Tryz.func34, Tryz.ntmps34
    go_upto_region 1 with fail
    rw [fE]
    generalize frW w m p r a14 a15 a16 a17 c14 c15 c16 c17 = X at HFR0 ⊢
    have Hf := Hd HFR0
    clear HFR0
    obtain ⟨i0, i1, i2, i3, i4⟩ := Hf.out.i.im; have r0 := Hf.out.r.at 0 _ rfl; have r3 := Hf.out.r.at 3 _ rfl
    rw [HK.out] at r0
    go_upto_region 2 with (first | (refine wpList_load_mid rfl _ _ rfl _ _ rfl _ _ Hf.out.r.c Tryz.underlying65 rfl (by kernel_rfl) ?_) | (go_at_call 64; refine (HC.out _ Hf.out.b).mono ?_; rintro e wx ⟨rfl, hbx⟩; replace Hf := Hd (Hf.out.below hbx); clear i0 i1 i2 i3 i4 r0 r3; clear hbx HC))
    have HWB := Hd (Bx.new wx [Value.string wo, .int .i64 wa, .int .i64 0] 102)
    have HWG := Hd Hf.out.sz
    replace Hf := Hd (Hf.out.below (bA wx (.cells (List.toArray [Value.string wo, .int .i64 wa, .int .i64 0]) 102)))
    generalize wx.alloc (.cells (List.toArray [Value.string wo, .int .i64 wa, .int .i64 0]) 102) = X2 at Hf HWB ⊢
    generalize wx.heap.size = wb at HWB HWG ⊢
    obtain ⟨i0, i1, i2, i3, i4⟩ := Hf.out.i.im; have r0 := Hf.out.r.at 0 _ rfl; have r3 := Hf.out.r.at 3 _ rfl
    rw [HK.out] at r0
    have e2 := HWB.out.at 2 _ rfl
    go_wp2_with (first | (refine wpList_load_mid rfl _ _ rfl _ _ rfl _ _ Hf.out.i.c Tryz.underlying30 rfl (by kernel_rfl) ?_) | (refine wpList_load_mid rfl _ _ rfl _ _ rfl _ _ Hf.out.r.c Tryz.underlying65 rfl (by kernel_rfl) ?_) | (go_at_call 70; refine (HCC.out _ Hf.out.b).mono ?_; rintro e w6 ⟨p', rfl, him, hbx⟩; have HIM := Hd him; have HSX := Hd Hf.out.sz; replace Hf := Hd (Hf.out.below hbx); clear i0 i1 i2 i3 i4 r0 r3; clear hbx HCC him; unfold imv; dsimp only) | (refine wS rfl _ _ _ rfl _ _ rfl Hf.out.z (iml (cfgC m r).1 p') rfl rfl (by kernel_rfl) rfl ?_; intro W3 hz hk hb hp; have Hb := Hd (hb _ _ (show w.heap.size ≤ w.heap.size + 1 + 1 by omega) Hf.out.b); have HZ := Hd hz; have HPP := Hd hp; clear hz hk hb hp))
    obtain ⟨q0, q1, q2, q3, q4⟩ := HZ.out.im
    have HIF : Hid (∀ W, Agr n0 w.heap.size W3 W → ImR W (cfgC m r).1 p') := Hd (fun W hW => HIM.out W (fun g hg => by
     rcases hg with hg | hg
     ·exact (hW g (.inl hg)).trans (HPP.out g (by have := HN0.out g hg; omega))
     ·exact (hW g (.inr (by have := HSX.out; omega))).trans (HPP.out g (by have := HSX.out; omega))))
    exact bodyPost_ret (v := .tuple #[.agg (iml (cfgC m r).1 p').toArray, .int .i64 (cfgC m r).2]) (by simp [results, Tryz.results34, go_sem, q0, q1, q2, q3, q4, iml]) rfl ⟨p', rfl, HIF.out, Hb.out⟩
  ·have Hr : Hid (stepI m r = drpT m r) := Hd (by unfold stepI; rw [hk0]; rfl)
   rw [Hr.out]
   have HCC : Hid (∀ W, Below w.heap.size w W → Calls Tryz.prog 69 #[imv m p, .int .i64 r.tp] W fun e w' => StD n0 W w' (drpT m r).1 (drpT m r).2 e) := Hd (fun W h => rdrop_any m p r W n0 (fun g hg => Nat.lt_of_lt_of_le (hn0 g hg) h.size) (HVL.out W h) hw)
   have HK : Hid (r.k = 11) := Hd hk0
   clear hk0 Hr
   as_aux_lemma =>
    unfold imv at HCC
    have HFR0 := fF w m p r a14 a15 a16 a17 c14 c15 c16 c17
    clear hv hw hrw hpt hpa HR HRL hn0 HVL hr0 ht
    unfold imv
    unfold cR
    go_enter Tryz.func34, Tryz.ntmps34
    go_upto_region 1 with fail
    rw [fE]
    generalize frW w m p r a14 a15 a16 a17 c14 c15 c16 c17 = X at HFR0 ⊢
    have Hf := Hd HFR0
    clear HFR0
    obtain ⟨i0, i1, i2, i3, i4⟩ := Hf.out.i.im; have r0 := Hf.out.r.at 0 _ rfl; have r3 := Hf.out.r.at 3 _ rfl
    rw [HK.out] at r0
    go_upto_region 2 with (first | (refine wpList_load_mid rfl _ _ rfl _ _ rfl _ _ Hf.out.r.c Tryz.underlying65 rfl (by kernel_rfl) ?_) | (go_at_call 64; refine (HC.out _ Hf.out.b).mono ?_; rintro e wx ⟨rfl, hbx⟩; replace Hf := Hd (Hf.out.below hbx); clear i0 i1 i2 i3 i4 r0 r3; clear hbx HC))
    have HWB := Hd (Bx.new wx [Value.string wo, .int .i64 wa, .int .i64 0] 102)
    have HWG := Hd Hf.out.sz
    replace Hf := Hd (Hf.out.below (bA wx (.cells (List.toArray [Value.string wo, .int .i64 wa, .int .i64 0]) 102)))
    generalize wx.alloc (.cells (List.toArray [Value.string wo, .int .i64 wa, .int .i64 0]) 102) = X2 at Hf HWB ⊢
    generalize wx.heap.size = wb at HWB HWG ⊢
    obtain ⟨i0, i1, i2, i3, i4⟩ := Hf.out.i.im; have r0 := Hf.out.r.at 0 _ rfl; have r3 := Hf.out.r.at 3 _ rfl
    rw [HK.out] at r0
    have e2 := HWB.out.at 2 _ rfl
    go_wp2_with (first | (refine wpList_load_mid rfl _ _ rfl _ _ rfl _ _ Hf.out.i.c Tryz.underlying30 rfl (by kernel_rfl) ?_) | (refine wpList_load_mid rfl _ _ rfl _ _ rfl _ _ Hf.out.r.c Tryz.underlying65 rfl (by kernel_rfl) ?_) | (go_at_call 69; refine (HCC.out _ Hf.out.b).mono ?_; rintro e w6 ⟨p', rfl, him, hbx⟩; have HIM := Hd him; have HSX := Hd Hf.out.sz; replace Hf := Hd (Hf.out.below hbx); clear i0 i1 i2 i3 i4 r0 r3; clear hbx HCC him; unfold imv; dsimp only) | (refine wS rfl _ _ _ rfl _ _ rfl Hf.out.z (iml (drpT m r).1 p') rfl rfl (by kernel_rfl) rfl ?_; intro W3 hz hk hb hp; have Hb := Hd (hb _ _ (show w.heap.size ≤ w.heap.size + 1 + 1 by omega) Hf.out.b); have HZ := Hd hz; have HPP := Hd hp; clear hz hk hb hp))
    obtain ⟨q0, q1, q2, q3, q4⟩ := HZ.out.im
    have HIF : Hid (∀ W, Agr n0 w.heap.size W3 W → ImR W (drpT m r).1 p') := Hd (fun W hW => HIM.out W (fun g hg => by
     rcases hg with hg | hg
     ·exact (hW g (.inl hg)).trans (HPP.out g (by have := HN0.out g hg; omega))
     ·exact (hW g (.inr (by have := HSX.out; omega))).trans (HPP.out g (by have := HSX.out; omega))))
    exact bodyPost_ret (v := .tuple #[.agg (iml (drpT m r).1 p').toArray, .int .i64 (drpT m r).2]) (by simp [results, Tryz.results34, go_sem, q0, q1, q2, q3, q4, iml]) rfl ⟨p', rfl, HIF.out, Hb.out⟩
  ·have Hr : Hid (stepI m r = ansD m r) := Hd (by unfold stepI; rw [hk0]; rfl)
   rw [Hr.out]
   have HCC : Hid (∀ W, Below w.heap.size w W → Calls Tryz.prog 71 #[imv m p, .agg (cR r a14 a15 a16 a17 c14 c15 c16 c17).toArray] W fun e w' => StD n0 W w' (ansD m r).1 (ansD m r).2 e) := Hd (fun W h => rdone_any m p r _ W n0 (fun g hg => Nat.lt_of_lt_of_le (hn0 g hg) h.size) (HVL.out W h) hw (HR.out W h))
   have HK : Hid (r.k = 12) := Hd hk0
   clear hk0 Hr
   as_aux_lemma =>
    unfold imv at HCC
    have HFR0 := fF w m p r a14 a15 a16 a17 c14 c15 c16 c17
    clear hv hw hrw hpt hpa HR HRL hn0 HVL hr0 ht
    unfold imv
    unfold cR
    go_enter Tryz.func34, Tryz.ntmps34
    go_upto_region 1 with fail
    rw [fE]
    generalize frW w m p r a14 a15 a16 a17 c14 c15 c16 c17 = X at HFR0 ⊢
    have Hf := Hd HFR0
    clear HFR0
    obtain ⟨i0, i1, i2, i3, i4⟩ := Hf.out.i.im; have r0 := Hf.out.r.at 0 _ rfl; have r3 := Hf.out.r.at 3 _ rfl
    rw [HK.out] at r0
    go_upto_region 2 with (first | (refine wpList_load_mid rfl _ _ rfl _ _ rfl _ _ Hf.out.r.c Tryz.underlying65 rfl (by kernel_rfl) ?_) | (go_at_call 64; refine (HC.out _ Hf.out.b).mono ?_; rintro e wx ⟨rfl, hbx⟩; replace Hf := Hd (Hf.out.below hbx); clear i0 i1 i2 i3 i4 r0 r3; clear hbx HC))
    have HWB := Hd (Bx.new wx [Value.string wo, .int .i64 wa, .int .i64 0] 102)
    have HWG := Hd Hf.out.sz
    replace Hf := Hd (Hf.out.below (bA wx (.cells (List.toArray [Value.string wo, .int .i64 wa, .int .i64 0]) 102)))
    generalize wx.alloc (.cells (List.toArray [Value.string wo, .int .i64 wa, .int .i64 0]) 102) = X2 at Hf HWB ⊢
    generalize wx.heap.size = wb at HWB HWG ⊢
    obtain ⟨i0, i1, i2, i3, i4⟩ := Hf.out.i.im; have r0 := Hf.out.r.at 0 _ rfl; have r3 := Hf.out.r.at 3 _ rfl
    rw [HK.out] at r0
    have e2 := HWB.out.at 2 _ rfl
    go_wp2_with (first | (refine wpList_load_mid rfl _ _ rfl _ _ rfl _ _ Hf.out.i.c Tryz.underlying30 rfl (by kernel_rfl) ?_) | (refine wpList_load_mid rfl _ _ rfl _ _ rfl _ _ Hf.out.r.c Tryz.underlying65 rfl (by kernel_rfl) ?_) | (go_at_call 71; refine (HCC.out _ Hf.out.b).mono ?_; rintro e w6 ⟨p', rfl, him, hbx⟩; have HIM := Hd him; have HSX := Hd Hf.out.sz; replace Hf := Hd (Hf.out.below hbx); clear i0 i1 i2 i3 i4 r0 r3; clear hbx HCC him; unfold imv; dsimp only) | (refine wS rfl _ _ _ rfl _ _ rfl Hf.out.z (iml (ansD m r).1 p') rfl rfl (by kernel_rfl) rfl ?_; intro W3 hz hk hb hp; have Hb := Hd (hb _ _ (show w.heap.size ≤ w.heap.size + 1 + 1 by omega) Hf.out.b); have HZ := Hd hz; have HPP := Hd hp; clear hz hk hb hp))
    obtain ⟨q0, q1, q2, q3, q4⟩ := HZ.out.im
    have HIF : Hid (∀ W, Agr n0 w.heap.size W3 W → ImR W (ansD m r).1 p') := Hd (fun W hW => HIM.out W (fun g hg => by
     rcases hg with hg | hg
     ·exact (hW g (.inl hg)).trans (HPP.out g (by have := HN0.out g hg; omega))
     ·exact (hW g (.inr (by have := HSX.out; omega))).trans (HPP.out g (by have := HSX.out; omega))))
    exact bodyPost_ret (v := .tuple #[.agg (iml (ansD m r).1 p').toArray, .int .i64 (ansD m r).2]) (by simp [results, Tryz.results34, go_sem, q0, q1, q2, q3, q4, iml]) rfl ⟨p', rfl, HIF.out, Hb.out⟩
 ·have Hr : Hid (app m r = (m, (chk r).2.2)) := Hd (by unfold app; rw [if_neg hc])
  rw [Hr.out]
  obtain ⟨cc, hcc⟩ : ∃ c, c = (chk r).2.2 := ⟨_, rfl⟩
  rw [← hcc] at HC hc ⊢
  generalize (chk r).1 = wo at HC
  generalize (chk r).2.1 = wa at HC
  have n1 : (cc != 0) = true := by simpa using hc
  clear hcc hc Hr
  have HFR0 := fF w m p r a14 a15 a16 a17 c14 c15 c16 c17
  clear hv hw hrw HR HRL hn0 HVL hr0 ht
  unfold imv
  unfold cR
  go_enter Tryz.func34, Tryz.ntmps34
  go_upto_region 1 with fail
  rw [fE]
  generalize frW w m p r a14 a15 a16 a17 c14 c15 c16 c17 = X at HFR0 ⊢
  have Hf := Hd HFR0
  clear HFR0
  obtain ⟨i0, i1, i2, i3, i4⟩ := Hf.out.i.im; have r0 := Hf.out.r.at 0 _ rfl; have r3 := Hf.out.r.at 3 _ rfl
  go_upto_region 2 with (first | (refine wpList_load_mid rfl _ _ rfl _ _ rfl _ _ Hf.out.r.c Tryz.underlying65 rfl (by kernel_rfl) ?_) | (go_at_call 64; refine (HC.out _ Hf.out.b).mono ?_; rintro e wx ⟨rfl, hbx⟩; replace Hf := Hd (Hf.out.below hbx); clear i0 i1 i2 i3 i4 r0 r3; clear hbx HC))
  have HWB := Hd (Bx.new wx [Value.string wo, .int .i64 wa, .int .i64 cc] 102)
  have HWG := Hd Hf.out.sz
  replace Hf := Hd (Hf.out.below (bA wx (.cells (List.toArray [Value.string wo, .int .i64 wa, .int .i64 cc]) 102)))
  generalize wx.alloc (.cells (List.toArray [Value.string wo, .int .i64 wa, .int .i64 cc]) 102) = X2 at Hf HWB ⊢
  generalize wx.heap.size = wb at HWB HWG ⊢
  obtain ⟨i0, i1, i2, i3, i4⟩ := Hf.out.i.im; have r0 := Hf.out.r.at 0 _ rfl; have r3 := Hf.out.r.at 3 _ rfl
  have e2 := HWB.out.at 2 _ rfl
  go_upto_region 3 with fail
  obtain ⟨z0, z1, z2, z3, z4⟩ := Hf.out.z.c5
  have f0 := Hf.out.z.f 0 (by decide)
  have f1 := Hf.out.z.f 1 (by decide)
  have f2 := Hf.out.z.f 2 (by decide)
  have f3 := Hf.out.z.f 3 (by decide)
  have f4 := Hf.out.z.f 4 (by decide)
  have hz := Hf.out.z.there (m := 5) rfl
  have Ho : Hid (Fr w m p (cR r a14 a15 a16 a17 c14 c15 c16 c17) (iml m p) ((((((X2.setCell ⟨w.heap.size + 1 + 1, 0, none⟩ (.slice p.ab m.br.length p.cb)).setCell ⟨w.heap.size + 1 + 1, 1, none⟩ (.slice p.aq p.ts.length p.cq)).setCell ⟨w.heap.size + 1 + 1, 2, none⟩ (.slice p.ac m.cf.length p.cc)).setCell ⟨w.heap.size + 1 + 1, 3, none⟩ (.slice p.ad m.dn.length p.cd)).setCell ⟨w.heap.size + 1 + 1, 4, none⟩ (.int .i64 m.la)).drew)) := Hd (Hf.out.ret rfl)
  have hwb : ¬ wb = w.heap.size + 1 + 1 := by have := HWG.out; omega
  go_region
  all_goals
   generalize (((((X2.setCell ⟨w.heap.size + 1 + 1, 0, none⟩ (.slice p.ab m.br.length p.cb)).setCell ⟨w.heap.size + 1 + 1, 1, none⟩ (.slice p.aq p.ts.length p.cq)).setCell ⟨w.heap.size + 1 + 1, 2, none⟩ (.slice p.ac m.cf.length p.cc)).setCell ⟨w.heap.size + 1 + 1, 3, none⟩ (.slice p.ad m.dn.length p.cd)).setCell ⟨w.heap.size + 1 + 1, 4, none⟩ (.int .i64 m.la)).drew = W3 at Ho ⊢
   clear z0 z1 z2 z3 z4 f0 f1 f2 f3 f4 hz
   obtain ⟨q0, q1, q2, q3, q4⟩ := Ho.out.z.im
   go_wp2_with fail
   exact bodyPost_ret (v := .tuple #[.agg (iml m p).toArray, .int .i64 cc]) (by simp [results, Tryz.results34, go_sem, q0, q1, q2, q3, q4, iml]) rfl (std_ret Ho.out (fun W hW => Hv.out W _ Ho.out.b hW))
end Go.Proofs.YtlggjgapdpkhiaaGreat
namespace Go.Proofs.YtlggjgapdpkhiaaGreat
open Go.RowKit
theorem rg_set0 {g o k : Nat} {cs : List Value} (hk : ¬ g = k) : ∀ (ds : List Value) (i : Nat) {W : World}, W.rangeAt g o cs → (W.setCells k i ds).rangeAt g o cs
 | [], _, _, h => h
 | d :: ds, i, W, h => by
  rw [World.setCells]
  exact rg_set0 hk ds (i + 1) (fun j x hx => (World.cell?_setCell_other _ _ _ _ (fun e => hk (congrArg Addr.block e).symm)).trans (h j x hx))
theorem rg_setr {g o k : Nat} {cs : List Value} {W : World} (h : W.rangeAt g o cs) (hk : ¬ g = k) (ds : List Value) (i : Nat) : (W.setCells k i ds).rangeAt g o cs := rg_set0 hk ds i h
def Nam (B : Nat) (W : World) (n0 : Nat → Prop) (g : Nat) : Prop := n0 g ∨ (B + 1 ≤ g ∧ g < W.heap.size)
structure Am (w : World) (n0 : Nat → Prop) (ci : List Value) (zb B : Nat) (mk : Im) (pk : Ip) (W : World) : Prop where
 i : Bx W w.heap.size ci
 z : Bx W zb imzl
 x : Bx W B (iml mk pk)
 r : ∀ W', (∀ g, Nam B W n0 g → W'.heap[g]? = W.heap[g]?) → ImR W' mk pk
 n : ∀ g, n0 g → g < w.heap.size
 h1 : w.heap.size < B
 h2 : zb < B
 h3 : w.heap.size ≤ zb
 b : Below w.heap.size w W
structure An (w : World) (n0 : Nat → Prop) (ci : List Value) (zb B : Nat) (mk m' : Im) (pk p' : Ip) (g : Nat) (W : World) : Prop where
 i : Bx W w.heap.size ci
 z : Bx W zb imzl
 x : Bx W B (iml mk pk)
 y : Bx W g (iml m' p')
 r : ∀ W', (∀ k, Nam B W n0 k → k ≠ g → W'.heap[k]? = W.heap[k]?) → ImR W' m' p'
 n : ∀ g, n0 g → g < w.heap.size
 h1 : w.heap.size < B
 h2 : zb < B
 h3 : w.heap.size ≤ zb
 ge : B + 1 ≤ g
 b : Below w.heap.size w W
section
variable {w W W' V X Y : World} {n0 : Nat → Prop} {ci : List Value} {zb B g : Nat} {m mk m' : Im} {p pk p' : Ip}
theorem Am.lt (h : Am w n0 ci zb B mk pk W) {g : Nat} (hg : Nam B W n0 g) : g < W.heap.size := by
 rcases hg with hg | hg
 ·have := h.n g hg
  have := h.b.size
  omega
 ·exact hg.2
theorem Am.below (h : Am w n0 ci zb B mk pk W) (hb : Below W.heap.size W W') : Am w n0 ci zb B mk pk W' :=
 ⟨h.i.below hb, h.z.below hb, h.x.below hb, fun V hV => h.r V (fun g hg => (hV g (hg.imp id (fun q => ⟨q.1, Nat.lt_of_lt_of_le q.2 hb.size⟩))).trans (hb.block g (h.lt hg))), h.n, h.h1, h.h2, h.h3, bt h.b hb⟩
theorem Am.one (h : Am w n0 ci zb B mk pk V) (hb : Below V.heap.size V X) (hi : ∀ W, Agr (Nam B V n0) V.heap.size X W → ImR W m' p') (hy : Bx W X.heap.size (iml m' p')) (hbx : Below X.heap.size X W) : An w n0 ci zb B mk m' pk p' X.heap.size W := by
 have hl := h.x.l
 have hs := hb.size
 have hs2 := hbx.size
 have h2 := (h.below hb).below hbx
 refine ⟨h2.i, h2.z, h2.x, hy, fun W' hW => ?_, h.n, h.h1, h.h2, h.h3, by omega, h2.b⟩
 refine ImR.lift (A := X) hi (fun k hk hlt => ?_)
 rcases hk with (k1 | k1) | k1
 ·exact (hW k (.inl k1) (by have := h.n k k1; have := h.b.size; omega)).trans (hbx.block k hlt)
 ·exact (hW k (.inr ⟨k1.1, by omega⟩) (by omega)).trans (hbx.block k hlt)
 ·exact (hW k (.inr ⟨by omega, by omega⟩) (by omega)).trans (hbx.block k hlt)
theorem Am.two (h : Am w n0 ci zb B mk pk V) (hb : Below V.heap.size V Y) (hY : V.heap.size < Y.heap.size) (hbx : Below Y.heap.size Y X) (hi : ∀ W, Agr (Nam B V n0) Y.heap.size X W → ImR W m' p') (hy : Bx W V.heap.size (iml m' p')) (hk : ∀ q xs, ¬ q = V.heap.size → Bx X q xs → Bx W q xs) (hbw : ∀ A u, A ≤ V.heap.size → Below A u X → Below A u W) (hp : ∀ g, ¬ g = V.heap.size → W.heap[g]? = X.heap[g]?) (hs : X.heap.size ≤ W.heap.size) : An w n0 ci zb B mk m' pk p' V.heap.size W := by
 have hl := h.x.l
 have h1 := h.h1
 have h2 := h.h2
 have hX := (h.below hb).below hbx
 have hbv := hbw V.heap.size X (Nat.le_refl _) (Below.refl _ _)
 have hsx := hb.size
 have hsy := hbx.size
 refine ⟨hk _ _ (by omega) hX.i, hk _ _ (by omega) hX.z, hk B _ (by omega) hX.x, hy, fun W' hW => ?_, h.n, h.h1, h.h2, h.h3, by omega, hbw _ w (by omega) hX.b⟩
 refine ImR.lift (A := X) hi (fun k hk hlt => ?_)
 rcases hk with (k1 | k1) | k1
 ·have := h.n k k1
  exact (hW k (.inl k1) (by omega)).trans (hp k (by omega))
 ·exact (hW k (.inr ⟨k1.1, by omega⟩) (by omega)).trans (hp k (by omega))
 ·exact (hW k (.inr ⟨by omega, by omega⟩) (by omega)).trans (hp k (by omega))
theorem An.next (h : An w n0 ci zb B mk m' pk p' g W) (hz : Bx W' B (iml m' p')) (hk : ∀ q xs, ¬ q = B → Bx W q xs → Bx W' q xs) (hb : ∀ A u, A ≤ B → Below A u W → Below A u W') (hp : ∀ k, ¬ k = B → W'.heap[k]? = W.heap[k]?) (hs : W.heap.size ≤ W'.heap.size) : Am w n0 ci zb B m' p' W' := by
 have h1 := h.h1
 have h2 := h.h2
 refine ⟨hk _ _ (by omega) h.i, hk _ _ (by omega) h.z, hz, fun V hV => h.r V (fun k k1 _ => ?_), h.n, h.h1, h.h2, h.h3, hb _ w (by omega) h.b⟩
 have hkB : ¬ k = B := fun e => by
  rcases k1 with k1 | k1
  ·have := h.n k k1; omega
  ·omega
 exact (hV k (k1.imp id (fun q => ⟨q.1, by omega⟩))).trans (hp k hkB)
end
theorem made_step {m mk : Im} {rs : List Rc} {k : Nat} (hk : k < rs.length) (h : made m rs = made mk (rs.drop k)) : made m rs = made (app mk rs[k]).1 (rs.drop (k + 1)) := by
 rw [h, List.drop_eq_getElem_cons hk]
 rfl
set_option maxRecDepth 100000 in
set_option maxHeartbeats 16000000 in
theorem rmade_any {okb ok : Nat → Prop} (v : Value) (ps : List Rp) (w : World) (n0 : Nat → Prop) (hn0 : ∀ g, n0 g → g < w.heap.size) (hr : ∀ W, (∀ g, n0 g → W.heap[g]? = w.heap[g]?) → Rl okb ok W v ps) (hN : ps.length ≤ 50000) (ht : ∀ r ∈ rcl ps, TxR r) : Calls Tryz.prog 6 #[v] w fun e w' => ∃ p, e = .returned (imv (made Im.zero (rcl ps)) p) ∧ (∀ W, Agr n0 w.heap.size w' W → ImR W (made Im.zero (rcl ps)) p) ∧ Wf (made Im.zero (rcl ps)) ps.length ∧ Below w.heap.size w w' := by
 have HV := Hd hr
 have HTX := Hd ht
 obtain ⟨ci, hci⟩ : ∃ c, c = imzl := ⟨_, rfl⟩
 obtain ⟨zb, hzb⟩ : ∃ z, z = w.heap.size := ⟨_, rfl⟩
 have HA0 : Hid (Am w n0 ci zb (w.heap.size + 1) Im.zero Ip.zero ((w.alloc (.cells (List.toArray [Value.slice none 0 0, .slice none 0 0, .slice none 0 0, .slice none 0 0, .int .i64 0]) 30)).alloc (.cells (List.toArray [Value.slice none 0 0, .slice none 0 0, .slice none 0 0, .slice none 0 0, .int .i64 0]) 30))) := Hd (by
  obtain ⟨h1, h2, h3⟩ := Bx.mk2 w imzl imzl 30 30 (Below.refl _ _)
  subst hci
  subst hzb
  exact ⟨h1, h1, h2, fun W' hW => ⟨rs_nil _ _ _ _, rs_nil _ _ _ _, (fun t ht => by cases ht), rfl, rs_nil _ _ _ _, rs_nil _ _ _ _⟩, hn0, by omega, by omega, by omega, h3⟩)
 obtain ⟨ao, cap, rfl⟩ := (hr w (fun _ _ => rfl)).form
 have hln : (rcl ps).length = ps.length := rcl_len ps
 clear hn0 hr ht hci
 go_enter Tryz.func6, Tryz.ntmps6
 go_upto_region 3 with fail
 generalize (w.alloc (.cells (List.toArray [Value.slice none 0 0, .slice none 0 0, .slice none 0 0, .slice none 0 0, .int .i64 0]) 30)).alloc (.cells (List.toArray [Value.slice none 0 0, .slice none 0 0, .slice none 0 0, .slice none 0 0, .int .i64 0]) 30) = X at HA0 ⊢
 go_loopw [4] (fun i W => ∃ (k : Nat) (mk : Im) (pk : Ip), k ≤ ps.length ∧ i = .int .i64 (k : Int) ∧ Am w n0 ci zb (w.heap.size + 1) mk pk W ∧ Wf mk k ∧ made Im.zero (rcl ps) = made mk ((rcl ps).drop k)) (fun i _ => ps.length - (ivA i).toNat)
 case atStart => exact ⟨0, Im.zero, Ip.zero, Nat.zero_le _, rfl, HA0.out, wf_zero 0, rfl⟩
 case round =>
  clear HA0
  obtain ⟨k, mk, pk, hk, rfl, ha, hwf, hal⟩ := hrel
  have HA := Hd ha
  have HWF := Hd hwf
  have HAL := Hd hal
  clear ha hwf hal
  by_cases hlt : k < ps.length
  ·have hltI : (k : Int) < (ps.length : Int) := by omega
   have hlr : k < (rcl ps).length := by omega
   obtain ⟨rb, ro, rfl, hrg⟩ := (HV.out w (fun _ _ => rfl)).rg (by omega)
   have HRB : Hid (rb < w.heap.size) := Hd (cB ((range_at hrg hlt) 0 _ rfl))
   have HRG := Hd (rg_bel (W := w) (range_at hrg hlt) HA.out.b)
   have HIS := Hd (fun W (h : ∀ g, n0 g → W.heap[g]? = w.heap[g]?) => ((HV.out W h).2 _ (List.getElem_mem hlt)).is)
   have hpk : (rcl ps)[k] = ps[k].1 := by simp [rcl]
   have HTR := Hd (HTX.out _ (hpk ▸ List.getElem_mem hlr))
   have HMS := Hd (made_step (m := Im.zero) hlr HAL.out)
   rw [hpk] at HMS
   clear hrg hpk
   generalize ps[k] = r at HRG HIS HTR HMS
   have HW1 := Hd (wf_app HWF.out r.1)
   go_upto_region 5 with fail
   go_cut [5, 6] (fun x y W => ∃ (g : Nat) (p' : Ip), x = .pointer (some ⟨g, 0, none⟩) ∧ y = .int .i64 (app mk r.1).2 ∧ An w n0 ci zb (w.heap.size + 1) mk (app mk r.1).1 pk p' g W)
   case first =>
    clear HW1 HMS HAL
    have hdw : Below wr.heap.size wr wr.drew := (Below.refl _ _).drew
    refine wp_region_held_drew (S := fun W => Bx W (w.heap.size + 1) (iml mk pk) ∧ W.rangeAt rb (ro + k * 18) (cel r)) (by kernel_rfl) ⟨HA.out.x.below hdw, rg_bel HRG.out hdw⟩ (fun hHeld => ?_)
    have HL4 := Hd (HA.out.below hdw)
    have HRR : Hid (rb < w.heap.size) := HRB
    generalize wr.drew = V4 at HL4 hHeld ⊢
    clear hdw HA
    have HAP := Hd (fun W (h : Below V4.heap.size V4 W) => rapply_any mk pk r.1 _ W (Nam (w.heap.size + 1) V4 n0) (fun g hg => Nat.lt_of_lt_of_le (HL4.out.lt hg) h.size) (fun W' hW' => HL4.out.r W' (fun g hg => (hW' g hg).trans (h.block g (HL4.out.lt hg)))) (HWF.out.mono (by omega)) (fun W' hW' => HIS.out W' (fun g hg => ((hW' g (.inl hg)).trans (h.block g (HL4.out.lt (.inl hg)))).trans (HL4.out.b.block g (HL4.out.n g hg)))) HTR.out)
    obtain ⟨m', c', har⟩ : ∃ a b, app mk r.1 = (a, b) := ⟨_, _, rfl⟩
    have HAR := Hd har
    rw [har] at HAP
    clear har HIS HTR HWF
    refine tky 0 15 (_) rfl rfl (yieldsIf_load_mid (by rfl) _ _ rfl _ _ rfl (iml mk pk) _ (fun W hW => hW.1.c) Tryz.underlying30 rfl (by kernel_rfl)) hHeld ?_
    simp only [Act.put, zA, zB, zC]
    refine tk 1 16 (.slice (some ⟨rb, ro, none⟩) ps.length cap) rfl rfl hHeld ?_
    simp only [Act.put, zA, zB, zC]
    refine tk 2 17 (.int .i64 (k : Int)) rfl rfl hHeld ?_
    simp only [Act.put, zA, zB, zC]
    refine tk 3 18 (.pointer (some ⟨rb, ro + k * 18, none⟩)) rfl rfl hHeld ?_
    simp only [Act.put, zA, zB, zC]
    refine tky 4 19 (_) rfl rfl (yieldsIf_load_mid (by rfl) _ _ rfl _ _ rfl (cel r) _ (fun W hW => hW.2) Tryz.underlying65 rfl (by kernel_rfl)) hHeld ?_
    simp only [Act.put, zA, zB, zC]
    refine wpAnyH_ready (rs := [5, 9]) (by kernel_rfl) (by simp) ?_
    refine AllReadyH.cons (o := _) rfl (fun K hK => ?_) (AllReadyH.cons (o := _) rfl (fun K hK => ?_) AllReadyH.nil)
    ·go_simp
     go_at_call 34
     refine (HAP.out V4 (Below.refl _ _)).mono ?_
     rintro e V6 ⟨p', rfl, him, hbx⟩
     go_wp2_with fail
     refine hK.out _ _ ⟨hHeld.1.below hbx, rg_bel hHeld.2 hbx⟩ (fun hHeld1 => ?_)
     clear hK K hHeld
     have hHeld := hHeld1
     clear hHeld1
     refine tky 6 14 (.tuple #[.agg (List.toArray [.slice p'.ab m'.br.length p'.cb, .slice p'.aq p'.ts.length p'.cq, .slice p'.ac m'.cf.length p'.cc, .slice p'.ad m'.dn.length p'.cd, .int .i64 m'.la]), .int .i64 c']) rfl rfl (Or.inl ⟨by rfl, by intro w hSw; unfold imv; go_simp⟩) hHeld ?_
     simp only [Act.put, zA, zB, zC]
     refine tk 7 21 (.agg (List.toArray [.slice p'.ab m'.br.length p'.cb, .slice p'.aq p'.ts.length p'.cq, .slice p'.ac m'.cf.length p'.cc, .slice p'.ad m'.dn.length p'.cd, .int .i64 m'.la])) rfl rfl hHeld ?_
     simp only [Act.put, zA, zB, zC]
     refine tk 8 22 (.int .i64 c') rfl rfl hHeld ?_
     simp only [Act.put, zA, zB, zC]
     refine wpAnyH_ready (rs := [9]) (by kernel_rfl) (by simp) ?_
     refine AllReadyH.cons (o := _) rfl (fun K hK => ?_) AllReadyH.nil
     go_simp
     refine hK.out _ _ ⟨hHeld.1.below (bA _ _), rg_bel hHeld.2 (bA _ _)⟩ (fun hHeld1 => ?_)
     clear hK K hHeld
     have hHeld := hHeld1
     clear hHeld1
     have hne : ¬ w.heap.size + 1 = V6.heap.size := fun e => by have := HL4.out.x.l; have := hbx.size; omega
     have hnr : ¬ rb = V6.heap.size := fun e => by have := HRR.out; have := HL4.out.b.size; have := hbx.size; omega
     have hzz := Bx.new V6 imzl 30
     have HLX := Hd (HL4.out.one hbx him (hzz.set (iml m' p') rfl) (below_sets (Nat.le_refl _) (iml m' p') 0 _ (bA V6 (.cells (List.toArray [Value.slice none 0 0, .slice none 0 0, .slice none 0 0, .slice none 0 0, .int .i64 0]) 30))))
     clear him hbx
     replace HLX : Hid (An w n0 ci zb (w.heap.size + 1) mk m' pk p' V6.heap.size ((V6.alloc (.cells (List.toArray [Value.slice none 0 0, .slice none 0 0, .slice none 0 0, .slice none 0 0, .int .i64 0]) 30)).setCells V6.heap.size 0 (iml m' p'))) := HLX
     replace hzz : Bx (V6.alloc (.cells (List.toArray [Value.slice none 0 0, .slice none 0 0, .slice none 0 0, .slice none 0 0, .int .i64 0]) 30)) V6.heap.size imzl := hzz
     generalize V6.alloc (.cells (List.toArray [Value.slice none 0 0, .slice none 0 0, .slice none 0 0, .slice none 0 0, .int .i64 0]) 30) = V7 at HLX hzz hHeld ⊢
     generalize V6.heap.size = gg at HLX hzz hne hnr ⊢
     refine wpAnyH_ready (rs := [10]) (by kernel_rfl) (by simp) ?_
     refine AllReadyH.cons (o := _) rfl (fun K hK => ?_) AllReadyH.nil
     obtain ⟨e0, e1, e2, e3, e4⟩ := hzz.c5
     have f0 := hzz.f 0 (by decide)
     have f1 := hzz.f 1 (by decide)
     have f2 := hzz.f 2 (by decide)
     have f3 := hzz.f 3 (by decide)
     have f4 := hzz.f 4 (by decide)
     go_simp
     clear e0 e1 e2 e3 e4 f0 f1 f2 f3 f4
     refine hK.out _ _ ⟨hHeld.1.apart hne (iml m' p') 0, rg_setr hHeld.2 hnr (iml m' p') 0⟩ (fun hHeld1 => ?_)
     clear hK K hHeld
     have hHeld := hHeld1
     clear hHeld1
     refine tk 11 6 (.int .i64 c') rfl rfl hHeld ?_
     simp only [Act.put, zA, zB, zC]
     refine wpAnyH_done (by kernel_rfl) ?_ _
     clear hHeld
     go_wp2_with fail
     go_meet
     exact ⟨gg, p', rfl, by rw [HAR.out], by rw [HAR.out]; exact HLX.out⟩
    ·go_simp
     refine hK.out _ _ ⟨hHeld.1.below (bA _ _), rg_bel hHeld.2 (bA _ _)⟩ (fun hHeld1 => ?_)
     clear hK K hHeld
     have hHeld := hHeld1
     clear hHeld1
     have HZB := Hd (Bx.new V4 imzl 30)
     have HB5 := Hd (bA V4 (.cells (List.toArray [Value.slice none 0 0, .slice none 0 0, .slice none 0 0, .slice none 0 0, .int .i64 0]) 30))
     have HS5 : Hid (V4.heap.size < (V4.alloc (.cells (List.toArray [Value.slice none 0 0, .slice none 0 0, .slice none 0 0, .slice none 0 0, .int .i64 0]) 30)).heap.size) := Hd (by simp)
     replace HZB : Hid (Bx (V4.alloc (.cells (List.toArray [Value.slice none 0 0, .slice none 0 0, .slice none 0 0, .slice none 0 0, .int .i64 0]) 30)) V4.heap.size imzl) := HZB
     generalize V4.alloc (.cells (List.toArray [Value.slice none 0 0, .slice none 0 0, .slice none 0 0, .slice none 0 0, .int .i64 0]) 30) = V5 at HZB HB5 HS5 hHeld ⊢
     refine wpAnyH_ready (rs := [5]) (by kernel_rfl) (by simp) ?_
     refine AllReadyH.cons (o := _) rfl (fun K hK => ?_) AllReadyH.nil
     go_simp
     go_at_call 34
     refine (HAP.out V5 HB5.out).mono ?_
     rintro e V6 ⟨p', rfl, him, hbx⟩
     go_wp2_with fail
     refine hK.out _ _ ⟨hHeld.1.below hbx, rg_bel hHeld.2 hbx⟩ (fun hHeld1 => ?_)
     clear hK K hHeld
     have hHeld := hHeld1
     clear hHeld1
     refine tky 6 14 (.tuple #[.agg (List.toArray [.slice p'.ab m'.br.length p'.cb, .slice p'.aq p'.ts.length p'.cq, .slice p'.ac m'.cf.length p'.cc, .slice p'.ad m'.dn.length p'.cd, .int .i64 m'.la]), .int .i64 c']) rfl rfl (Or.inl ⟨by rfl, by intro w hSw; unfold imv; go_simp⟩) hHeld ?_
     simp only [Act.put, zA, zB, zC]
     refine tk 7 21 (.agg (List.toArray [.slice p'.ab m'.br.length p'.cb, .slice p'.aq p'.ts.length p'.cq, .slice p'.ac m'.cf.length p'.cc, .slice p'.ad m'.dn.length p'.cd, .int .i64 m'.la])) rfl rfl hHeld ?_
     simp only [Act.put, zA, zB, zC]
     refine tk 8 22 (.int .i64 c') rfl rfl hHeld ?_
     simp only [Act.put, zA, zB, zC]
     have hzz := HZB.out.below hbx
     have hne : ¬ w.heap.size + 1 = V4.heap.size := fun e => by have := HL4.out.x.l; omega
     have hnr : ¬ rb = V4.heap.size := fun e => by have := HRR.out; have := HL4.out.b.size; omega
     have HLX := Hd (HL4.out.two HB5.out HS5.out hbx him (hzz.set (iml m' p') rfl) (fun q xs e h => h.apart e _ 0) (fun A u e h => below_sets e _ 0 _ h) (fun g e => hp_sets e _ 0 _) (by rw [sz_sets]; exact Nat.le_refl _))
     clear him hbx
     generalize V4.heap.size = gg at HLX hzz hne hnr ⊢
     refine wpAnyH_ready (rs := [10]) (by kernel_rfl) (by simp) ?_
     refine AllReadyH.cons (o := _) rfl (fun K hK => ?_) AllReadyH.nil
     obtain ⟨e0, e1, e2, e3, e4⟩ := hzz.c5
     have f0 := hzz.f 0 (by decide)
     have f1 := hzz.f 1 (by decide)
     have f2 := hzz.f 2 (by decide)
     have f3 := hzz.f 3 (by decide)
     have f4 := hzz.f 4 (by decide)
     go_simp
     clear e0 e1 e2 e3 e4 f0 f1 f2 f3 f4
     refine hK.out _ _ ⟨hHeld.1.apart hne (iml m' p') 0, rg_setr hHeld.2 hnr (iml m' p') 0⟩ (fun hHeld1 => ?_)
     clear hK K hHeld
     have hHeld := hHeld1
     clear hHeld1
     refine tk 11 6 (.int .i64 c') rfl rfl hHeld ?_
     simp only [Act.put, zA, zB, zC]
     refine wpAnyH_done (by kernel_rfl) ?_ _
     clear hHeld
     go_wp2_with fail
     go_meet
     exact ⟨gg, p', rfl, by rw [HAR.out], by rw [HAR.out]; exact HLX.out⟩
   case rest =>
    obtain ⟨g, p', rfl, rfl, hlx⟩ := hcut
    have HLX := Hd hlx
    clear hlx HA HRG HIS HTR HRB HWF
    generalize app mk r.1 = ar at HLX HW1 HMS ⊢
    obtain ⟨m', c'⟩ := ar
    dsimp only at *
    obtain ⟨y0, y1, y2, y3, y4⟩ := HLX.out.y.im
    go_wp2_with (first | (refine wpList_load_mid rfl _ _ rfl _ _ rfl _ _ HLX.out.y.c Tryz.underlying30 rfl (by kernel_rfl) ?_) | (refine wS rfl _ _ _ rfl _ _ rfl HLX.out.x (iml m' p') rfl rfl (by kernel_rfl) rfl ?_; intro W3 hz hk hb hp; have HLF := Hd (HLX.out.next hz hk hb hp (hb 0 _ (Nat.zero_le _) (Below.refl _ _)).size); clear hz hk hb hp))
    go_roundw
    case rel => exact ⟨k + 1, m', p', by omega, by go_num, HLF.out, HW1.out, HMS.out⟩
    case measure => simp [ivA]; omega
  ·obtain rfl : k = ps.length := by omega
   have HME : Hid (made Im.zero (rcl ps) = mk) := Hd (by rw [HAL.out, ← hln, List.drop_length]; rfl)
   subst hzb
   go_wp2_with (first | (refine wpList_load_mid rfl _ _ rfl _ _ rfl _ _ HA.out.x.c Tryz.underlying30 rfl (by kernel_rfl) ?_) | (refine wS rfl _ _ _ rfl _ _ rfl HA.out.z (iml mk pk) rfl rfl (by kernel_rfl) rfl ?_; intro W3 hz hk hb hp; have Hb := Hd (hb _ _ (show w.heap.size ≤ w.heap.size by omega) HA.out.b); have HZ := Hd hz; have HPP := Hd hp; clear hz hk hb hp))
   obtain ⟨q0, q1, q2, q3, q4⟩ := HZ.out.im
   have HIF : Hid (∀ W, Agr n0 w.heap.size W3 W → ImR W mk pk) := Hd (fun W hW => HA.out.r W (fun g hg => by
    rcases hg with hg | hg
    ·have := HA.out.n g hg
     exact (hW g (.inl hg)).trans (HPP.out g (by omega))
    ·exact (hW g (.inr (by omega))).trans (HPP.out g (by omega))))
   exact bodyPost_ret (v := .agg (iml mk pk).toArray) (by simp [results, Tryz.results6, go_sem, q0, q1, q2, q3, q4, iml]) rfl (show ∃ q, Ending.returned (.agg (iml mk pk).toArray) = .returned (imv (made Im.zero (rcl ps)) q) ∧ (∀ W, Agr n0 w.heap.size W3 W → ImR W (made Im.zero (rcl ps)) q) ∧ Wf (made Im.zero (rcl ps)) ps.length ∧ Below w.heap.size w W3 by rw [HME.out]; exact ⟨pk, rfl, HIF.out, HWF.out, Hb.out⟩)
end Go.Proofs.YtlggjgapdpkhiaaGreat
namespace Go.Proofs.YtlggjgapdpkhiaaGreat
open Go.RowKit
set_option maxRecDepth 100000
set_option maxHeartbeats 4000000
theorem bshort_none (ao : Option Addr) (cap : Nat) (w : World) : Calls Tryz.prog 28 #[.slice ao 0 cap] w fun e w' => e = .returned (.bool true) ∧ Below w.heap.size w w' := by
 go_enter Tryz.func28, Tryz.ntmps28
 go_wp2_with fail
 refine wp_loop_rounds 1 ?_
 rw [rounds_succ]
 go_wp2_with fail
 go_ret
 exact ⟨rfl, Below.refl _ _⟩
theorem bshort_some {ok : Nat → Prop} (b o cap : Nat) (ps : List Rp) (w : World) (hrg : w.rangeAt b o (rcs ps)) (hrw : ∀ p ∈ ps, RwP ok w p) :
  Calls Tryz.prog 28 #[.slice (some ⟨b, o, none⟩) ps.length cap] w fun e w' => e = .returned (.bool (shL (rcl ps))) ∧ Below w.heap.size w w' := by
 have HR := Hd hrg
 have HW := Hd hrw
 clear hrg hrw
 by_cases h80 : 80 < ps.length
 ·have h80' : (80 : Int) < (ps.length : Int) := by omega
  rw [shL_long (by rw [rcl_len]; exact h80)]
  go_enter Tryz.func28, Tryz.ntmps28
  go_wp2_with fail
  go_ret
  exact ⟨rfl, Below.refl _ _⟩
 ·have h80' : ¬ (80 : Int) < (ps.length : Int) := by omega
  go_enter Tryz.func28, Tryz.ntmps28
  go_wp2_with fail
  go_loopw [3] (fun i wr => ∃ j : Nat, j ≤ ps.length ∧ i = .int .i64 (j : Int) ∧ ((rcl ps).take j).all shB = true ∧ Below w.heap.size w wr) (fun i _ => ps.length - (intOf i).toNat)
  case atStart => exact ⟨0, Nat.zero_le _, rfl, rfl, Below.refl _ _⟩
  case round =>
   obtain ⟨j, hj, rfl, hall, hb⟩ := hrel
   have HA := Hd hall
   have HB := Hd hb
   clear hall hb
   by_cases hlt : j < ps.length
   ·have hltI : (j : Int) < (ps.length : Int) := by omega
    have HE := Hd (range_bel (range_at HR.out hlt) HB.out)
    have HP := Hd ((HW.out _ (List.getElem_mem hlt)).below HB.out)
    have hlr : j < (rcl ps).length := by rw [rcl_len]; exact hlt
    have hpj : (rcl ps)[j] = ps[j].1 := by simp [rcl]
    have HN := Hd (fun h => shL_no hlr (by rw [hpj]; exact h))
    have HT := Hd (fun h => all_take hlr HA.out (by rw [hpj]; exact h))
    have HS := Hd (short_any _ _ wr HP.out.is)
    clear hpj
    generalize ps[j] = p at *
    cases hs : shB p.1 with
    | true =>
     rw [hs] at HS
     go_wp2_with (first | (refine wpList_load_mid rfl _ _ rfl _ _ rfl _ _ HE.out Tryz.underlying65 rfl (by kernel_rfl) ?_) | (go_at_call 58; refine HS.out.mono ?_; rintro e w1 ⟨rfl, hb1⟩; have HB1 := Hd (HB.out.trans (hb1.mono HB.out.size)); clear hb1))
     go_roundw
     case rel => exact ⟨j + 1, by omega, by go_num, HT.out hs, HB1.out⟩
     case measure => simp [intOf]; omega
    | false =>
     rw [hs] at HS
     go_wp2_with (first | (refine wpList_load_mid rfl _ _ rfl _ _ rfl _ _ HE.out Tryz.underlying65 rfl (by kernel_rfl) ?_) | (go_at_call 58; refine HS.out.mono ?_; rintro e w1 ⟨rfl, hb1⟩; have HB1 := Hd (HB.out.trans (hb1.mono HB.out.size)); clear hb1))
     go_ret
     exact ⟨ret_b (HN.out hs), HB1.out⟩
   ·obtain rfl : j = ps.length := by omega
    have hsh : shL (rcl ps) = true := by
     have := HA.out
     rw [← rcl_len, List.take_length] at this
     unfold shL
     rw [this, rcl_len, decide_eq_true (by omega)]
     rfl
    clear hlt
    go_wp2_with fail
    go_ret
    exact ⟨ret_b hsh, HB.out⟩
theorem bshort_any {okb ok : Nat → Prop} (v : Value) (ps : List Rp) (w : World) (hv : Rl okb ok w v ps) : Calls Tryz.prog 28 #[v] w fun e w' => e = .returned (.bool (shL (rcl ps))) ∧ Below w.heap.size w w' := by
 obtain ⟨h1, h2⟩ := hv
 rcases h1 with ⟨ao, cap, rfl, rfl⟩ | ⟨b, o, cap, rfl, _, _, _, h3⟩
 ·exact bshort_none ao cap w
 ·exact bshort_some b o cap ps w h3 h2
end Go.Proofs.YtlggjgapdpkhiaaGreat
namespace Go.Proofs.YtlggjgapdpkhiaaGreat
open Go.RowKit
set_option maxRecDepth 100000
set_option maxHeartbeats 4000000
theorem recs_to {okb ok : Nat → Prop} (v : Value) (ps : List Rp) (n : Nat) (w : World) (hv : Rl okb ok w v ps) (hn : n ≤ ps.length) : ∃ u, (∀ W, (Instr.slice 22 v none (some (.int .i64 (n : Int))) none).run Tryz.prog W = .ok u W) ∧ ∀ W, Rl okb ok W v ps → Rl okb ok W u (ps.take n) := by
 rcases hv.1 with ⟨ao, cap, rfl, rfl⟩ | ⟨b, o, cap, rfl, hc, hok, h0, hrg⟩
 ·obtain rfl : n = 0 := by simpa using hn
  refine ⟨.slice ao 0 cap, fun W => ?_, fun W _ => Rl.nil _ _ _ _ _⟩
  simp [Instr.slice, go_sem]
 ·have g1 : (n : Int) ≤ (cap : Int) := by omega
  refine ⟨.slice (some ⟨b, o, none⟩) n cap, fun W => by simp [Instr.slice, go_sem, g1], fun W hW => ?_⟩
  by_cases hz : n = 0
  ·subst hz; exact Rl.nil _ _ _ _ _
  ·obtain ⟨b', o', e, hr⟩ := hW.rg h0
   cases e
   have hl : (ps.take n).length = n := by rw [List.length_take]; omega
   refine ⟨.inr ⟨b, o, cap, by rw [hl], by omega, hok, by omega, ?_⟩, fun p hp => hW.2 p (List.mem_of_mem_take hp)⟩
   rw [← List.take_append_drop n ps, rcs_app] at hr
   exact (rg_app hr).1
theorem recs_from {okb ok : Nat → Prop} (v : Value) (ps : List Rp) (n : Nat) (w : World) (hv : Rl okb ok w v ps) (hn : n < ps.length ∨ ps.length = 0 ∧ n = 0) : ∃ u, (∀ W, (Instr.slice 22 v (some (.int .i64 (n : Int))) none none).run Tryz.prog W = .ok u W) ∧ ∀ W, Rl okb ok W v ps → Rl okb ok W u (ps.drop n) := by
 rcases hv.1 with ⟨ao, cap, rfl, rfl⟩ | ⟨b, o, cap, rfl, hc, hok, h0, hrg⟩
 ·obtain rfl : n = 0 := by simpa using hn
  cases ao with
  | none =>
   refine ⟨.slice none 0 cap, fun W => ?_, fun W _ => Rl.nil _ _ _ _ _⟩
   simp [Instr.slice, go_sem]
  | some a =>
   refine ⟨.slice (if cap = 0 then some a else some (a.add 0)) 0 cap, fun W => ?_, fun W _ => Rl.nil _ _ _ _ _⟩
   have g1 : ((0 : Nat) : Int) ≤ (cap : Int) := by omega
   simp [Instr.slice, go_sem]
 ·have g1 : (n : Int) ≤ (ps.length : Int) := by omega
  have hlt : n < ps.length := by omega
  have g2 : ¬ cap = n := by omega
  refine ⟨.slice (some ⟨b, o + n * 18, none⟩) (ps.length - n) (cap - n), fun W => by simp [Instr.slice, go_sem, g1, g2, Addr.add], fun W hW => ?_⟩
  obtain ⟨b', o', e, hr⟩ := hW.rg h0
  cases e
  have hl : (ps.drop n).length = ps.length - n := by rw [List.length_drop]
  refine ⟨.inr ⟨b, o + n * 18, cap - n, by rw [hl], by omega, hok, by omega, ?_⟩, fun p hp => hW.2 p (List.mem_of_mem_drop hp)⟩
  rw [← List.take_append_drop n ps, rcs_app] at hr
  have := (rg_app hr).2
  rwa [rcs_len, List.length_take, Nat.min_eq_left (by omega)] at this
def liR (rs : List Rc) : Bool := decide (rs.length ≤ 120) && (shL (rs.take (rs.length / 2)) && shL (rs.drop (rs.length / 2)))
theorem liR_len {rs : List Rc} (h : liR rs = true) : rs.length ≤ 120 := by
 unfold liR at h
 rw [Bool.and_eq_true] at h
 exact of_decide_eq_true h.1
theorem shB_tx {r : Rc} (h : shB r = true) : TxR r := by
 unfold shB at h
 simp only [decide_eq_true_eq] at h
 exact ⟨by omega, by omega, by omega, by omega⟩
theorem liR_tx {rs : List Rc} (h : liR rs = true) : ∀ r ∈ rs, TxR r := fun r hr => by
 unfold liR at h
 rw [Bool.and_eq_true, Bool.and_eq_true] at h
 rw [← List.take_append_drop (rs.length / 2) rs, List.mem_append] at hr
 rcases hr with q | q
 ·exact shB_tx ((shL_is h.2.1).2 r q)
 ·exact shB_tx ((shL_is h.2.2).2 r q)
theorem half_any (ao : Option Addr) (n cap : Nat) (w : World) (hn : n ≤ 120) : Calls Tryz.prog 29 #[.slice ao n cap] w fun e w' => e = .returned (.int .i64 ((n / 2 : Nat) : Int)) ∧ w' = w := by
 go_enter Tryz.func29, Tryz.ntmps29
 go_wp2_with fail
 go_ret
 exact ⟨by rw [show ((n / 2 : Nat) : Int) = (n : Int) / 2 by omega]; rfl, rfl⟩
theorem light_any {okb ok : Nat → Prop} (v : Value) (ps : List Rp) (w : World) (hv : Rl okb ok w v ps) : Calls Tryz.prog 4 #[v] w fun e w' => e = .returned (.bool (liR (rcl ps))) ∧ Below w.heap.size w w' := by
 have HV := Hd hv
 have HVB := Hd (fun W (h : Below w.heap.size w W) => hv.below h)
 by_cases h : ps.length ≤ 120
 ·have hI : (ps.length : Int) ≤ 120 := by omega
  have HLI : Hid (liR (rcl ps) = (shL (rcl (ps.take (ps.length / 2))) && shL (rcl (ps.drop (ps.length / 2))))) := Hd (by
   unfold liR
   rw [rcl_len, decide_eq_true h, Bool.true_and]
   unfold rcl
   rw [List.map_take, List.map_drop])
  rw [HLI.out]
  obtain ⟨u1, e1, hu1⟩ := recs_to v ps (ps.length / 2) w hv (by omega)
  obtain ⟨u2, e2, hu2⟩ := recs_from v ps (ps.length / 2) w hv (by omega)
  have HU2 := Hd (fun W (h : Below w.heap.size w W) => bshort_any u2 _ W (hu2 W (hv.below h)))
  have HU1 := Hd (bshort_any u1 _ w (hu1 w hv))
  have HB0 : Hid (Below w.heap.size w w) := Hd (Below.refl _ _)
  clear hu1 hu2 HLI
  obtain ⟨ao, cap, rfl⟩ := hv.form
  clear hv
  have HH := Hd (fun W => half_any ao ps.length cap W h)
  generalize ps.length / 2 = k at *
  cases hs : shL (rcl (ps.take k)) with
  | true =>
   rw [hs] at HU1
   rw [Bool.true_and]
   go_enter Tryz.func4, Tryz.ntmps4
   go_wp2_with (first | (go_at_call 29; refine (HH.out _).mono ?_; rintro e W ⟨rfl, hW⟩; rw [hW]; clear hW W) | (go_at_call 28; with_reducible refine HU1.out.mono ?_; rintro e W1 ⟨rfl, hb⟩; have HB1 := Hd hb; clear hb) | (go_at_call 28; with_reducible refine (HU2.out W1 HB1.out).mono ?_; rintro e W2 ⟨rfl, hb⟩; have HB2 := Hd (HB1.out.trans (hb.mono HB1.out.size)); clear hb))
   go_ret
   exact ⟨rfl, HB2.out⟩
  | false =>
   rw [hs] at HU1
   rw [Bool.false_and]
   go_enter Tryz.func4, Tryz.ntmps4
   go_wp2_with (first | (go_at_call 29; refine (HH.out _).mono ?_; rintro e W ⟨rfl, hW⟩; rw [hW]; clear hW W) | (go_at_call 28; with_reducible refine HU1.out.mono ?_; rintro e W1 ⟨rfl, hb⟩; have HB1 := Hd hb; clear hb))
   go_ret
   exact ⟨rfl, HB1.out⟩
 ·have hI : ¬ (ps.length : Int) ≤ 120 := by omega
  have HLI : Hid (liR (rcl ps) = false) := Hd (by
   unfold liR
   rw [rcl_len, decide_eq_false h, Bool.false_and])
  rw [HLI.out]
  obtain ⟨ao, cap, rfl⟩ := hv.form
  clear hv HVB
  go_enter Tryz.func4, Tryz.ntmps4
  go_wp2_with fail
  go_ret
  exact ⟨rfl, Below.refl _ _⟩
end Go.Proofs.YtlggjgapdpkhiaaGreat
