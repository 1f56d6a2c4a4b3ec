/-
  A SETTING IS MADE, TURNED, TAKEN AWAY (image.configure).
  MANY ROWS AS ONE (slices.Grow, slices.Concat).
  ONE THAT IS PUT AT A PLACE (image.put), ahead of what is there, or in its stead.
  AN ANSWER IS KNOWN (image.answer). Conditions: an image in order, its lists no longer than a hundred thousand.
  WHETHER A BROKER MAY BE TURNED (image.turns). Conditions: an image in order.
-/
import Derived.Test.YtlggjgapdpkhiaaGreatJKImCba5
import Derived.Test.YtlggjgapdpkhiaaGreatJKImCda5
import Derived.Test.YtlggjgapdpkhiaaGreatJKImDea4
import Derived.Test.YtlggjgapdpkhiaaGreatJKImQza5
import Derived.Test.YtlggjgapdpkhiaaGreatJKImQia2
namespace Go.Proofs.YtlggjgapdpkhiaaGreat
open Go.RowKit
set_option maxRecDepth 100000 in
set_option maxHeartbeats 16000000 in
theorem configure_any {ok : Nat → Prop} (m : Im) (p : Ip) (r : Rc) (v : Value) (w : World) (n0 : Nat → Prop) (hn0 : ∀ g, n0 g → g < w.heap.size) (hv : ∀ W, (∀ g, n0 g → W.heap[g]? = w.heap[g]?) → ImR W m p) (hw : Wf m 100000) (hr : IsR ok w v r) : Calls Tryz.prog 97 #[imv m p, v] w fun e w' => StP n0 w w' (cfgC m r).1 (cfgC m r).2 e := by
 obtain ⟨a14, a15, a16, a17, c14, c15, c16, c17, rfl, hrw⟩ := hr
 have Hv := Hd (fun (W W3 : World) (hb : Below w.heap.size w W3) (hW : Agr n0 w.heap.size W3 W) => hv W (fun g hg => (hW g (.inl hg)).trans (hb.block g (hn0 g hg))))
 clear hn0
 replace hv : ImR w m p := hv w (fun _ _ => rfl)
 have HV := Hd (fun W (h : Below w.heap.size w W) => hv.below h)
 have HFN := Hd (hv.fT r.tp)
 by_cases h1 : r.tp = 0
 ·have hn1 : (r.tp != 0) = false := by simpa using h1
  have hG : ¬ (r.tp != 0 && (fT m.ts r.tp).isNone) = true := by rw [hn1]; simp
  have HFT := Hd (fun W (h : Below w.heap.size w W) => findTopic_any m p r.tp W (hv.below h) (by rw [hv.len]; exact hw.nt) (hv.stn hw r.tp))
  clear h1
  cases hc : fC m.cf r.tp r.ky with
  | none =>
   have HFC := Hd (fun W (h : Below w.heap.size w W) => findConfig_no m p r.tp r.ky W (hv.below h) hw hc)
   cases hfl : r.fl with
   | true =>
    have Hr : Hid (cfgC m r = (m, 8)) := Hd (by unfold cfgC; rw [if_neg hG, if_pos hfl, hc]; rfl)
    rw [Hr.out]
    have HFL := Hd hfl
    have HFR0 := fF w m p r a14 a15 a16 a17 c14 c15 c16 c17
    clear hv hw hrw hc HFN hfl
    unfold imv
    unfold cR
    go_enter Tryz.func97, Tryz.ntmps97
    go_upto_region 1 with fail
    rw [fE]
    generalize frW w m p r a14 a15 a16 a17 c14 c15 c16 c17 = X at HFR0 ⊢
    have Hf := Hd HFR0
    clear HFR0
    obtain ⟨i0, i1, i2, i3, i4⟩ := Hf.out.i.im; have r3 := Hf.out.r.at 3 _ rfl; have r9 := Hf.out.r.at 9 _ rfl; have r11 := Hf.out.r.at 11 _ rfl; have r12 := Hf.out.r.at 12 _ rfl
    unfold imv at HFC HFT
    rw [HFL.out] at r9
    go_wp2_with (first | (go_at_call 37; refine (HFT.out _ Hf.out.b).mono ?_; rintro e wx ⟨i9, _, rfl, hbx⟩;  replace Hf := Hd (Hf.out.below hbx); clear i0 i1 i2 i3 i4 r3 r9 r11 r12; clear hbx HFT; obtain ⟨i0, i1, i2, i3, i4⟩ := Hf.out.i.im; have r3 := Hf.out.r.at 3 _ rfl; have r9 := Hf.out.r.at 9 _ rfl; have r11 := Hf.out.r.at 11 _ rfl; have r12 := Hf.out.r.at 12 _ rfl; rw [HFL.out] at r9) | (go_at_call 42; refine (HFC.out _ Hf.out.b).mono ?_; rintro e wx ⟨i, hi, hins, rfl, hbx⟩; have HIN := Hd ((hins ⟨r.tp, r.ky, r.va⟩).symm); clear hins; replace Hf := Hd (Hf.out.below hbx); clear i0 i1 i2 i3 i4 r3 r9 r11 r12; clear hbx HFC; obtain ⟨i0, i1, i2, i3, i4⟩ := Hf.out.i.im; have r3 := Hf.out.r.at 3 _ rfl; have r9 := Hf.out.r.at 9 _ rfl; have r11 := Hf.out.r.at 11 _ rfl; have r12 := Hf.out.r.at 12 _ rfl; rw [HFL.out] at r9) | (refine wS rfl _ _ _ rfl _ _ rfl Hf.out.z (iml m p) rfl rfl (by kernel_rfl) rfl ?_; intro W3 hz hk hb hp; have Ho := Hd (Hf.out.out hz hk hb); clear hz hk hb hp))
    obtain ⟨q0, q1, q2, q3, q4⟩ := Ho.out.z.im
    exact bodyPost_ret (v := .tuple #[.agg (iml m p).toArray, .iface 67 (.int .i64 8)]) (by simp [results, Tryz.results97, go_sem, q0, q1, q2, q3, q4, iml]) rfl (st_ret Ho.out (fun W hW => Hv.out W _ Ho.out.b hW) (erc_code (by decide)))
   | false =>
    have Hr : Hid (cfgC m r = ({ m with cf := (putC m.cf ⟨r.tp, r.ky, r.va⟩) }, 0)) := Hd (by unfold cfgC; rw [if_neg hG, if_neg (by rw [hfl]; decide)])
    rw [Hr.out]
    have HPU := Hd (fun W (h : Below w.heap.size w W) i (hi : i ≤ m.cf.length) => putC_new m.cf p.ac _ p.cc i ⟨r.tp, r.ky, r.va⟩ W rfl (hv.below h).c hi hw.nc)
    have HFL := Hd hfl
    have HFR0 := fF w m p r a14 a15 a16 a17 c14 c15 c16 c17
    clear hv hw hrw hc HFN hfl
    unfold imv
    unfold cR
    go_enter Tryz.func97, Tryz.ntmps97
    go_upto_region 1 with fail
    rw [fE]
    generalize frW w m p r a14 a15 a16 a17 c14 c15 c16 c17 = X at HFR0 ⊢
    have Hf := Hd HFR0
    clear HFR0
    obtain ⟨i0, i1, i2, i3, i4⟩ := Hf.out.i.im; have r3 := Hf.out.r.at 3 _ rfl; have r9 := Hf.out.r.at 9 _ rfl; have r11 := Hf.out.r.at 11 _ rfl; have r12 := Hf.out.r.at 12 _ rfl
    unfold imv at HFC HFT
    rw [HFL.out] at r9
    go_wp2_with (first | (go_at_call 37; refine (HFT.out _ Hf.out.b).mono ?_; rintro e wx ⟨i9, _, rfl, hbx⟩;  replace Hf := Hd (Hf.out.below hbx); clear i0 i1 i2 i3 i4 r3 r9 r11 r12; clear hbx HFT; obtain ⟨i0, i1, i2, i3, i4⟩ := Hf.out.i.im; have r3 := Hf.out.r.at 3 _ rfl; have r9 := Hf.out.r.at 9 _ rfl; have r11 := Hf.out.r.at 11 _ rfl; have r12 := Hf.out.r.at 12 _ rfl; rw [HFL.out] at r9) | (go_at_call 42; refine (HFC.out _ Hf.out.b).mono ?_; rintro e wx ⟨i, hi, hins, rfl, hbx⟩; have HIN := Hd ((hins ⟨r.tp, r.ky, r.va⟩).symm); clear hins; replace Hf := Hd (Hf.out.below hbx); clear i0 i1 i2 i3 i4 r3 r9 r11 r12; clear hbx HFC; obtain ⟨i0, i1, i2, i3, i4⟩ := Hf.out.i.im; have r3 := Hf.out.r.at 3 _ rfl; have r9 := Hf.out.r.at 9 _ rfl; have r11 := Hf.out.r.at 11 _ rfl; have r12 := Hf.out.r.at 12 _ rfl; rw [HFL.out] at r9) | (go_at_call 127; refine (HPU.out _ Hf.out.b i hi).mono ?_; rintro e w3 ⟨v, rfl, hro, hb3⟩; rw [HIN.out] at hro; change Ro _ _ _ _ _ _ (putC m.cf ⟨r.tp, r.ky, r.va⟩) at hro; obtain ⟨av, cv, rfl⟩ := hro.form; have HRO := Hd (hro.mono Hf.out.sz); replace Hf := Hd (Hf.out.below hb3); clear hro hb3 HPU; clear i0 i1 i2 i3 i4 r3 r9 r11 r12; obtain ⟨i0, i1, i2, i3, i4⟩ := Hf.out.i.im; have r3 := Hf.out.r.at 3 _ rfl; have r9 := Hf.out.r.at 9 _ rfl; have r11 := Hf.out.r.at 11 _ rfl; have r12 := Hf.out.r.at 12 _ rfl; have f2 := Hf.out.f 2 (by decide); have HFS := Hd (Hf.out.set 2 (.slice av ((putC m.cf ⟨r.tp, r.ky, r.va⟩)).length cv) { m with cf := (putC m.cf ⟨r.tp, r.ky, r.va⟩) } { p with ac := av, cc := cv } (by decide) rfl)) | (refine wS rfl _ _ _ rfl _ _ rfl HFS.out.z (iml { m with cf := (putC m.cf ⟨r.tp, r.ky, r.va⟩) } { p with ac := av, cc := cv }) rfl rfl (by kernel_rfl) rfl ?_; intro W3 hz hk hb hp; have Ho := Hd (HFS.out.out hz hk hb); have HRS := Hd (fun W (hW : Agr n0 w.heap.size W3 W) => (HRO.out.keepG (fun g hg => (hW g (.inr (by omega))).trans ((hp g (by omega)).trans (Below.heap_setCell _ _ _ _ (show ¬ g = w.heap.size by omega))))).rs); clear hz hk hb hp))
    obtain ⟨q0, q1, q2, q3, q4⟩ := Ho.out.z.im
    exact bodyPost_ret (v := .tuple #[.agg (iml { m with cf := (putC m.cf ⟨r.tp, r.ky, r.va⟩) } { p with ac := av, cc := cv }).toArray, .nilIface]) (by simp [results, Tryz.results97, go_sem, q0, q1, q2, q3, q4, iml]) rfl (st_ret Ho.out (fun W hW => ⟨(Hv.out W _ Ho.out.b hW).b, (Hv.out W _ Ho.out.b hW).t, (Hv.out W _ Ho.out.b hW).q, (Hv.out W _ Ho.out.b hW).e, (HRS.out W hW), (Hv.out W _ Ho.out.b hW).d⟩) erc_nil)
  | some y =>
   have HFC := Hd (fun W (h : Below w.heap.size w W) => findConfig_yes m p r.tp r.ky W (hv.below h) hw y hc)
   cases hfl : r.fl with
   | true =>
    have Hr : Hid (cfgC m r = ({ m with cf := (remO (fun x : Cf => cmpC x r.tp r.ky) m.cf) }, 0)) := Hd (by unfold cfgC; rw [if_neg hG, if_pos hfl, hc, if_neg (by simp), remC_rem])
    rw [Hr.out]
    have HPU := Hd (fun W (h : Below w.heap.size w W) i (hi : i < m.cf.length) => woC_any m.cf p.ac _ p.cc i W rfl (hv.below h).c hi hw.nc)
    have HFL := Hd hfl
    have HFR0 := fF w m p r a14 a15 a16 a17 c14 c15 c16 c17
    clear hv hw hrw hc HFN hfl
    unfold imv
    unfold cR
    go_enter Tryz.func97, Tryz.ntmps97
    go_upto_region 1 with fail
    rw [fE]
    generalize frW w m p r a14 a15 a16 a17 c14 c15 c16 c17 = X at HFR0 ⊢
    have Hf := Hd HFR0
    clear HFR0
    obtain ⟨i0, i1, i2, i3, i4⟩ := Hf.out.i.im; have r3 := Hf.out.r.at 3 _ rfl; have r9 := Hf.out.r.at 9 _ rfl; have r11 := Hf.out.r.at 11 _ rfl; have r12 := Hf.out.r.at 12 _ rfl
    unfold imv at HFC HFT
    rw [HFL.out] at r9
    go_wp2_with (first | (go_at_call 37; refine (HFT.out _ Hf.out.b).mono ?_; rintro e wx ⟨i9, _, rfl, hbx⟩;  replace Hf := Hd (Hf.out.below hbx); clear i0 i1 i2 i3 i4 r3 r9 r11 r12; clear hbx HFT; obtain ⟨i0, i1, i2, i3, i4⟩ := Hf.out.i.im; have r3 := Hf.out.r.at 3 _ rfl; have r9 := Hf.out.r.at 9 _ rfl; have r11 := Hf.out.r.at 11 _ rfl; have r12 := Hf.out.r.at 12 _ rfl; rw [HFL.out] at r9) | (go_at_call 42; refine (HFC.out _ Hf.out.b).mono ?_; rintro e wx ⟨i, hi, hib, hins, hrem, _, _, rfl, hbx⟩; have HIN := Hd ((hins ⟨r.tp, r.ky, r.va⟩).symm); have HRM := Hd hrem.symm; clear hins hrem; replace Hf := Hd (Hf.out.below hbx); clear i0 i1 i2 i3 i4 r3 r9 r11 r12; clear hbx HFC; obtain ⟨i0, i1, i2, i3, i4⟩ := Hf.out.i.im; have r3 := Hf.out.r.at 3 _ rfl; have r9 := Hf.out.r.at 9 _ rfl; have r11 := Hf.out.r.at 11 _ rfl; have r12 := Hf.out.r.at 12 _ rfl; rw [HFL.out] at r9) | (go_at_call 126; refine (HPU.out _ Hf.out.b i hi).mono ?_; rintro e w3 ⟨v, rfl, hro, hb3⟩; rw [HRM.out] at hro; obtain ⟨av, cv, rfl⟩ := hro.form; have HRO := Hd (hro.mono Hf.out.sz); replace Hf := Hd (Hf.out.below hb3); clear hro hb3 HPU; clear i0 i1 i2 i3 i4 r3 r9 r11 r12; obtain ⟨i0, i1, i2, i3, i4⟩ := Hf.out.i.im; have r3 := Hf.out.r.at 3 _ rfl; have r9 := Hf.out.r.at 9 _ rfl; have r11 := Hf.out.r.at 11 _ rfl; have r12 := Hf.out.r.at 12 _ rfl; have f2 := Hf.out.f 2 (by decide); have HFS := Hd (Hf.out.set 2 (.slice av ((remO (fun x : Cf => cmpC x r.tp r.ky) m.cf)).length cv) { m with cf := (remO (fun x : Cf => cmpC x r.tp r.ky) m.cf) } { p with ac := av, cc := cv } (by decide) rfl)) | (refine wS rfl _ _ _ rfl _ _ rfl HFS.out.z (iml { m with cf := (remO (fun x : Cf => cmpC x r.tp r.ky) m.cf) } { p with ac := av, cc := cv }) rfl rfl (by kernel_rfl) rfl ?_; intro W3 hz hk hb hp; have Ho := Hd (HFS.out.out hz hk hb); have HRS := Hd (fun W (hW : Agr n0 w.heap.size W3 W) => (HRO.out.keepG (fun g hg => (hW g (.inr (by omega))).trans ((hp g (by omega)).trans (Below.heap_setCell _ _ _ _ (show ¬ g = w.heap.size by omega))))).rs); clear hz hk hb hp))
    obtain ⟨q0, q1, q2, q3, q4⟩ := Ho.out.z.im
    exact bodyPost_ret (v := .tuple #[.agg (iml { m with cf := (remO (fun x : Cf => cmpC x r.tp r.ky) m.cf) } { p with ac := av, cc := cv }).toArray, .nilIface]) (by simp [results, Tryz.results97, go_sem, q0, q1, q2, q3, q4, iml]) rfl (st_ret Ho.out (fun W hW => ⟨(Hv.out W _ Ho.out.b hW).b, (Hv.out W _ Ho.out.b hW).t, (Hv.out W _ Ho.out.b hW).q, (Hv.out W _ Ho.out.b hW).e, (HRS.out W hW), (Hv.out W _ Ho.out.b hW).d⟩) erc_nil)
   | false =>
    have Hr : Hid (cfgC m r = ({ m with cf := (putC m.cf ⟨r.tp, r.ky, r.va⟩) }, 0)) := Hd (by unfold cfgC; rw [if_neg hG, if_neg (by rw [hfl]; decide)])
    rw [Hr.out]
    have HPU := Hd (fun W (h : Below w.heap.size w W) i (hi : i < m.cf.length) => putC_old m.cf p.ac _ p.cc i ⟨r.tp, r.ky, r.va⟩ W rfl (hv.below h).c hi hw.nc)
    have HFL := Hd hfl
    have HFR0 := fF w m p r a14 a15 a16 a17 c14 c15 c16 c17
    clear hv hw hrw hc HFN hfl
    unfold imv
    unfold cR
    go_enter Tryz.func97, Tryz.ntmps97
    go_upto_region 1 with fail
    rw [fE]
    generalize frW w m p r a14 a15 a16 a17 c14 c15 c16 c17 = X at HFR0 ⊢
    have Hf := Hd HFR0
    clear HFR0
    obtain ⟨i0, i1, i2, i3, i4⟩ := Hf.out.i.im; have r3 := Hf.out.r.at 3 _ rfl; have r9 := Hf.out.r.at 9 _ rfl; have r11 := Hf.out.r.at 11 _ rfl; have r12 := Hf.out.r.at 12 _ rfl
    unfold imv at HFC HFT
    rw [HFL.out] at r9
    go_wp2_with (first | (go_at_call 37; refine (HFT.out _ Hf.out.b).mono ?_; rintro e wx ⟨i9, _, rfl, hbx⟩;  replace Hf := Hd (Hf.out.below hbx); clear i0 i1 i2 i3 i4 r3 r9 r11 r12; clear hbx HFT; obtain ⟨i0, i1, i2, i3, i4⟩ := Hf.out.i.im; have r3 := Hf.out.r.at 3 _ rfl; have r9 := Hf.out.r.at 9 _ rfl; have r11 := Hf.out.r.at 11 _ rfl; have r12 := Hf.out.r.at 12 _ rfl; rw [HFL.out] at r9) | (go_at_call 42; refine (HFC.out _ Hf.out.b).mono ?_; rintro e wx ⟨i, hi, hib, hins, hrem, _, _, rfl, hbx⟩; have HIN := Hd ((hins ⟨r.tp, r.ky, r.va⟩).symm); have HRM := Hd hrem.symm; clear hins hrem; replace Hf := Hd (Hf.out.below hbx); clear i0 i1 i2 i3 i4 r3 r9 r11 r12; clear hbx HFC; obtain ⟨i0, i1, i2, i3, i4⟩ := Hf.out.i.im; have r3 := Hf.out.r.at 3 _ rfl; have r9 := Hf.out.r.at 9 _ rfl; have r11 := Hf.out.r.at 11 _ rfl; have r12 := Hf.out.r.at 12 _ rfl; rw [HFL.out] at r9) | (go_at_call 127; refine (HPU.out _ Hf.out.b i hi).mono ?_; rintro e w3 ⟨v, rfl, hro, hb3⟩; rw [HIN.out] at hro; change Ro _ _ _ _ _ _ (putC m.cf ⟨r.tp, r.ky, r.va⟩) at hro; obtain ⟨av, cv, rfl⟩ := hro.form; have HRO := Hd (hro.mono Hf.out.sz); replace Hf := Hd (Hf.out.below hb3); clear hro hb3 HPU; clear i0 i1 i2 i3 i4 r3 r9 r11 r12; obtain ⟨i0, i1, i2, i3, i4⟩ := Hf.out.i.im; have r3 := Hf.out.r.at 3 _ rfl; have r9 := Hf.out.r.at 9 _ rfl; have r11 := Hf.out.r.at 11 _ rfl; have r12 := Hf.out.r.at 12 _ rfl; have f2 := Hf.out.f 2 (by decide); have HFS := Hd (Hf.out.set 2 (.slice av ((putC m.cf ⟨r.tp, r.ky, r.va⟩)).length cv) { m with cf := (putC m.cf ⟨r.tp, r.ky, r.va⟩) } { p with ac := av, cc := cv } (by decide) rfl)) | (refine wS rfl _ _ _ rfl _ _ rfl HFS.out.z (iml { m with cf := (putC m.cf ⟨r.tp, r.ky, r.va⟩) } { p with ac := av, cc := cv }) rfl rfl (by kernel_rfl) rfl ?_; intro W3 hz hk hb hp; have Ho := Hd (HFS.out.out hz hk hb); have HRS := Hd (fun W (hW : Agr n0 w.heap.size W3 W) => (HRO.out.keepG (fun g hg => (hW g (.inr (by omega))).trans ((hp g (by omega)).trans (Below.heap_setCell _ _ _ _ (show ¬ g = w.heap.size by omega))))).rs); clear hz hk hb hp))
    obtain ⟨q0, q1, q2, q3, q4⟩ := Ho.out.z.im
    exact bodyPost_ret (v := .tuple #[.agg (iml { m with cf := (putC m.cf ⟨r.tp, r.ky, r.va⟩) } { p with ac := av, cc := cv }).toArray, .nilIface]) (by simp [results, Tryz.results97, go_sem, q0, q1, q2, q3, q4, iml]) rfl (st_ret Ho.out (fun W hW => ⟨(Hv.out W _ Ho.out.b hW).b, (Hv.out W _ Ho.out.b hW).t, (Hv.out W _ Ho.out.b hW).q, (Hv.out W _ Ho.out.b hW).e, (HRS.out W hW), (Hv.out W _ Ho.out.b hW).d⟩) erc_nil)
 ·have hn1 : (r.tp != 0) = true := by simpa using h1
  cases hf : p.ts.find? (idQ r.tp) with
  | none =>
   have HFT := Hd (fun W (h : Below w.heap.size w W) => findTopic_no m p r.tp W (hv.below h) hw hf)
   have Hr : Hid (cfgC m r = (m, 8)) := Hd (by unfold cfgC; rw [HFN.out, hf, hn1]; rfl)
   rw [Hr.out]
   clear h1
   have HFR0 := fF w m p r a14 a15 a16 a17 c14 c15 c16 c17
   clear hv hw hrw hf
   unfold imv
   unfold cR
   go_enter Tryz.func97, Tryz.ntmps97
   go_upto_region 1 with fail
   rw [fE]
   generalize frW w m p r a14 a15 a16 a17 c14 c15 c16 c17 = X at HFR0 ⊢
   have Hf := Hd HFR0
   clear HFR0
   obtain ⟨i0, i1, i2, i3, i4⟩ := Hf.out.i.im; have r3 := Hf.out.r.at 3 _ rfl; have r9 := Hf.out.r.at 9 _ rfl; have r11 := Hf.out.r.at 11 _ rfl; have r12 := Hf.out.r.at 12 _ rfl
   unfold imv at HFT
   go_wp2_with (first | (go_at_call 37; refine (HFT.out _ Hf.out.b).mono ?_; rintro e wx ⟨i9, _, _, rfl, hbx⟩;  replace Hf := Hd (Hf.out.below hbx); clear i0 i1 i2 i3 i4 r3 r9 r11 r12; clear hbx HFT; obtain ⟨i0, i1, i2, i3, i4⟩ := Hf.out.i.im; have r3 := Hf.out.r.at 3 _ rfl; have r9 := Hf.out.r.at 9 _ rfl; have r11 := Hf.out.r.at 11 _ rfl; have r12 := Hf.out.r.at 12 _ rfl) | (refine wS rfl _ _ _ rfl _ _ rfl Hf.out.z (iml m p) rfl rfl (by kernel_rfl) rfl ?_; intro W3 hz hk hb hp; have Ho := Hd (Hf.out.out hz hk hb); clear hz hk hb hp))
   obtain ⟨q0, q1, q2, q3, q4⟩ := Ho.out.z.im
   exact bodyPost_ret (v := .tuple #[.agg (iml m p).toArray, .iface 67 (.int .i64 8)]) (by simp [results, Tryz.results97, go_sem, q0, q1, q2, q3, q4, iml]) rfl (st_ret Ho.out (fun W hW => Hv.out W _ Ho.out.b hW) (erc_code (by decide)))
  | some q =>
   have HFT := Hd (fun W (h : Below w.heap.size w W) => findTopic_yes m p r.tp W (hv.below h) hw q hf)
   have hG : ¬ (r.tp != 0 && (fT m.ts r.tp).isNone) = true := by rw [HFN.out, hf]; simp
   clear h1 hf
   cases hc : fC m.cf r.tp r.ky with
   | none =>
    have HFC := Hd (fun W (h : Below w.heap.size w W) => findConfig_no m p r.tp r.ky W (hv.below h) hw hc)
    cases hfl : r.fl with
    | true =>
     have Hr : Hid (cfgC m r = (m, 8)) := Hd (by unfold cfgC; rw [if_neg hG, if_pos hfl, hc]; rfl)
     rw [Hr.out]
     have HFL := Hd hfl
     have HFR0 := fF w m p r a14 a15 a16 a17 c14 c15 c16 c17
     clear hv hw hrw hc HFN hfl
     unfold imv
     unfold cR
     go_enter Tryz.func97, Tryz.ntmps97
     go_upto_region 1 with fail
     rw [fE]
     generalize frW w m p r a14 a15 a16 a17 c14 c15 c16 c17 = X at HFR0 ⊢
     have Hf := Hd HFR0
     clear HFR0
     obtain ⟨i0, i1, i2, i3, i4⟩ := Hf.out.i.im; have r3 := Hf.out.r.at 3 _ rfl; have r9 := Hf.out.r.at 9 _ rfl; have r11 := Hf.out.r.at 11 _ rfl; have r12 := Hf.out.r.at 12 _ rfl
     unfold imv at HFC HFT
     rw [HFL.out] at r9
     go_wp2_with (first | (go_at_call 37; refine (HFT.out _ Hf.out.b).mono ?_; rintro e wx ⟨i9, _, _, _, _, _, _, rfl, hbx⟩;  replace Hf := Hd (Hf.out.below hbx); clear i0 i1 i2 i3 i4 r3 r9 r11 r12; clear hbx HFT; obtain ⟨i0, i1, i2, i3, i4⟩ := Hf.out.i.im; have r3 := Hf.out.r.at 3 _ rfl; have r9 := Hf.out.r.at 9 _ rfl; have r11 := Hf.out.r.at 11 _ rfl; have r12 := Hf.out.r.at 12 _ rfl; rw [HFL.out] at r9) | (go_at_call 42; refine (HFC.out _ Hf.out.b).mono ?_; rintro e wx ⟨i, hi, hins, rfl, hbx⟩; have HIN := Hd ((hins ⟨r.tp, r.ky, r.va⟩).symm); clear hins; replace Hf := Hd (Hf.out.below hbx); clear i0 i1 i2 i3 i4 r3 r9 r11 r12; clear hbx HFC; obtain ⟨i0, i1, i2, i3, i4⟩ := Hf.out.i.im; have r3 := Hf.out.r.at 3 _ rfl; have r9 := Hf.out.r.at 9 _ rfl; have r11 := Hf.out.r.at 11 _ rfl; have r12 := Hf.out.r.at 12 _ rfl; rw [HFL.out] at r9) | (refine wS rfl _ _ _ rfl _ _ rfl Hf.out.z (iml m p) rfl rfl (by kernel_rfl) rfl ?_; intro W3 hz hk hb hp; have Ho := Hd (Hf.out.out hz hk hb); clear hz hk hb hp))
     obtain ⟨q0, q1, q2, q3, q4⟩ := Ho.out.z.im
     exact bodyPost_ret (v := .tuple #[.agg (iml m p).toArray, .iface 67 (.int .i64 8)]) (by simp [results, Tryz.results97, go_sem, q0, q1, q2, q3, q4, iml]) rfl (st_ret Ho.out (fun W hW => Hv.out W _ Ho.out.b hW) (erc_code (by decide)))
    | false =>
     have Hr : Hid (cfgC m r = ({ m with cf := (putC m.cf ⟨r.tp, r.ky, r.va⟩) }, 0)) := Hd (by unfold cfgC; rw [if_neg hG, if_neg (by rw [hfl]; decide)])
     rw [Hr.out]
     have HPU := Hd (fun W (h : Below w.heap.size w W) i (hi : i ≤ m.cf.length) => putC_new m.cf p.ac _ p.cc i ⟨r.tp, r.ky, r.va⟩ W rfl (hv.below h).c hi hw.nc)
     have HFL := Hd hfl
     have HFR0 := fF w m p r a14 a15 a16 a17 c14 c15 c16 c17
     clear hv hw hrw hc HFN hfl
     unfold imv
     unfold cR
     go_enter Tryz.func97, Tryz.ntmps97
     go_upto_region 1 with fail
     rw [fE]
     generalize frW w m p r a14 a15 a16 a17 c14 c15 c16 c17 = X at HFR0 ⊢
     have Hf := Hd HFR0
     clear HFR0
     obtain ⟨i0, i1, i2, i3, i4⟩ := Hf.out.i.im; have r3 := Hf.out.r.at 3 _ rfl; have r9 := Hf.out.r.at 9 _ rfl; have r11 := Hf.out.r.at 11 _ rfl; have r12 := Hf.out.r.at 12 _ rfl
     unfold imv at HFC HFT
     rw [HFL.out] at r9
     go_wp2_with (first | (go_at_call 37; refine (HFT.out _ Hf.out.b).mono ?_; rintro e wx ⟨i9, _, _, _, _, _, _, rfl, hbx⟩;  replace Hf := Hd (Hf.out.below hbx); clear i0 i1 i2 i3 i4 r3 r9 r11 r12; clear hbx HFT; obtain ⟨i0, i1, i2, i3, i4⟩ := Hf.out.i.im; have r3 := Hf.out.r.at 3 _ rfl; have r9 := Hf.out.r.at 9 _ rfl; have r11 := Hf.out.r.at 11 _ rfl; have r12 := Hf.out.r.at 12 _ rfl; rw [HFL.out] at r9) | (go_at_call 42; refine (HFC.out _ Hf.out.b).mono ?_; rintro e wx ⟨i, hi, hins, rfl, hbx⟩; have HIN := Hd ((hins ⟨r.tp, r.ky, r.va⟩).symm); clear hins; replace Hf := Hd (Hf.out.below hbx); clear i0 i1 i2 i3 i4 r3 r9 r11 r12; clear hbx HFC; obtain ⟨i0, i1, i2, i3, i4⟩ := Hf.out.i.im; have r3 := Hf.out.r.at 3 _ rfl; have r9 := Hf.out.r.at 9 _ rfl; have r11 := Hf.out.r.at 11 _ rfl; have r12 := Hf.out.r.at 12 _ rfl; rw [HFL.out] at r9) | (go_at_call 127; refine (HPU.out _ Hf.out.b i hi).mono ?_; rintro e w3 ⟨v, rfl, hro, hb3⟩; rw [HIN.out] at hro; change Ro _ _ _ _ _ _ (putC m.cf ⟨r.tp, r.ky, r.va⟩) at hro; obtain ⟨av, cv, rfl⟩ := hro.form; have HRO := Hd (hro.mono Hf.out.sz); replace Hf := Hd (Hf.out.below hb3); clear hro hb3 HPU; clear i0 i1 i2 i3 i4 r3 r9 r11 r12; obtain ⟨i0, i1, i2, i3, i4⟩ := Hf.out.i.im; have r3 := Hf.out.r.at 3 _ rfl; have r9 := Hf.out.r.at 9 _ rfl; have r11 := Hf.out.r.at 11 _ rfl; have r12 := Hf.out.r.at 12 _ rfl; have f2 := Hf.out.f 2 (by decide); have HFS := Hd (Hf.out.set 2 (.slice av ((putC m.cf ⟨r.tp, r.ky, r.va⟩)).length cv) { m with cf := (putC m.cf ⟨r.tp, r.ky, r.va⟩) } { p with ac := av, cc := cv } (by decide) rfl)) | (refine wS rfl _ _ _ rfl _ _ rfl HFS.out.z (iml { m with cf := (putC m.cf ⟨r.tp, r.ky, r.va⟩) } { p with ac := av, cc := cv }) rfl rfl (by kernel_rfl) rfl ?_; intro W3 hz hk hb hp; have Ho := Hd (HFS.out.out hz hk hb); have HRS := Hd (fun W (hW : Agr n0 w.heap.size W3 W) => (HRO.out.keepG (fun g hg => (hW g (.inr (by omega))).trans ((hp g (by omega)).trans (Below.heap_setCell _ _ _ _ (show ¬ g = w.heap.size by omega))))).rs); clear hz hk hb hp))
     obtain ⟨q0, q1, q2, q3, q4⟩ := Ho.out.z.im
     exact bodyPost_ret (v := .tuple #[.agg (iml { m with cf := (putC m.cf ⟨r.tp, r.ky, r.va⟩) } { p with ac := av, cc := cv }).toArray, .nilIface]) (by simp [results, Tryz.results97, go_sem, q0, q1, q2, q3, q4, iml]) rfl (st_ret Ho.out (fun W hW => ⟨(Hv.out W _ Ho.out.b hW).b, (Hv.out W _ Ho.out.b hW).t, (Hv.out W _ Ho.out.b hW).q, (Hv.out W _ Ho.out.b hW).e, (HRS.out W hW), (Hv.out W _ Ho.out.b hW).d⟩) erc_nil)
   | some y =>
    have HFC := Hd (fun W (h : Below w.heap.size w W) => findConfig_yes m p r.tp r.ky W (hv.below h) hw y hc)
    cases hfl : r.fl with
    | true =>
     have Hr : Hid (cfgC m r = ({ m with cf := (remO (fun x : Cf => cmpC x r.tp r.ky) m.cf) }, 0)) := Hd (by unfold cfgC; rw [if_neg hG, if_pos hfl, hc, if_neg (by simp), remC_rem])
     rw [Hr.out]
     have HPU := Hd (fun W (h : Below w.heap.size w W) i (hi : i < m.cf.length) => woC_any m.cf p.ac _ p.cc i W rfl (hv.below h).c hi hw.nc)
     have HFL := Hd hfl
     have HFR0 := fF w m p r a14 a15 a16 a17 c14 c15 c16 c17
     clear hv hw hrw hc HFN hfl
     unfold imv
     unfold cR
     go_enter Tryz.func97, Tryz.ntmps97
     go_upto_region 1 with fail
     rw [fE]
     generalize frW w m p r a14 a15 a16 a17 c14 c15 c16 c17 = X at HFR0 ⊢
     have Hf := Hd HFR0
     clear HFR0
     obtain ⟨i0, i1, i2, i3, i4⟩ := Hf.out.i.im; have r3 := Hf.out.r.at 3 _ rfl; have r9 := Hf.out.r.at 9 _ rfl; have r11 := Hf.out.r.at 11 _ rfl; have r12 := Hf.out.r.at 12 _ rfl
     unfold imv at HFC HFT
     rw [HFL.out] at r9
     go_wp2_with (first | (go_at_call 37; refine (HFT.out _ Hf.out.b).mono ?_; rintro e wx ⟨i9, _, _, _, _, _, _, rfl, hbx⟩;  replace Hf := Hd (Hf.out.below hbx); clear i0 i1 i2 i3 i4 r3 r9 r11 r12; clear hbx HFT; obtain ⟨i0, i1, i2, i3, i4⟩ := Hf.out.i.im; have r3 := Hf.out.r.at 3 _ rfl; have r9 := Hf.out.r.at 9 _ rfl; have r11 := Hf.out.r.at 11 _ rfl; have r12 := Hf.out.r.at 12 _ rfl; rw [HFL.out] at r9) | (go_at_call 42; refine (HFC.out _ Hf.out.b).mono ?_; rintro e wx ⟨i, hi, hib, hins, hrem, _, _, rfl, hbx⟩; have HIN := Hd ((hins ⟨r.tp, r.ky, r.va⟩).symm); have HRM := Hd hrem.symm; clear hins hrem; replace Hf := Hd (Hf.out.below hbx); clear i0 i1 i2 i3 i4 r3 r9 r11 r12; clear hbx HFC; obtain ⟨i0, i1, i2, i3, i4⟩ := Hf.out.i.im; have r3 := Hf.out.r.at 3 _ rfl; have r9 := Hf.out.r.at 9 _ rfl; have r11 := Hf.out.r.at 11 _ rfl; have r12 := Hf.out.r.at 12 _ rfl; rw [HFL.out] at r9) | (go_at_call 126; refine (HPU.out _ Hf.out.b i hi).mono ?_; rintro e w3 ⟨v, rfl, hro, hb3⟩; rw [HRM.out] at hro; obtain ⟨av, cv, rfl⟩ := hro.form; have HRO := Hd (hro.mono Hf.out.sz); replace Hf := Hd (Hf.out.below hb3); clear hro hb3 HPU; clear i0 i1 i2 i3 i4 r3 r9 r11 r12; obtain ⟨i0, i1, i2, i3, i4⟩ := Hf.out.i.im; have r3 := Hf.out.r.at 3 _ rfl; have r9 := Hf.out.r.at 9 _ rfl; have r11 := Hf.out.r.at 11 _ rfl; have r12 := Hf.out.r.at 12 _ rfl; have f2 := Hf.out.f 2 (by decide); have HFS := Hd (Hf.out.set 2 (.slice av ((remO (fun x : Cf => cmpC x r.tp r.ky) m.cf)).length cv) { m with cf := (remO (fun x : Cf => cmpC x r.tp r.ky) m.cf) } { p with ac := av, cc := cv } (by decide) rfl)) | (refine wS rfl _ _ _ rfl _ _ rfl HFS.out.z (iml { m with cf := (remO (fun x : Cf => cmpC x r.tp r.ky) m.cf) } { p with ac := av, cc := cv }) rfl rfl (by kernel_rfl) rfl ?_; intro W3 hz hk hb hp; have Ho := Hd (HFS.out.out hz hk hb); have HRS := Hd (fun W (hW : Agr n0 w.heap.size W3 W) => (HRO.out.keepG (fun g hg => (hW g (.inr (by omega))).trans ((hp g (by omega)).trans (Below.heap_setCell _ _ _ _ (show ¬ g = w.heap.size by omega))))).rs); clear hz hk hb hp))
     obtain ⟨q0, q1, q2, q3, q4⟩ := Ho.out.z.im
     exact bodyPost_ret (v := .tuple #[.agg (iml { m with cf := (remO (fun x : Cf => cmpC x r.tp r.ky) m.cf) } { p with ac := av, cc := cv }).toArray, .nilIface]) (by simp [results, Tryz.results97, go_sem, q0, q1, q2, q3, q4, iml]) rfl (st_ret Ho.out (fun W hW => ⟨(Hv.out W _ Ho.out.b hW).b, (Hv.out W _ Ho.out.b hW).t, (Hv.out W _ Ho.out.b hW).q, (Hv.out W _ Ho.out.b hW).e, (HRS.out W hW), (Hv.out W _ Ho.out.b hW).d⟩) erc_nil)
    | false =>
     have Hr : Hid (cfgC m r = ({ m with cf := (putC m.cf ⟨r.tp, r.ky, r.va⟩) }, 0)) := Hd (by unfold cfgC; rw [if_neg hG, if_neg (by rw [hfl]; decide)])
     rw [Hr.out]
     have HPU := Hd (fun W (h : Below w.heap.size w W) i (hi : i < m.cf.length) => putC_old m.cf p.ac _ p.cc i ⟨r.tp, r.ky, r.va⟩ W rfl (hv.below h).c hi hw.nc)
     have HFL := Hd hfl
     have HFR0 := fF w m p r a14 a15 a16 a17 c14 c15 c16 c17
     clear hv hw hrw hc HFN hfl
     unfold imv
     unfold cR
     go_enter Tryz.func97, Tryz.ntmps97
     go_upto_region 1 with fail
     rw [fE]
     generalize frW w m p r a14 a15 a16 a17 c14 c15 c16 c17 = X at HFR0 ⊢
     have Hf := Hd HFR0
     clear HFR0
     obtain ⟨i0, i1, i2, i3, i4⟩ := Hf.out.i.im; have r3 := Hf.out.r.at 3 _ rfl; have r9 := Hf.out.r.at 9 _ rfl; have r11 := Hf.out.r.at 11 _ rfl; have r12 := Hf.out.r.at 12 _ rfl
     unfold imv at HFC HFT
     rw [HFL.out] at r9
     go_wp2_with (first | (go_at_call 37; refine (HFT.out _ Hf.out.b).mono ?_; rintro e wx ⟨i9, _, _, _, _, _, _, rfl, hbx⟩;  replace Hf := Hd (Hf.out.below hbx); clear i0 i1 i2 i3 i4 r3 r9 r11 r12; clear hbx HFT; obtain ⟨i0, i1, i2, i3, i4⟩ := Hf.out.i.im; have r3 := Hf.out.r.at 3 _ rfl; have r9 := Hf.out.r.at 9 _ rfl; have r11 := Hf.out.r.at 11 _ rfl; have r12 := Hf.out.r.at 12 _ rfl; rw [HFL.out] at r9) | (go_at_call 42; refine (HFC.out _ Hf.out.b).mono ?_; rintro e wx ⟨i, hi, hib, hins, hrem, _, _, rfl, hbx⟩; have HIN := Hd ((hins ⟨r.tp, r.ky, r.va⟩).symm); have HRM := Hd hrem.symm; clear hins hrem; replace Hf := Hd (Hf.out.below hbx); clear i0 i1 i2 i3 i4 r3 r9 r11 r12; clear hbx HFC; obtain ⟨i0, i1, i2, i3, i4⟩ := Hf.out.i.im; have r3 := Hf.out.r.at 3 _ rfl; have r9 := Hf.out.r.at 9 _ rfl; have r11 := Hf.out.r.at 11 _ rfl; have r12 := Hf.out.r.at 12 _ rfl; rw [HFL.out] at r9) | (go_at_call 127; refine (HPU.out _ Hf.out.b i hi).mono ?_; rintro e w3 ⟨v, rfl, hro, hb3⟩; rw [HIN.out] at hro; change Ro _ _ _ _ _ _ (putC m.cf ⟨r.tp, r.ky, r.va⟩) at hro; obtain ⟨av, cv, rfl⟩ := hro.form; have HRO := Hd (hro.mono Hf.out.sz); replace Hf := Hd (Hf.out.below hb3); clear hro hb3 HPU; clear i0 i1 i2 i3 i4 r3 r9 r11 r12; obtain ⟨i0, i1, i2, i3, i4⟩ := Hf.out.i.im; have r3 := Hf.out.r.at 3 _ rfl; have r9 := Hf.out.r.at 9 _ rfl; have r11 := Hf.out.r.at 11 _ rfl; have r12 := Hf.out.r.at 12 _ rfl; have f2 := Hf.out.f 2 (by decide); have HFS := Hd (Hf.out.set 2 (.slice av ((putC m.cf ⟨r.tp, r.ky, r.va⟩)).length cv) { m with cf := (putC m.cf ⟨r.tp, r.ky, r.va⟩) } { p with ac := av, cc := cv } (by decide) rfl)) | (refine wS rfl _ _ _ rfl _ _ rfl HFS.out.z (iml { m with cf := (putC m.cf ⟨r.tp, r.ky, r.va⟩) } { p with ac := av, cc := cv }) rfl rfl (by kernel_rfl) rfl ?_; intro W3 hz hk hb hp; have Ho := Hd (HFS.out.out hz hk hb); have HRS := Hd (fun W (hW : Agr n0 w.heap.size W3 W) => (HRO.out.keepG (fun g hg => (hW g (.inr (by omega))).trans ((hp g (by omega)).trans (Below.heap_setCell _ _ _ _ (show ¬ g = w.heap.size by omega))))).rs); clear hz hk hb hp))
     obtain ⟨q0, q1, q2, q3, q4⟩ := Ho.out.z.im
     exact bodyPost_ret (v := .tuple #[.agg (iml { m with cf := (putC m.cf ⟨r.tp, r.ky, r.va⟩) } { p with ac := av, cc := cv }).toArray, .nilIface]) (by simp [results, Tryz.results97, go_sem, q0, q1, q2, q3, q4, iml]) rfl (st_ret Ho.out (fun W hW => ⟨(Hv.out W _ Ho.out.b hW).b, (Hv.out W _ Ho.out.b hW).t, (Hv.out W _ Ho.out.b hW).q, (Hv.out W _ Ho.out.b hW).e, (HRS.out W hW), (Hv.out W _ Ho.out.b hW).d⟩) erc_nil)
end Go.Proofs.YtlggjgapdpkhiaaGreat
namespace Go.Proofs.YtlggjgapdpkhiaaGreat
open Go.RowKit
set_option maxRecDepth 100000
set_option maxHeartbeats 8000000
theorem growD_any (n : Nat) (w : World) (hn : n ≤ 1000000) : Calls Tryz.prog 159 #[.slice none 0 0, .int .i64 (n : Int)] w fun e w' => ∃ v, e = .returned v ∧ Ro dnc 3 83 w' w.heap.size v [] ∧ Below w.heap.size w w' := by
 have h2 : wrap64 ((0 : Int) - 0) = 0 := by unfold wrap64; omega
 have h1 : ¬ ((n : Int) < 0) := by omega
 rcases Nat.eq_zero_or_pos n with h0 | h0
 ·subst h0
  clear hn h1
  go_enter Tryz.func159, Tryz.ntmps159
  go_wp2_with fail
  go_ret
  exact ⟨_, rfl, ro_nil _ _ _ _ _, Below.refl _ _⟩
 ·have h3 : wrap64 ((n : Int) - 0) = (n : Int) := by unfold wrap64; omega
  have h4 : (n : Int) > 0 := by omega
  have hz := fun ty => grow_zeros (I := 3) tyiD (by decide) Tryz.underlying3 w n h0 hn ty
  obtain ⟨G, c, hG, hnG, hm, hc⟩ := hz 28
  have HU := Hd (fun W => upto_run tyiD (some ⟨w.heap.size, 0, none⟩) n G 0 (Nat.zero_le _) hnG W)
  have HG := Hd hG
  have HR := Hd (ro_room dnc 3 83 w G c hm hc)
  clear hz hG hm hc
  go_enter Tryz.func159, Tryz.ntmps159
  go_wp2_with (at_builtin; refine Lib.wpList_append_run _ rfl _ _ _ _ rfl _ _ rfl rfl _ _ HG.out ?_)
  all_goals
   go_ret
   exact ⟨_, rfl, HR.out, below_dal _ _⟩
theorem concD_3 (v1 v2 v3 : Value) (l1 l2 l3 : List Dn) (B : Nat) (w : World) (hB : Bx w B [v1, v2, v3]) (h1 : Rs dnc w v1 l1) (h2 : Rs dnc w v2 l2) (h3 : Rs dnc w v3 l3) (hl1 : l1.length ≤ 200000) (hl2 : l2.length ≤ 200000) (hl3 : l3.length ≤ 200000) :
  Calls Tryz.prog 150 #[.slice (some ⟨B, 0, none⟩) 3 3] w fun e w' => ∃ v, e = .returned v ∧ Ro dnc 3 83 w' w.heap.size v (l1 ++ l2 ++ l3) ∧ Below w.heap.size w w' := by
 have HG := Hd (fun n hn => growD_any n w hn)
 obtain ⟨a1, c1, rfl⟩ := h1.form
 obtain ⟨a2, c2, rfl⟩ := h2.form
 obtain ⟨a3, c3, rfl⟩ := h3.form
 have HB := Hd (fun W (h : Below w.heap.size w W) => (hB.below h).c3)
 have H1 := Hd (fun W (h : Below w.heap.size w W) => h1.below h)
 have H2 := Hd (fun W (h : Below w.heap.size w W) => h2.below h)
 have H3 := Hd (fun W (h : Below w.heap.size w W) => h3.below h)
 obtain ⟨b0, b1, b2⟩ := hB.c3
 have hbl := hB.l
 clear h1 h2 h3 hB
 go_enter Tryz.func150, Tryz.ntmps150
 go_wp2_with fail
 refine wp_loop_rounds 4 ?_
 rw [rounds_succ]
 go_wp2_with fail
 rw [rounds_succ]
 go_wp2_with fail
 rw [rounds_succ]
 go_wp2_with fail
 rw [rounds_succ]
 have HN : Hid (((l1.length : Int) + l2.length + l3.length) = ((l1.length + l2.length + l3.length : Nat) : Int)) := Hd (by omega)
 have HK : Hid (l1.length + l2.length + l3.length ≤ 1000000) := Hd (by omega)
 go_wp2_with (go_at_call 159; first | rw [HN.out] | skip; refine (HG.out _ HK.out).mono ?_; rintro e w1 ⟨v, rfl, hr, hb⟩; obtain ⟨d0, d1, d2⟩ := HB.out _ hb; have HR := Hd hr; have HBl := Hd hb; clear hr hb HG b0 b1 b2)
 refine wp_loop_rounds 4 ?_
 rw [rounds_succ]
 go_wp2_with (at_builtin; refine wR tyiD encD _ rfl _ _ rfl w.heap.size _ [] rfl HR.out HBl.out.size _ l1 rfl (H1.out _ HBl.out) (by rw [List.length_nil]; omega) ?_; intro v1 w2 hr _ hb; rw [List.nil_append] at hr; obtain ⟨d0, d1, d2⟩ := HB.out _ (HBl.out.trans hb); replace HR := Hd hr; replace HBl := Hd (HBl.out.trans hb); clear hr hb)
 rw [rounds_succ]
 go_wp2_with (at_builtin; refine wR tyiD encD _ rfl _ _ rfl w.heap.size _ l1 rfl HR.out HBl.out.size _ l2 rfl (H2.out _ HBl.out) (by omega) ?_; intro v2 w3 hr _ hb; obtain ⟨d0, d1, d2⟩ := HB.out _ (HBl.out.trans hb); replace HR := Hd hr; replace HBl := Hd (HBl.out.trans hb); clear hr hb)
 rw [rounds_succ]
 go_wp2_with (at_builtin; refine wR tyiD encD _ rfl _ _ rfl w.heap.size _ (l1 ++ l2) rfl HR.out HBl.out.size _ l3 rfl (H3.out _ HBl.out) (by rw [List.length_append]; omega) ?_; intro v3 w4 hr _ hb; obtain ⟨d0, d1, d2⟩ := HB.out _ (HBl.out.trans hb); replace HR := Hd hr; replace HBl := Hd (HBl.out.trans hb); clear hr hb)
 rw [rounds_succ]
 go_wp2_with fail
 go_ret
 exact ⟨_, rfl, HR.out, HBl.out⟩
end Go.Proofs.YtlggjgapdpkhiaaGreat
namespace Go.Proofs.YtlggjgapdpkhiaaGreat
open Go.RowKit
set_option maxRecDepth 100000 in
set_option maxHeartbeats 8000000 in
theorem putD_new (l : List Dn) (ao : Option Addr) (n cap i : Nat) (x : Dn) (w : World) (hn : n = l.length) (hv : Rs dnc w (.slice ao n cap) l) (hi : i ≤ l.length) (hl : l.length ≤ 100000) :
  Calls Tryz.prog 131 #[.slice ao n cap, .int .i64 (i : Int), .bool false, .agg (dnc x).toArray] w fun e w' => ∃ v, e = .returned v ∧ Ro dnc 3 83 w' w.heap.size v (l.take i ++ x :: l.drop i) ∧ Below w.heap.size w w' := by
 subst hn
 obtain ⟨ao', hr, hd⟩ := hv.from tyiD encD i hi
 have hu := fun W => upto_run tyiD ao l.length cap i hi hv.cap.2 W
 have HP := Hd (fun o1 T U => put_frame (f := dnc) w o1 x T U (.slice ao i cap) (.slice ao' (l.length - i) (cap - i)))
 have HC := Hd (fun W (hb : Below w.heap.size w W) (hB : Bx W (w.heap.size + 1 + 1) [.slice ao i cap, .slice (some ⟨w.heap.size + 1, 0, none⟩) 1 1, .slice ao' (l.length - i) (cap - i)]) (hx : Rs dnc W (.slice (some ⟨w.heap.size + 1, 0, none⟩) 1 1) [x]) => concD_3 _ _ _ (l.take i) [x] (l.drop i) _ W hB ((hv.below hb).upto encD i hi) hx (hd W hb) (by rw [List.length_take]; omega) (by simp) (by rw [List.length_drop]; omega))
 have HE : Hid (l.take i ++ [x] ++ l.drop i = l.take i ++ x :: l.drop i) := Hd (by simp)
 clear hv hd
 unfold dnc at *
 go_enter Tryz.func131, Tryz.ntmps131
 go_upto_region 4 with fail
 go_region_with (go_at_call 150; obtain ⟨p1, p2, p3⟩ := HP.out _ _ _; refine (HC.out _ p3 p1 p2).mono ?_; rintro e w1 ⟨v, rfl, hr, hb⟩; rw [HE.out] at hr; have HR := Hd (hr.mono p3.size); have HB := Hd (bt p3 hb); clear hr hb p1 p2 p3)
 all_goals
  go_wp2_with fail
  go_ret
  exact ⟨_, rfl, HR.out, HB.out⟩
end Go.Proofs.YtlggjgapdpkhiaaGreat
namespace Go.Proofs.YtlggjgapdpkhiaaGreat
open Go.RowKit
set_option maxRecDepth 100000 in
set_option maxHeartbeats 16000000 in
theorem answer_any {ok : Nat → Prop} (m : Im) (p : Ip) (r : Rc) (v : Value) (w : World) (n0 : Nat → Prop) (hn0 : ∀ g, n0 g → g < w.heap.size) (hv : ∀ W, (∀ g, n0 g → W.heap[g]? = w.heap[g]?) → ImR W m p) (hw : Wf m 100000) (hr : IsR ok w v r) : Calls Tryz.prog 99 #[imv m p, v] w fun e w' => StP n0 w w' (ansD m r).1 (ansD m r).2 e := by
 obtain ⟨a14, a15, a16, a17, c14, c15, c16, c17, rfl, hrw⟩ := hr
 have Hv := Hd (fun (W W3 : World) (hb : Below w.heap.size w W3) (hW : Agr n0 w.heap.size W3 W) => hv W (fun g hg => (hW g (.inl hg)).trans (hb.block g (hn0 g hg))))
 clear hn0
 replace hv : ImR w m p := hv w (fun _ _ => rfl)
 have HV := Hd (fun W (h : Below w.heap.size w W) => hv.below h)
 have HAN := Hd (fun W (h : Below w.heap.size w W) => Answered_any m p r.cl r.se W (hv.below h) hw)
 cases hf : fD m.dn r.cl r.se with
 | some d =>
  have Hr : Hid (ansD m r = (m, 9)) := Hd (by unfold ansD; rw [hf]; rfl)
  rw [Hr.out]
  rw [hf] at HAN
  unfold ansV at HAN
  have HFR0 := fF w m p r a14 a15 a16 a17 c14 c15 c16 c17
  clear hv hw hrw hf
  unfold imv
  unfold cR
  go_enter Tryz.func99, Tryz.ntmps99
  go_upto_region 1 with fail
  rw [fE]
  generalize frW w m p r a14 a15 a16 a17 c14 c15 c16 c17 = X at HFR0 ⊢
  have Hf := Hd HFR0
  clear HFR0
  obtain ⟨i0, i1, i2, i3, i4⟩ := Hf.out.i.im; have r6 := Hf.out.r.at 6 _ rfl; have r7 := Hf.out.r.at 7 _ rfl; have r8 := Hf.out.r.at 8 _ rfl
  unfold imv at HAN
  go_wp2_with (first | (go_at_call 17; refine (HAN.out _ Hf.out.b).mono ?_; rintro e wx ⟨rfl, hbx⟩;  replace Hf := Hd (Hf.out.below hbx); clear i0 i1 i2 i3 i4 r6 r7 r8; clear hbx HAN; obtain ⟨i0, i1, i2, i3, i4⟩ := Hf.out.i.im; have r6 := Hf.out.r.at 6 _ rfl; have r7 := Hf.out.r.at 7 _ rfl; have r8 := Hf.out.r.at 8 _ rfl) | (refine wS rfl _ _ _ rfl _ _ rfl Hf.out.z (iml m p) rfl rfl (by kernel_rfl) rfl ?_; intro W3 hz hk hb hp; have Ho := Hd (Hf.out.out hz hk hb); clear hz hk hb hp))
  obtain ⟨q0, q1, q2, q3, q4⟩ := Ho.out.z.im
  exact bodyPost_ret (v := .tuple #[.agg (iml m p).toArray, .iface 67 (.int .i64 9)]) (by simp [results, Tryz.results99, go_sem, q0, q1, q2, q3, q4, iml]) rfl (st_ret Ho.out (fun W hW => Hv.out W _ Ho.out.b hW) (erc_code (by decide)))
 | none =>
  obtain ⟨L, hL⟩ : ∃ L, L = putD m.dn ⟨r.cl, r.se, r.co⟩ := ⟨_, rfl⟩
  have Hr : Hid (ansD m r = ({ m with dn := L }, 0)) := Hd (by unfold ansD; rw [hf, hL]; rfl)
  rw [Hr.out]
  rw [hf] at HAN
  unfold ansV at HAN
  have hnd := hw.nd
  by_cases h64 : 64 ≤ m.dn.length
  ·obtain ⟨k, hk⟩ : ∃ k, k = m.dn.length + 1 - 64 := ⟨_, rfl⟩
   have hkl : k ≤ m.dn.length := by omega
   obtain ⟨ao', hfr, hdr⟩ := hv.d.from tyiD encD k hkl
   have hdl : (m.dn.drop k).length = m.dn.length - k := List.length_drop
   have HPU := Hd (fun W (h : Below w.heap.size w W) => putD_new (m.dn.drop k) ao' (m.dn.length - k) (p.cd - k) (m.dn.length - k) ⟨r.cl, r.se, r.co⟩ W hdl.symm (hdr W h) (by omega) (by omega))
   have HTL : Hid ((m.dn.drop k).take (m.dn.length - k) ++ (⟨r.cl, r.se, r.co⟩ : Dn) :: (m.dn.drop k).drop (m.dn.length - k) = L) := Hd (by rw [List.take_of_length_le (Nat.le_of_eq hdl), List.drop_of_length_le (Nat.le_of_eq hdl), hL, putD, hk])
   have hgt : (64 : Int) < (m.dn.length : Int) + 1 := by omega
   have hki : (k : Int) = (m.dn.length : Int) + 1 - 64 := by omega
   replace hfr : ∀ W, (Instr.slice 28 (.slice p.ad m.dn.length p.cd) (some (.int .i64 ((m.dn.length : Int) + 1 - 64))) none none).run Tryz.prog W = .ok (.slice ao' (m.dn.length - k) (p.cd - k)) W := fun W => by rw [← hki]; exact hfr W
   have hcast : ((m.dn.length - k : Nat) : Int) = (m.dn.length : Int) - k := by omega
   clear hL hk hdl hdr hki h64 hcast
   have HFR0 := fF w m p r a14 a15 a16 a17 c14 c15 c16 c17
   clear hv hw hrw hf
   unfold imv
   unfold cR
   go_enter Tryz.func99, Tryz.ntmps99
   go_upto_region 1 with fail
   rw [fE]
   generalize frW w m p r a14 a15 a16 a17 c14 c15 c16 c17 = X at HFR0 ⊢
   have Hf := Hd HFR0
   clear HFR0
   obtain ⟨i0, i1, i2, i3, i4⟩ := Hf.out.i.im; have r6 := Hf.out.r.at 6 _ rfl; have r7 := Hf.out.r.at 7 _ rfl; have r8 := Hf.out.r.at 8 _ rfl
   unfold imv at HAN
   go_wp2_with (first | (go_at_call 17; refine (HAN.out _ Hf.out.b).mono ?_; rintro e wx ⟨rfl, hbx⟩;  replace Hf := Hd (Hf.out.below hbx); clear i0 i1 i2 i3 i4 r6 r7 r8; clear hbx HAN; obtain ⟨i0, i1, i2, i3, i4⟩ := Hf.out.i.im; have r6 := Hf.out.r.at 6 _ rfl; have r7 := Hf.out.r.at 7 _ rfl; have r8 := Hf.out.r.at 8 _ rfl) | (go_at_call 131; refine (HPU.out _ Hf.out.b).mono ?_; rintro e w3 ⟨v, rfl, hro, hb3⟩; rw [HTL.out] at hro; obtain ⟨av, cv, rfl⟩ := hro.form; have HRO := Hd (hro.mono Hf.out.sz); replace Hf := Hd (Hf.out.below hb3); clear hro hb3 HPU; clear i0 i1 i2 i3 i4 r6 r7 r8; obtain ⟨i0, i1, i2, i3, i4⟩ := Hf.out.i.im; have r6 := Hf.out.r.at 6 _ rfl; have r7 := Hf.out.r.at 7 _ rfl; have r8 := Hf.out.r.at 8 _ rfl; have f3 := Hf.out.f 3 (by decide); have HFS := Hd (Hf.out.set 3 (.slice av L.length cv) { m with dn := L } { p with ad := av, cd := cv } (by decide) rfl)) | (refine wS rfl _ _ _ rfl _ _ rfl HFS.out.z (iml { m with dn := L } { p with ad := av, cd := cv }) rfl rfl (by kernel_rfl) rfl ?_; intro W3 hz hk hb hp; have Ho := Hd (HFS.out.out hz hk hb); have HRS := Hd (fun W (hW : Agr n0 w.heap.size W3 W) => (HRO.out.keepG (fun g hg => (hW g (.inr (by omega))).trans ((hp g (by omega)).trans (Below.heap_setCell _ _ _ _ (show ¬ g = w.heap.size by omega))))).rs); clear hz hk hb hp))
   obtain ⟨q0, q1, q2, q3, q4⟩ := Ho.out.z.im
   exact bodyPost_ret (v := .tuple #[.agg (iml { m with dn := L } { p with ad := av, cd := cv }).toArray, .nilIface]) (by simp [results, Tryz.results99, go_sem, q0, q1, q2, q3, q4, iml]) rfl (st_ret Ho.out (fun W hW => ⟨(Hv.out W _ Ho.out.b hW).b, (Hv.out W _ Ho.out.b hW).t, (Hv.out W _ Ho.out.b hW).q, (Hv.out W _ Ho.out.b hW).e, (Hv.out W _ Ho.out.b hW).c, (HRS.out W hW)⟩) erc_nil)
  ·have HPU := Hd (fun W (h : Below w.heap.size w W) => putD_new m.dn p.ad _ p.cd m.dn.length ⟨r.cl, r.se, r.co⟩ W rfl (hv.below h).d (Nat.le_refl _) hnd)
   have HTL : Hid (m.dn.take m.dn.length ++ (⟨r.cl, r.se, r.co⟩ : Dn) :: m.dn.drop m.dn.length = L) := Hd (by rw [List.take_length, List.drop_length, hL, putD, show m.dn.length + 1 - 64 = 0 by omega, List.drop_zero])
   have hgt : ¬ (64 : Int) < (m.dn.length : Int) + 1 := by omega
   clear hL h64
   have HFR0 := fF w m p r a14 a15 a16 a17 c14 c15 c16 c17
   clear hv hw hrw hf
   unfold imv
   unfold cR
   go_enter Tryz.func99, Tryz.ntmps99
   go_upto_region 1 with fail
   rw [fE]
   generalize frW w m p r a14 a15 a16 a17 c14 c15 c16 c17 = X at HFR0 ⊢
   have Hf := Hd HFR0
   clear HFR0
   obtain ⟨i0, i1, i2, i3, i4⟩ := Hf.out.i.im; have r6 := Hf.out.r.at 6 _ rfl; have r7 := Hf.out.r.at 7 _ rfl; have r8 := Hf.out.r.at 8 _ rfl
   unfold imv at HAN
   go_wp2_with (first | (go_at_call 17; refine (HAN.out _ Hf.out.b).mono ?_; rintro e wx ⟨rfl, hbx⟩;  replace Hf := Hd (Hf.out.below hbx); clear i0 i1 i2 i3 i4 r6 r7 r8; clear hbx HAN; obtain ⟨i0, i1, i2, i3, i4⟩ := Hf.out.i.im; have r6 := Hf.out.r.at 6 _ rfl; have r7 := Hf.out.r.at 7 _ rfl; have r8 := Hf.out.r.at 8 _ rfl) | (go_at_call 131; refine (HPU.out _ Hf.out.b).mono ?_; rintro e w3 ⟨v, rfl, hro, hb3⟩; rw [HTL.out] at hro; obtain ⟨av, cv, rfl⟩ := hro.form; have HRO := Hd (hro.mono Hf.out.sz); replace Hf := Hd (Hf.out.below hb3); clear hro hb3 HPU; clear i0 i1 i2 i3 i4 r6 r7 r8; obtain ⟨i0, i1, i2, i3, i4⟩ := Hf.out.i.im; have r6 := Hf.out.r.at 6 _ rfl; have r7 := Hf.out.r.at 7 _ rfl; have r8 := Hf.out.r.at 8 _ rfl; have f3 := Hf.out.f 3 (by decide); have HFS := Hd (Hf.out.set 3 (.slice av L.length cv) { m with dn := L } { p with ad := av, cd := cv } (by decide) rfl)) | (refine wS rfl _ _ _ rfl _ _ rfl HFS.out.z (iml { m with dn := L } { p with ad := av, cd := cv }) rfl rfl (by kernel_rfl) rfl ?_; intro W3 hz hk hb hp; have Ho := Hd (HFS.out.out hz hk hb); have HRS := Hd (fun W (hW : Agr n0 w.heap.size W3 W) => (HRO.out.keepG (fun g hg => (hW g (.inr (by omega))).trans ((hp g (by omega)).trans (Below.heap_setCell _ _ _ _ (show ¬ g = w.heap.size by omega))))).rs); clear hz hk hb hp))
   obtain ⟨q0, q1, q2, q3, q4⟩ := Ho.out.z.im
   exact bodyPost_ret (v := .tuple #[.agg (iml { m with dn := L } { p with ad := av, cd := cv }).toArray, .nilIface]) (by simp [results, Tryz.results99, go_sem, q0, q1, q2, q3, q4, iml]) rfl (st_ret Ho.out (fun W hW => ⟨(Hv.out W _ Ho.out.b hW).b, (Hv.out W _ Ho.out.b hW).t, (Hv.out W _ Ho.out.b hW).q, (Hv.out W _ Ho.out.b hW).e, (Hv.out W _ Ho.out.b hW).c, (HRS.out W hW)⟩) erc_nil)
end Go.Proofs.YtlggjgapdpkhiaaGreat
namespace Go.Proofs.YtlggjgapdpkhiaaGreat
open Go.RowKit
def trnQ (m : Im) (b : Bk) (k : Int) : Bool := if k = 3 then (!b.fe && !leads m.ts b.id) else if k = 4 then b.fe else if k = 5 then (!b.fe && !b.lv) else !used m.ts b.id
set_option maxRecDepth 100000 in
set_option maxHeartbeats 16000000 in
theorem turns_any (m : Im) (p : Ip) (b : Bk) (k : Int) (w : World) (hv : ImR w m p) (hw : Wf m 100000) : Calls Tryz.prog 120 #[imv m p, .agg (bkc b).toArray, .int .i64 k] w fun e w' => e = .returned (.bool (trnQ m b k)) ∧ Below w.heap.size w w' := by
 have HL := Hd (fun W (h : Below w.heap.size w W) => Leads_any m p b.id W (hv.below h) hw)
 have HO := Hd (fun W (h : Below w.heap.size w W) => holds_any m p b.id W (hv.below h) hw)
 obtain ⟨ANS, hANS⟩ : ∃ A, A = trnQ m b k := ⟨_, rfl⟩
 rw [← hANS]
 unfold trnQ at hANS
 have HANS := Hd hANS
 clear hANS hv hw
 generalize leads m.ts b.id = lb at HANS HL
 generalize used m.ts b.id = ub at HANS HO
 obtain ⟨id, ep, rk, fe, lv⟩ := b
 dsimp only at HANS HL HO
 obtain ⟨HI0, HP0, HB0⟩ := Bx.mk2 w [.slice p.ab m.br.length p.cb, .slice p.aq p.ts.length p.cq, .slice p.ac m.cf.length p.cc, .slice p.ad m.dn.length p.cd, .int .i64 m.la] [.int .i64 id, .int .i64 ep, .string ⟨rk.toArray⟩, .bool fe, .bool lv] 30 33 (Below.refl _ _)
 unfold imv bkc at *
 dsimp only at *
 go_enter Tryz.func120, Tryz.ntmps120
 go_upto_region 1 with fail
 generalize ((w.alloc (.cells (List.toArray [Value.slice p.ab m.br.length p.cb, .slice p.aq p.ts.length p.cq, .slice p.ac m.cf.length p.cc, .slice p.ad m.dn.length p.cd, .int .i64 m.la]) 30)).alloc (.cells (List.toArray [Value.int .i64 id, .int .i64 ep, .string ⟨rk.toArray⟩, .bool fe, .bool lv]) 33)) = X at HI0 HP0 HB0 ⊢
 have HB := Hd HB0
 obtain ⟨i0, i1, i2, i3, i4⟩ := HI0.c5
 obtain ⟨p0, p1, p2, p3, p4⟩ := HP0.c5
 clear HI0 HP0 HB0
 by_cases h3 : k = 3
 ·have k3 : (k == 3) = true := by simpa using h3
  cases fe with
  | true =>
   go_wp2_with (first | (go_at_call 24; refine (HL.out _ HB.out).mono ?_; rintro e w1 ⟨rfl, hb⟩; replace HB := Hd (bt HB.out hb); clear hb HL i0 i1 i2 i3 i4 p0 p1 p2 p3 p4) | (go_at_call 140; refine (HO.out _ HB.out).mono ?_; rintro e w1 ⟨rfl, hb⟩; replace HB := Hd (bt HB.out hb); clear hb HO i0 i1 i2 i3 i4 p0 p1 p2 p3 p4))
   go_ret
   exact ⟨congrArg (fun b => Ending.returned (.bool b)) (HANS.out.trans (by simp [*])).symm, HB.out⟩
  | false =>
   go_wp2_with (first | (go_at_call 24; refine (HL.out _ HB.out).mono ?_; rintro e w1 ⟨rfl, hb⟩; replace HB := Hd (bt HB.out hb); clear hb HL i0 i1 i2 i3 i4 p0 p1 p2 p3 p4) | (go_at_call 140; refine (HO.out _ HB.out).mono ?_; rintro e w1 ⟨rfl, hb⟩; replace HB := Hd (bt HB.out hb); clear hb HO i0 i1 i2 i3 i4 p0 p1 p2 p3 p4))
   go_ret
   exact ⟨congrArg (fun b => Ending.returned (.bool b)) (HANS.out.trans (by simp [*])).symm, HB.out⟩
 ·have k3 : (k == 3) = false := by simpa using h3
  by_cases h4 : k = 4
  ·have k4 : (k == 4) = true := by simpa using h4
   go_wp2_with (first | (go_at_call 24; refine (HL.out _ HB.out).mono ?_; rintro e w1 ⟨rfl, hb⟩; replace HB := Hd (bt HB.out hb); clear hb HL i0 i1 i2 i3 i4 p0 p1 p2 p3 p4) | (go_at_call 140; refine (HO.out _ HB.out).mono ?_; rintro e w1 ⟨rfl, hb⟩; replace HB := Hd (bt HB.out hb); clear hb HO i0 i1 i2 i3 i4 p0 p1 p2 p3 p4))
   go_ret
   exact ⟨congrArg (fun b => Ending.returned (.bool b)) (HANS.out.trans (by simp [*])).symm, HB.out⟩
  ·have k4 : (k == 4) = false := by simpa using h4
   by_cases h5 : k = 5
   ·have k5 : (k == 5) = true := by simpa using h5
    cases fe with
    | true =>
     go_wp2_with (first | (go_at_call 24; refine (HL.out _ HB.out).mono ?_; rintro e w1 ⟨rfl, hb⟩; replace HB := Hd (bt HB.out hb); clear hb HL i0 i1 i2 i3 i4 p0 p1 p2 p3 p4) | (go_at_call 140; refine (HO.out _ HB.out).mono ?_; rintro e w1 ⟨rfl, hb⟩; replace HB := Hd (bt HB.out hb); clear hb HO i0 i1 i2 i3 i4 p0 p1 p2 p3 p4))
     go_ret
     exact ⟨congrArg (fun b => Ending.returned (.bool b)) (HANS.out.trans (by simp [*])).symm, HB.out⟩
    | false =>
     go_wp2_with (first | (go_at_call 24; refine (HL.out _ HB.out).mono ?_; rintro e w1 ⟨rfl, hb⟩; replace HB := Hd (bt HB.out hb); clear hb HL i0 i1 i2 i3 i4 p0 p1 p2 p3 p4) | (go_at_call 140; refine (HO.out _ HB.out).mono ?_; rintro e w1 ⟨rfl, hb⟩; replace HB := Hd (bt HB.out hb); clear hb HO i0 i1 i2 i3 i4 p0 p1 p2 p3 p4))
     go_ret
     exact ⟨congrArg (fun b => Ending.returned (.bool b)) (HANS.out.trans (by simp [*])).symm, HB.out⟩
   ·have k5 : (k == 5) = false := by simpa using h5
    go_wp2_with (first | (go_at_call 24; refine (HL.out _ HB.out).mono ?_; rintro e w1 ⟨rfl, hb⟩; replace HB := Hd (bt HB.out hb); clear hb HL i0 i1 i2 i3 i4 p0 p1 p2 p3 p4) | (go_at_call 140; refine (HO.out _ HB.out).mono ?_; rintro e w1 ⟨rfl, hb⟩; replace HB := Hd (bt HB.out hb); clear hb HO i0 i1 i2 i3 i4 p0 p1 p2 p3 p4))
    go_ret
    exact ⟨congrArg (fun b => Ending.returned (.bool b)) (HANS.out.trans (by simp [*])).symm, HB.out⟩
end Go.Proofs.YtlggjgapdpkhiaaGreat
