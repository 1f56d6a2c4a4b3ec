/-
  A BROKER IS REGISTERED (image.register). Conditions: an image in order, its lists no longer than a hundred thousand.
  ONE THAT IS TAKEN OUT OF A ROW (slices.Concat of two, image.without). Conditions: the cells hold it, no more than a hundred thousand.
  ARE IMAGES THE SAME, AS THE DOCUMENT HAS IT, WHERE THEY ARE (castellanref15.Same). Conditions: images in order, their lists no longer than a hundred thousand.
-/
import Derived.Test.YtlggjgapdpkhiaaGreatDoorJKImCba5
import Derived.Test.YtlggjgapdpkhiaaGreatDoorJKImCda5
import Derived.Test.YtlggjgapdpkhiaaGreatDoorJKImQha3
import Derived.Test.YtlggjgapdpkhiaaGreatDoorJKImDgTa5
import Derived.Test.YtlggjgapdpkhiaaGreatDoorJKImQla4
namespace Go.Proofs.YtlggjgapdpkhiaaGreatDoor
open Go.RowKit
theorem ImR.setB {W : World} {m : Im} {p : Ip} (h : ImR W m p) {a : Option Addr} {n c : Nat} {l : List Bk} (hl : Rs bkc W (.slice a n c) l) : ImR W { m with br := l } { p with ab := a, cb := c } := ⟨by have := hl.cap.1; subst this; exact hl, h.t, h.q, h.e, h.c, h.d⟩
set_option maxRecDepth 100000 in
set_option maxHeartbeats 16000000 in
theorem register_any {ok : Nat → Prop} (m : Im) (p : Ip) (r : Rc) (v : Value) (w : World) (n0 : Nat → Prop) (hn0 : ∀ g, n0 g → g < w.heap.size) (hv : ∀ W, (∀ g, n0 g → W.heap[g]? = w.heap[g]?) → ImR W m p) (hw : Wf m 100000) (hr : IsR ok w v r) : Calls Tryz.prog 53 #[imv m p, v] w fun e w' => StP n0 w w' (regB m r).1 (regB m r).2 e := by
 obtain ⟨a14, a15, a16, a17, c14, c15, c16, c17, rfl, _⟩ := hr
 obtain ⟨cs, hcs⟩ : ∃ cs, cs = cellsR r a14 a15 a16 a17 c14 c15 c16 c17 := ⟨_, rfl⟩
 have HCR : Hid (∀ (W : World) (zs : List Value) (m : Im) (p : Ip), Fr w m p cs zs W → W.cell? ⟨w.heap.size + 1, 1, none⟩ = some (.int .i64 r.br) ∧ W.cell? ⟨w.heap.size + 1, 2, none⟩ = some (.int .i64 r.ep) ∧ W.cell? ⟨w.heap.size + 1, 13, none⟩ = some (.string ⟨r.rk.toArray⟩)) := hide (fun W zs m p h => by subst hcs; exact ⟨h.r.at 1 _ rfl, h.r.at 2 _ rfl, h.r.at 13 _ rfl⟩)
 have HVV := hide (fun (W W3 : World) (hb : Below w.heap.size w W3) (hW : Agr n0 w.heap.size W3 W) => hv W (fun g hg => (hW g (.inl hg)).trans (hb.block g (hn0 g hg))))
 clear hn0
 replace hv : ImR w m p := hv w (fun _ _ => rfl)
 have HV := hide (fun W (h : Below w.heap.size w W) => hv.below h)
 have HST : Hid (Fr w m p (cellsR r a14 a15 a16 a17 c14 c15 c16 c17) = Fr w m p cs) := hide (by rw [hcs])
 cases hf : fB m.br r.br with
 | none =>
  have HF := hide (fun W (h : Below w.heap.size w W) => findBroker_no m p r.br W (hv.below h) hw hf)
  have HPU := hide (fun W (h : Below w.heap.size w W) i (hi : i ≤ m.br.length) => putB_new m.br p.ab _ p.cb i ⟨r.br, r.ep, r.rk, true, false⟩ W rfl (hv.below h).b hi hw.nb)
  have HRE : Hid (regB m r = ({ m with br := putB m.br ⟨r.br, r.ep, r.rk, true, false⟩ }, 0)) := hide (by unfold regB; rw [hf])
  rw [HRE.out]
  clear hv hw hf hcs
  unfold imv cellsR at *
  go_enter Tryz.func53, Tryz.ntmps53
  go_upto_region 2 with (go_at_call 38; refine (HF.out _ (below_al3 _ _ _ _)).mono ?_; rintro e w1 ⟨i, hi, hins, rfl, hb1⟩; have hfr := Fr.mk0 w m p _ _ _ _ hb1; have HFR := hide (HST.out ▸ hfr); obtain ⟨i0, i1, i2, i3, i4⟩ := hfr.i.im; obtain ⟨r1, r2, r3⟩ := HCR.out _ _ _ _ HFR.out; have HIN := hide ((hins ⟨r.br, r.ep, r.rk, true, false⟩).symm.trans (putB_ins (b := ⟨r.br, r.ep, r.rk, true, false⟩) (id := r.br) rfl).symm); clear hb1 HF hins hfr HST)
  go_quiet (fail)
  clear i0 i1 i2 i3 i4 r1 r2 r3
  replace HFR := hide (HFR.out.drewN nq)
  generalize w1.drewN nq = w2 at HFR ⊢
  obtain ⟨i0, i1, i2, i3, i4⟩ := HFR.out.i.im
  obtain ⟨r1, r2, r3⟩ := HCR.out _ _ _ _ HFR.out
  go_wp2_with (first
   | (go_at_call 88; refine (HPU.out _ HFR.out.b i hi).mono ?_; rintro e w3 ⟨v, rfl, hro, hb3⟩; rw [HIN.out] at hro; obtain ⟨av, cv, rfl⟩ := hro.form; have HRO := hide (hro.mono HFR.out.sz); replace HFR := hide (HFR.out.below hb3); have HBX := hide hb3; clear hro hb3 HPU i0 i1 i2 i3 i4 r1 r2 r3; obtain ⟨i0, i1, i2, i3, i4⟩ := HFR.out.i.im; have f0 := HFR.out.f 0 (by decide); have HFS := hide (HFR.out.set 0 (.slice av (putB m.br ⟨r.br, r.ep, r.rk, true, false⟩).length cv) { m with br := putB m.br ⟨r.br, r.ep, r.rk, true, false⟩ } { p with ab := av, cb := cv } (by decide) rfl))
   | (refine wpList_set rfl _ _ _ rfl _ _ rfl HFS.out.z _ rfl rfl (by kernel_rfl) rfl ?_; intro W3 hz hk hb hp; have HFO := hide (HFS.out.out hz hk hb); have HRS := hide (fun W (hW : Agr n0 w.heap.size W3 W) => (HRO.out.keepG (fun g hg => (hW g (.inr (by omega))).trans ((hp g (by omega)).trans (Below.heap_setCell _ _ _ _ (show ¬ g = w.heap.size by omega))))).rs); clear hz hk hb hp))
  obtain ⟨q0, q1, q2, q3, q4⟩ := HFO.out.z.im
  exact bodyPost_ret (v := .tuple #[.agg (iml { m with br := putB m.br ⟨r.br, r.ep, r.rk, true, false⟩ } { p with ab := av, cb := cv }).toArray, .nilIface]) (by simp [results, Tryz.results53, go_sem, q0, q1, q2, q3, q4, iml]) rfl (st_ret HFO.out (fun W hW => (HVV.out W _ HFO.out.b hW).setB (HRS.out W hW)) erc_nil)
 | some b =>
  have hne : 0 < m.br.length := List.length_pos_of_mem (List.mem_of_find?_eq_some hf)
  obtain ⟨bb, oo, hab, hrg⟩ := hv.b.rg hne
  obtain ⟨ab, aq, ac, ad, cb, cq, cc, cd, ts⟩ := p
  simp only at hab
  subst hab
  obtain ⟨P0, hP0⟩ : ∃ P0 : Ip, P0 = ⟨some ⟨bb, oo, none⟩, aq, ac, ad, cb, cq, cc, cd, ts⟩ := ⟨_, rfl⟩
  have HP0 := hide hP0
  have HF := hide (fun W (h : Below w.heap.size w W) => findBroker_yes m _ r.br W (hv.below h) hw b hf)
  have HLE := hide (fun W (h : Below w.heap.size w W) => Leads_any m _ r.br W (hv.below h) hw)
  have HPU := hide (fun W (h : Below w.heap.size w W) i (hi : i < m.br.length) => putB_old m.br (some ⟨bb, oo, none⟩) _ cb i ⟨r.br, r.ep, r.rk, true, false⟩ W rfl (hv.below h).b hi hw.nb)
  have HEL : Hid (∀ W, Below w.heap.size w W → ∀ i (hi : i < m.br.length), m.br[i] = b → W.cell? ⟨bb, oo + i * 5 + 1, none⟩ = some (.int .i64 b.ep)) := hide (fun W h i hi e => by
   have := rg_bel (fm_at encB hrg hi) h
   rw [e] at this
   exact this 1 _ rfl)
  rw [← hP0] at HV HVV HST
  clear hP0
  by_cases h1 : r.ep ≤ b.ep
  ·have HRE : Hid (regB m r = (m, 11)) := hide (by unfold regB; rw [hf]; exact if_pos h1)
   rw [HRE.out]
   have hd : decide (b.ep ≥ r.ep) = true := decide_eq_true h1
   clear hv hw hf hcs hne hrg HPU HLE HRE
   unfold imv cellsR at *
   go_enter Tryz.func53, Tryz.ntmps53
   go_upto_region 2 with (go_at_call 38; refine (HF.out _ (below_al3 _ _ _ _)).mono ?_; rintro e w1 ⟨i, hi, hib, hins, _, _, _, rfl, hb1⟩; have HFR : Hid (Fr w m P0 cs imz w1) := hide (HST.out ▸ Fr.mk0 w m P0 _ _ _ _ (by rw [HP0.out]; exact hb1)); obtain ⟨i0, i1, i2, i3, i4⟩ := (HP0.out ▸ HFR.out.i).im; obtain ⟨r1, r2, r3⟩ := HCR.out _ _ _ _ HFR.out; have e1 := HEL.out _ HFR.out.b i hi hib; have hiI : (i : Int) < (m.br.length : Int) := Int.ofNat_lt.2 hi; have HIN := hide ((hins ⟨r.br, r.ep, r.rk, true, false⟩).symm.trans (putB_ins (b := ⟨r.br, r.ep, r.rk, true, false⟩) (id := r.br) rfl).symm); clear hb1 HF hins HST hib)
   go_quiet (fail)
   clear i0 i1 i2 i3 i4 r1 r2 r3 e1
   replace HFR := hide (HFR.out.drewN nq)
   generalize w1.drewN nq = w2 at HFR ⊢
   obtain ⟨i0, i1, i2, i3, i4⟩ := (HP0.out ▸ HFR.out.i).im
   obtain ⟨r1, r2, r3⟩ := HCR.out _ _ _ _ HFR.out
   go_wp2_with (first
    | (refine wpList_set rfl _ _ _ rfl _ _ rfl HFR.out.z (iml m P0) (by rw [HP0.out]; rfl) rfl (by kernel_rfl) rfl ?_; intro W3 hz hk hb hp; have HFO := hide (HFR.out.out hz hk hb); clear hz hk hb hp))
   obtain ⟨q0, q1, q2, q3, q4⟩ := HFO.out.z.im
   exact bodyPost_ret (v := .tuple #[.agg (iml m P0).toArray, .iface 38 (.int .i64 11)]) (by simp [results, Tryz.results53, go_sem, q0, q1, q2, q3, q4, iml]) rfl (st_ret HFO.out (fun W hW => HVV.out W _ HFO.out.b hW) (erc_code (by decide)))
  ·have hd : decide (b.ep ≥ r.ep) = false := decide_eq_false h1
   cases hl : leads m.ts r.br with
   | true =>
    have HRE : Hid (regB m r = (m, 10)) := hide (by unfold regB; rw [hf]; dsimp only; rw [if_neg h1, if_pos hl])
    rw [HRE.out]
    rw [hl] at HLE
    clear hv hw hf hcs hne hrg HPU HRE hl
    unfold imv cellsR at *
    go_enter Tryz.func53, Tryz.ntmps53
    go_upto_region 2 with (go_at_call 38; refine (HF.out _ (below_al3 _ _ _ _)).mono ?_; rintro e w1 ⟨i, hi, hib, hins, _, _, _, rfl, hb1⟩; have HFR : Hid (Fr w m P0 cs imz w1) := hide (HST.out ▸ Fr.mk0 w m P0 _ _ _ _ (by rw [HP0.out]; exact hb1)); obtain ⟨i0, i1, i2, i3, i4⟩ := (HP0.out ▸ HFR.out.i).im; obtain ⟨r1, r2, r3⟩ := HCR.out _ _ _ _ HFR.out; have e1 := HEL.out _ HFR.out.b i hi hib; have hiI : (i : Int) < (m.br.length : Int) := Int.ofNat_lt.2 hi; have HIN := hide ((hins ⟨r.br, r.ep, r.rk, true, false⟩).symm.trans (putB_ins (b := ⟨r.br, r.ep, r.rk, true, false⟩) (id := r.br) rfl).symm); clear hb1 HF hins HST hib)
    go_quiet (fail)
    clear i0 i1 i2 i3 i4 r1 r2 r3 e1
    replace HFR := hide (HFR.out.drewN nq)
    generalize w1.drewN nq = w2 at HFR ⊢
    obtain ⟨i0, i1, i2, i3, i4⟩ := (HP0.out ▸ HFR.out.i).im
    obtain ⟨r1, r2, r3⟩ := HCR.out _ _ _ _ HFR.out
    go_wp2_with (first
     | (go_at_call 21; refine (HLE.out _ HFR.out.b).mono ?_; rintro e w4 ⟨rfl, hb4⟩; replace HFR := hide (HFR.out.below hb4); clear i0 i1 i2 i3 i4 r1 r2 r3 hb4; obtain ⟨i0, i1, i2, i3, i4⟩ := (HP0.out ▸ HFR.out.i).im; obtain ⟨r1, r2, r3⟩ := HCR.out _ _ _ _ HFR.out)
     | (refine wpList_set rfl _ _ _ rfl _ _ rfl HFR.out.z (iml m P0) (by rw [HP0.out]; rfl) rfl (by kernel_rfl) rfl ?_; intro W3 hz hk hb hp; have HFO := hide (HFR.out.out hz hk hb); clear hz hk hb hp))
    obtain ⟨q0, q1, q2, q3, q4⟩ := HFO.out.z.im
    exact bodyPost_ret (v := .tuple #[.agg (iml m P0).toArray, .iface 38 (.int .i64 10)]) (by simp [results, Tryz.results53, go_sem, q0, q1, q2, q3, q4, iml]) rfl (st_ret HFO.out (fun W hW => HVV.out W _ HFO.out.b hW) (erc_code (by decide)))
   | false =>
    have HRE : Hid (regB m r = ({ m with br := putB m.br ⟨r.br, r.ep, r.rk, true, false⟩ }, 0)) := hide (by unfold regB; rw [hf]; dsimp only; rw [if_neg h1, if_neg (by rw [hl]; decide)])
    rw [HRE.out]
    rw [hl] at HLE
    clear hv hw hf hcs hne hrg HRE hl
    unfold imv cellsR at *
    go_enter Tryz.func53, Tryz.ntmps53
    go_upto_region 2 with (go_at_call 38; refine (HF.out _ (below_al3 _ _ _ _)).mono ?_; rintro e w1 ⟨i, hi, hib, hins, _, _, _, rfl, hb1⟩; have HFR : Hid (Fr w m P0 cs imz w1) := hide (HST.out ▸ Fr.mk0 w m P0 _ _ _ _ (by rw [HP0.out]; exact hb1)); obtain ⟨i0, i1, i2, i3, i4⟩ := (HP0.out ▸ HFR.out.i).im; obtain ⟨r1, r2, r3⟩ := HCR.out _ _ _ _ HFR.out; have e1 := HEL.out _ HFR.out.b i hi hib; have hiI : (i : Int) < (m.br.length : Int) := Int.ofNat_lt.2 hi; have HIN := hide ((hins ⟨r.br, r.ep, r.rk, true, false⟩).symm.trans (putB_ins (b := ⟨r.br, r.ep, r.rk, true, false⟩) (id := r.br) rfl).symm); clear hb1 HF hins HST hib)
    go_quiet (fail)
    clear i0 i1 i2 i3 i4 r1 r2 r3 e1
    replace HFR := hide (HFR.out.drewN nq)
    generalize w1.drewN nq = w2 at HFR ⊢
    obtain ⟨i0, i1, i2, i3, i4⟩ := (HP0.out ▸ HFR.out.i).im
    obtain ⟨r1, r2, r3⟩ := HCR.out _ _ _ _ HFR.out
    go_wp2_with (first
     | (go_at_call 21; refine (HLE.out _ HFR.out.b).mono ?_; rintro e w4 ⟨rfl, hb4⟩; replace HFR := hide (HFR.out.below hb4); clear i0 i1 i2 i3 i4 r1 r2 r3 hb4; obtain ⟨i0, i1, i2, i3, i4⟩ := (HP0.out ▸ HFR.out.i).im; obtain ⟨r1, r2, r3⟩ := HCR.out _ _ _ _ HFR.out)
     | (go_at_call 88; refine (HPU.out _ HFR.out.b i hi).mono ?_; rintro e w3 ⟨v, rfl, hro, hb3⟩; rw [HIN.out] at hro; obtain ⟨av, cv, rfl⟩ := hro.form; have HRO := hide (hro.mono HFR.out.sz); replace HFR := hide (HFR.out.below hb3); have HBX := hide hb3; clear hro hb3 HPU i0 i1 i2 i3 i4 r1 r2 r3; obtain ⟨i0, i1, i2, i3, i4⟩ := HFR.out.i.im; have f0 := HFR.out.f 0 (by decide); have HFS := hide (HFR.out.set 0 (.slice av (putB m.br ⟨r.br, r.ep, r.rk, true, false⟩).length cv) { m with br := putB m.br ⟨r.br, r.ep, r.rk, true, false⟩ } { P0 with ab := av, cb := cv } (by decide) (by rw [HP0.out]; rfl)))
     | (refine wpList_set rfl _ _ _ rfl _ _ rfl HFS.out.z (iml { m with br := putB m.br ⟨r.br, r.ep, r.rk, true, false⟩ } { P0 with ab := av, cb := cv }) (by rw [HP0.out]; rfl) rfl (by kernel_rfl) rfl ?_; intro W3 hz hk hb hp; have HFO := hide (HFS.out.out hz hk hb); have HRS := hide (fun W (hW : Agr n0 w.heap.size W3 W) => (HRO.out.keepG (fun g hg => (hW g (.inr (by omega))).trans ((hp g (by omega)).trans (Below.heap_setCell _ _ _ _ (show ¬ g = w.heap.size by omega))))).rs); clear hz hk hb hp))
    obtain ⟨q0, q1, q2, q3, q4⟩ := HFO.out.z.im
    exact bodyPost_ret (v := .tuple #[.agg (iml { m with br := putB m.br ⟨r.br, r.ep, r.rk, true, false⟩ } { P0 with ab := av, cb := cv }).toArray, .nilIface]) (by simp [results, Tryz.results53, go_sem, q0, q1, q2, q3, q4, iml]) rfl (st_ret HFO.out (fun W hW => (HVV.out W _ HFO.out.b hW).setB (HRS.out W hW)) erc_nil)
end Go.Proofs.YtlggjgapdpkhiaaGreatDoor
namespace Go.Proofs.YtlggjgapdpkhiaaGreatDoor
open Go.RowKit
set_option maxRecDepth 100000
set_option maxHeartbeats 8000000
theorem concB_2 (v1 v2 : Value) (l1 l2 : List Bk) (B : Nat) (w : World) (hB : Bx w B [v1, v2]) (h1 : Rs bkc w v1 l1) (h2 : Rs bkc w v2 l2) (hl1 : l1.length ≤ 200000) (hl2 : l2.length ≤ 200000) :
  Calls Tryz.prog 126 #[.slice (some ⟨B, 0, none⟩) 2 2] w fun e w' => ∃ v, e = .returned v ∧ Ro bkc 5 54 w' w.heap.size v (l1 ++ l2) ∧ Below w.heap.size w w' := by
 have HG := hide (fun n hn => growB_any n w hn)
 obtain ⟨a1, c1, rfl⟩ := h1.form
 obtain ⟨a2, c2, rfl⟩ := h2.form
 have HB := hide (fun W (h : Below w.heap.size w W) => (hB.below h).c2)
 have H1 := hide (fun W (h : Below w.heap.size w W) => h1.below h)
 have H2 := hide (fun W (h : Below w.heap.size w W) => h2.below h)
 obtain ⟨b0, b1⟩ := hB.c2
 have hbl := hB.l
 clear h1 h2 hB
 go_enter Tryz.func126, Tryz.ntmps126
 go_wp2_with fail
 refine wp_loop_rounds 3 ?_
 rw [rounds_succ]
 go_wp2_with fail
 rw [rounds_succ]
 go_wp2_with fail
 rw [rounds_succ]
 have HN : Hid (((l1.length : Int) + l2.length) = ((l1.length + l2.length : Nat) : Int)) := hide (by omega)
 have HK : Hid (l1.length + l2.length ≤ 1000000) := hide (by omega)
 go_wp2_with (go_at_call 155; first | rw [HN.out] | skip; refine (HG.out _ HK.out).mono ?_; rintro e w1 ⟨v, rfl, hr, hb⟩; obtain ⟨d0, d1⟩ := HB.out _ hb; have HR := hide hr; have HBl := hide hb; clear hr hb HG b0 b1)
 refine wp_loop_rounds 3 ?_
 rw [rounds_succ]
 go_wp2_with (at_builtin; refine wpList_appR tyiB encB _ rfl _ _ rfl w.heap.size _ [] rfl HR.out HBl.out.size _ l1 rfl (H1.out _ HBl.out) (by rw [List.length_nil]; omega) ?_; intro v1 w2 hr _ hb; rw [List.nil_append] at hr; obtain ⟨d0, d1⟩ := HB.out _ (HBl.out.trans hb); replace HR := hide hr; replace HBl := hide (HBl.out.trans hb); clear hr hb)
 rw [rounds_succ]
 go_wp2_with (at_builtin; refine wpList_appR tyiB encB _ rfl _ _ rfl w.heap.size _ l1 rfl HR.out HBl.out.size _ l2 rfl (H2.out _ HBl.out) (by omega) ?_; intro v2 w3 hr _ hb; obtain ⟨d0, d1⟩ := HB.out _ (HBl.out.trans hb); replace HR := hide hr; replace HBl := hide (HBl.out.trans hb); clear hr hb)
 rw [rounds_succ]
 go_wp2_with fail
 go_ret
 exact ⟨_, rfl, HR.out, HBl.out⟩
theorem woB_any (l : List Bk) (ao : Option Addr) (n cap i : Nat) (w : World) (hn : n = l.length) (hv : Rs bkc w (.slice ao n cap) l) (hi : i < l.length) (hl : l.length ≤ 100000) :
  Calls Tryz.prog 90 #[.slice ao n cap, .int .i64 (i : Int)] w fun e w' => ∃ v, e = .returned v ∧ Ro bkc 5 54 w' w.heap.size v (l.take i ++ l.drop (i + 1)) ∧ Below w.heap.size w w' := by
 subst hn
 obtain ⟨bb, oo, rfl, hrg⟩ := hv.rg (by omega)
 have hu := fun W => upto_run tyiB (some ⟨bb, oo, none⟩) l.length cap i (Nat.le_of_lt hi) hv.cap.2 W
 have hcap := hv.cap.2
 have h0 : ¬ ((i : Int) + 1 < 0) := by omega
 have hwr : IntKind.i64.wrap ((i : Int) + 1) = (i : Int) + 1 := by rw [IntKind.wrap_i64]; omega
 have h00 : (0 : Int) ≤ (i : Int) + 1 := by omega
 have h1 : (i : Int) + 1 ≤ (l.length : Int) := by omega
 have hd : ∀ (ao' : Option Addr), (¬ cap = i + 1 → ao' = some ⟨bb, oo + (i + 1) * 5, none⟩) → ∀ W, Below w.heap.size w W → Rs bkc W (.slice ao' (l.length - (i + 1)) (cap - (i + 1))) (l.drop (i + 1)) := fun ao' hao W hb => by
  have := (hv.below hb).part encB (i + 1) l.length hi (Nat.le_refl _) ao' (fun q b o e => by cases e; rw [hao (by omega)])
  rwa [List.take_of_length_le (by rw [List.length_drop]; omega)] at this
 have HC : Hid (∀ (ao' : Option Addr), (¬ cap = i + 1 → ao' = some ⟨bb, oo + (i + 1) * 5, none⟩) → ∀ (n1 n2 : Nat), n1 = l.length - (i + 1) → n2 = cap - (i + 1) → ∀ U, Calls Tryz.prog 126 #[.slice (some ⟨w.heap.size, 0, none⟩) 2 2] (w.alloc (.cells #[.slice (some ⟨bb, oo, none⟩) i cap, .slice ao' n1 n2] U)).drew fun e w' => ∃ v, e = .returned v ∧ Ro bkc 5 54 w' w.heap.size v (l.take i ++ l.drop (i + 1)) ∧ Below w.heap.size w w') := hide (fun ao' hao n1 n2 e1 e2 U => by
  subst e1 e2
  obtain ⟨p1, p3⟩ := wo_frame w U (.slice (some ⟨bb, oo, none⟩) i cap) (.slice ao' (l.length - (i + 1)) (cap - (i + 1)))
  refine (concB_2 _ _ (l.take i) (l.drop (i + 1)) _ _ p1 ((hv.below p3).upto encB i (Nat.le_of_lt hi)) (hd ao' hao _ p3) (by rw [List.length_take]; omega) (by rw [List.length_drop]; omega)).mono ?_
  rintro e w1 ⟨v, rfl, hr, hb⟩
  exact ⟨v, rfl, hr.mono p3.size, bt p3 hb⟩)
 have hcap := hv.cap.2
 clear hv hd hrg hu
 by_cases hce : cap = i + 1
 ·subst hce
  go_enter Tryz.func90, Tryz.ntmps90
  go_upto_region 1 with fail
  go_region_with (go_at_call 126; refine (HC.out _ (by simp) _ _ (by omega) (by omega) _).mono ?_; rintro e w1 ⟨v, rfl, hr, hb⟩; have HR := hide hr; have HB := hide hb; clear hr hb)
  all_goals
   go_wp2_with fail
   go_ret
   exact ⟨_, rfl, HR.out, HB.out⟩
 ·have hce2 : ¬ cap - (i + 1) = 0 := by omega
  have hce3 : ¬ cap ≤ i + 1 := by omega
  go_enter Tryz.func90, Tryz.ntmps90
  go_upto_region 1 with fail
  go_region_with (go_at_call 126; refine (HC.out _ (fun _ => rfl) _ _ (by omega) (by omega) _).mono ?_; rintro e w1 ⟨v, rfl, hr, hb⟩; have HR := hide hr; have HB := hide hb; clear hr hb)
  all_goals
   go_wp2_with fail
   go_ret
   exact ⟨_, rfl, HR.out, HB.out⟩
end Go.Proofs.YtlggjgapdpkhiaaGreatDoor
namespace Go.Proofs.YtlggjgapdpkhiaaGreatDoor
open Go.RowKit
theorem neqB (x0 x1 : Int) (x2 : List UInt8) (x3 x4 : Bool) (w : World) : (binOp .neq 54 (.agg (List.toArray [Value.int .i64 x0, .int .i64 x1, .string ⟨x2.toArray⟩, .bool x3, .bool x4])) (.agg (List.toArray [Value.int .i64 x0, .int .i64 x1, .string ⟨x2.toArray⟩, .bool x3, .bool x4]))).run Tryz.prog w = .ok (.bool false) w := by
 have u3 := Tryz.underlying3
 have u9 := Tryz.underlying9
 have u4 := Tryz.underlying4
 have hS : Tryz.prog.underlying 54 = some (.struct (Tryz.prog.fieldsOf 54)) := by kernel_rfl
 have hp : Tryz.prog.stoodInHeld 54 = false := by kernel_rfl
 rw [run_neq_struct, show (10000 : Nat) = 9999 + 1 from rfl, run_equalIn_agg w 9999 54 _ _ hS hp]
 simp only [Program.fieldsOf, Tryz.underlying54]
 simp [go_sem, u3, u9, u4]
theorem neqBg : Tryz.prog.eqGuardType Tryz.prog.depth 54 = false := by kernel_rfl
theorem neqC (x0 : Int) (x1 x2 : List UInt8) (w : World) : (binOp .neq 72 (.agg (List.toArray [Value.int .i64 x0, .string ⟨x1.toArray⟩, .string ⟨x2.toArray⟩])) (.agg (List.toArray [Value.int .i64 x0, .string ⟨x1.toArray⟩, .string ⟨x2.toArray⟩]))).run Tryz.prog w = .ok (.bool false) w := by
 have u3 := Tryz.underlying3
 have u9 := Tryz.underlying9
 have u4 := Tryz.underlying4
 have hS : Tryz.prog.underlying 72 = some (.struct (Tryz.prog.fieldsOf 72)) := by kernel_rfl
 have hp : Tryz.prog.stoodInHeld 72 = false := by kernel_rfl
 rw [run_neq_struct, show (10000 : Nat) = 9999 + 1 from rfl, run_equalIn_agg w 9999 72 _ _ hS hp]
 simp only [Program.fieldsOf, Tryz.underlying72]
 simp [go_sem, u3, u9]
theorem neqCg : Tryz.prog.eqGuardType Tryz.prog.depth 72 = false := by kernel_rfl
theorem neqD (x0 x1 x2 : Int) (w : World) : (binOp .neq 74 (.agg (List.toArray [Value.int .i64 x0, .int .i64 x1, .int .i64 x2])) (.agg (List.toArray [Value.int .i64 x0, .int .i64 x1, .int .i64 x2]))).run Tryz.prog w = .ok (.bool false) w := by
 have u3 := Tryz.underlying3
 have u9 := Tryz.underlying9
 have u4 := Tryz.underlying4
 have hS : Tryz.prog.underlying 74 = some (.struct (Tryz.prog.fieldsOf 74)) := by kernel_rfl
 have hp : Tryz.prog.stoodInHeld 74 = false := by kernel_rfl
 rw [run_neq_struct, show (10000 : Nat) = 9999 + 1 from rfl, run_equalIn_agg w 9999 74 _ _ hS hp]
 simp only [Program.fieldsOf, Tryz.underlying74]
 simp [go_sem, u3]
theorem neqDg : Tryz.prog.eqGuardType Tryz.prog.depth 74 = false := by kernel_rfl
set_option maxRecDepth 100000 in
set_option maxHeartbeats 16000000 in
theorem rsame_any (m : Im) (p1 p2 : Ip) (w : World) (hv : ImR w m p1) (hv2 : ImR w m p2) (hw : Wf m 100000) : Calls Tryz.prog 10 #[imv m p1, imv m p2] w fun e w' => e = .returned (.bool true) ∧ Below w.heap.size w w' := by
 have HX := hide (fun W (h : Below w.heap.size w W) => hv.below h)
 have HY := hide (fun W (h : Below w.heap.size w W) => hv2.below h)
 have hl1 : m.br.length ≤ 100000 := hw.nb
 have hl2 : p1.ts.length ≤ 100000 := by rw [hv.len]; exact hw.nt
 have hl3 : m.cf.length ≤ 100000 := hw.nc
 have hl4 : m.dn.length ≤ 100000 := hw.nd
 have HLN : Hid (p1.ts.length = p2.ts.length) := hide (hv.len.trans hv2.len.symm)
 have HPS := hide (hv.e.trans hv2.e.symm)
 have HNP := hide (fun (t : Tq) (h : t ∈ p1.ts) => hv.np hw h)
 have HWP := hide (fun (t : Tq) (h : t ∈ p1.ts) (q : Pp) (hq : q ∈ t.ps) => hv.wp hw h hq)
 have HR0 := hide (Tb.mk' w (iml m p1) (iml m p2) 30 30)
 clear hv hv2 hw
 obtain ⟨ab1, aq1, ac1, ad1, cb1, cq1, cc1, cd1, ts1⟩ := p1
 obtain ⟨ab2, aq2, ac2, ad2, cb2, cq2, cc2, cd2, ts2⟩ := p2
 replace hl2 : ts1.length ≤ 100000 := hl2
 unfold imv
 unfold iml at HR0
 dsimp only at *
 go_enter Tryz.func10, Tryz.ntmps10
 go_upto_region 1 with fail
 generalize (w.alloc (.cells (List.toArray [Value.slice ab1 m.br.length cb1, .slice aq1 ts1.length cq1, .slice ac1 m.cf.length cc1, .slice ad1 m.dn.length cd1, .int .i64 m.la]) 30)).alloc (.cells (List.toArray [Value.slice ab2 m.br.length cb2, .slice aq2 ts2.length cq2, .slice ac2 m.cf.length cc2, .slice ad2 m.dn.length cd2, .int .i64 m.la]) 30) = X at HR0 ⊢
 have HR := hide HR0.out
 clear HR0
 have a0 := HR.out.a.at 0 _ rfl
 have a1 := HR.out.a.at 1 _ rfl
 have a2 := HR.out.a.at 2 _ rfl
 have a3 := HR.out.a.at 3 _ rfl
 have a4 := HR.out.a.at 4 _ rfl
 have b0 := HR.out.c.at 0 _ rfl
 have b1 := HR.out.c.at 1 _ rfl
 have b2 := HR.out.c.at 2 _ rfl
 have b3 := HR.out.c.at 3 _ rfl
 have b4 := HR.out.c.at 4 _ rfl
 have n1 : ((ts1.length : Int) != (ts2.length : Int)) = false := by simp [HLN.out]
 have n2 : (m.la != m.la) = false := by simp
 have n3 : ((m.br.length : Int) != (m.br.length : Int)) = false := by simp
 have n4 : ((m.cf.length : Int) != (m.cf.length : Int)) = false := by simp
 have n5 : ((m.dn.length : Int) != (m.dn.length : Int)) = false := by simp
 go_upto_region 4 with fail
 clear a0 a1 a2 a3 a4 b0 b1 b2 b3 b4 n1 n2 n3 n4 n5
 go_loopw [5] (fun i W => ∃ k : Nat, k ≤ m.br.length ∧ i = .int .i64 (k : Int) ∧ Tb w W [Value.slice ab1 m.br.length cb1, .slice aq1 ts1.length cq1, .slice ac1 m.cf.length cc1, .slice ad1 m.dn.length cd1, .int .i64 m.la] [Value.slice ab2 m.br.length cb2, .slice aq2 ts2.length cq2, .slice ac2 m.cf.length cc2, .slice ad2 m.dn.length cd2, .int .i64 m.la]) (fun i _ => m.br.length - (ivQ i).toNat)
 case atStart => exact ⟨0, Nat.zero_le _, rfl, HR.out⟩
 case round =>
  clear HR
  obtain ⟨k, hk, rfl, hr⟩ := hrel
  have HR := hide hr
  clear hr
  have a0 := HR.out.a.at 0 _ rfl
  by_cases hlt : k < m.br.length
  ·have hltI : (k : Int) < (m.br.length : Int) := by omega
   obtain ⟨bx, ox, rfl, hrx⟩ := (HX.out wr HR.out.b).b.rg (show 0 < m.br.length by omega)
   obtain ⟨by_, oy, rfl, hry⟩ := (HY.out wr HR.out.b).b.rg (show 0 < m.br.length by omega)
   have HU := hide (fm_at encB hrx hlt)
   have HVV := hide (fm_at encB hry hlt)
   clear hrx hry
   generalize m.br[k] = x at HU HVV
   obtain ⟨x0, x1, x2, x3, x4⟩ := x
   unfold bkc at HU HVV
   dsimp only at HU HVV
   have b0 := HR.out.c.at 0 _ rfl
   have c0 : wr.cell? ⟨bx, ox + k * 5, none⟩ = some (.int .i64 x0) := HU.out 0 _ rfl
   have c1 : wr.cell? ⟨bx, ox + k * 5 + 1, none⟩ = some (.int .i64 x1) := HU.out 1 _ rfl
   have c2 : wr.cell? ⟨bx, ox + k * 5 + 2, none⟩ = some (.string ⟨x2.toArray⟩) := HU.out 2 _ rfl
   have c3 : wr.cell? ⟨bx, ox + k * 5 + 3, none⟩ = some (.bool x3) := HU.out 3 _ rfl
   have c4 : wr.cell? ⟨bx, ox + k * 5 + 4, none⟩ = some (.bool x4) := HU.out 4 _ rfl
   have d0 : wr.cell? ⟨by_, oy + k * 5, none⟩ = some (.int .i64 x0) := HVV.out 0 _ rfl
   have d1 : wr.cell? ⟨by_, oy + k * 5 + 1, none⟩ = some (.int .i64 x1) := HVV.out 1 _ rfl
   have d2 : wr.cell? ⟨by_, oy + k * 5 + 2, none⟩ = some (.string ⟨x2.toArray⟩) := HVV.out 2 _ rfl
   have d3 : wr.cell? ⟨by_, oy + k * 5 + 3, none⟩ = some (.bool x3) := HVV.out 3 _ rfl
   have d4 : wr.cell? ⟨by_, oy + k * 5 + 4, none⟩ = some (.bool x4) := HVV.out 4 _ rfl
   have e1 := neqB x0 x1 x2 x3 x4
   have e2 := neqBg
   go_wp2_with fail
   go_quiet (fail)
   replace HR := hide (HR.out.drewN nq)
   clear a0 b0 e1 e2 c0 d0 c1 d1 c2 d2 c3 d3 c4 d4
   go_wp2_with fail
   go_roundw
   case rel => exact ⟨k + 1, by omega, by go_num, HR.out⟩
   case measure => simp [ivQ]; omega
  ·obtain rfl : k = m.br.length := by omega
   go_upto_region 9 with fail
   clear a0
   go_loopw [6] (fun i W => ∃ k : Nat, k ≤ ts1.length ∧ i = .int .i64 (k : Int) ∧ Tb w W [Value.slice ab1 m.br.length cb1, .slice aq1 ts1.length cq1, .slice ac1 m.cf.length cc1, .slice ad1 m.dn.length cd1, .int .i64 m.la] [Value.slice ab2 m.br.length cb2, .slice aq2 ts2.length cq2, .slice ac2 m.cf.length cc2, .slice ad2 m.dn.length cd2, .int .i64 m.la]) (fun i _ => ts1.length - (ivQ i).toNat)
   case atStart => exact ⟨0, Nat.zero_le _, rfl, HR.out⟩
   case round =>
    clear HR
    obtain ⟨k, hk, rfl, hr⟩ := hrel
    have HR := hide hr
    clear hr
    have a1 := HR.out.a.at 1 _ rfl
    by_cases hlt : k < ts1.length
    ·have hltI : (k : Int) < (ts1.length : Int) := by omega
     have hlt2 : k < ts2.length := by have := HLN.out; omega
     have hlyI : (k : Int) < (ts2.length : Int) := by omega
     obtain ⟨bx, ox, rfl, hrx⟩ := (HX.out wr HR.out.b).t.rg (show 0 < ts1.length by omega)
     obtain ⟨by_, oy, rfl, hry⟩ := (HY.out wr HR.out.b).t.rg (show 0 < ts2.length by omega)
     have HU := hide (fm_at encT hrx hlt)
     have HVV := hide (fm_at encT hry hlt2)
     have HSP : Hid (∀ W, Below wr.heap.size wr W → Calls Tryz.prog 34 #[.agg (tpc ts1[k]).toArray, .agg (tpc ts2[k]).toArray] W fun e w' => e = .returned (.bool true) ∧ Below W.heap.size W w') := hide (fun W h => by
      have hb := bt HR.out.b h
      have e1 : (ts1[k]).tp = (ts2[k]).tp := by
       have h1 : (ts1.map Tq.tp)[k]? = some (ts1[k]).tp := by rw [List.getElem?_map, List.getElem?_eq_getElem hlt]; rfl
       have h2 : (ts2.map Tq.tp)[k]? = some (ts2[k]).tp := by rw [List.getElem?_map, List.getElem?_eq_getElem hlt2]; rfl
       rw [HPS.out, h2] at h1
       exact (Option.some.inj h1).symm
      exact rsamet_any ts1[k] ts2[k] W ((HX.out W hb).q _ (List.getElem_mem hlt)) ((HY.out W hb).q _ (List.getElem_mem hlt2)) e1 (HNP.out _ (List.getElem_mem hlt)) (fun q hq => HWP.out _ (List.getElem_mem hlt) q hq))
     clear hrx hry
     generalize ts1[k] = x at HU HSP
     generalize ts2[k] = y at HVV HSP
     go_upto_region 11 with fail
     clear a1
     have hdw : Below wr.heap.size wr wr.drew := (Below.refl _ _).drew
     refine wp_region_held_drew (S := fun W => Tb w W [Value.slice ab1 m.br.length cb1, .slice (some ⟨bx, ox, none⟩) ts1.length cq1, .slice ac1 m.cf.length cc1, .slice ad1 m.dn.length cd1, .int .i64 m.la] [Value.slice ab2 m.br.length cb2, .slice (some ⟨by_, oy, none⟩) ts2.length cq2, .slice ac2 m.cf.length cc2, .slice ad2 m.dn.length cd2, .int .i64 m.la] ∧ W.rangeAt bx (ox + k * 3) (tpc x) ∧ W.rangeAt by_ (oy + k * 3) (tpc y)) (by kernel_rfl) ⟨HR.out.below hdw, rg_bel HU.out hdw, rg_bel HVV.out hdw⟩ (fun hHeld => ?_)
     have HSM := hide (fun W (h : Below wr.drew.heap.size wr.drew W) => HSP.out W (bt (hdw) h))
     generalize wr.drew = V4 at HSM hHeld ⊢
     clear hdw
     refine tk 0 75 (.pointer (some ⟨w.heap.size, 1, none⟩)) rfl rfl hHeld ?_
     simp only [Act.put, zA, zB, zC]
     refine tky 1 76 (.slice (some ⟨bx, ox, none⟩) ts1.length cq1) rfl rfl (Or.inl ⟨by rfl, by intro w hSw; have h0 := hSw.1.a.at 1 _ rfl; go_simp⟩) hHeld ?_
     simp only [Act.put, zA, zB, zC]
     refine tk 2 77 (.int .i64 (k : Int)) rfl rfl hHeld ?_
     simp only [Act.put, zA, zB, zC]
     refine tk 3 78 (.pointer (some ⟨bx, ox + k * 3, none⟩)) rfl rfl hHeld ?_
     simp only [Act.put, zA, zB, zC]
     refine tky 4 79 (_) rfl rfl (yieldsIf_load_mid (by rfl) _ _ rfl _ _ rfl (tpc x) _ (fun W hW => hW.2.1) Tryz.underlying70 rfl (by kernel_rfl)) hHeld ?_
     simp only [Act.put, zA, zB, zC]
     refine tk 5 80 (.pointer (some ⟨w.heap.size + 1, 1, none⟩)) rfl rfl hHeld ?_
     simp only [Act.put, zA, zB, zC]
     refine tky 6 81 (.slice (some ⟨by_, oy, none⟩) ts2.length cq2) rfl rfl (Or.inl ⟨by rfl, by intro w hSw; have h0 := hSw.1.c.at 1 _ rfl; go_simp⟩) hHeld ?_
     simp only [Act.put, zA, zB, zC]
     refine tk 7 82 (.int .i64 (k : Int)) rfl rfl hHeld ?_
     simp only [Act.put, zA, zB, zC]
     refine tk 8 83 (.pointer (some ⟨by_, oy + k * 3, none⟩)) rfl rfl hHeld ?_
     simp only [Act.put, zA, zB, zC]
     refine tky 9 84 (_) rfl rfl (yieldsIf_load_mid (by rfl) _ _ rfl _ _ rfl (tpc y) _ (fun W hW => hW.2.2) Tryz.underlying70 rfl (by kernel_rfl)) hHeld ?_
     simp only [Act.put, zA, zB, zC]
     refine wpAnyH_ready (rs := [10]) (by kernel_rfl) (by simp) ?_
     refine AllReadyH.cons (o := _) rfl (fun K hK => ?_) AllReadyH.nil
     go_simp
     go_at_call 34
     refine (HSM.out V4 (Below.refl _ _)).mono ?_
     rintro e V6 ⟨rfl, hbx⟩
     go_wp2_with fail
     refine hK.out _ _ ⟨hHeld.1.below hbx, rg_bel hHeld.2.1 hbx, rg_bel hHeld.2.2 hbx⟩ (fun hHeld1 => ?_)
     clear hK K hHeld
     have hHeld := hHeld1
     clear hHeld1
     refine tk 11 86 (.bool false) rfl rfl hHeld ?_
     simp only [Act.put, zA, zB, zC]
     refine wpAnyH_done (by kernel_rfl) ?_ _
     replace HR := hide hHeld.1
     clear hHeld
     go_wp2_with fail
     go_roundw
     case rel => exact ⟨k + 1, by omega, by go_num, HR.out⟩
     case measure => simp [ivQ]; omega
    ·obtain rfl : k = ts1.length := by omega
     go_upto_region 14 with fail
     clear a1
     go_loopw [7] (fun i W => ∃ k : Nat, k ≤ m.cf.length ∧ i = .int .i64 (k : Int) ∧ Tb w W [Value.slice ab1 m.br.length cb1, .slice aq1 ts1.length cq1, .slice ac1 m.cf.length cc1, .slice ad1 m.dn.length cd1, .int .i64 m.la] [Value.slice ab2 m.br.length cb2, .slice aq2 ts2.length cq2, .slice ac2 m.cf.length cc2, .slice ad2 m.dn.length cd2, .int .i64 m.la]) (fun i _ => m.cf.length - (ivQ i).toNat)
     case atStart => exact ⟨0, Nat.zero_le _, rfl, HR.out⟩
     case round =>
      clear HR
      obtain ⟨k, hk, rfl, hr⟩ := hrel
      have HR := hide hr
      clear hr
      have a2 := HR.out.a.at 2 _ rfl
      by_cases hlt : k < m.cf.length
      ·have hltI : (k : Int) < (m.cf.length : Int) := by omega
       obtain ⟨bx, ox, rfl, hrx⟩ := (HX.out wr HR.out.b).c.rg (show 0 < m.cf.length by omega)
       obtain ⟨by_, oy, rfl, hry⟩ := (HY.out wr HR.out.b).c.rg (show 0 < m.cf.length by omega)
       have HU := hide (fm_at encC hrx hlt)
       have HVV := hide (fm_at encC hry hlt)
       clear hrx hry
       generalize m.cf[k] = x at HU HVV
       obtain ⟨x0, x1, x2⟩ := x
       unfold cfc at HU HVV
       dsimp only at HU HVV
       have b2 := HR.out.c.at 2 _ rfl
       have c0 : wr.cell? ⟨bx, ox + k * 3, none⟩ = some (.int .i64 x0) := HU.out 0 _ rfl
       have c1 : wr.cell? ⟨bx, ox + k * 3 + 1, none⟩ = some (.string ⟨x1.toArray⟩) := HU.out 1 _ rfl
       have c2 : wr.cell? ⟨bx, ox + k * 3 + 2, none⟩ = some (.string ⟨x2.toArray⟩) := HU.out 2 _ rfl
       have d0 : wr.cell? ⟨by_, oy + k * 3, none⟩ = some (.int .i64 x0) := HVV.out 0 _ rfl
       have d1 : wr.cell? ⟨by_, oy + k * 3 + 1, none⟩ = some (.string ⟨x1.toArray⟩) := HVV.out 1 _ rfl
       have d2 : wr.cell? ⟨by_, oy + k * 3 + 2, none⟩ = some (.string ⟨x2.toArray⟩) := HVV.out 2 _ rfl
       have e1 := neqC x0 x1 x2
       have e2 := neqCg
       go_wp2_with fail
       go_quiet (fail)
       replace HR := hide (HR.out.drewN nq)
       clear a2 b2 e1 e2 c0 d0 c1 d1 c2 d2
       go_wp2_with fail
       go_roundw
       case rel => exact ⟨k + 1, by omega, by go_num, HR.out⟩
       case measure => simp [ivQ]; omega
      ·obtain rfl : k = m.cf.length := by omega
       go_upto_region 19 with fail
       clear a2
       go_loopw [8] (fun i W => ∃ k : Nat, k ≤ m.dn.length ∧ i = .int .i64 (k : Int) ∧ Tb w W [Value.slice ab1 m.br.length cb1, .slice aq1 ts1.length cq1, .slice ac1 m.cf.length cc1, .slice ad1 m.dn.length cd1, .int .i64 m.la] [Value.slice ab2 m.br.length cb2, .slice aq2 ts2.length cq2, .slice ac2 m.cf.length cc2, .slice ad2 m.dn.length cd2, .int .i64 m.la]) (fun i _ => m.dn.length - (ivQ i).toNat)
       case atStart => exact ⟨0, Nat.zero_le _, rfl, HR.out⟩
       case round =>
        clear HR
        obtain ⟨k, hk, rfl, hr⟩ := hrel
        have HR := hide hr
        clear hr
        have a3 := HR.out.a.at 3 _ rfl
        by_cases hlt : k < m.dn.length
        ·have hltI : (k : Int) < (m.dn.length : Int) := by omega
         obtain ⟨bx, ox, rfl, hrx⟩ := (HX.out wr HR.out.b).d.rg (show 0 < m.dn.length by omega)
         obtain ⟨by_, oy, rfl, hry⟩ := (HY.out wr HR.out.b).d.rg (show 0 < m.dn.length by omega)
         have HU := hide (fm_at encD hrx hlt)
         have HVV := hide (fm_at encD hry hlt)
         clear hrx hry
         generalize m.dn[k] = x at HU HVV
         obtain ⟨x0, x1, x2⟩ := x
         unfold dnc at HU HVV
         dsimp only at HU HVV
         have b3 := HR.out.c.at 3 _ rfl
         have c0 : wr.cell? ⟨bx, ox + k * 3, none⟩ = some (.int .i64 x0) := HU.out 0 _ rfl
         have c1 : wr.cell? ⟨bx, ox + k * 3 + 1, none⟩ = some (.int .i64 x1) := HU.out 1 _ rfl
         have c2 : wr.cell? ⟨bx, ox + k * 3 + 2, none⟩ = some (.int .i64 x2) := HU.out 2 _ rfl
         have d0 : wr.cell? ⟨by_, oy + k * 3, none⟩ = some (.int .i64 x0) := HVV.out 0 _ rfl
         have d1 : wr.cell? ⟨by_, oy + k * 3 + 1, none⟩ = some (.int .i64 x1) := HVV.out 1 _ rfl
         have d2 : wr.cell? ⟨by_, oy + k * 3 + 2, none⟩ = some (.int .i64 x2) := HVV.out 2 _ rfl
         have e1 := neqD x0 x1 x2
         have e2 := neqDg
         go_wp2_with fail
         go_quiet (fail)
         replace HR := hide (HR.out.drewN nq)
         clear a3 b3 e1 e2 c0 d0 c1 d1 c2 d2
         go_wp2_with fail
         go_roundw
         case rel => exact ⟨k + 1, by omega, by go_num, HR.out⟩
         case measure => simp [ivQ]; omega
        ·obtain rfl : k = m.dn.length := by omega
         go_wp2_with fail
         go_ret
         exact ⟨rfl, HR.out.b⟩
end Go.Proofs.YtlggjgapdpkhiaaGreatDoor
