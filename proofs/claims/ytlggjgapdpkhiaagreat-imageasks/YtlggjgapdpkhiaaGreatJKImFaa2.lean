/-
  A BROKER IS REGISTERED (image.register). Conditions: an image in order, its lists no longer than a hundred thousand.
  ONE THAT IS TAKEN OUT OF A ROW (slices.Concat of two, image.without).
-/
import Derived.Test.YtlggjgapdpkhiaaGreatJKImCba5
import Derived.Test.YtlggjgapdpkhiaaGreatJKImCda5
import Derived.Test.YtlggjgapdpkhiaaGreatJKImQha3
import Derived.Test.YtlggjgapdpkhiaaGreatJKImDgTa5
namespace Go.Proofs.YtlggjgapdpkhiaaGreat
open Go.RowKit
theorem ImR.setB {W : World} {m : Im} {p : Ip} (h : ImR W m p) {a : Option Addr} {n c : Nat} {l : List Bk} (hl : Rs bkc W (.slice a n c) l) : ImR W { m with br := l } { p with ab := a, cb := c } := ⟨by have := hl.cap.1; subst this; exact hl, h.t, h.q, h.e, h.c, h.d⟩
set_option maxRecDepth 100000 in
set_option maxHeartbeats 16000000 in
theorem register_any {ok : Nat → Prop} (m : Im) (p : Ip) (r : Rc) (v : Value) (w : World) (n0 : Nat → Prop) (hn0 : ∀ g, n0 g → g < w.heap.size) (hv : ∀ W, (∀ g, n0 g → W.heap[g]? = w.heap[g]?) → ImR W m p) (hw : Wf m 100000) (hr : IsR ok w v r) : Calls Tryz.prog 93 #[imv m p, v] w fun e w' => StP n0 w w' (regB m r).1 (regB m r).2 e := by
 obtain ⟨a14, a15, a16, a17, c14, c15, c16, c17, rfl, _⟩ := hr
 obtain ⟨cs, hcs⟩ : ∃ cs, cs = cR r a14 a15 a16 a17 c14 c15 c16 c17 := ⟨_, rfl⟩
 have HCR : Hid (∀ (W : World) (zs : List Value) (m : Im) (p : Ip), Fr w m p cs zs W → W.cell? ⟨w.heap.size + 1, 1, none⟩ = some (.int .i64 r.br) ∧ W.cell? ⟨w.heap.size + 1, 2, none⟩ = some (.int .i64 r.ep) ∧ W.cell? ⟨w.heap.size + 1, 13, none⟩ = some (.string ⟨r.rk.toArray⟩)) := Hd (fun W zs m p h => by subst hcs; exact ⟨h.r.at 1 _ rfl, h.r.at 2 _ rfl, h.r.at 13 _ rfl⟩)
 have Hv := Hd (fun (W W3 : World) (hb : Below w.heap.size w W3) (hW : Agr n0 w.heap.size W3 W) => hv W (fun g hg => (hW g (.inl hg)).trans (hb.block g (hn0 g hg))))
 clear hn0
 replace hv : ImR w m p := hv w (fun _ _ => rfl)
 have HV := Hd (fun W (h : Below w.heap.size w W) => hv.below h)
 have HST : Hid (Fr w m p (cR r a14 a15 a16 a17 c14 c15 c16 c17) = Fr w m p cs) := Hd (by rw [hcs])
 cases hf : fB m.br r.br with
 | none =>
  have HF := Hd (fun W (h : Below w.heap.size w W) => findBroker_no m p r.br W (hv.below h) hw hf)
  have HPU := Hd (fun W (h : Below w.heap.size w W) i (hi : i ≤ m.br.length) => putB_new m.br p.ab _ p.cb i ⟨r.br, r.ep, r.rk, true, false⟩ W rfl (hv.below h).b hi hw.nb)
  have Hr : Hid (regB m r = ({ m with br := putB m.br ⟨r.br, r.ep, r.rk, true, false⟩ }, 0)) := Hd (by unfold regB; rw [hf])
  rw [Hr.out]
  clear hv hw hf hcs
  unfold imv cR at *
  go_enter Tryz.func93, Tryz.ntmps93
  go_upto_region 2 with (go_at_call 35; refine (HF.out _ (below_al3 _ _ _ _)).mono ?_; rintro e w1 ⟨i, hi, hins, rfl, hb1⟩; have hfr := Fr.mk0 w m p _ _ _ _ hb1; have Hf := Hd (HST.out ▸ hfr); obtain ⟨i0, i1, i2, i3, i4⟩ := hfr.i.im; obtain ⟨r1, r2, r3⟩ := HCR.out _ _ _ _ Hf.out; have HIN := Hd ((hins ⟨r.br, r.ep, r.rk, true, false⟩).symm.trans (putB_ins (b := ⟨r.br, r.ep, r.rk, true, false⟩) (id := r.br) rfl).symm); clear hb1 HF hins hfr HST)
  go_quiet (fail)
  clear i0 i1 i2 i3 i4 r1 r2 r3
  replace Hf := Hd (Hf.out.drewN nq)
  generalize w1.drewN nq = w2 at Hf ⊢
  obtain ⟨i0, i1, i2, i3, i4⟩ := Hf.out.i.im
  obtain ⟨r1, r2, r3⟩ := HCR.out _ _ _ _ Hf.out
  go_wp2_with (first
   | (go_at_call 119; refine (HPU.out _ Hf.out.b i hi).mono ?_; rintro e w3 ⟨v, rfl, hro, hb3⟩; rw [HIN.out] at hro; obtain ⟨av, cv, rfl⟩ := hro.form; have HRO := Hd (hro.mono Hf.out.sz); replace Hf := Hd (Hf.out.below hb3); have HBX := Hd hb3; clear hro hb3 HPU i0 i1 i2 i3 i4 r1 r2 r3; obtain ⟨i0, i1, i2, i3, i4⟩ := Hf.out.i.im; have f0 := Hf.out.f 0 (by decide); have HFS := Hd (Hf.out.set 0 (.slice av (putB m.br ⟨r.br, r.ep, r.rk, true, false⟩).length cv) { m with br := putB m.br ⟨r.br, r.ep, r.rk, true, false⟩ } { p with ab := av, cb := cv } (by decide) rfl))
   | (refine wS rfl _ _ _ rfl _ _ rfl HFS.out.z _ rfl rfl (by kernel_rfl) rfl ?_; intro W3 hz hk hb hp; have Ho := Hd (HFS.out.out hz hk hb); have HRS := Hd (fun W (hW : Agr n0 w.heap.size W3 W) => (HRO.out.keepG (fun g hg => (hW g (.inr (by omega))).trans ((hp g (by omega)).trans (Below.heap_setCell _ _ _ _ (show ¬ g = w.heap.size by omega))))).rs); clear hz hk hb hp))
  obtain ⟨q0, q1, q2, q3, q4⟩ := Ho.out.z.im
  exact bodyPost_ret (v := .tuple #[.agg (iml { m with br := putB m.br ⟨r.br, r.ep, r.rk, true, false⟩ } { p with ab := av, cb := cv }).toArray, .nilIface]) (by simp [results, Tryz.results93, go_sem, q0, q1, q2, q3, q4, iml]) rfl (st_ret Ho.out (fun W hW => (Hv.out W _ Ho.out.b hW).setB (HRS.out W hW)) erc_nil)
 | some b =>
  have hne : 0 < m.br.length := List.length_pos_of_mem (List.mem_of_find?_eq_some hf)
  obtain ⟨bb, oo, hab, hrg⟩ := hv.b.rg hne
  obtain ⟨ab, aq, ac, ad, cb, cq, cc, cd, ts⟩ := p
  simp only at hab
  subst hab
  obtain ⟨P0, hP0⟩ : ∃ P0 : Ip, P0 = ⟨some ⟨bb, oo, none⟩, aq, ac, ad, cb, cq, cc, cd, ts⟩ := ⟨_, rfl⟩
  have HP0 := Hd hP0
  have HF := Hd (fun W (h : Below w.heap.size w W) => findBroker_yes m _ r.br W (hv.below h) hw b hf)
  have HLE := Hd (fun W (h : Below w.heap.size w W) => Leads_any m _ r.br W (hv.below h) hw)
  have HPU := Hd (fun W (h : Below w.heap.size w W) i (hi : i < m.br.length) => putB_old m.br (some ⟨bb, oo, none⟩) _ cb i ⟨r.br, r.ep, r.rk, true, false⟩ W rfl (hv.below h).b hi hw.nb)
  have HEL : Hid (∀ W, Below w.heap.size w W → ∀ i (hi : i < m.br.length), m.br[i] = b → W.cell? ⟨bb, oo + i * 5 + 1, none⟩ = some (.int .i64 b.ep)) := Hd (fun W h i hi e => by
   have := rg_bel (fm_at encB hrg hi) h
   rw [e] at this
   exact this 1 _ rfl)
  rw [← hP0] at HV Hv HST
  clear hP0
  by_cases h1 : r.ep ≤ b.ep
  ·have Hr : Hid (regB m r = (m, 11)) := Hd (by unfold regB; rw [hf]; exact if_pos h1)
   rw [Hr.out]
   have hd : decide (b.ep ≥ r.ep) = true := decide_eq_true h1
   clear hv hw hf hcs hne hrg HPU HLE Hr
   unfold imv cR at *
   go_enter Tryz.func93, Tryz.ntmps93
   go_upto_region 2 with (go_at_call 35; refine (HF.out _ (below_al3 _ _ _ _)).mono ?_; rintro e w1 ⟨i, hi, hib, hins, _, _, _, rfl, hb1⟩; have Hf : Hid (Fr w m P0 cs imz w1) := Hd (HST.out ▸ Fr.mk0 w m P0 _ _ _ _ (by rw [HP0.out]; exact hb1)); obtain ⟨i0, i1, i2, i3, i4⟩ := (HP0.out ▸ Hf.out.i).im; obtain ⟨r1, r2, r3⟩ := HCR.out _ _ _ _ Hf.out; have e1 := HEL.out _ Hf.out.b i hi hib; have hiI : (i : Int) < (m.br.length : Int) := Int.ofNat_lt.2 hi; have HIN := Hd ((hins ⟨r.br, r.ep, r.rk, true, false⟩).symm.trans (putB_ins (b := ⟨r.br, r.ep, r.rk, true, false⟩) (id := r.br) rfl).symm); clear hb1 HF hins HST hib)
   go_quiet (fail)
   clear i0 i1 i2 i3 i4 r1 r2 r3 e1
   replace Hf := Hd (Hf.out.drewN nq)
   generalize w1.drewN nq = w2 at Hf ⊢
   obtain ⟨i0, i1, i2, i3, i4⟩ := (HP0.out ▸ Hf.out.i).im
   obtain ⟨r1, r2, r3⟩ := HCR.out _ _ _ _ Hf.out
   go_wp2_with (first
    | (refine wS rfl _ _ _ rfl _ _ rfl Hf.out.z (iml m P0) (by rw [HP0.out]; rfl) rfl (by kernel_rfl) rfl ?_; intro W3 hz hk hb hp; have Ho := Hd (Hf.out.out hz hk hb); clear hz hk hb hp))
   obtain ⟨q0, q1, q2, q3, q4⟩ := Ho.out.z.im
   exact bodyPost_ret (v := .tuple #[.agg (iml m P0).toArray, .iface 67 (.int .i64 11)]) (by simp [results, Tryz.results93, go_sem, q0, q1, q2, q3, q4, iml]) rfl (st_ret Ho.out (fun W hW => Hv.out W _ Ho.out.b hW) (erc_code (by decide)))
  ·have hd : decide (b.ep ≥ r.ep) = false := decide_eq_false h1
   cases hl : leads m.ts r.br with
   | true =>
    have Hr : Hid (regB m r = (m, 10)) := Hd (by unfold regB; rw [hf]; dsimp only; rw [if_neg h1, if_pos hl])
    rw [Hr.out]
    rw [hl] at HLE
    clear hv hw hf hcs hne hrg HPU Hr hl
    unfold imv cR at *
    go_enter Tryz.func93, Tryz.ntmps93
    go_upto_region 2 with (go_at_call 35; refine (HF.out _ (below_al3 _ _ _ _)).mono ?_; rintro e w1 ⟨i, hi, hib, hins, _, _, _, rfl, hb1⟩; have Hf : Hid (Fr w m P0 cs imz w1) := Hd (HST.out ▸ Fr.mk0 w m P0 _ _ _ _ (by rw [HP0.out]; exact hb1)); obtain ⟨i0, i1, i2, i3, i4⟩ := (HP0.out ▸ Hf.out.i).im; obtain ⟨r1, r2, r3⟩ := HCR.out _ _ _ _ Hf.out; have e1 := HEL.out _ Hf.out.b i hi hib; have hiI : (i : Int) < (m.br.length : Int) := Int.ofNat_lt.2 hi; have HIN := Hd ((hins ⟨r.br, r.ep, r.rk, true, false⟩).symm.trans (putB_ins (b := ⟨r.br, r.ep, r.rk, true, false⟩) (id := r.br) rfl).symm); clear hb1 HF hins HST hib)
    go_quiet (fail)
    clear i0 i1 i2 i3 i4 r1 r2 r3 e1
    replace Hf := Hd (Hf.out.drewN nq)
    generalize w1.drewN nq = w2 at Hf ⊢
    obtain ⟨i0, i1, i2, i3, i4⟩ := (HP0.out ▸ Hf.out.i).im
    obtain ⟨r1, r2, r3⟩ := HCR.out _ _ _ _ Hf.out
    go_wp2_with (first
     | (go_at_call 24; refine (HLE.out _ Hf.out.b).mono ?_; rintro e w4 ⟨rfl, hb4⟩; replace Hf := Hd (Hf.out.below hb4); clear i0 i1 i2 i3 i4 r1 r2 r3 hb4; obtain ⟨i0, i1, i2, i3, i4⟩ := (HP0.out ▸ Hf.out.i).im; obtain ⟨r1, r2, r3⟩ := HCR.out _ _ _ _ Hf.out)
     | (refine wS rfl _ _ _ rfl _ _ rfl Hf.out.z (iml m P0) (by rw [HP0.out]; rfl) rfl (by kernel_rfl) rfl ?_; intro W3 hz hk hb hp; have Ho := Hd (Hf.out.out hz hk hb); clear hz hk hb hp))
    obtain ⟨q0, q1, q2, q3, q4⟩ := Ho.out.z.im
    exact bodyPost_ret (v := .tuple #[.agg (iml m P0).toArray, .iface 67 (.int .i64 10)]) (by simp [results, Tryz.results93, go_sem, q0, q1, q2, q3, q4, iml]) rfl (st_ret Ho.out (fun W hW => Hv.out W _ Ho.out.b hW) (erc_code (by decide)))
   | false =>
    have Hr : Hid (regB m r = ({ m with br := putB m.br ⟨r.br, r.ep, r.rk, true, false⟩ }, 0)) := Hd (by unfold regB; rw [hf]; dsimp only; rw [if_neg h1, if_neg (by rw [hl]; decide)])
    rw [Hr.out]
    rw [hl] at HLE
    clear hv hw hf hcs hne hrg Hr hl
    unfold imv cR at *
    go_enter Tryz.func93, Tryz.ntmps93
    go_upto_region 2 with (go_at_call 35; refine (HF.out _ (below_al3 _ _ _ _)).mono ?_; rintro e w1 ⟨i, hi, hib, hins, _, _, _, rfl, hb1⟩; have Hf : Hid (Fr w m P0 cs imz w1) := Hd (HST.out ▸ Fr.mk0 w m P0 _ _ _ _ (by rw [HP0.out]; exact hb1)); obtain ⟨i0, i1, i2, i3, i4⟩ := (HP0.out ▸ Hf.out.i).im; obtain ⟨r1, r2, r3⟩ := HCR.out _ _ _ _ Hf.out; have e1 := HEL.out _ Hf.out.b i hi hib; have hiI : (i : Int) < (m.br.length : Int) := Int.ofNat_lt.2 hi; have HIN := Hd ((hins ⟨r.br, r.ep, r.rk, true, false⟩).symm.trans (putB_ins (b := ⟨r.br, r.ep, r.rk, true, false⟩) (id := r.br) rfl).symm); clear hb1 HF hins HST hib)
    go_quiet (fail)
    clear i0 i1 i2 i3 i4 r1 r2 r3 e1
    replace Hf := Hd (Hf.out.drewN nq)
    generalize w1.drewN nq = w2 at Hf ⊢
    obtain ⟨i0, i1, i2, i3, i4⟩ := (HP0.out ▸ Hf.out.i).im
    obtain ⟨r1, r2, r3⟩ := HCR.out _ _ _ _ Hf.out
    go_wp2_with (first
     | (go_at_call 24; refine (HLE.out _ Hf.out.b).mono ?_; rintro e w4 ⟨rfl, hb4⟩; replace Hf := Hd (Hf.out.below hb4); clear i0 i1 i2 i3 i4 r1 r2 r3 hb4; obtain ⟨i0, i1, i2, i3, i4⟩ := (HP0.out ▸ Hf.out.i).im; obtain ⟨r1, r2, r3⟩ := HCR.out _ _ _ _ Hf.out)
     | (go_at_call 119; refine (HPU.out _ Hf.out.b i hi).mono ?_; rintro e w3 ⟨v, rfl, hro, hb3⟩; rw [HIN.out] at hro; obtain ⟨av, cv, rfl⟩ := hro.form; have HRO := Hd (hro.mono Hf.out.sz); replace Hf := Hd (Hf.out.below hb3); have HBX := Hd hb3; clear hro hb3 HPU i0 i1 i2 i3 i4 r1 r2 r3; obtain ⟨i0, i1, i2, i3, i4⟩ := Hf.out.i.im; have f0 := Hf.out.f 0 (by decide); have HFS := Hd (Hf.out.set 0 (.slice av (putB m.br ⟨r.br, r.ep, r.rk, true, false⟩).length cv) { m with br := putB m.br ⟨r.br, r.ep, r.rk, true, false⟩ } { P0 with ab := av, cb := cv } (by decide) (by rw [HP0.out]; rfl)))
     | (refine wS rfl _ _ _ rfl _ _ rfl HFS.out.z (iml { m with br := putB m.br ⟨r.br, r.ep, r.rk, true, false⟩ } { P0 with ab := av, cb := cv }) (by rw [HP0.out]; rfl) rfl (by kernel_rfl) rfl ?_; intro W3 hz hk hb hp; have Ho := Hd (HFS.out.out hz hk hb); have HRS := Hd (fun W (hW : Agr n0 w.heap.size W3 W) => (HRO.out.keepG (fun g hg => (hW g (.inr (by omega))).trans ((hp g (by omega)).trans (Below.heap_setCell _ _ _ _ (show ¬ g = w.heap.size by omega))))).rs); clear hz hk hb hp))
    obtain ⟨q0, q1, q2, q3, q4⟩ := Ho.out.z.im
    exact bodyPost_ret (v := .tuple #[.agg (iml { m with br := putB m.br ⟨r.br, r.ep, r.rk, true, false⟩ } { P0 with ab := av, cb := cv }).toArray, .nilIface]) (by simp [results, Tryz.results93, go_sem, q0, q1, q2, q3, q4, iml]) rfl (st_ret Ho.out (fun W hW => (Hv.out W _ Ho.out.b hW).setB (HRS.out W hW)) erc_nil)
end Go.Proofs.YtlggjgapdpkhiaaGreat
namespace Go.Proofs.YtlggjgapdpkhiaaGreat
open Go.RowKit
set_option maxRecDepth 100000
set_option maxHeartbeats 8000000
theorem concB_2 (v1 v2 : Value) (l1 l2 : List Bk) (B : Nat) (w : World) (hB : Bx w B [v1, v2]) (h1 : Rs bkc w v1 l1) (h2 : Rs bkc w v2 l2) (hl1 : l1.length ≤ 200000) (hl2 : l2.length ≤ 200000) :
  Calls Tryz.prog 139 #[.slice (some ⟨B, 0, none⟩) 2 2] w fun e w' => ∃ v, e = .returned v ∧ Ro bkc 5 33 w' w.heap.size v (l1 ++ l2) ∧ Below w.heap.size w w' := by
 have HG := Hd (fun n hn => growB_any n w hn)
 obtain ⟨a1, c1, rfl⟩ := h1.form
 obtain ⟨a2, c2, rfl⟩ := h2.form
 have HB := Hd (fun W (h : Below w.heap.size w W) => (hB.below h).c2)
 have H1 := Hd (fun W (h : Below w.heap.size w W) => h1.below h)
 have H2 := Hd (fun W (h : Below w.heap.size w W) => h2.below h)
 obtain ⟨b0, b1⟩ := hB.c2
 have hbl := hB.l
 clear h1 h2 hB
 go_enter Tryz.func139, Tryz.ntmps139
 go_wp2_with fail
 refine wp_loop_rounds 3 ?_
 rw [rounds_succ]
 go_wp2_with fail
 rw [rounds_succ]
 go_wp2_with fail
 rw [rounds_succ]
 have HN : Hid (((l1.length : Int) + l2.length) = ((l1.length + l2.length : Nat) : Int)) := Hd (by omega)
 have HK : Hid (l1.length + l2.length ≤ 1000000) := Hd (by omega)
 go_wp2_with (go_at_call 153; first | rw [HN.out] | skip; refine (HG.out _ HK.out).mono ?_; rintro e w1 ⟨v, rfl, hr, hb⟩; obtain ⟨d0, d1⟩ := HB.out _ hb; have HR := Hd hr; have HBl := Hd hb; clear hr hb HG b0 b1)
 refine wp_loop_rounds 3 ?_
 rw [rounds_succ]
 go_wp2_with (at_builtin; refine wR tyiB encB _ rfl _ _ rfl w.heap.size _ [] rfl HR.out HBl.out.size _ l1 rfl (H1.out _ HBl.out) (by rw [List.length_nil]; omega) ?_; intro v1 w2 hr _ hb; rw [List.nil_append] at hr; obtain ⟨d0, d1⟩ := HB.out _ (HBl.out.trans hb); replace HR := Hd hr; replace HBl := Hd (HBl.out.trans hb); clear hr hb)
 rw [rounds_succ]
 go_wp2_with (at_builtin; refine wR tyiB encB _ rfl _ _ rfl w.heap.size _ l1 rfl HR.out HBl.out.size _ l2 rfl (H2.out _ HBl.out) (by omega) ?_; intro v2 w3 hr _ hb; obtain ⟨d0, d1⟩ := HB.out _ (HBl.out.trans hb); replace HR := Hd hr; replace HBl := Hd (HBl.out.trans hb); clear hr hb)
 rw [rounds_succ]
 go_wp2_with fail
 go_ret
 exact ⟨_, rfl, HR.out, HBl.out⟩
theorem woB_any (l : List Bk) (ao : Option Addr) (n cap i : Nat) (w : World) (hn : n = l.length) (hv : Rs bkc w (.slice ao n cap) l) (hi : i < l.length) (hl : l.length ≤ 100000) :
  Calls Tryz.prog 121 #[.slice ao n cap, .int .i64 (i : Int)] w fun e w' => ∃ v, e = .returned v ∧ Ro bkc 5 33 w' w.heap.size v (l.take i ++ l.drop (i + 1)) ∧ Below w.heap.size w w' := by
 subst hn
 obtain ⟨bb, oo, rfl, hrg⟩ := hv.rg (by omega)
 have hu := fun W => upto_run tyiB (some ⟨bb, oo, none⟩) l.length cap i (Nat.le_of_lt hi) hv.cap.2 W
 have hcap := hv.cap.2
 have h0 : ¬ ((i : Int) + 1 < 0) := by omega
 have hwr : IntKind.i64.wrap ((i : Int) + 1) = (i : Int) + 1 := by rw [IntKind.wrap_i64]; omega
 have h00 : (0 : Int) ≤ (i : Int) + 1 := by omega
 have h1 : (i : Int) + 1 ≤ (l.length : Int) := by omega
 have hd : ∀ (ao' : Option Addr), (¬ cap = i + 1 → ao' = some ⟨bb, oo + (i + 1) * 5, none⟩) → ∀ W, Below w.heap.size w W → Rs bkc W (.slice ao' (l.length - (i + 1)) (cap - (i + 1))) (l.drop (i + 1)) := fun ao' hao W hb => by
  have := (hv.below hb).part encB (i + 1) l.length hi (Nat.le_refl _) ao' (fun q b o e => by cases e; rw [hao (by omega)])
  rwa [List.take_of_length_le (by rw [List.length_drop]; omega)] at this
 have HC : Hid (∀ (ao' : Option Addr), (¬ cap = i + 1 → ao' = some ⟨bb, oo + (i + 1) * 5, none⟩) → ∀ (n1 n2 : Nat), n1 = l.length - (i + 1) → n2 = cap - (i + 1) → ∀ U, Calls Tryz.prog 139 #[.slice (some ⟨w.heap.size, 0, none⟩) 2 2] (w.alloc (.cells #[.slice (some ⟨bb, oo, none⟩) i cap, .slice ao' n1 n2] U)).drew fun e w' => ∃ v, e = .returned v ∧ Ro bkc 5 33 w' w.heap.size v (l.take i ++ l.drop (i + 1)) ∧ Below w.heap.size w w') := Hd (fun ao' hao n1 n2 e1 e2 U => by
  subst e1 e2
  obtain ⟨p1, p3⟩ := wo_frame w U (.slice (some ⟨bb, oo, none⟩) i cap) (.slice ao' (l.length - (i + 1)) (cap - (i + 1)))
  refine (concB_2 _ _ (l.take i) (l.drop (i + 1)) _ _ p1 ((hv.below p3).upto encB i (Nat.le_of_lt hi)) (hd ao' hao _ p3) (by rw [List.length_take]; omega) (by rw [List.length_drop]; omega)).mono ?_
  rintro e w1 ⟨v, rfl, hr, hb⟩
  exact ⟨v, rfl, hr.mono p3.size, bt p3 hb⟩)
 have hcap := hv.cap.2
 clear hv hd hrg hu
 by_cases hce : cap = i + 1
 ·subst hce
  go_enter Tryz.func121, Tryz.ntmps121
  go_upto_region 1 with fail
  go_region_with (go_at_call 139; refine (HC.out _ (by simp) _ _ (by omega) (by omega) _).mono ?_; rintro e w1 ⟨v, rfl, hr, hb⟩; have HR := Hd hr; have HB := Hd hb; clear hr hb)
  all_goals
   go_wp2_with fail
   go_ret
   exact ⟨_, rfl, HR.out, HB.out⟩
 ·have hce2 : ¬ cap - (i + 1) = 0 := by omega
  have hce3 : ¬ cap ≤ i + 1 := by omega
  go_enter Tryz.func121, Tryz.ntmps121
  go_upto_region 1 with fail
  go_region_with (go_at_call 139; refine (HC.out _ (fun _ => rfl) _ _ (by omega) (by omega) _).mono ?_; rintro e w1 ⟨v, rfl, hr, hb⟩; have HR := Hd hr; have HB := Hd hb; clear hr hb)
  all_goals
   go_wp2_with fail
   go_ret
   exact ⟨_, rfl, HR.out, HB.out⟩
end Go.Proofs.YtlggjgapdpkhiaaGreat
