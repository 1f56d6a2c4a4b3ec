/-
  MANY ROWS AS ONE (slices.Grow, slices.Concat). Conditions: their cells hold them, no more than two hundred thousand each.
  ONE THAT IS PUT AT A PLACE (image.put), ahead of what is there, or in its stead. Conditions: the cells hold them, no more than a hundred thousand.
  A BROKER IS REGISTERED (image.register). Conditions: an image in order, its lists no longer than a hundred thousand.
-/
import Derived.Test.YtfnemlbkmhcodaaGreatJImCha3
import Derived.Test.YtfnemlbkmhcodaaGreatJImXa3
namespace Go.Proofs.YtfnemlbkmhcodaaGreat
open Go.RowKit


set_option maxRecDepth 100000 in
set_option maxHeartbeats 4000000 in
theorem growB_any (n : Nat) (w : World) (hn : n ≤ 1000000) : Calls Tryz.prog 157 #[.slice none 0 0, .int .i64 (n : Int)] w fun e w' => ∃ v, e = .returned v ∧ Ro bkc 5 33 w' w.heap.size v [] ∧ Below w.heap.size w w' := by
  have h2 : wrap64 ((0 : Int) - 0) = 0 := by unfold wrap64; omega
  have h1 : ¬ ((n : Int) < 0) := by omega
  rcases Nat.eq_zero_or_pos n with h0 | h0
  · subst h0
    clear hn h1
    go_enter Tryz.func157, Tryz.ntmps157
    go_wp2_with fail
    go_ret
    exact ⟨_, rfl, ro_nil _ _ _ _ _, Below.refl _ _⟩
  · have h3 : wrap64 ((n : Int) - 0) = (n : Int) := by unfold wrap64; omega
    have h4 : (n : Int) > 0 := by omega
    have hz := fun ty => grow_zeros (I := 3) tyiB (by decide) Tryz.underlying3 w n h0 hn ty
    obtain ⟨G, c, hG, hnG, hm, hc⟩ := hz 25
    have HU := hide (fun W => upto_run tyiB (some ⟨w.heap.size, 0, none⟩) n G 0 (Nat.zero_le _) hnG W)
    have HG := hide hG
    have HR := hide (ro_room bkc 5 33 w G c hm hc)
    clear hz hG hm hc
    go_enter Tryz.func157, Tryz.ntmps157
    go_wp2_with (at_builtin; refine Lib.wpList_append_run _ rfl _ _ _ _ rfl _ _ rfl rfl _ _ HG.out ?_)
    all_goals
      go_ret
      exact ⟨_, rfl, HR.out, below_dal _ _⟩

set_option maxRecDepth 100000 in
set_option maxHeartbeats 8000000 in
theorem concB_3 (v1 v2 v3 : Value) (l1 l2 l3 : List Bk) (B : Nat) (w : World) (hB : Bx w B [v1, v2, v3]) (h1 : Rs bkc w v1 l1) (h2 : Rs bkc w v2 l2) (h3 : Rs bkc w v3 l3) (hl1 : l1.length ≤ 200000) (hl2 : l2.length ≤ 200000) (hl3 : l3.length ≤ 200000) :
    Calls Tryz.prog 143 #[.slice (some ⟨B, 0, none⟩) 3 3] w fun e w' => ∃ v, e = .returned v ∧ Ro bkc 5 33 w' w.heap.size v (l1 ++ l2 ++ l3) ∧ Below w.heap.size w w' := by
  have HG := hide (fun n hn => growB_any n w hn)
  obtain ⟨a1, c1, rfl⟩ := h1.form
  obtain ⟨a2, c2, rfl⟩ := h2.form
  obtain ⟨a3, c3, rfl⟩ := h3.form
  have HB := hide (fun W (h : Below w.heap.size w W) => (hB.below h).c3)
  have H1 := hide (fun W (h : Below w.heap.size w W) => h1.below h)
  have H2 := hide (fun W (h : Below w.heap.size w W) => h2.below h)
  have H3 := hide (fun W (h : Below w.heap.size w W) => h3.below h)
  obtain ⟨b0, b1, b2⟩ := hB.c3
  have hbl := hB.l
  clear h1 h2 h3 hB
  go_enter Tryz.func143, Tryz.ntmps143
  go_wp2_with fail
  refine wp_loop_rounds 4 ?_
  rw [rounds_succ]
  go_wp2_with fail
  rw [rounds_succ]
  go_wp2_with fail
  rw [rounds_succ]
  go_wp2_with fail
  rw [rounds_succ]
  have HN : Hid (((l1.length : Int) + l2.length + l3.length) = ((l1.length + l2.length + l3.length : Nat) : Int)) := hide (by omega)
  have HK : Hid (l1.length + l2.length + l3.length ≤ 1000000) := hide (by omega)
  go_wp2_with (go_at_call 157; first | rw [HN.out] | skip; refine (HG.out _ HK.out).mono ?_; rintro e w1 ⟨v, rfl, hr, hb⟩; obtain ⟨d0, d1, d2⟩ := HB.out _ hb; have HR := hide hr; have HBl := hide hb; clear hr hb HG b0 b1 b2)
  refine wp_loop_rounds 4 ?_
  rw [rounds_succ]
  go_wp2_with (at_builtin; refine wpList_appR tyiB encB _ rfl _ _ rfl w.heap.size _ [] rfl HR.out HBl.out.size _ l1 rfl (H1.out _ HBl.out) (by rw [List.length_nil]; omega) ?_; intro v1 w2 hr _ hb; rw [List.nil_append] at hr; obtain ⟨d0, d1, d2⟩ := HB.out _ (HBl.out.trans hb); replace HR := hide hr; replace HBl := hide (HBl.out.trans hb); clear hr hb)
  rw [rounds_succ]
  go_wp2_with (at_builtin; refine wpList_appR tyiB encB _ rfl _ _ rfl w.heap.size _ l1 rfl HR.out HBl.out.size _ l2 rfl (H2.out _ HBl.out) (by omega) ?_; intro v2 w3 hr _ hb; obtain ⟨d0, d1, d2⟩ := HB.out _ (HBl.out.trans hb); replace HR := hide hr; replace HBl := hide (HBl.out.trans hb); clear hr hb)
  rw [rounds_succ]
  go_wp2_with (at_builtin; refine wpList_appR tyiB encB _ rfl _ _ rfl w.heap.size _ (l1 ++ l2) rfl HR.out HBl.out.size _ l3 rfl (H3.out _ HBl.out) (by rw [List.length_append]; omega) ?_; intro v3 w4 hr _ hb; obtain ⟨d0, d1, d2⟩ := HB.out _ (HBl.out.trans hb); replace HR := hide hr; replace HBl := hide (HBl.out.trans hb); clear hr hb)
  rw [rounds_succ]
  go_wp2_with fail
  go_ret
  exact ⟨_, rfl, HR.out, HBl.out⟩
end Go.Proofs.YtfnemlbkmhcodaaGreat
namespace Go.Proofs.YtfnemlbkmhcodaaGreat
open Go.RowKit


set_option maxRecDepth 100000 in
set_option maxHeartbeats 8000000 in
theorem putB_new (l : List Bk) (ao : Option Addr) (n cap i : Nat) (x : Bk) (w : World) (hn : n = l.length) (hv : Rs bkc w (.slice ao n cap) l) (hi : i ≤ l.length) (hl : l.length ≤ 100000) :
    Calls Tryz.prog 125 #[.slice ao n cap, .int .i64 (i : Int), .bool false, .agg (bkc x).toArray] w fun e w' => ∃ v, e = .returned v ∧ Ro bkc 5 33 w' w.heap.size v (l.take i ++ x :: l.drop i) ∧ Below w.heap.size w w' := by
  subst hn
  obtain ⟨ao', hr, hd⟩ := hv.from tyiB encB i hi
  have hu := fun W => upto_run tyiB ao l.length cap i hi hv.cap.2 W
  have HP := hide (fun o1 T U => put_frame (f := bkc) w o1 x T U (.slice ao i cap) (.slice ao' (l.length - i) (cap - i)))
  have HC := hide (fun W (hb : Below w.heap.size w W) (hB : Bx W (w.heap.size + 1 + 1) [.slice ao i cap, .slice (some ⟨w.heap.size + 1, 0, none⟩) 1 1, .slice ao' (l.length - i) (cap - i)]) (hx : Rs bkc W (.slice (some ⟨w.heap.size + 1, 0, none⟩) 1 1) [x]) => concB_3 _ _ _ (l.take i) [x] (l.drop i) _ W hB ((hv.below hb).upto encB i hi) hx (hd W hb) (by rw [List.length_take]; omega) (by simp) (by rw [List.length_drop]; omega))
  have HE : Hid (l.take i ++ [x] ++ l.drop i = l.take i ++ x :: l.drop i) := hide (by simp)
  clear hv hd
  unfold bkc at *
  go_enter Tryz.func125, Tryz.ntmps125
  go_upto_region 4 with fail
  go_region_with (go_at_call 143; obtain ⟨p1, p2, p3⟩ := HP.out _ _ _; refine (HC.out _ p3 p1 p2).mono ?_; rintro e w1 ⟨v, rfl, hr, hb⟩; rw [HE.out] at hr; have HR := hide (hr.mono p3.size); have HB := hide (bt p3 hb); clear hr hb p1 p2 p3)
  all_goals
    go_wp2_with fail
    go_ret
    exact ⟨_, rfl, HR.out, HB.out⟩
set_option maxRecDepth 100000 in
set_option maxHeartbeats 8000000 in
theorem putB_old (l : List Bk) (ao : Option Addr) (n cap i : Nat) (x : Bk) (w : World) (hn : n = l.length) (hv : Rs bkc w (.slice ao n cap) l) (hi : i < l.length) (hl : l.length ≤ 100000) :
    Calls Tryz.prog 125 #[.slice ao n cap, .int .i64 (i : Int), .bool true, .agg (bkc x).toArray] w fun e w' => ∃ v, e = .returned v ∧ Ro bkc 5 33 w' w.heap.size v (l.take i ++ x :: l.drop (i + 1)) ∧ Below w.heap.size w w' := by
  subst hn
  obtain ⟨ao', hr, hd⟩ := hv.from tyiB encB i (Nat.le_of_lt hi)
  have hdl : (l.drop i).length = l.length - i := List.length_drop
  obtain ⟨ao2, hr2, hd2⟩ := (show Rs bkc w (.slice ao' (l.drop i).length (cap - i)) (l.drop i) from hdl ▸ hd w (Below.refl _ _)).from tyiB encB 1 (by omega)
  rw [hdl] at hr2 hd2
  have hdd : (l.drop i).drop 1 = l.drop (i + 1) := by rw [List.drop_drop]
  rw [hdd] at hd2
  have hu := fun W => upto_run tyiB ao l.length cap i (Nat.le_of_lt hi) hv.cap.2 W
  replace hr2 : ∀ W, (Instr.slice 25 (.slice ao' (l.length - i) (cap - i)) (some (.int .i64 1)) none none).run Tryz.prog W = .ok (.slice ao2 (l.length - i - 1) (cap - i - 1)) W := hr2
  have HP := hide (fun o1 T U => put_frame (f := bkc) w o1 x T U (.slice ao i cap) (.slice ao2 (l.length - i - 1) (cap - i - 1)))
  have HC := hide (fun W (hb : Below w.heap.size w W) (hB : Bx W (w.heap.size + 1 + 1) [.slice ao i cap, .slice (some ⟨w.heap.size + 1, 0, none⟩) 1 1, .slice ao2 (l.length - i - 1) (cap - i - 1)]) (hx : Rs bkc W (.slice (some ⟨w.heap.size + 1, 0, none⟩) 1 1) [x]) => concB_3 _ _ _ (l.take i) [x] (l.drop (i + 1)) _ W hB ((hv.below hb).upto encB i (Nat.le_of_lt hi)) hx (hd2 W hb) (by rw [List.length_take]; omega) (by simp) (by rw [List.length_drop]; omega))
  have HE : Hid (l.take i ++ [x] ++ l.drop (i + 1) = l.take i ++ x :: l.drop (i + 1)) := hide (by simp)
  clear hv hd hd2 hdl hdd
  unfold bkc at *
  go_enter Tryz.func125, Tryz.ntmps125
  go_upto_region 4 with fail
  go_region_with (go_at_call 143; obtain ⟨p1, p2, p3⟩ := HP.out _ _ _; refine (HC.out _ p3 p1 p2).mono ?_; rintro e w1 ⟨v, rfl, hr, hb⟩; rw [HE.out] at hr; have HR := hide (hr.mono p3.size); have HB := hide (bt p3 hb); clear hr hb p1 p2 p3)
  all_goals
    go_wp2_with fail
    go_ret
    exact ⟨_, rfl, HR.out, HB.out⟩
end Go.Proofs.YtfnemlbkmhcodaaGreat
namespace Go.Proofs.YtfnemlbkmhcodaaGreat
open Go.RowKit

/-- What lies there when register answers. -/
theorem ImR.setB {W : World} {m : Im} {p : Ip} (h : ImR W m p) {a : Option Addr} {n c : Nat} {l : List Bk} (hl : Rs bkc W (.slice a n c) l) : ImR W { m with br := l } { p with ab := a, cb := c } := ⟨by have := hl.cap.1; subst this; exact hl, h.t, h.q, h.e, h.c, h.d⟩
set_option maxRecDepth 100000 in
set_option maxHeartbeats 16000000 in
theorem register_any {ok : Nat → Prop} (m : Im) (p : Ip) (r : Rc) (v : Value) (w : World) (n0 : Nat → Prop) (hn0 : ∀ g, n0 g → g < w.heap.size) (hv : ∀ W, (∀ g, n0 g → W.heap[g]? = w.heap[g]?) → ImR W m p) (hw : Wf m 100000) (hr : IsR ok w v r) : Calls Tryz.prog 99 #[imv m p, v] w fun e w' => StP n0 w w' (regB m r).1 (regB m r).2 e := by
  obtain ⟨a14, a15, a16, a17, c14, c15, c16, c17, rfl, _⟩ := hr
  obtain ⟨cs, hcs⟩ : ∃ cs, cs = cellsR r a14 a15 a16 a17 c14 c15 c16 c17 := ⟨_, rfl⟩
  have HCR : Hid (∀ (W : World) (zs : List Value) (m : Im) (p : Ip), Fr w m p cs zs W → W.cell? ⟨w.heap.size + 1, 1, none⟩ = some (.int .i64 r.br) ∧ W.cell? ⟨w.heap.size + 1, 2, none⟩ = some (.int .i64 r.ep) ∧ W.cell? ⟨w.heap.size + 1, 13, none⟩ = some (.string ⟨r.rk.toArray⟩)) := hide (fun W zs m p h => by subst hcs; exact ⟨h.r.at 1 _ rfl, h.r.at 2 _ rfl, h.r.at 13 _ rfl⟩)
  have HVV := hide (fun (W W3 : World) (hb : Below w.heap.size w W3) (hW : Agr n0 w.heap.size W3 W) => hv W (fun g hg => (hW g (.inl hg)).trans (hb.block g (hn0 g hg))))
  clear hn0
  replace hv : ImR w m p := hv w (fun _ _ => rfl)
  have HV := hide (fun W (h : Below w.heap.size w W) => hv.below h)
  have HST : Hid (Fr w m p (cellsR r a14 a15 a16 a17 c14 c15 c16 c17) = Fr w m p cs) := hide (by rw [hcs])
  cases hf : fB m.br r.br with
  | none =>
    have HF := hide (fun W (h : Below w.heap.size w W) => findBroker_no m p r.br W (hv.below h) hw hf)
    have HPU := hide (fun W (h : Below w.heap.size w W) i (hi : i ≤ m.br.length) => putB_new m.br p.ab _ p.cb i ⟨r.br, r.ep, r.rk, true, false⟩ W rfl (hv.below h).b hi hw.nb)
    have HRE : Hid (regB m r = ({ m with br := putB m.br ⟨r.br, r.ep, r.rk, true, false⟩ }, 0)) := hide (by unfold regB; rw [hf])
    rw [HRE.out]
    clear hv hw hf hcs
    unfold imv cellsR at *
    go_enter Tryz.func99, Tryz.ntmps99
    go_upto_region 2 with (go_at_call 39; refine (HF.out _ (below_al3 _ _ _ _)).mono ?_; rintro e w1 ⟨i, hi, hins, rfl, hb1⟩; have hfr := Fr.mk0 w m p _ _ _ _ hb1; have HFR := hide (HST.out ▸ hfr); obtain ⟨i0, i1, i2, i3, i4⟩ := hfr.i.im; obtain ⟨r1, r2, r3⟩ := HCR.out _ _ _ _ HFR.out; have HIN := hide ((hins ⟨r.br, r.ep, r.rk, true, false⟩).symm.trans (putB_ins (b := ⟨r.br, r.ep, r.rk, true, false⟩) (id := r.br) rfl).symm); clear hb1 HF hins hfr HST)
    go_quiet (fail)
    clear i0 i1 i2 i3 i4 r1 r2 r3
    replace HFR := hide (HFR.out.drewN nq)
    generalize w1.drewN nq = w2 at HFR ⊢
    obtain ⟨i0, i1, i2, i3, i4⟩ := HFR.out.i.im
    obtain ⟨r1, r2, r3⟩ := HCR.out _ _ _ _ HFR.out
    go_wp2_with (first
      | (go_at_call 125; refine (HPU.out _ HFR.out.b i hi).mono ?_; rintro e w3 ⟨v, rfl, hro, hb3⟩; rw [HIN.out] at hro; obtain ⟨av, cv, rfl⟩ := hro.form; have HRO := hide (hro.mono HFR.out.sz); replace HFR := hide (HFR.out.below hb3); have HBX := hide hb3; clear hro hb3 HPU i0 i1 i2 i3 i4 r1 r2 r3; obtain ⟨i0, i1, i2, i3, i4⟩ := HFR.out.i.im; have f0 := HFR.out.f 0 (by decide); have HFS := hide (HFR.out.set 0 (.slice av (putB m.br ⟨r.br, r.ep, r.rk, true, false⟩).length cv) { m with br := putB m.br ⟨r.br, r.ep, r.rk, true, false⟩ } { p with ab := av, cb := cv } (by decide) rfl))
      | (refine wpList_set rfl _ _ _ rfl _ _ rfl HFS.out.z _ rfl rfl (by kernel_rfl) rfl ?_; intro W3 hz hk hb hp; have HFO := hide (HFS.out.out hz hk hb); have HRS := hide (fun W (hW : Agr n0 w.heap.size W3 W) => (HRO.out.keepG (fun g hg => (hW g (.inr (by omega))).trans ((hp g (by omega)).trans (Below.heap_setCell _ _ _ _ (show ¬ g = w.heap.size by omega))))).rs); clear hz hk hb hp))
    obtain ⟨q0, q1, q2, q3, q4⟩ := HFO.out.z.im
    exact bodyPost_ret (v := .tuple #[.agg (iml { m with br := putB m.br ⟨r.br, r.ep, r.rk, true, false⟩ } { p with ab := av, cb := cv }).toArray, .nilIface]) (by simp [results, Tryz.results99, go_sem, q0, q1, q2, q3, q4, iml]) rfl (st_ret HFO.out (fun W hW => (HVV.out W _ HFO.out.b hW).setB (HRS.out W hW)) erc_nil)
  | some b =>
    have hne : 0 < m.br.length := List.length_pos_of_mem (List.mem_of_find?_eq_some hf)
    obtain ⟨bb, oo, hab, hrg⟩ := hv.b.rg hne
    obtain ⟨ab, aq, ac, ad, cb, cq, cc, cd, ts⟩ := p
    simp only at hab
    subst hab
    obtain ⟨P0, hP0⟩ : ∃ P0 : Ip, P0 = ⟨some ⟨bb, oo, none⟩, aq, ac, ad, cb, cq, cc, cd, ts⟩ := ⟨_, rfl⟩
    have HP0 := hide hP0
    have HF := hide (fun W (h : Below w.heap.size w W) => findBroker_yes m _ r.br W (hv.below h) hw b hf)
    have HLE := hide (fun W (h : Below w.heap.size w W) => Leads_any m _ r.br W (hv.below h) hw)
    have HPU := hide (fun W (h : Below w.heap.size w W) i (hi : i < m.br.length) => putB_old m.br (some ⟨bb, oo, none⟩) _ cb i ⟨r.br, r.ep, r.rk, true, false⟩ W rfl (hv.below h).b hi hw.nb)
    have HEL : Hid (∀ W, Below w.heap.size w W → ∀ i (hi : i < m.br.length), m.br[i] = b → W.cell? ⟨bb, oo + i * 5 + 1, none⟩ = some (.int .i64 b.ep)) := hide (fun W h i hi e => by
      have := rg_bel (fm_at encB hrg hi) h
      rw [e] at this
      exact this 1 _ rfl)
    rw [← hP0] at HV HVV HST
    clear hP0
    by_cases h1 : r.ep ≤ b.ep
    · have HRE : Hid (regB m r = (m, 11)) := hide (by unfold regB; rw [hf]; exact if_pos h1)
      rw [HRE.out]
      have hd : decide (b.ep ≥ r.ep) = true := decide_eq_true h1
      clear hv hw hf hcs hne hrg HPU HLE HRE
      unfold imv cellsR at *
      go_enter Tryz.func99, Tryz.ntmps99
      go_upto_region 2 with (go_at_call 39; refine (HF.out _ (below_al3 _ _ _ _)).mono ?_; rintro e w1 ⟨i, hi, hib, hins, _, _, _, rfl, hb1⟩; have HFR : Hid (Fr w m P0 cs imz w1) := hide (HST.out ▸ Fr.mk0 w m P0 _ _ _ _ (by rw [HP0.out]; exact hb1)); obtain ⟨i0, i1, i2, i3, i4⟩ := (HP0.out ▸ HFR.out.i).im; obtain ⟨r1, r2, r3⟩ := HCR.out _ _ _ _ HFR.out; have e1 := HEL.out _ HFR.out.b i hi hib; have hiI : (i : Int) < (m.br.length : Int) := Int.ofNat_lt.2 hi; have HIN := hide ((hins ⟨r.br, r.ep, r.rk, true, false⟩).symm.trans (putB_ins (b := ⟨r.br, r.ep, r.rk, true, false⟩) (id := r.br) rfl).symm); clear hb1 HF hins HST hib)
      go_quiet (fail)
      clear i0 i1 i2 i3 i4 r1 r2 r3 e1
      replace HFR := hide (HFR.out.drewN nq)
      generalize w1.drewN nq = w2 at HFR ⊢
      obtain ⟨i0, i1, i2, i3, i4⟩ := (HP0.out ▸ HFR.out.i).im
      obtain ⟨r1, r2, r3⟩ := HCR.out _ _ _ _ HFR.out
      go_wp2_with (first
        | (refine wpList_set rfl _ _ _ rfl _ _ rfl HFR.out.z (iml m P0) (by rw [HP0.out]; rfl) rfl (by kernel_rfl) rfl ?_; intro W3 hz hk hb hp; have HFO := hide (HFR.out.out hz hk hb); clear hz hk hb hp))
      obtain ⟨q0, q1, q2, q3, q4⟩ := HFO.out.z.im
      exact bodyPost_ret (v := .tuple #[.agg (iml m P0).toArray, .iface 71 (.int .i64 11)]) (by simp [results, Tryz.results99, go_sem, q0, q1, q2, q3, q4, iml]) rfl (st_ret HFO.out (fun W hW => HVV.out W _ HFO.out.b hW) (erc_code (by decide)))
    · have hd : decide (b.ep ≥ r.ep) = false := decide_eq_false h1
      cases hl : leads m.ts r.br with
      | true =>
        have HRE : Hid (regB m r = (m, 10)) := hide (by unfold regB; rw [hf]; dsimp only; rw [if_neg h1, if_pos hl])
        rw [HRE.out]
        rw [hl] at HLE
        clear hv hw hf hcs hne hrg HPU HRE hl
        unfold imv cellsR at *
        go_enter Tryz.func99, Tryz.ntmps99
        go_upto_region 2 with (go_at_call 39; refine (HF.out _ (below_al3 _ _ _ _)).mono ?_; rintro e w1 ⟨i, hi, hib, hins, _, _, _, rfl, hb1⟩; have HFR : Hid (Fr w m P0 cs imz w1) := hide (HST.out ▸ Fr.mk0 w m P0 _ _ _ _ (by rw [HP0.out]; exact hb1)); obtain ⟨i0, i1, i2, i3, i4⟩ := (HP0.out ▸ HFR.out.i).im; obtain ⟨r1, r2, r3⟩ := HCR.out _ _ _ _ HFR.out; have e1 := HEL.out _ HFR.out.b i hi hib; have hiI : (i : Int) < (m.br.length : Int) := Int.ofNat_lt.2 hi; have HIN := hide ((hins ⟨r.br, r.ep, r.rk, true, false⟩).symm.trans (putB_ins (b := ⟨r.br, r.ep, r.rk, true, false⟩) (id := r.br) rfl).symm); clear hb1 HF hins HST hib)
        go_quiet (fail)
        clear i0 i1 i2 i3 i4 r1 r2 r3 e1
        replace HFR := hide (HFR.out.drewN nq)
        generalize w1.drewN nq = w2 at HFR ⊢
        obtain ⟨i0, i1, i2, i3, i4⟩ := (HP0.out ▸ HFR.out.i).im
        obtain ⟨r1, r2, r3⟩ := HCR.out _ _ _ _ HFR.out
        go_wp2_with (first
          | (go_at_call 26; refine (HLE.out _ HFR.out.b).mono ?_; rintro e w4 ⟨rfl, hb4⟩; replace HFR := hide (HFR.out.below hb4); clear i0 i1 i2 i3 i4 r1 r2 r3 hb4; obtain ⟨i0, i1, i2, i3, i4⟩ := (HP0.out ▸ HFR.out.i).im; obtain ⟨r1, r2, r3⟩ := HCR.out _ _ _ _ HFR.out)
          | (refine wpList_set rfl _ _ _ rfl _ _ rfl HFR.out.z (iml m P0) (by rw [HP0.out]; rfl) rfl (by kernel_rfl) rfl ?_; intro W3 hz hk hb hp; have HFO := hide (HFR.out.out hz hk hb); clear hz hk hb hp))
        obtain ⟨q0, q1, q2, q3, q4⟩ := HFO.out.z.im
        exact bodyPost_ret (v := .tuple #[.agg (iml m P0).toArray, .iface 71 (.int .i64 10)]) (by simp [results, Tryz.results99, go_sem, q0, q1, q2, q3, q4, iml]) rfl (st_ret HFO.out (fun W hW => HVV.out W _ HFO.out.b hW) (erc_code (by decide)))
      | false =>
        have HRE : Hid (regB m r = ({ m with br := putB m.br ⟨r.br, r.ep, r.rk, true, false⟩ }, 0)) := hide (by unfold regB; rw [hf]; dsimp only; rw [if_neg h1, if_neg (by rw [hl]; decide)])
        rw [HRE.out]
        rw [hl] at HLE
        clear hv hw hf hcs hne hrg HRE hl
        unfold imv cellsR at *
        go_enter Tryz.func99, Tryz.ntmps99
        go_upto_region 2 with (go_at_call 39; refine (HF.out _ (below_al3 _ _ _ _)).mono ?_; rintro e w1 ⟨i, hi, hib, hins, _, _, _, rfl, hb1⟩; have HFR : Hid (Fr w m P0 cs imz w1) := hide (HST.out ▸ Fr.mk0 w m P0 _ _ _ _ (by rw [HP0.out]; exact hb1)); obtain ⟨i0, i1, i2, i3, i4⟩ := (HP0.out ▸ HFR.out.i).im; obtain ⟨r1, r2, r3⟩ := HCR.out _ _ _ _ HFR.out; have e1 := HEL.out _ HFR.out.b i hi hib; have hiI : (i : Int) < (m.br.length : Int) := Int.ofNat_lt.2 hi; have HIN := hide ((hins ⟨r.br, r.ep, r.rk, true, false⟩).symm.trans (putB_ins (b := ⟨r.br, r.ep, r.rk, true, false⟩) (id := r.br) rfl).symm); clear hb1 HF hins HST hib)
        go_quiet (fail)
        clear i0 i1 i2 i3 i4 r1 r2 r3 e1
        replace HFR := hide (HFR.out.drewN nq)
        generalize w1.drewN nq = w2 at HFR ⊢
        obtain ⟨i0, i1, i2, i3, i4⟩ := (HP0.out ▸ HFR.out.i).im
        obtain ⟨r1, r2, r3⟩ := HCR.out _ _ _ _ HFR.out
        go_wp2_with (first
          | (go_at_call 26; refine (HLE.out _ HFR.out.b).mono ?_; rintro e w4 ⟨rfl, hb4⟩; replace HFR := hide (HFR.out.below hb4); clear i0 i1 i2 i3 i4 r1 r2 r3 hb4; obtain ⟨i0, i1, i2, i3, i4⟩ := (HP0.out ▸ HFR.out.i).im; obtain ⟨r1, r2, r3⟩ := HCR.out _ _ _ _ HFR.out)
          | (go_at_call 125; refine (HPU.out _ HFR.out.b i hi).mono ?_; rintro e w3 ⟨v, rfl, hro, hb3⟩; rw [HIN.out] at hro; obtain ⟨av, cv, rfl⟩ := hro.form; have HRO := hide (hro.mono HFR.out.sz); replace HFR := hide (HFR.out.below hb3); have HBX := hide hb3; clear hro hb3 HPU i0 i1 i2 i3 i4 r1 r2 r3; obtain ⟨i0, i1, i2, i3, i4⟩ := HFR.out.i.im; have f0 := HFR.out.f 0 (by decide); have HFS := hide (HFR.out.set 0 (.slice av (putB m.br ⟨r.br, r.ep, r.rk, true, false⟩).length cv) { m with br := putB m.br ⟨r.br, r.ep, r.rk, true, false⟩ } { P0 with ab := av, cb := cv } (by decide) (by rw [HP0.out]; rfl)))
          | (refine wpList_set rfl _ _ _ rfl _ _ rfl HFS.out.z (iml { m with br := putB m.br ⟨r.br, r.ep, r.rk, true, false⟩ } { P0 with ab := av, cb := cv }) (by rw [HP0.out]; rfl) rfl (by kernel_rfl) rfl ?_; intro W3 hz hk hb hp; have HFO := hide (HFS.out.out hz hk hb); have HRS := hide (fun W (hW : Agr n0 w.heap.size W3 W) => (HRO.out.keepG (fun g hg => (hW g (.inr (by omega))).trans ((hp g (by omega)).trans (Below.heap_setCell _ _ _ _ (show ¬ g = w.heap.size by omega))))).rs); clear hz hk hb hp))
        obtain ⟨q0, q1, q2, q3, q4⟩ := HFO.out.z.im
        exact bodyPost_ret (v := .tuple #[.agg (iml { m with br := putB m.br ⟨r.br, r.ep, r.rk, true, false⟩ } { P0 with ab := av, cb := cv }).toArray, .nilIface]) (by simp [results, Tryz.results99, go_sem, q0, q1, q2, q3, q4, iml]) rfl (st_ret HFO.out (fun W hW => (HVV.out W _ HFO.out.b hW).setB (HRS.out W hW)) erc_nil)
end Go.Proofs.YtfnemlbkmhcodaaGreat
