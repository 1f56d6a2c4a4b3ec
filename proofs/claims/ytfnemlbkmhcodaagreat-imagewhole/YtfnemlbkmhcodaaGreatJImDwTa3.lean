/-
  ONE THAT IS TAKEN OUT OF A ROW (slices.Concat of two, image.without). Conditions: the cells hold it, no more than a hundred thousand.
  A TOPIC IS GONE, AND ITS SETTINGS (image.drop). Conditions: an image in order, its lists no longer than a hundred thousand.
  ONE THAT IS PUT AT A PLACE (image.put), ahead of what is there, or in its stead. Conditions: the cells hold them, no more than a hundred thousand.
-/
import Derived.Test.YtfnemlbkmhcodaaGreatJImCha3
import Derived.Test.YtfnemlbkmhcodaaGreatJImXa3
import Derived.Test.YtfnemlbkmhcodaaGreatJImDda3
import Derived.Test.YtfnemlbkmhcodaaGreatJImDpTa3
namespace Go.Proofs.YtfnemlbkmhcodaaGreat
open Go.RowKit


set_option maxRecDepth 100000 in
set_option maxHeartbeats 8000000 in
theorem concT_2 (v1 v2 : Value) (l1 l2 : List Tq) (B : Nat) (w : World) (hB : Bx w B [v1, v2]) (h1 : Rs tpc w v1 l1) (h2 : Rs tpc w v2 l2) (hl1 : l1.length ≤ 200000) (hl2 : l2.length ≤ 200000) :
    Calls Tryz.prog 145 #[.slice (some ⟨B, 0, none⟩) 2 2] w fun e w' => ∃ v, e = .returned v ∧ Ro tpc 3 38 w' w.heap.size v (l1 ++ l2) ∧ Below w.heap.size w w' := by
  have HG := hide (fun n hn => growT_any n w hn)
  obtain ⟨a1, c1, rfl⟩ := h1.form
  obtain ⟨a2, c2, rfl⟩ := h2.form
  have HB := hide (fun W (h : Below w.heap.size w W) => (hB.below h).c2)
  have H1 := hide (fun W (h : Below w.heap.size w W) => h1.below h)
  have H2 := hide (fun W (h : Below w.heap.size w W) => h2.below h)
  obtain ⟨b0, b1⟩ := hB.c2
  have hbl := hB.l
  clear h1 h2 hB
  go_enter Tryz.func145, Tryz.ntmps145
  go_wp2_with fail
  refine wp_loop_rounds 3 ?_
  rw [rounds_succ]
  go_wp2_with fail
  rw [rounds_succ]
  go_wp2_with fail
  rw [rounds_succ]
  have HN : Hid (((l1.length : Int) + l2.length) = ((l1.length + l2.length : Nat) : Int)) := hide (by omega)
  have HK : Hid (l1.length + l2.length ≤ 1000000) := hide (by omega)
  go_wp2_with (go_at_call 159; first | rw [HN.out] | skip; refine (HG.out _ HK.out).mono ?_; rintro e w1 ⟨v, rfl, hr, hb⟩; obtain ⟨d0, d1⟩ := HB.out _ hb; have HR := hide hr; have HBl := hide hb; clear hr hb HG b0 b1)
  refine wp_loop_rounds 3 ?_
  rw [rounds_succ]
  go_wp2_with (at_builtin; refine wpList_appR tyiT encT _ rfl _ _ rfl w.heap.size _ [] rfl HR.out HBl.out.size _ l1 rfl (H1.out _ HBl.out) (by rw [List.length_nil]; omega) ?_; intro v1 w2 hr _ hb; rw [List.nil_append] at hr; obtain ⟨d0, d1⟩ := HB.out _ (HBl.out.trans hb); replace HR := hide hr; replace HBl := hide (HBl.out.trans hb); clear hr hb)
  rw [rounds_succ]
  go_wp2_with (at_builtin; refine wpList_appR tyiT encT _ rfl _ _ rfl w.heap.size _ l1 rfl HR.out HBl.out.size _ l2 rfl (H2.out _ HBl.out) (by omega) ?_; intro v2 w3 hr _ hb; obtain ⟨d0, d1⟩ := HB.out _ (HBl.out.trans hb); replace HR := hide hr; replace HBl := hide (HBl.out.trans hb); clear hr hb)
  rw [rounds_succ]
  go_wp2_with fail
  go_ret
  exact ⟨_, rfl, HR.out, HBl.out⟩

theorem infoST : (Tryz.prog.info? 38).map (fun i => i.size) = some 3 := by kernel_rfl
set_option maxRecDepth 100000 in
set_option maxHeartbeats 8000000 in
theorem woT_any (l : List Tq) (ao : Option Addr) (n cap i : Nat) (w : World) (hn : n = l.length) (hv : Rs tpc w (.slice ao n cap) l) (hi : i < l.length) (hl : l.length ≤ 100000) :
    Calls Tryz.prog 134 #[.slice ao n cap, .int .i64 (i : Int)] w fun e w' => ∃ v, e = .returned v ∧ Ro tpc 3 38 w' w.heap.size v (l.take i ++ l.drop (i + 1)) ∧ Below w.heap.size w w' := by
  subst hn
  obtain ⟨bb, oo, rfl, hrg⟩ := hv.rg (by omega)
  have hu := fun W => upto_run tyiT (some ⟨bb, oo, none⟩) l.length cap i (Nat.le_of_lt hi) hv.cap.2 W
  have hcap := hv.cap.2
  have h0 : ¬ ((i : Int) + 1 < 0) := by omega
  have hwr : IntKind.i64.wrap ((i : Int) + 1) = (i : Int) + 1 := by rw [IntKind.wrap_i64]; omega
  have h00 : (0 : Int) ≤ (i : Int) + 1 := by omega
  have h1 : (i : Int) + 1 ≤ (l.length : Int) := by omega
  have hd : ∀ (ao' : Option Addr), (¬ cap = i + 1 → ao' = some ⟨bb, oo + (i + 1) * 3, none⟩) → ∀ W, Below w.heap.size w W → Rs tpc W (.slice ao' (l.length - (i + 1)) (cap - (i + 1))) (l.drop (i + 1)) := fun ao' hao W hb => by
    have := (hv.below hb).part encT (i + 1) l.length hi (Nat.le_refl _) ao' (fun q b o e => by cases e; rw [hao (by omega)])
    rwa [List.take_of_length_le (by rw [List.length_drop]; omega)] at this
  have HC : Hid (∀ (ao' : Option Addr), (¬ cap = i + 1 → ao' = some ⟨bb, oo + (i + 1) * 3, none⟩) → ∀ (n1 n2 : Nat), n1 = l.length - (i + 1) → n2 = cap - (i + 1) → ∀ U, Calls Tryz.prog 145 #[.slice (some ⟨w.heap.size, 0, none⟩) 2 2] (w.alloc (.cells #[.slice (some ⟨bb, oo, none⟩) i cap, .slice ao' n1 n2] U)).drew fun e w' => ∃ v, e = .returned v ∧ Ro tpc 3 38 w' w.heap.size v (l.take i ++ l.drop (i + 1)) ∧ Below w.heap.size w w') := hide (fun ao' hao n1 n2 e1 e2 U => by
    subst e1 e2
    obtain ⟨p1, p3⟩ := wo_frame w U (.slice (some ⟨bb, oo, none⟩) i cap) (.slice ao' (l.length - (i + 1)) (cap - (i + 1)))
    refine (concT_2 _ _ (l.take i) (l.drop (i + 1)) _ _ p1 ((hv.below p3).upto encT i (Nat.le_of_lt hi)) (hd ao' hao _ p3) (by rw [List.length_take]; omega) (by rw [List.length_drop]; omega)).mono ?_
    rintro e w1 ⟨v, rfl, hr, hb⟩
    exact ⟨v, rfl, hr.mono p3.size, bt p3 hb⟩)
  have hcap := hv.cap.2
  clear hv hd hrg hu
  by_cases hce : cap = i + 1
  · subst hce
    go_enter Tryz.func134, Tryz.ntmps134
    go_upto_region 1 with fail
    go_region_with (go_at_call 145; refine (HC.out _ (by simp) _ _ (by omega) (by omega) _).mono ?_; rintro e w1 ⟨v, rfl, hr, hb⟩; have HR := hide hr; have HB := hide hb; clear hr hb)
    all_goals
      go_wp2_with fail
      go_ret
      exact ⟨_, rfl, HR.out, HB.out⟩
  · have hce2 : ¬ cap - (i + 1) = 0 := by omega
    have hce3 : ¬ cap ≤ i + 1 := by omega
    go_enter Tryz.func134, Tryz.ntmps134
    go_upto_region 1 with fail
    go_region_with (go_at_call 145; refine (HC.out _ (fun _ => rfl) _ _ (by omega) (by omega) _).mono ?_; rintro e w1 ⟨v, rfl, hr, hb⟩; have HR := hide hr; have HB := hide hb; clear hr hb)
    all_goals
      go_wp2_with fail
      go_ret
      exact ⟨_, rfl, HR.out, HB.out⟩
end Go.Proofs.YtfnemlbkmhcodaaGreat
namespace Go.Proofs.YtfnemlbkmhcodaaGreat
open Go.RowKit

set_option maxRecDepth 100000 in
set_option maxHeartbeats 16000000 in
theorem drop_any {ok : Nat → Prop} (m : Im) (p : Ip) (r : Rc) (v : Value) (w : World) (n0 : Nat → Prop) (hn0 : ∀ g, n0 g → g < w.heap.size) (hv : ∀ W, (∀ g, n0 g → W.heap[g]? = w.heap[g]?) → ImR W m p) (hw : Wf m 100000) (hr : IsR ok w v r) : Calls Tryz.prog 104 #[imv m p, v] w fun e w' => StP n0 w w' (drpT m r).1 (drpT m r).2 e := by
  obtain ⟨a14, a15, a16, a17, c14, c15, c16, c17, rfl, hrw⟩ := hr
  have HVV := hide (fun (W W3 : World) (hb : Below w.heap.size w W3) (hW : Agr n0 w.heap.size W3 W) => hv W (fun g hg => (hW g (.inl hg)).trans (hb.block g (hn0 g hg))))
  clear hn0
  replace hv : ImR w m p := hv w (fun _ _ => rfl)
  have HV := hide (fun W (h : Below w.heap.size w W) => hv.below h)
  have HFN := hide (hv.fT r.tp)
  cases hf : p.ts.find? (idQ r.tp) with
  | none =>
    have HFT := hide (fun W (h : Below w.heap.size w W) => findTopic_no m p r.tp W (hv.below h) hw hf)
    have HRE : Hid (drpT m r = (m, 8)) := hide (by unfold drpT; rw [HFN.out, hf]; rfl)
    rw [HRE.out]
    have HFR0 : Fr w m p (cellsR r a14 a15 a16 a17 c14 c15 c16 c17) imz (((w.alloc (.cells (List.toArray [Value.slice p.ab m.br.length p.cb, .slice p.aq p.ts.length p.cq, .slice p.ac m.cf.length p.cc, .slice p.ad m.dn.length p.cd, .int .i64 m.la]) 30)).alloc (.cells (List.toArray [Value.int .i64 r.k, .int .i64 r.br, .int .i64 r.ep, .int .i64 r.tp, .int .i64 r.pa, .int .i64 r.le, .int .i64 r.cl, .int .i64 r.se, .int .i64 r.co, .bool r.fl, .string ⟨r.nm.toArray⟩, .string ⟨r.ky.toArray⟩, .string ⟨r.va.toArray⟩, .string ⟨r.rk.toArray⟩, .slice a14 r.ids.length c14, .slice a15 r.isr.length c15, .slice a16 r.ad.length c16, .slice a17 r.dr.length c17]) 62)).alloc (.cells (List.toArray [Value.slice none 0 0, .slice none 0 0, .slice none 0 0, .slice none 0 0, .int .i64 0]) 30)) := Fr.mk0 w m p _ _ _ _ (Below.refl _ _)
    clear hv hw hrw hf
    unfold imv
    show Calls _ _ #[_, .agg (List.toArray [.int .i64 r.k, .int .i64 r.br, .int .i64 r.ep, .int .i64 r.tp, .int .i64 r.pa, .int .i64 r.le, .int .i64 r.cl, .int .i64 r.se, .int .i64 r.co, .bool r.fl, .string ⟨r.nm.toArray⟩, .string ⟨r.ky.toArray⟩, .string ⟨r.va.toArray⟩, .string ⟨r.rk.toArray⟩, .slice a14 r.ids.length c14, .slice a15 r.isr.length c15, .slice a16 r.ad.length c16, .slice a17 r.dr.length c17])] _ _
    go_enter Tryz.func104, Tryz.ntmps104
    go_upto_region 1 with fail
    generalize ((w.alloc (.cells (List.toArray [Value.slice p.ab m.br.length p.cb, .slice p.aq p.ts.length p.cq, .slice p.ac m.cf.length p.cc, .slice p.ad m.dn.length p.cd, .int .i64 m.la]) 30)).alloc (.cells (List.toArray [Value.int .i64 r.k, .int .i64 r.br, .int .i64 r.ep, .int .i64 r.tp, .int .i64 r.pa, .int .i64 r.le, .int .i64 r.cl, .int .i64 r.se, .int .i64 r.co, .bool r.fl, .string ⟨r.nm.toArray⟩, .string ⟨r.ky.toArray⟩, .string ⟨r.va.toArray⟩, .string ⟨r.rk.toArray⟩, .slice a14 r.ids.length c14, .slice a15 r.isr.length c15, .slice a16 r.ad.length c16, .slice a17 r.dr.length c17]) 62)).alloc (.cells (List.toArray [Value.slice none 0 0, .slice none 0 0, .slice none 0 0, .slice none 0 0, .int .i64 0]) 30) = X at HFR0 ⊢
    have HFR := hide HFR0
    clear HFR0
    obtain ⟨i0, i1, i2, i3, i4⟩ := HFR.out.i.im; have r3 := HFR.out.r.at 3 _ rfl
    unfold imv at HFT
    go_wp2_with (first | (go_at_call 41; refine (HFT.out _ HFR.out.b).mono ?_; rintro e wx ⟨i9, _, _, rfl, hbx⟩;  replace HFR := hide (HFR.out.below hbx); clear i0 i1 i2 i3 i4 r3; clear hbx HFT; obtain ⟨i0, i1, i2, i3, i4⟩ := HFR.out.i.im; have r3 := HFR.out.r.at 3 _ rfl) | (refine wpList_set rfl _ _ _ rfl _ _ rfl HFR.out.z (iml m p) rfl rfl (by kernel_rfl) rfl ?_; intro W3 hz hk hb hp; have HFO := hide (HFR.out.out hz hk hb); clear hz hk hb hp))
    obtain ⟨q0, q1, q2, q3, q4⟩ := HFO.out.z.im
    exact bodyPost_ret (v := .tuple #[.agg (iml m p).toArray, .iface 71 (.int .i64 8)]) (by simp [results, Tryz.results104, go_sem, q0, q1, q2, q3, q4, iml]) rfl (st_ret HFO.out (fun W hW => HVV.out W _ HFO.out.b hW) (erc_code (by decide)))
  | some q =>
    have HFT := hide (fun W (h : Below w.heap.size w W) => findTopic_yes m p r.tp W (hv.below h) hw q hf)
    obtain ⟨L1, hL1⟩ : ∃ L, L = p.ts.filter fun t => !idQ r.tp t := ⟨_, rfl⟩
    obtain ⟨L2, hL2⟩ : ∃ L, L = m.cf.filter fun c => !(c.tp == r.tp) := ⟨_, rfl⟩
    obtain ⟨T1, hT1⟩ : ∃ T, T = m.ts.filter fun t => !idT r.tp t := ⟨_, rfl⟩
    have HTL : Hid (L1.map Tq.tp = T1) := hide (by rw [hL1, hT1, ← hv.e, List.filter_map]; rfl)
    have HMQ : Hid (∀ t ∈ L1, t ∈ p.ts) := hide (fun t ht => by rw [hL1] at ht; exact (List.mem_filter.1 ht).1)
    have HRE : Hid (drpT m r = ({ m with ts := T1, cf := L2 }, 0)) := hide (by unfold drpT; rw [HFN.out, hf, hL2, hT1]; rfl)
    rw [HRE.out]
    have HLT : Hid (remO (fun x : Tq => cmpN x.id r.tp) p.ts = L1) := hide (by rw [hL1, remQ_rem])
    have HWO := hide (fun W (h : Below w.heap.size w W) i (hi : i < p.ts.length) => woT_any p.ts p.aq _ p.cq i W rfl (hv.below h).t hi (by rw [hv.len]; exact hw.nt))
    have HCL := hide (fun W (h : Below w.heap.size w W) => cloneC_any m.cf p.ac _ p.cc W rfl (hv.below h).c hw.nc)
    have HNC := hide hw.nc
    have HL2 := hide hL2
    clear hL1 hL2 hT1
    have HFR0 : Fr w m p (cellsR r a14 a15 a16 a17 c14 c15 c16 c17) imz (((w.alloc (.cells (List.toArray [Value.slice p.ab m.br.length p.cb, .slice p.aq p.ts.length p.cq, .slice p.ac m.cf.length p.cc, .slice p.ad m.dn.length p.cd, .int .i64 m.la]) 30)).alloc (.cells (List.toArray [Value.int .i64 r.k, .int .i64 r.br, .int .i64 r.ep, .int .i64 r.tp, .int .i64 r.pa, .int .i64 r.le, .int .i64 r.cl, .int .i64 r.se, .int .i64 r.co, .bool r.fl, .string ⟨r.nm.toArray⟩, .string ⟨r.ky.toArray⟩, .string ⟨r.va.toArray⟩, .string ⟨r.rk.toArray⟩, .slice a14 r.ids.length c14, .slice a15 r.isr.length c15, .slice a16 r.ad.length c16, .slice a17 r.dr.length c17]) 62)).alloc (.cells (List.toArray [Value.slice none 0 0, .slice none 0 0, .slice none 0 0, .slice none 0 0, .int .i64 0]) 30)) := Fr.mk0 w m p _ _ _ _ (Below.refl _ _)
    clear hv hw hrw hf
    unfold imv
    show Calls _ _ #[_, .agg (List.toArray [.int .i64 r.k, .int .i64 r.br, .int .i64 r.ep, .int .i64 r.tp, .int .i64 r.pa, .int .i64 r.le, .int .i64 r.cl, .int .i64 r.se, .int .i64 r.co, .bool r.fl, .string ⟨r.nm.toArray⟩, .string ⟨r.ky.toArray⟩, .string ⟨r.va.toArray⟩, .string ⟨r.rk.toArray⟩, .slice a14 r.ids.length c14, .slice a15 r.isr.length c15, .slice a16 r.ad.length c16, .slice a17 r.dr.length c17])] _ _
    go_enter Tryz.func104, Tryz.ntmps104
    go_upto_region 1 with fail
    generalize ((w.alloc (.cells (List.toArray [Value.slice p.ab m.br.length p.cb, .slice p.aq p.ts.length p.cq, .slice p.ac m.cf.length p.cc, .slice p.ad m.dn.length p.cd, .int .i64 m.la]) 30)).alloc (.cells (List.toArray [Value.int .i64 r.k, .int .i64 r.br, .int .i64 r.ep, .int .i64 r.tp, .int .i64 r.pa, .int .i64 r.le, .int .i64 r.cl, .int .i64 r.se, .int .i64 r.co, .bool r.fl, .string ⟨r.nm.toArray⟩, .string ⟨r.ky.toArray⟩, .string ⟨r.va.toArray⟩, .string ⟨r.rk.toArray⟩, .slice a14 r.ids.length c14, .slice a15 r.isr.length c15, .slice a16 r.ad.length c16, .slice a17 r.dr.length c17]) 62)).alloc (.cells (List.toArray [Value.slice none 0 0, .slice none 0 0, .slice none 0 0, .slice none 0 0, .int .i64 0]) 30) = X at HFR0 ⊢
    have HFR := hide HFR0
    clear HFR0
    obtain ⟨i0, i1, i2, i3, i4⟩ := HFR.out.i.im; have r3 := HFR.out.r.at 3 _ rfl
    unfold imv at HFT
    go_upto_region 5 with (first | (go_at_call 41; refine (HFT.out _ HFR.out.b).mono ?_; rintro e wx ⟨i, hi, _, _, hrem, _, _, rfl, hbx⟩; have HRM := hide hrem.symm; clear hrem; replace HFR := hide (HFR.out.below hbx); clear i0 i1 i2 i3 i4 r3; clear hbx HFT; obtain ⟨i0, i1, i2, i3, i4⟩ := HFR.out.i.im; have r3 := HFR.out.r.at 3 _ rfl) | (go_at_call 134; refine (HWO.out _ HFR.out.b i hi).mono ?_; rintro e w3 ⟨v, rfl, hro, hb3⟩; rw [HRM.out, HLT.out] at hro; obtain ⟨av, cv, rfl⟩ := hro.form; have HRO := hide (hro.mono HFR.out.sz); replace HFR := hide (HFR.out.below hb3); clear hro hb3 HWO; clear i0 i1 i2 i3 i4 r3; obtain ⟨i0, i1, i2, i3, i4⟩ := HFR.out.i.im; have r3 := HFR.out.r.at 3 _ rfl; have f1 := HFR.out.f 1 (by decide)))
    have HFS := hide (HFR.out.set 1 (.slice av L1.length cv) { m with ts := T1 } { p with aq := av, cq := cv, ts := L1 } (by decide) rfl)
    replace HRO := hide (HRO.out.keepG (W' := w3.setCell ⟨w.heap.size, 1, none⟩ (.slice av L1.length cv)) (fun g hg => Below.heap_setCell _ _ _ _ (show ¬ g = w.heap.size by omega)))
    clear f1 HFR i0 i1 i2 i3 i4 r3
    generalize w3.setCell ⟨w.heap.size, 1, none⟩ (.slice av L1.length cv) = X3 at HFS HRO ⊢
    have HFR := hide HFS.out
    clear HFS
    obtain ⟨i0, i1, i2, i3, i4⟩ := HFR.out.i.im; have r3 := HFR.out.r.at 3 _ rfl
    go_wp2_with (first | (go_at_call 60; refine (HCL.out _ HFR.out.b).mono ?_; rintro e w4 ⟨v2, rfl, hro2, hb4⟩; have HSZ := hide HFR.out.sz; have HR2 := hide hro2; have HFR3 := hide HFR.out; have HB34 := hide hb4; replace HFR := hide (HFR.out.below hb4); have HDF := hide (delf_own m.cf v2 _ (w.heap.size + 1) r.tp w4 HR2.out (HFR.out.r.at 3 _ rfl) (Nat.lt_of_succ_lt HSZ.out) hb4.size HNC.out); have HB4 := hide hb4.size; clear i0 i1 i2 i3 i4 r3 hro2 hb4 HCL; obtain ⟨i0, i1, i2, i3, i4⟩ := HFR.out.i.im; have r3 := HFR.out.r.at 3 _ rfl) | (go_at_call 135; refine HDF.out.mono ?_; rintro e w5 ⟨v3, rfl, hrg, hb5⟩; rw [← HL2.out] at hrg; obtain ⟨av2, cv2, rfl⟩ := hrg.form; have HRG := hide (hrg.mono HSZ.out); replace HFR := hide (HFR3.out.below (HB34.out.trans hb5)); replace HRO := hide (HRO.out.below (HB34.out.trans hb5)); clear HDF hrg i0 i1 i2 i3 i4 r3 hb5; obtain ⟨i0, i1, i2, i3, i4⟩ := HFR.out.i.im; have f2 := HFR.out.f 2 (by decide); have HFS := hide (HFR.out.set 2 (.slice av2 L2.length cv2) { m with ts := T1, cf := L2 } { p with aq := av, cq := cv, ts := L1, ac := av2, cc := cv2 } (by decide) rfl)) | (refine wpList_set rfl _ _ _ rfl _ _ rfl HFS.out.z (iml { m with ts := T1, cf := L2 } { p with aq := av, cq := cv, ts := L1, ac := av2, cc := cv2 }) rfl rfl (by kernel_rfl) rfl ?_; intro W3 hz hk hb hp; have HFO := hide (HFS.out.out hz hk hb); have HRS := hide (fun W (hW : Agr n0 w.heap.size W3 W) => (HRO.out.keepG (fun g hg => (hW g (.inr (by omega))).trans ((hp g (by omega)).trans (Below.heap_setCell _ _ _ _ (show ¬ g = w.heap.size by omega))))).rs); have HRC := hide (fun W (hW : Agr n0 w.heap.size W3 W) => (HRG.out.keepG (fun g hg => (hW g (.inr (by omega))).trans ((hp g (by omega)).trans (Below.heap_setCell _ _ _ _ (show ¬ g = w.heap.size by omega))))).rs); clear hz hk hb hp))
    obtain ⟨q0, q1, q2, q3, q4⟩ := HFO.out.z.im
    exact bodyPost_ret (v := .tuple #[.agg (iml { m with ts := T1, cf := L2 } { p with aq := av, cq := cv, ts := L1, ac := av2, cc := cv2 }).toArray, .nilIface]) (by simp [results, Tryz.results104, go_sem, q0, q1, q2, q3, q4, iml]) rfl (st_ret HFO.out (fun W hW => ⟨(HVV.out W _ HFO.out.b hW).b, (HRS.out W hW), fun t ht => (HVV.out W _ HFO.out.b hW).q t (HMQ.out t ht), HTL.out, (HRC.out W hW), (HVV.out W _ HFO.out.b hW).d⟩) erc_nil)
end Go.Proofs.YtfnemlbkmhcodaaGreat
namespace Go.Proofs.YtfnemlbkmhcodaaGreat
open Go.RowKit


set_option maxRecDepth 100000 in
set_option maxHeartbeats 8000000 in
theorem putC_new (l : List Cf) (ao : Option Addr) (n cap i : Nat) (x : Cf) (w : World) (hn : n = l.length) (hv : Rs cfc w (.slice ao n cap) l) (hi : i ≤ l.length) (hl : l.length ≤ 100000) :
    Calls Tryz.prog 133 #[.slice ao n cap, .int .i64 (i : Int), .bool false, .agg (cfc x).toArray] w fun e w' => ∃ v, e = .returned v ∧ Ro cfc 3 82 w' w.heap.size v (l.take i ++ x :: l.drop i) ∧ Below w.heap.size w w' := by
  subst hn
  obtain ⟨ao', hr, hd⟩ := hv.from tyiC encC i hi
  have hu := fun W => upto_run tyiC ao l.length cap i hi hv.cap.2 W
  have HP := hide (fun o1 T U => put_frame (f := cfc) w o1 x T U (.slice ao i cap) (.slice ao' (l.length - i) (cap - i)))
  have HC := hide (fun W (hb : Below w.heap.size w W) (hB : Bx W (w.heap.size + 1 + 1) [.slice ao i cap, .slice (some ⟨w.heap.size + 1, 0, none⟩) 1 1, .slice ao' (l.length - i) (cap - i)]) (hx : Rs cfc W (.slice (some ⟨w.heap.size + 1, 0, none⟩) 1 1) [x]) => concC_3 _ _ _ (l.take i) [x] (l.drop i) _ W hB ((hv.below hb).upto encC i hi) hx (hd W hb) (by rw [List.length_take]; omega) (by simp) (by rw [List.length_drop]; omega))
  have HE : Hid (l.take i ++ [x] ++ l.drop i = l.take i ++ x :: l.drop i) := hide (by simp)
  clear hv hd
  unfold cfc at *
  go_enter Tryz.func133, Tryz.ntmps133
  go_upto_region 4 with fail
  go_region_with (go_at_call 152; obtain ⟨p1, p2, p3⟩ := HP.out _ _ _; refine (HC.out _ p3 p1 p2).mono ?_; rintro e w1 ⟨v, rfl, hr, hb⟩; rw [HE.out] at hr; have HR := hide (hr.mono p3.size); have HB := hide (bt p3 hb); clear hr hb p1 p2 p3)
  all_goals
    go_wp2_with fail
    go_ret
    exact ⟨_, rfl, HR.out, HB.out⟩
set_option maxRecDepth 100000 in
set_option maxHeartbeats 8000000 in
theorem putC_old (l : List Cf) (ao : Option Addr) (n cap i : Nat) (x : Cf) (w : World) (hn : n = l.length) (hv : Rs cfc w (.slice ao n cap) l) (hi : i < l.length) (hl : l.length ≤ 100000) :
    Calls Tryz.prog 133 #[.slice ao n cap, .int .i64 (i : Int), .bool true, .agg (cfc x).toArray] w fun e w' => ∃ v, e = .returned v ∧ Ro cfc 3 82 w' w.heap.size v (l.take i ++ x :: l.drop (i + 1)) ∧ Below w.heap.size w w' := by
  subst hn
  obtain ⟨ao', hr, hd⟩ := hv.from tyiC encC i (Nat.le_of_lt hi)
  have hdl : (l.drop i).length = l.length - i := List.length_drop
  obtain ⟨ao2, hr2, hd2⟩ := (show Rs cfc w (.slice ao' (l.drop i).length (cap - i)) (l.drop i) from hdl ▸ hd w (Below.refl _ _)).from tyiC encC 1 (by omega)
  rw [hdl] at hr2 hd2
  have hdd : (l.drop i).drop 1 = l.drop (i + 1) := by rw [List.drop_drop]
  rw [hdd] at hd2
  have hu := fun W => upto_run tyiC ao l.length cap i (Nat.le_of_lt hi) hv.cap.2 W
  replace hr2 : ∀ W, (Instr.slice 27 (.slice ao' (l.length - i) (cap - i)) (some (.int .i64 1)) none none).run Tryz.prog W = .ok (.slice ao2 (l.length - i - 1) (cap - i - 1)) W := hr2
  have HP := hide (fun o1 T U => put_frame (f := cfc) w o1 x T U (.slice ao i cap) (.slice ao2 (l.length - i - 1) (cap - i - 1)))
  have HC := hide (fun W (hb : Below w.heap.size w W) (hB : Bx W (w.heap.size + 1 + 1) [.slice ao i cap, .slice (some ⟨w.heap.size + 1, 0, none⟩) 1 1, .slice ao2 (l.length - i - 1) (cap - i - 1)]) (hx : Rs cfc W (.slice (some ⟨w.heap.size + 1, 0, none⟩) 1 1) [x]) => concC_3 _ _ _ (l.take i) [x] (l.drop (i + 1)) _ W hB ((hv.below hb).upto encC i (Nat.le_of_lt hi)) hx (hd2 W hb) (by rw [List.length_take]; omega) (by simp) (by rw [List.length_drop]; omega))
  have HE : Hid (l.take i ++ [x] ++ l.drop (i + 1) = l.take i ++ x :: l.drop (i + 1)) := hide (by simp)
  clear hv hd hd2 hdl hdd
  unfold cfc at *
  go_enter Tryz.func133, Tryz.ntmps133
  go_upto_region 4 with fail
  go_region_with (go_at_call 152; obtain ⟨p1, p2, p3⟩ := HP.out _ _ _; refine (HC.out _ p3 p1 p2).mono ?_; rintro e w1 ⟨v, rfl, hr, hb⟩; rw [HE.out] at hr; have HR := hide (hr.mono p3.size); have HB := hide (bt p3 hb); clear hr hb p1 p2 p3)
  all_goals
    go_wp2_with fail
    go_ret
    exact ⟨_, rfl, HR.out, HB.out⟩
end Go.Proofs.YtfnemlbkmhcodaaGreat
