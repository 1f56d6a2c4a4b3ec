/-
  ONE THAT IS TAKEN OUT OF A ROW (slices.Concat of two, image.without). Conditions: the cells hold it, no more than a hundred thousand.
  A SETTING IS MADE, TURNED, TAKEN AWAY (image.configure). Conditions: an image in order, its lists no longer than a hundred thousand.
  MANY ROWS AS ONE (slices.Grow, slices.Concat). Conditions: their cells hold them, no more than two hundred thousand each.
-/
import Derived.Test.YtfnemlbkmhcodaaGreatJImDpTa3
import Derived.Test.YtfnemlbkmhcodaaGreatJImXa3
import Derived.Test.YtfnemlbkmhcodaaGreatJImCha3
import Derived.Test.YtfnemlbkmhcodaaGreatJImDda3
import Derived.Test.YtfnemlbkmhcodaaGreatJImDwTa3
namespace Go.Proofs.YtfnemlbkmhcodaaGreat
open Go.RowKit


set_option maxRecDepth 100000 in
set_option maxHeartbeats 8000000 in
theorem concC_2 (v1 v2 : Value) (l1 l2 : List Cf) (B : Nat) (w : World) (hB : Bx w B [v1, v2]) (h1 : Rs cfc w v1 l1) (h2 : Rs cfc w v2 l2) (hl1 : l1.length ≤ 200000) (hl2 : l2.length ≤ 200000) :
    Calls Tryz.prog 152 #[.slice (some ⟨B, 0, none⟩) 2 2] w fun e w' => ∃ v, e = .returned v ∧ Ro cfc 3 82 w' w.heap.size v (l1 ++ l2) ∧ Below w.heap.size w w' := by
  have HG := hide (fun n hn => growC_any n w hn)
  obtain ⟨a1, c1, rfl⟩ := h1.form
  obtain ⟨a2, c2, rfl⟩ := h2.form
  have HB := hide (fun W (h : Below w.heap.size w W) => (hB.below h).c2)
  have H1 := hide (fun W (h : Below w.heap.size w W) => h1.below h)
  have H2 := hide (fun W (h : Below w.heap.size w W) => h2.below h)
  obtain ⟨b0, b1⟩ := hB.c2
  have hbl := hB.l
  clear h1 h2 hB
  go_enter Tryz.func152, Tryz.ntmps152
  go_wp2_with fail
  refine wp_loop_rounds 3 ?_
  rw [rounds_succ]
  go_wp2_with fail
  rw [rounds_succ]
  go_wp2_with fail
  rw [rounds_succ]
  have HN : Hid (((l1.length : Int) + l2.length) = ((l1.length + l2.length : Nat) : Int)) := hide (by omega)
  have HK : Hid (l1.length + l2.length ≤ 1000000) := hide (by omega)
  go_wp2_with (go_at_call 162; first | rw [HN.out] | skip; refine (HG.out _ HK.out).mono ?_; rintro e w1 ⟨v, rfl, hr, hb⟩; obtain ⟨d0, d1⟩ := HB.out _ hb; have HR := hide hr; have HBl := hide hb; clear hr hb HG b0 b1)
  refine wp_loop_rounds 3 ?_
  rw [rounds_succ]
  go_wp2_with (at_builtin; refine wpList_appR tyiC encC _ rfl _ _ rfl w.heap.size _ [] rfl HR.out HBl.out.size _ l1 rfl (H1.out _ HBl.out) (by rw [List.length_nil]; omega) ?_; intro v1 w2 hr _ hb; rw [List.nil_append] at hr; obtain ⟨d0, d1⟩ := HB.out _ (HBl.out.trans hb); replace HR := hide hr; replace HBl := hide (HBl.out.trans hb); clear hr hb)
  rw [rounds_succ]
  go_wp2_with (at_builtin; refine wpList_appR tyiC encC _ rfl _ _ rfl w.heap.size _ l1 rfl HR.out HBl.out.size _ l2 rfl (H2.out _ HBl.out) (by omega) ?_; intro v2 w3 hr _ hb; obtain ⟨d0, d1⟩ := HB.out _ (HBl.out.trans hb); replace HR := hide hr; replace HBl := hide (HBl.out.trans hb); clear hr hb)
  rw [rounds_succ]
  go_wp2_with fail
  go_ret
  exact ⟨_, rfl, HR.out, HBl.out⟩

theorem infoSC : (Tryz.prog.info? 82).map (fun i => i.size) = some 3 := by kernel_rfl
set_option maxRecDepth 100000 in
set_option maxHeartbeats 8000000 in
theorem woC_any (l : List Cf) (ao : Option Addr) (n cap i : Nat) (w : World) (hn : n = l.length) (hv : Rs cfc w (.slice ao n cap) l) (hi : i < l.length) (hl : l.length ≤ 100000) :
    Calls Tryz.prog 132 #[.slice ao n cap, .int .i64 (i : Int)] w fun e w' => ∃ v, e = .returned v ∧ Ro cfc 3 82 w' w.heap.size v (l.take i ++ l.drop (i + 1)) ∧ Below w.heap.size w w' := by
  subst hn
  obtain ⟨bb, oo, rfl, hrg⟩ := hv.rg (by omega)
  have hu := fun W => upto_run tyiC (some ⟨bb, oo, none⟩) l.length cap i (Nat.le_of_lt hi) hv.cap.2 W
  have hcap := hv.cap.2
  have h0 : ¬ ((i : Int) + 1 < 0) := by omega
  have hwr : IntKind.i64.wrap ((i : Int) + 1) = (i : Int) + 1 := by rw [IntKind.wrap_i64]; omega
  have h00 : (0 : Int) ≤ (i : Int) + 1 := by omega
  have h1 : (i : Int) + 1 ≤ (l.length : Int) := by omega
  have hd : ∀ (ao' : Option Addr), (¬ cap = i + 1 → ao' = some ⟨bb, oo + (i + 1) * 3, none⟩) → ∀ W, Below w.heap.size w W → Rs cfc W (.slice ao' (l.length - (i + 1)) (cap - (i + 1))) (l.drop (i + 1)) := fun ao' hao W hb => by
    have := (hv.below hb).part encC (i + 1) l.length hi (Nat.le_refl _) ao' (fun q b o e => by cases e; rw [hao (by omega)])
    rwa [List.take_of_length_le (by rw [List.length_drop]; omega)] at this
  have HC : Hid (∀ (ao' : Option Addr), (¬ cap = i + 1 → ao' = some ⟨bb, oo + (i + 1) * 3, none⟩) → ∀ (n1 n2 : Nat), n1 = l.length - (i + 1) → n2 = cap - (i + 1) → ∀ U, Calls Tryz.prog 152 #[.slice (some ⟨w.heap.size, 0, none⟩) 2 2] (w.alloc (.cells #[.slice (some ⟨bb, oo, none⟩) i cap, .slice ao' n1 n2] U)).drew fun e w' => ∃ v, e = .returned v ∧ Ro cfc 3 82 w' w.heap.size v (l.take i ++ l.drop (i + 1)) ∧ Below w.heap.size w w') := hide (fun ao' hao n1 n2 e1 e2 U => by
    subst e1 e2
    obtain ⟨p1, p3⟩ := wo_frame w U (.slice (some ⟨bb, oo, none⟩) i cap) (.slice ao' (l.length - (i + 1)) (cap - (i + 1)))
    refine (concC_2 _ _ (l.take i) (l.drop (i + 1)) _ _ p1 ((hv.below p3).upto encC i (Nat.le_of_lt hi)) (hd ao' hao _ p3) (by rw [List.length_take]; omega) (by rw [List.length_drop]; omega)).mono ?_
    rintro e w1 ⟨v, rfl, hr, hb⟩
    exact ⟨v, rfl, hr.mono p3.size, bt p3 hb⟩)
  have hcap := hv.cap.2
  clear hv hd hrg hu
  by_cases hce : cap = i + 1
  · subst hce
    go_enter Tryz.func132, Tryz.ntmps132
    go_upto_region 1 with fail
    go_region_with (go_at_call 152; refine (HC.out _ (by simp) _ _ (by omega) (by omega) _).mono ?_; rintro e w1 ⟨v, rfl, hr, hb⟩; have HR := hide hr; have HB := hide hb; clear hr hb)
    all_goals
      go_wp2_with fail
      go_ret
      exact ⟨_, rfl, HR.out, HB.out⟩
  · have hce2 : ¬ cap - (i + 1) = 0 := by omega
    have hce3 : ¬ cap ≤ i + 1 := by omega
    go_enter Tryz.func132, Tryz.ntmps132
    go_upto_region 1 with fail
    go_region_with (go_at_call 152; refine (HC.out _ (fun _ => rfl) _ _ (by omega) (by omega) _).mono ?_; rintro e w1 ⟨v, rfl, hr, hb⟩; have HR := hide hr; have HB := hide hb; clear hr hb)
    all_goals
      go_wp2_with fail
      go_ret
      exact ⟨_, rfl, HR.out, HB.out⟩
end Go.Proofs.YtfnemlbkmhcodaaGreat
namespace Go.Proofs.YtfnemlbkmhcodaaGreat
open Go.RowKit

set_option maxRecDepth 100000 in
set_option maxHeartbeats 16000000 in
theorem configure_any {ok : Nat → Prop} (m : Im) (p : Ip) (r : Rc) (v : Value) (w : World) (n0 : Nat → Prop) (hn0 : ∀ g, n0 g → g < w.heap.size) (hv : ∀ W, (∀ g, n0 g → W.heap[g]? = w.heap[g]?) → ImR W m p) (hw : Wf m 100000) (hr : IsR ok w v r) : Calls Tryz.prog 103 #[imv m p, v] w fun e w' => StP n0 w w' (cfgC m r).1 (cfgC m r).2 e := by
  obtain ⟨a14, a15, a16, a17, c14, c15, c16, c17, rfl, hrw⟩ := hr
  have HVV := hide (fun (W W3 : World) (hb : Below w.heap.size w W3) (hW : Agr n0 w.heap.size W3 W) => hv W (fun g hg => (hW g (.inl hg)).trans (hb.block g (hn0 g hg))))
  clear hn0
  replace hv : ImR w m p := hv w (fun _ _ => rfl)
  have HV := hide (fun W (h : Below w.heap.size w W) => hv.below h)
  have HFN := hide (hv.fT r.tp)
  by_cases h1 : r.tp = 0
  · have hn1 : (r.tp != 0) = false := by simpa using h1
    have hG : ¬ (r.tp != 0 && (fT m.ts r.tp).isNone) = true := by rw [hn1]; simp
    have HFT := hide (fun W (h : Below w.heap.size w W) => findTopic_any m p r.tp W (hv.below h) (by rw [hv.len]; exact hw.nt) (hv.stn hw r.tp))
    clear h1
    cases hc : fC m.cf r.tp r.ky with
    | none =>
      have HFC := hide (fun W (h : Below w.heap.size w W) => findConfig_no m p r.tp r.ky W (hv.below h) hw hc)
      cases hfl : r.fl with
      | true =>
        have HRE : Hid (cfgC m r = (m, 8)) := hide (by unfold cfgC; rw [if_neg hG, if_pos hfl, hc]; rfl)
        rw [HRE.out]
        have HFL := hide hfl
        have HFR0 : Fr w m p (cellsR r a14 a15 a16 a17 c14 c15 c16 c17) imz (((w.alloc (.cells (List.toArray [Value.slice p.ab m.br.length p.cb, .slice p.aq p.ts.length p.cq, .slice p.ac m.cf.length p.cc, .slice p.ad m.dn.length p.cd, .int .i64 m.la]) 30)).alloc (.cells (List.toArray [Value.int .i64 r.k, .int .i64 r.br, .int .i64 r.ep, .int .i64 r.tp, .int .i64 r.pa, .int .i64 r.le, .int .i64 r.cl, .int .i64 r.se, .int .i64 r.co, .bool r.fl, .string ⟨r.nm.toArray⟩, .string ⟨r.ky.toArray⟩, .string ⟨r.va.toArray⟩, .string ⟨r.rk.toArray⟩, .slice a14 r.ids.length c14, .slice a15 r.isr.length c15, .slice a16 r.ad.length c16, .slice a17 r.dr.length c17]) 62)).alloc (.cells (List.toArray [Value.slice none 0 0, .slice none 0 0, .slice none 0 0, .slice none 0 0, .int .i64 0]) 30)) := Fr.mk0 w m p _ _ _ _ (Below.refl _ _)
        clear hv hw hrw hc HFN hfl
        unfold imv
        show Calls _ _ #[_, .agg (List.toArray [.int .i64 r.k, .int .i64 r.br, .int .i64 r.ep, .int .i64 r.tp, .int .i64 r.pa, .int .i64 r.le, .int .i64 r.cl, .int .i64 r.se, .int .i64 r.co, .bool r.fl, .string ⟨r.nm.toArray⟩, .string ⟨r.ky.toArray⟩, .string ⟨r.va.toArray⟩, .string ⟨r.rk.toArray⟩, .slice a14 r.ids.length c14, .slice a15 r.isr.length c15, .slice a16 r.ad.length c16, .slice a17 r.dr.length c17])] _ _
        go_enter Tryz.func103, Tryz.ntmps103
        go_upto_region 1 with fail
        generalize ((w.alloc (.cells (List.toArray [Value.slice p.ab m.br.length p.cb, .slice p.aq p.ts.length p.cq, .slice p.ac m.cf.length p.cc, .slice p.ad m.dn.length p.cd, .int .i64 m.la]) 30)).alloc (.cells (List.toArray [Value.int .i64 r.k, .int .i64 r.br, .int .i64 r.ep, .int .i64 r.tp, .int .i64 r.pa, .int .i64 r.le, .int .i64 r.cl, .int .i64 r.se, .int .i64 r.co, .bool r.fl, .string ⟨r.nm.toArray⟩, .string ⟨r.ky.toArray⟩, .string ⟨r.va.toArray⟩, .string ⟨r.rk.toArray⟩, .slice a14 r.ids.length c14, .slice a15 r.isr.length c15, .slice a16 r.ad.length c16, .slice a17 r.dr.length c17]) 62)).alloc (.cells (List.toArray [Value.slice none 0 0, .slice none 0 0, .slice none 0 0, .slice none 0 0, .int .i64 0]) 30) = X at HFR0 ⊢
        have HFR := hide HFR0
        clear HFR0
        obtain ⟨i0, i1, i2, i3, i4⟩ := HFR.out.i.im; have r3 := HFR.out.r.at 3 _ rfl; have r9 := HFR.out.r.at 9 _ rfl; have r11 := HFR.out.r.at 11 _ rfl; have r12 := HFR.out.r.at 12 _ rfl
        unfold imv at HFC HFT
        rw [HFL.out] at r9
        go_wp2_with (first | (go_at_call 41; refine (HFT.out _ HFR.out.b).mono ?_; rintro e wx ⟨i9, _, rfl, hbx⟩;  replace HFR := hide (HFR.out.below hbx); clear i0 i1 i2 i3 i4 r3 r9 r11 r12; clear hbx HFT; obtain ⟨i0, i1, i2, i3, i4⟩ := HFR.out.i.im; have r3 := HFR.out.r.at 3 _ rfl; have r9 := HFR.out.r.at 9 _ rfl; have r11 := HFR.out.r.at 11 _ rfl; have r12 := HFR.out.r.at 12 _ rfl; rw [HFL.out] at r9) | (go_at_call 46; refine (HFC.out _ HFR.out.b).mono ?_; rintro e wx ⟨i, hi, hins, rfl, hbx⟩; have HIN := hide ((hins ⟨r.tp, r.ky, r.va⟩).symm); clear hins; replace HFR := hide (HFR.out.below hbx); clear i0 i1 i2 i3 i4 r3 r9 r11 r12; clear hbx HFC; obtain ⟨i0, i1, i2, i3, i4⟩ := HFR.out.i.im; have r3 := HFR.out.r.at 3 _ rfl; have r9 := HFR.out.r.at 9 _ rfl; have r11 := HFR.out.r.at 11 _ rfl; have r12 := HFR.out.r.at 12 _ rfl; rw [HFL.out] at r9) | (refine wpList_set rfl _ _ _ rfl _ _ rfl HFR.out.z (iml m p) rfl rfl (by kernel_rfl) rfl ?_; intro W3 hz hk hb hp; have HFO := hide (HFR.out.out hz hk hb); clear hz hk hb hp))
        obtain ⟨q0, q1, q2, q3, q4⟩ := HFO.out.z.im
        exact bodyPost_ret (v := .tuple #[.agg (iml m p).toArray, .iface 71 (.int .i64 8)]) (by simp [results, Tryz.results103, go_sem, q0, q1, q2, q3, q4, iml]) rfl (st_ret HFO.out (fun W hW => HVV.out W _ HFO.out.b hW) (erc_code (by decide)))
      | false =>
        have HRE : Hid (cfgC m r = ({ m with cf := (putC m.cf ⟨r.tp, r.ky, r.va⟩) }, 0)) := hide (by unfold cfgC; rw [if_neg hG, if_neg (by rw [hfl]; decide)])
        rw [HRE.out]
        have HPU := hide (fun W (h : Below w.heap.size w W) i (hi : i ≤ m.cf.length) => putC_new m.cf p.ac _ p.cc i ⟨r.tp, r.ky, r.va⟩ W rfl (hv.below h).c hi hw.nc)
        have HFL := hide hfl
        have HFR0 : Fr w m p (cellsR r a14 a15 a16 a17 c14 c15 c16 c17) imz (((w.alloc (.cells (List.toArray [Value.slice p.ab m.br.length p.cb, .slice p.aq p.ts.length p.cq, .slice p.ac m.cf.length p.cc, .slice p.ad m.dn.length p.cd, .int .i64 m.la]) 30)).alloc (.cells (List.toArray [Value.int .i64 r.k, .int .i64 r.br, .int .i64 r.ep, .int .i64 r.tp, .int .i64 r.pa, .int .i64 r.le, .int .i64 r.cl, .int .i64 r.se, .int .i64 r.co, .bool r.fl, .string ⟨r.nm.toArray⟩, .string ⟨r.ky.toArray⟩, .string ⟨r.va.toArray⟩, .string ⟨r.rk.toArray⟩, .slice a14 r.ids.length c14, .slice a15 r.isr.length c15, .slice a16 r.ad.length c16, .slice a17 r.dr.length c17]) 62)).alloc (.cells (List.toArray [Value.slice none 0 0, .slice none 0 0, .slice none 0 0, .slice none 0 0, .int .i64 0]) 30)) := Fr.mk0 w m p _ _ _ _ (Below.refl _ _)
        clear hv hw hrw hc HFN hfl
        unfold imv
        show Calls _ _ #[_, .agg (List.toArray [.int .i64 r.k, .int .i64 r.br, .int .i64 r.ep, .int .i64 r.tp, .int .i64 r.pa, .int .i64 r.le, .int .i64 r.cl, .int .i64 r.se, .int .i64 r.co, .bool r.fl, .string ⟨r.nm.toArray⟩, .string ⟨r.ky.toArray⟩, .string ⟨r.va.toArray⟩, .string ⟨r.rk.toArray⟩, .slice a14 r.ids.length c14, .slice a15 r.isr.length c15, .slice a16 r.ad.length c16, .slice a17 r.dr.length c17])] _ _
        go_enter Tryz.func103, Tryz.ntmps103
        go_upto_region 1 with fail
        generalize ((w.alloc (.cells (List.toArray [Value.slice p.ab m.br.length p.cb, .slice p.aq p.ts.length p.cq, .slice p.ac m.cf.length p.cc, .slice p.ad m.dn.length p.cd, .int .i64 m.la]) 30)).alloc (.cells (List.toArray [Value.int .i64 r.k, .int .i64 r.br, .int .i64 r.ep, .int .i64 r.tp, .int .i64 r.pa, .int .i64 r.le, .int .i64 r.cl, .int .i64 r.se, .int .i64 r.co, .bool r.fl, .string ⟨r.nm.toArray⟩, .string ⟨r.ky.toArray⟩, .string ⟨r.va.toArray⟩, .string ⟨r.rk.toArray⟩, .slice a14 r.ids.length c14, .slice a15 r.isr.length c15, .slice a16 r.ad.length c16, .slice a17 r.dr.length c17]) 62)).alloc (.cells (List.toArray [Value.slice none 0 0, .slice none 0 0, .slice none 0 0, .slice none 0 0, .int .i64 0]) 30) = X at HFR0 ⊢
        have HFR := hide HFR0
        clear HFR0
        obtain ⟨i0, i1, i2, i3, i4⟩ := HFR.out.i.im; have r3 := HFR.out.r.at 3 _ rfl; have r9 := HFR.out.r.at 9 _ rfl; have r11 := HFR.out.r.at 11 _ rfl; have r12 := HFR.out.r.at 12 _ rfl
        unfold imv at HFC HFT
        rw [HFL.out] at r9
        go_wp2_with (first | (go_at_call 41; refine (HFT.out _ HFR.out.b).mono ?_; rintro e wx ⟨i9, _, rfl, hbx⟩;  replace HFR := hide (HFR.out.below hbx); clear i0 i1 i2 i3 i4 r3 r9 r11 r12; clear hbx HFT; obtain ⟨i0, i1, i2, i3, i4⟩ := HFR.out.i.im; have r3 := HFR.out.r.at 3 _ rfl; have r9 := HFR.out.r.at 9 _ rfl; have r11 := HFR.out.r.at 11 _ rfl; have r12 := HFR.out.r.at 12 _ rfl; rw [HFL.out] at r9) | (go_at_call 46; refine (HFC.out _ HFR.out.b).mono ?_; rintro e wx ⟨i, hi, hins, rfl, hbx⟩; have HIN := hide ((hins ⟨r.tp, r.ky, r.va⟩).symm); clear hins; replace HFR := hide (HFR.out.below hbx); clear i0 i1 i2 i3 i4 r3 r9 r11 r12; clear hbx HFC; obtain ⟨i0, i1, i2, i3, i4⟩ := HFR.out.i.im; have r3 := HFR.out.r.at 3 _ rfl; have r9 := HFR.out.r.at 9 _ rfl; have r11 := HFR.out.r.at 11 _ rfl; have r12 := HFR.out.r.at 12 _ rfl; rw [HFL.out] at r9) | (go_at_call 133; refine (HPU.out _ HFR.out.b i hi).mono ?_; rintro e w3 ⟨v, rfl, hro, hb3⟩; rw [HIN.out] at hro; change Ro _ _ _ _ _ _ (putC m.cf ⟨r.tp, r.ky, r.va⟩) at hro; obtain ⟨av, cv, rfl⟩ := hro.form; have HRO := hide (hro.mono HFR.out.sz); replace HFR := hide (HFR.out.below hb3); clear hro hb3 HPU; clear i0 i1 i2 i3 i4 r3 r9 r11 r12; obtain ⟨i0, i1, i2, i3, i4⟩ := HFR.out.i.im; have r3 := HFR.out.r.at 3 _ rfl; have r9 := HFR.out.r.at 9 _ rfl; have r11 := HFR.out.r.at 11 _ rfl; have r12 := HFR.out.r.at 12 _ rfl; have f2 := HFR.out.f 2 (by decide); have HFS := hide (HFR.out.set 2 (.slice av ((putC m.cf ⟨r.tp, r.ky, r.va⟩)).length cv) { m with cf := (putC m.cf ⟨r.tp, r.ky, r.va⟩) } { p with ac := av, cc := cv } (by decide) rfl)) | (refine wpList_set rfl _ _ _ rfl _ _ rfl HFS.out.z (iml { m with cf := (putC m.cf ⟨r.tp, r.ky, r.va⟩) } { p with ac := av, cc := cv }) rfl rfl (by kernel_rfl) rfl ?_; intro W3 hz hk hb hp; have HFO := hide (HFS.out.out hz hk hb); have HRS := hide (fun W (hW : Agr n0 w.heap.size W3 W) => (HRO.out.keepG (fun g hg => (hW g (.inr (by omega))).trans ((hp g (by omega)).trans (Below.heap_setCell _ _ _ _ (show ¬ g = w.heap.size by omega))))).rs); clear hz hk hb hp))
        obtain ⟨q0, q1, q2, q3, q4⟩ := HFO.out.z.im
        exact bodyPost_ret (v := .tuple #[.agg (iml { m with cf := (putC m.cf ⟨r.tp, r.ky, r.va⟩) } { p with ac := av, cc := cv }).toArray, .nilIface]) (by simp [results, Tryz.results103, go_sem, q0, q1, q2, q3, q4, iml]) rfl (st_ret HFO.out (fun W hW => ⟨(HVV.out W _ HFO.out.b hW).b, (HVV.out W _ HFO.out.b hW).t, (HVV.out W _ HFO.out.b hW).q, (HVV.out W _ HFO.out.b hW).e, (HRS.out W hW), (HVV.out W _ HFO.out.b hW).d⟩) erc_nil)
    | some y =>
      have HFC := hide (fun W (h : Below w.heap.size w W) => findConfig_yes m p r.tp r.ky W (hv.below h) hw y hc)
      cases hfl : r.fl with
      | true =>
        have HRE : Hid (cfgC m r = ({ m with cf := (remO (fun x : Cf => cmpC x r.tp r.ky) m.cf) }, 0)) := hide (by unfold cfgC; rw [if_neg hG, if_pos hfl, hc, if_neg (by simp), remC_rem])
        rw [HRE.out]
        have HPU := hide (fun W (h : Below w.heap.size w W) i (hi : i < m.cf.length) => woC_any m.cf p.ac _ p.cc i W rfl (hv.below h).c hi hw.nc)
        have HFL := hide hfl
        have HFR0 : Fr w m p (cellsR r a14 a15 a16 a17 c14 c15 c16 c17) imz (((w.alloc (.cells (List.toArray [Value.slice p.ab m.br.length p.cb, .slice p.aq p.ts.length p.cq, .slice p.ac m.cf.length p.cc, .slice p.ad m.dn.length p.cd, .int .i64 m.la]) 30)).alloc (.cells (List.toArray [Value.int .i64 r.k, .int .i64 r.br, .int .i64 r.ep, .int .i64 r.tp, .int .i64 r.pa, .int .i64 r.le, .int .i64 r.cl, .int .i64 r.se, .int .i64 r.co, .bool r.fl, .string ⟨r.nm.toArray⟩, .string ⟨r.ky.toArray⟩, .string ⟨r.va.toArray⟩, .string ⟨r.rk.toArray⟩, .slice a14 r.ids.length c14, .slice a15 r.isr.length c15, .slice a16 r.ad.length c16, .slice a17 r.dr.length c17]) 62)).alloc (.cells (List.toArray [Value.slice none 0 0, .slice none 0 0, .slice none 0 0, .slice none 0 0, .int .i64 0]) 30)) := Fr.mk0 w m p _ _ _ _ (Below.refl _ _)
        clear hv hw hrw hc HFN hfl
        unfold imv
        show Calls _ _ #[_, .agg (List.toArray [.int .i64 r.k, .int .i64 r.br, .int .i64 r.ep, .int .i64 r.tp, .int .i64 r.pa, .int .i64 r.le, .int .i64 r.cl, .int .i64 r.se, .int .i64 r.co, .bool r.fl, .string ⟨r.nm.toArray⟩, .string ⟨r.ky.toArray⟩, .string ⟨r.va.toArray⟩, .string ⟨r.rk.toArray⟩, .slice a14 r.ids.length c14, .slice a15 r.isr.length c15, .slice a16 r.ad.length c16, .slice a17 r.dr.length c17])] _ _
        go_enter Tryz.func103, Tryz.ntmps103
        go_upto_region 1 with fail
        generalize ((w.alloc (.cells (List.toArray [Value.slice p.ab m.br.length p.cb, .slice p.aq p.ts.length p.cq, .slice p.ac m.cf.length p.cc, .slice p.ad m.dn.length p.cd, .int .i64 m.la]) 30)).alloc (.cells (List.toArray [Value.int .i64 r.k, .int .i64 r.br, .int .i64 r.ep, .int .i64 r.tp, .int .i64 r.pa, .int .i64 r.le, .int .i64 r.cl, .int .i64 r.se, .int .i64 r.co, .bool r.fl, .string ⟨r.nm.toArray⟩, .string ⟨r.ky.toArray⟩, .string ⟨r.va.toArray⟩, .string ⟨r.rk.toArray⟩, .slice a14 r.ids.length c14, .slice a15 r.isr.length c15, .slice a16 r.ad.length c16, .slice a17 r.dr.length c17]) 62)).alloc (.cells (List.toArray [Value.slice none 0 0, .slice none 0 0, .slice none 0 0, .slice none 0 0, .int .i64 0]) 30) = X at HFR0 ⊢
        have HFR := hide HFR0
        clear HFR0
        obtain ⟨i0, i1, i2, i3, i4⟩ := HFR.out.i.im; have r3 := HFR.out.r.at 3 _ rfl; have r9 := HFR.out.r.at 9 _ rfl; have r11 := HFR.out.r.at 11 _ rfl; have r12 := HFR.out.r.at 12 _ rfl
        unfold imv at HFC HFT
        rw [HFL.out] at r9
        go_wp2_with (first | (go_at_call 41; refine (HFT.out _ HFR.out.b).mono ?_; rintro e wx ⟨i9, _, rfl, hbx⟩;  replace HFR := hide (HFR.out.below hbx); clear i0 i1 i2 i3 i4 r3 r9 r11 r12; clear hbx HFT; obtain ⟨i0, i1, i2, i3, i4⟩ := HFR.out.i.im; have r3 := HFR.out.r.at 3 _ rfl; have r9 := HFR.out.r.at 9 _ rfl; have r11 := HFR.out.r.at 11 _ rfl; have r12 := HFR.out.r.at 12 _ rfl; rw [HFL.out] at r9) | (go_at_call 46; refine (HFC.out _ HFR.out.b).mono ?_; rintro e wx ⟨i, hi, hib, hins, hrem, _, _, rfl, hbx⟩; have HIN := hide ((hins ⟨r.tp, r.ky, r.va⟩).symm); have HRM := hide hrem.symm; clear hins hrem; replace HFR := hide (HFR.out.below hbx); clear i0 i1 i2 i3 i4 r3 r9 r11 r12; clear hbx HFC; obtain ⟨i0, i1, i2, i3, i4⟩ := HFR.out.i.im; have r3 := HFR.out.r.at 3 _ rfl; have r9 := HFR.out.r.at 9 _ rfl; have r11 := HFR.out.r.at 11 _ rfl; have r12 := HFR.out.r.at 12 _ rfl; rw [HFL.out] at r9) | (go_at_call 132; refine (HPU.out _ HFR.out.b i hi).mono ?_; rintro e w3 ⟨v, rfl, hro, hb3⟩; rw [HRM.out] at hro; obtain ⟨av, cv, rfl⟩ := hro.form; have HRO := hide (hro.mono HFR.out.sz); replace HFR := hide (HFR.out.below hb3); clear hro hb3 HPU; clear i0 i1 i2 i3 i4 r3 r9 r11 r12; obtain ⟨i0, i1, i2, i3, i4⟩ := HFR.out.i.im; have r3 := HFR.out.r.at 3 _ rfl; have r9 := HFR.out.r.at 9 _ rfl; have r11 := HFR.out.r.at 11 _ rfl; have r12 := HFR.out.r.at 12 _ rfl; have f2 := HFR.out.f 2 (by decide); have HFS := hide (HFR.out.set 2 (.slice av ((remO (fun x : Cf => cmpC x r.tp r.ky) m.cf)).length cv) { m with cf := (remO (fun x : Cf => cmpC x r.tp r.ky) m.cf) } { p with ac := av, cc := cv } (by decide) rfl)) | (refine wpList_set rfl _ _ _ rfl _ _ rfl HFS.out.z (iml { m with cf := (remO (fun x : Cf => cmpC x r.tp r.ky) m.cf) } { p with ac := av, cc := cv }) rfl rfl (by kernel_rfl) rfl ?_; intro W3 hz hk hb hp; have HFO := hide (HFS.out.out hz hk hb); have HRS := hide (fun W (hW : Agr n0 w.heap.size W3 W) => (HRO.out.keepG (fun g hg => (hW g (.inr (by omega))).trans ((hp g (by omega)).trans (Below.heap_setCell _ _ _ _ (show ¬ g = w.heap.size by omega))))).rs); clear hz hk hb hp))
        obtain ⟨q0, q1, q2, q3, q4⟩ := HFO.out.z.im
        exact bodyPost_ret (v := .tuple #[.agg (iml { m with cf := (remO (fun x : Cf => cmpC x r.tp r.ky) m.cf) } { p with ac := av, cc := cv }).toArray, .nilIface]) (by simp [results, Tryz.results103, go_sem, q0, q1, q2, q3, q4, iml]) rfl (st_ret HFO.out (fun W hW => ⟨(HVV.out W _ HFO.out.b hW).b, (HVV.out W _ HFO.out.b hW).t, (HVV.out W _ HFO.out.b hW).q, (HVV.out W _ HFO.out.b hW).e, (HRS.out W hW), (HVV.out W _ HFO.out.b hW).d⟩) erc_nil)
      | false =>
        have HRE : Hid (cfgC m r = ({ m with cf := (putC m.cf ⟨r.tp, r.ky, r.va⟩) }, 0)) := hide (by unfold cfgC; rw [if_neg hG, if_neg (by rw [hfl]; decide)])
        rw [HRE.out]
        have HPU := hide (fun W (h : Below w.heap.size w W) i (hi : i < m.cf.length) => putC_old m.cf p.ac _ p.cc i ⟨r.tp, r.ky, r.va⟩ W rfl (hv.below h).c hi hw.nc)
        have HFL := hide hfl
        have HFR0 : Fr w m p (cellsR r a14 a15 a16 a17 c14 c15 c16 c17) imz (((w.alloc (.cells (List.toArray [Value.slice p.ab m.br.length p.cb, .slice p.aq p.ts.length p.cq, .slice p.ac m.cf.length p.cc, .slice p.ad m.dn.length p.cd, .int .i64 m.la]) 30)).alloc (.cells (List.toArray [Value.int .i64 r.k, .int .i64 r.br, .int .i64 r.ep, .int .i64 r.tp, .int .i64 r.pa, .int .i64 r.le, .int .i64 r.cl, .int .i64 r.se, .int .i64 r.co, .bool r.fl, .string ⟨r.nm.toArray⟩, .string ⟨r.ky.toArray⟩, .string ⟨r.va.toArray⟩, .string ⟨r.rk.toArray⟩, .slice a14 r.ids.length c14, .slice a15 r.isr.length c15, .slice a16 r.ad.length c16, .slice a17 r.dr.length c17]) 62)).alloc (.cells (List.toArray [Value.slice none 0 0, .slice none 0 0, .slice none 0 0, .slice none 0 0, .int .i64 0]) 30)) := Fr.mk0 w m p _ _ _ _ (Below.refl _ _)
        clear hv hw hrw hc HFN hfl
        unfold imv
        show Calls _ _ #[_, .agg (List.toArray [.int .i64 r.k, .int .i64 r.br, .int .i64 r.ep, .int .i64 r.tp, .int .i64 r.pa, .int .i64 r.le, .int .i64 r.cl, .int .i64 r.se, .int .i64 r.co, .bool r.fl, .string ⟨r.nm.toArray⟩, .string ⟨r.ky.toArray⟩, .string ⟨r.va.toArray⟩, .string ⟨r.rk.toArray⟩, .slice a14 r.ids.length c14, .slice a15 r.isr.length c15, .slice a16 r.ad.length c16, .slice a17 r.dr.length c17])] _ _
        go_enter Tryz.func103, Tryz.ntmps103
        go_upto_region 1 with fail
        generalize ((w.alloc (.cells (List.toArray [Value.slice p.ab m.br.length p.cb, .slice p.aq p.ts.length p.cq, .slice p.ac m.cf.length p.cc, .slice p.ad m.dn.length p.cd, .int .i64 m.la]) 30)).alloc (.cells (List.toArray [Value.int .i64 r.k, .int .i64 r.br, .int .i64 r.ep, .int .i64 r.tp, .int .i64 r.pa, .int .i64 r.le, .int .i64 r.cl, .int .i64 r.se, .int .i64 r.co, .bool r.fl, .string ⟨r.nm.toArray⟩, .string ⟨r.ky.toArray⟩, .string ⟨r.va.toArray⟩, .string ⟨r.rk.toArray⟩, .slice a14 r.ids.length c14, .slice a15 r.isr.length c15, .slice a16 r.ad.length c16, .slice a17 r.dr.length c17]) 62)).alloc (.cells (List.toArray [Value.slice none 0 0, .slice none 0 0, .slice none 0 0, .slice none 0 0, .int .i64 0]) 30) = X at HFR0 ⊢
        have HFR := hide HFR0
        clear HFR0
        obtain ⟨i0, i1, i2, i3, i4⟩ := HFR.out.i.im; have r3 := HFR.out.r.at 3 _ rfl; have r9 := HFR.out.r.at 9 _ rfl; have r11 := HFR.out.r.at 11 _ rfl; have r12 := HFR.out.r.at 12 _ rfl
        unfold imv at HFC HFT
        rw [HFL.out] at r9
        go_wp2_with (first | (go_at_call 41; refine (HFT.out _ HFR.out.b).mono ?_; rintro e wx ⟨i9, _, rfl, hbx⟩;  replace HFR := hide (HFR.out.below hbx); clear i0 i1 i2 i3 i4 r3 r9 r11 r12; clear hbx HFT; obtain ⟨i0, i1, i2, i3, i4⟩ := HFR.out.i.im; have r3 := HFR.out.r.at 3 _ rfl; have r9 := HFR.out.r.at 9 _ rfl; have r11 := HFR.out.r.at 11 _ rfl; have r12 := HFR.out.r.at 12 _ rfl; rw [HFL.out] at r9) | (go_at_call 46; refine (HFC.out _ HFR.out.b).mono ?_; rintro e wx ⟨i, hi, hib, hins, hrem, _, _, rfl, hbx⟩; have HIN := hide ((hins ⟨r.tp, r.ky, r.va⟩).symm); have HRM := hide hrem.symm; clear hins hrem; replace HFR := hide (HFR.out.below hbx); clear i0 i1 i2 i3 i4 r3 r9 r11 r12; clear hbx HFC; obtain ⟨i0, i1, i2, i3, i4⟩ := HFR.out.i.im; have r3 := HFR.out.r.at 3 _ rfl; have r9 := HFR.out.r.at 9 _ rfl; have r11 := HFR.out.r.at 11 _ rfl; have r12 := HFR.out.r.at 12 _ rfl; rw [HFL.out] at r9) | (go_at_call 133; refine (HPU.out _ HFR.out.b i hi).mono ?_; rintro e w3 ⟨v, rfl, hro, hb3⟩; rw [HIN.out] at hro; change Ro _ _ _ _ _ _ (putC m.cf ⟨r.tp, r.ky, r.va⟩) at hro; obtain ⟨av, cv, rfl⟩ := hro.form; have HRO := hide (hro.mono HFR.out.sz); replace HFR := hide (HFR.out.below hb3); clear hro hb3 HPU; clear i0 i1 i2 i3 i4 r3 r9 r11 r12; obtain ⟨i0, i1, i2, i3, i4⟩ := HFR.out.i.im; have r3 := HFR.out.r.at 3 _ rfl; have r9 := HFR.out.r.at 9 _ rfl; have r11 := HFR.out.r.at 11 _ rfl; have r12 := HFR.out.r.at 12 _ rfl; have f2 := HFR.out.f 2 (by decide); have HFS := hide (HFR.out.set 2 (.slice av ((putC m.cf ⟨r.tp, r.ky, r.va⟩)).length cv) { m with cf := (putC m.cf ⟨r.tp, r.ky, r.va⟩) } { p with ac := av, cc := cv } (by decide) rfl)) | (refine wpList_set rfl _ _ _ rfl _ _ rfl HFS.out.z (iml { m with cf := (putC m.cf ⟨r.tp, r.ky, r.va⟩) } { p with ac := av, cc := cv }) rfl rfl (by kernel_rfl) rfl ?_; intro W3 hz hk hb hp; have HFO := hide (HFS.out.out hz hk hb); have HRS := hide (fun W (hW : Agr n0 w.heap.size W3 W) => (HRO.out.keepG (fun g hg => (hW g (.inr (by omega))).trans ((hp g (by omega)).trans (Below.heap_setCell _ _ _ _ (show ¬ g = w.heap.size by omega))))).rs); clear hz hk hb hp))
        obtain ⟨q0, q1, q2, q3, q4⟩ := HFO.out.z.im
        exact bodyPost_ret (v := .tuple #[.agg (iml { m with cf := (putC m.cf ⟨r.tp, r.ky, r.va⟩) } { p with ac := av, cc := cv }).toArray, .nilIface]) (by simp [results, Tryz.results103, go_sem, q0, q1, q2, q3, q4, iml]) rfl (st_ret HFO.out (fun W hW => ⟨(HVV.out W _ HFO.out.b hW).b, (HVV.out W _ HFO.out.b hW).t, (HVV.out W _ HFO.out.b hW).q, (HVV.out W _ HFO.out.b hW).e, (HRS.out W hW), (HVV.out W _ HFO.out.b hW).d⟩) erc_nil)
  · have hn1 : (r.tp != 0) = true := by simpa using h1
    cases hf : p.ts.find? (idQ r.tp) with
    | none =>
      have HFT := hide (fun W (h : Below w.heap.size w W) => findTopic_no m p r.tp W (hv.below h) hw hf)
      have HRE : Hid (cfgC m r = (m, 8)) := hide (by unfold cfgC; rw [HFN.out, hf, hn1]; rfl)
      rw [HRE.out]
      clear h1
      have HFR0 : Fr w m p (cellsR r a14 a15 a16 a17 c14 c15 c16 c17) imz (((w.alloc (.cells (List.toArray [Value.slice p.ab m.br.length p.cb, .slice p.aq p.ts.length p.cq, .slice p.ac m.cf.length p.cc, .slice p.ad m.dn.length p.cd, .int .i64 m.la]) 30)).alloc (.cells (List.toArray [Value.int .i64 r.k, .int .i64 r.br, .int .i64 r.ep, .int .i64 r.tp, .int .i64 r.pa, .int .i64 r.le, .int .i64 r.cl, .int .i64 r.se, .int .i64 r.co, .bool r.fl, .string ⟨r.nm.toArray⟩, .string ⟨r.ky.toArray⟩, .string ⟨r.va.toArray⟩, .string ⟨r.rk.toArray⟩, .slice a14 r.ids.length c14, .slice a15 r.isr.length c15, .slice a16 r.ad.length c16, .slice a17 r.dr.length c17]) 62)).alloc (.cells (List.toArray [Value.slice none 0 0, .slice none 0 0, .slice none 0 0, .slice none 0 0, .int .i64 0]) 30)) := Fr.mk0 w m p _ _ _ _ (Below.refl _ _)
      clear hv hw hrw hf
      unfold imv
      show Calls _ _ #[_, .agg (List.toArray [.int .i64 r.k, .int .i64 r.br, .int .i64 r.ep, .int .i64 r.tp, .int .i64 r.pa, .int .i64 r.le, .int .i64 r.cl, .int .i64 r.se, .int .i64 r.co, .bool r.fl, .string ⟨r.nm.toArray⟩, .string ⟨r.ky.toArray⟩, .string ⟨r.va.toArray⟩, .string ⟨r.rk.toArray⟩, .slice a14 r.ids.length c14, .slice a15 r.isr.length c15, .slice a16 r.ad.length c16, .slice a17 r.dr.length c17])] _ _
      go_enter Tryz.func103, Tryz.ntmps103
      go_upto_region 1 with fail
      generalize ((w.alloc (.cells (List.toArray [Value.slice p.ab m.br.length p.cb, .slice p.aq p.ts.length p.cq, .slice p.ac m.cf.length p.cc, .slice p.ad m.dn.length p.cd, .int .i64 m.la]) 30)).alloc (.cells (List.toArray [Value.int .i64 r.k, .int .i64 r.br, .int .i64 r.ep, .int .i64 r.tp, .int .i64 r.pa, .int .i64 r.le, .int .i64 r.cl, .int .i64 r.se, .int .i64 r.co, .bool r.fl, .string ⟨r.nm.toArray⟩, .string ⟨r.ky.toArray⟩, .string ⟨r.va.toArray⟩, .string ⟨r.rk.toArray⟩, .slice a14 r.ids.length c14, .slice a15 r.isr.length c15, .slice a16 r.ad.length c16, .slice a17 r.dr.length c17]) 62)).alloc (.cells (List.toArray [Value.slice none 0 0, .slice none 0 0, .slice none 0 0, .slice none 0 0, .int .i64 0]) 30) = X at HFR0 ⊢
      have HFR := hide HFR0
      clear HFR0
      obtain ⟨i0, i1, i2, i3, i4⟩ := HFR.out.i.im; have r3 := HFR.out.r.at 3 _ rfl; have r9 := HFR.out.r.at 9 _ rfl; have r11 := HFR.out.r.at 11 _ rfl; have r12 := HFR.out.r.at 12 _ rfl
      unfold imv at HFT
      go_wp2_with (first | (go_at_call 41; refine (HFT.out _ HFR.out.b).mono ?_; rintro e wx ⟨i9, _, _, rfl, hbx⟩;  replace HFR := hide (HFR.out.below hbx); clear i0 i1 i2 i3 i4 r3 r9 r11 r12; clear hbx HFT; obtain ⟨i0, i1, i2, i3, i4⟩ := HFR.out.i.im; have r3 := HFR.out.r.at 3 _ rfl; have r9 := HFR.out.r.at 9 _ rfl; have r11 := HFR.out.r.at 11 _ rfl; have r12 := HFR.out.r.at 12 _ rfl) | (refine wpList_set rfl _ _ _ rfl _ _ rfl HFR.out.z (iml m p) rfl rfl (by kernel_rfl) rfl ?_; intro W3 hz hk hb hp; have HFO := hide (HFR.out.out hz hk hb); clear hz hk hb hp))
      obtain ⟨q0, q1, q2, q3, q4⟩ := HFO.out.z.im
      exact bodyPost_ret (v := .tuple #[.agg (iml m p).toArray, .iface 71 (.int .i64 8)]) (by simp [results, Tryz.results103, go_sem, q0, q1, q2, q3, q4, iml]) rfl (st_ret HFO.out (fun W hW => HVV.out W _ HFO.out.b hW) (erc_code (by decide)))
    | some q =>
      have HFT := hide (fun W (h : Below w.heap.size w W) => findTopic_yes m p r.tp W (hv.below h) hw q hf)
      have hG : ¬ (r.tp != 0 && (fT m.ts r.tp).isNone) = true := by rw [HFN.out, hf]; simp
      clear h1 hf
      cases hc : fC m.cf r.tp r.ky with
      | none =>
        have HFC := hide (fun W (h : Below w.heap.size w W) => findConfig_no m p r.tp r.ky W (hv.below h) hw hc)
        cases hfl : r.fl with
        | true =>
          have HRE : Hid (cfgC m r = (m, 8)) := hide (by unfold cfgC; rw [if_neg hG, if_pos hfl, hc]; rfl)
          rw [HRE.out]
          have HFL := hide hfl
          have HFR0 : Fr w m p (cellsR r a14 a15 a16 a17 c14 c15 c16 c17) imz (((w.alloc (.cells (List.toArray [Value.slice p.ab m.br.length p.cb, .slice p.aq p.ts.length p.cq, .slice p.ac m.cf.length p.cc, .slice p.ad m.dn.length p.cd, .int .i64 m.la]) 30)).alloc (.cells (List.toArray [Value.int .i64 r.k, .int .i64 r.br, .int .i64 r.ep, .int .i64 r.tp, .int .i64 r.pa, .int .i64 r.le, .int .i64 r.cl, .int .i64 r.se, .int .i64 r.co, .bool r.fl, .string ⟨r.nm.toArray⟩, .string ⟨r.ky.toArray⟩, .string ⟨r.va.toArray⟩, .string ⟨r.rk.toArray⟩, .slice a14 r.ids.length c14, .slice a15 r.isr.length c15, .slice a16 r.ad.length c16, .slice a17 r.dr.length c17]) 62)).alloc (.cells (List.toArray [Value.slice none 0 0, .slice none 0 0, .slice none 0 0, .slice none 0 0, .int .i64 0]) 30)) := Fr.mk0 w m p _ _ _ _ (Below.refl _ _)
          clear hv hw hrw hc HFN hfl
          unfold imv
          show Calls _ _ #[_, .agg (List.toArray [.int .i64 r.k, .int .i64 r.br, .int .i64 r.ep, .int .i64 r.tp, .int .i64 r.pa, .int .i64 r.le, .int .i64 r.cl, .int .i64 r.se, .int .i64 r.co, .bool r.fl, .string ⟨r.nm.toArray⟩, .string ⟨r.ky.toArray⟩, .string ⟨r.va.toArray⟩, .string ⟨r.rk.toArray⟩, .slice a14 r.ids.length c14, .slice a15 r.isr.length c15, .slice a16 r.ad.length c16, .slice a17 r.dr.length c17])] _ _
          go_enter Tryz.func103, Tryz.ntmps103
          go_upto_region 1 with fail
          generalize ((w.alloc (.cells (List.toArray [Value.slice p.ab m.br.length p.cb, .slice p.aq p.ts.length p.cq, .slice p.ac m.cf.length p.cc, .slice p.ad m.dn.length p.cd, .int .i64 m.la]) 30)).alloc (.cells (List.toArray [Value.int .i64 r.k, .int .i64 r.br, .int .i64 r.ep, .int .i64 r.tp, .int .i64 r.pa, .int .i64 r.le, .int .i64 r.cl, .int .i64 r.se, .int .i64 r.co, .bool r.fl, .string ⟨r.nm.toArray⟩, .string ⟨r.ky.toArray⟩, .string ⟨r.va.toArray⟩, .string ⟨r.rk.toArray⟩, .slice a14 r.ids.length c14, .slice a15 r.isr.length c15, .slice a16 r.ad.length c16, .slice a17 r.dr.length c17]) 62)).alloc (.cells (List.toArray [Value.slice none 0 0, .slice none 0 0, .slice none 0 0, .slice none 0 0, .int .i64 0]) 30) = X at HFR0 ⊢
          have HFR := hide HFR0
          clear HFR0
          obtain ⟨i0, i1, i2, i3, i4⟩ := HFR.out.i.im; have r3 := HFR.out.r.at 3 _ rfl; have r9 := HFR.out.r.at 9 _ rfl; have r11 := HFR.out.r.at 11 _ rfl; have r12 := HFR.out.r.at 12 _ rfl
          unfold imv at HFC HFT
          rw [HFL.out] at r9
          go_wp2_with (first | (go_at_call 41; refine (HFT.out _ HFR.out.b).mono ?_; rintro e wx ⟨i9, _, _, _, _, _, _, rfl, hbx⟩;  replace HFR := hide (HFR.out.below hbx); clear i0 i1 i2 i3 i4 r3 r9 r11 r12; clear hbx HFT; obtain ⟨i0, i1, i2, i3, i4⟩ := HFR.out.i.im; have r3 := HFR.out.r.at 3 _ rfl; have r9 := HFR.out.r.at 9 _ rfl; have r11 := HFR.out.r.at 11 _ rfl; have r12 := HFR.out.r.at 12 _ rfl; rw [HFL.out] at r9) | (go_at_call 46; refine (HFC.out _ HFR.out.b).mono ?_; rintro e wx ⟨i, hi, hins, rfl, hbx⟩; have HIN := hide ((hins ⟨r.tp, r.ky, r.va⟩).symm); clear hins; replace HFR := hide (HFR.out.below hbx); clear i0 i1 i2 i3 i4 r3 r9 r11 r12; clear hbx HFC; obtain ⟨i0, i1, i2, i3, i4⟩ := HFR.out.i.im; have r3 := HFR.out.r.at 3 _ rfl; have r9 := HFR.out.r.at 9 _ rfl; have r11 := HFR.out.r.at 11 _ rfl; have r12 := HFR.out.r.at 12 _ rfl; rw [HFL.out] at r9) | (refine wpList_set rfl _ _ _ rfl _ _ rfl HFR.out.z (iml m p) rfl rfl (by kernel_rfl) rfl ?_; intro W3 hz hk hb hp; have HFO := hide (HFR.out.out hz hk hb); clear hz hk hb hp))
          obtain ⟨q0, q1, q2, q3, q4⟩ := HFO.out.z.im
          exact bodyPost_ret (v := .tuple #[.agg (iml m p).toArray, .iface 71 (.int .i64 8)]) (by simp [results, Tryz.results103, go_sem, q0, q1, q2, q3, q4, iml]) rfl (st_ret HFO.out (fun W hW => HVV.out W _ HFO.out.b hW) (erc_code (by decide)))
        | false =>
          have HRE : Hid (cfgC m r = ({ m with cf := (putC m.cf ⟨r.tp, r.ky, r.va⟩) }, 0)) := hide (by unfold cfgC; rw [if_neg hG, if_neg (by rw [hfl]; decide)])
          rw [HRE.out]
          have HPU := hide (fun W (h : Below w.heap.size w W) i (hi : i ≤ m.cf.length) => putC_new m.cf p.ac _ p.cc i ⟨r.tp, r.ky, r.va⟩ W rfl (hv.below h).c hi hw.nc)
          have HFL := hide hfl
          have HFR0 : Fr w m p (cellsR r a14 a15 a16 a17 c14 c15 c16 c17) imz (((w.alloc (.cells (List.toArray [Value.slice p.ab m.br.length p.cb, .slice p.aq p.ts.length p.cq, .slice p.ac m.cf.length p.cc, .slice p.ad m.dn.length p.cd, .int .i64 m.la]) 30)).alloc (.cells (List.toArray [Value.int .i64 r.k, .int .i64 r.br, .int .i64 r.ep, .int .i64 r.tp, .int .i64 r.pa, .int .i64 r.le, .int .i64 r.cl, .int .i64 r.se, .int .i64 r.co, .bool r.fl, .string ⟨r.nm.toArray⟩, .string ⟨r.ky.toArray⟩, .string ⟨r.va.toArray⟩, .string ⟨r.rk.toArray⟩, .slice a14 r.ids.length c14, .slice a15 r.isr.length c15, .slice a16 r.ad.length c16, .slice a17 r.dr.length c17]) 62)).alloc (.cells (List.toArray [Value.slice none 0 0, .slice none 0 0, .slice none 0 0, .slice none 0 0, .int .i64 0]) 30)) := Fr.mk0 w m p _ _ _ _ (Below.refl _ _)
          clear hv hw hrw hc HFN hfl
          unfold imv
          show Calls _ _ #[_, .agg (List.toArray [.int .i64 r.k, .int .i64 r.br, .int .i64 r.ep, .int .i64 r.tp, .int .i64 r.pa, .int .i64 r.le, .int .i64 r.cl, .int .i64 r.se, .int .i64 r.co, .bool r.fl, .string ⟨r.nm.toArray⟩, .string ⟨r.ky.toArray⟩, .string ⟨r.va.toArray⟩, .string ⟨r.rk.toArray⟩, .slice a14 r.ids.length c14, .slice a15 r.isr.length c15, .slice a16 r.ad.length c16, .slice a17 r.dr.length c17])] _ _
          go_enter Tryz.func103, Tryz.ntmps103
          go_upto_region 1 with fail
          generalize ((w.alloc (.cells (List.toArray [Value.slice p.ab m.br.length p.cb, .slice p.aq p.ts.length p.cq, .slice p.ac m.cf.length p.cc, .slice p.ad m.dn.length p.cd, .int .i64 m.la]) 30)).alloc (.cells (List.toArray [Value.int .i64 r.k, .int .i64 r.br, .int .i64 r.ep, .int .i64 r.tp, .int .i64 r.pa, .int .i64 r.le, .int .i64 r.cl, .int .i64 r.se, .int .i64 r.co, .bool r.fl, .string ⟨r.nm.toArray⟩, .string ⟨r.ky.toArray⟩, .string ⟨r.va.toArray⟩, .string ⟨r.rk.toArray⟩, .slice a14 r.ids.length c14, .slice a15 r.isr.length c15, .slice a16 r.ad.length c16, .slice a17 r.dr.length c17]) 62)).alloc (.cells (List.toArray [Value.slice none 0 0, .slice none 0 0, .slice none 0 0, .slice none 0 0, .int .i64 0]) 30) = X at HFR0 ⊢
          have HFR := hide HFR0
          clear HFR0
          obtain ⟨i0, i1, i2, i3, i4⟩ := HFR.out.i.im; have r3 := HFR.out.r.at 3 _ rfl; have r9 := HFR.out.r.at 9 _ rfl; have r11 := HFR.out.r.at 11 _ rfl; have r12 := HFR.out.r.at 12 _ rfl
          unfold imv at HFC HFT
          rw [HFL.out] at r9
          go_wp2_with (first | (go_at_call 41; refine (HFT.out _ HFR.out.b).mono ?_; rintro e wx ⟨i9, _, _, _, _, _, _, rfl, hbx⟩;  replace HFR := hide (HFR.out.below hbx); clear i0 i1 i2 i3 i4 r3 r9 r11 r12; clear hbx HFT; obtain ⟨i0, i1, i2, i3, i4⟩ := HFR.out.i.im; have r3 := HFR.out.r.at 3 _ rfl; have r9 := HFR.out.r.at 9 _ rfl; have r11 := HFR.out.r.at 11 _ rfl; have r12 := HFR.out.r.at 12 _ rfl; rw [HFL.out] at r9) | (go_at_call 46; refine (HFC.out _ HFR.out.b).mono ?_; rintro e wx ⟨i, hi, hins, rfl, hbx⟩; have HIN := hide ((hins ⟨r.tp, r.ky, r.va⟩).symm); clear hins; replace HFR := hide (HFR.out.below hbx); clear i0 i1 i2 i3 i4 r3 r9 r11 r12; clear hbx HFC; obtain ⟨i0, i1, i2, i3, i4⟩ := HFR.out.i.im; have r3 := HFR.out.r.at 3 _ rfl; have r9 := HFR.out.r.at 9 _ rfl; have r11 := HFR.out.r.at 11 _ rfl; have r12 := HFR.out.r.at 12 _ rfl; rw [HFL.out] at r9) | (go_at_call 133; refine (HPU.out _ HFR.out.b i hi).mono ?_; rintro e w3 ⟨v, rfl, hro, hb3⟩; rw [HIN.out] at hro; change Ro _ _ _ _ _ _ (putC m.cf ⟨r.tp, r.ky, r.va⟩) at hro; obtain ⟨av, cv, rfl⟩ := hro.form; have HRO := hide (hro.mono HFR.out.sz); replace HFR := hide (HFR.out.below hb3); clear hro hb3 HPU; clear i0 i1 i2 i3 i4 r3 r9 r11 r12; obtain ⟨i0, i1, i2, i3, i4⟩ := HFR.out.i.im; have r3 := HFR.out.r.at 3 _ rfl; have r9 := HFR.out.r.at 9 _ rfl; have r11 := HFR.out.r.at 11 _ rfl; have r12 := HFR.out.r.at 12 _ rfl; have f2 := HFR.out.f 2 (by decide); have HFS := hide (HFR.out.set 2 (.slice av ((putC m.cf ⟨r.tp, r.ky, r.va⟩)).length cv) { m with cf := (putC m.cf ⟨r.tp, r.ky, r.va⟩) } { p with ac := av, cc := cv } (by decide) rfl)) | (refine wpList_set rfl _ _ _ rfl _ _ rfl HFS.out.z (iml { m with cf := (putC m.cf ⟨r.tp, r.ky, r.va⟩) } { p with ac := av, cc := cv }) rfl rfl (by kernel_rfl) rfl ?_; intro W3 hz hk hb hp; have HFO := hide (HFS.out.out hz hk hb); have HRS := hide (fun W (hW : Agr n0 w.heap.size W3 W) => (HRO.out.keepG (fun g hg => (hW g (.inr (by omega))).trans ((hp g (by omega)).trans (Below.heap_setCell _ _ _ _ (show ¬ g = w.heap.size by omega))))).rs); clear hz hk hb hp))
          obtain ⟨q0, q1, q2, q3, q4⟩ := HFO.out.z.im
          exact bodyPost_ret (v := .tuple #[.agg (iml { m with cf := (putC m.cf ⟨r.tp, r.ky, r.va⟩) } { p with ac := av, cc := cv }).toArray, .nilIface]) (by simp [results, Tryz.results103, go_sem, q0, q1, q2, q3, q4, iml]) rfl (st_ret HFO.out (fun W hW => ⟨(HVV.out W _ HFO.out.b hW).b, (HVV.out W _ HFO.out.b hW).t, (HVV.out W _ HFO.out.b hW).q, (HVV.out W _ HFO.out.b hW).e, (HRS.out W hW), (HVV.out W _ HFO.out.b hW).d⟩) erc_nil)
      | some y =>
        have HFC := hide (fun W (h : Below w.heap.size w W) => findConfig_yes m p r.tp r.ky W (hv.below h) hw y hc)
        cases hfl : r.fl with
        | true =>
          have HRE : Hid (cfgC m r = ({ m with cf := (remO (fun x : Cf => cmpC x r.tp r.ky) m.cf) }, 0)) := hide (by unfold cfgC; rw [if_neg hG, if_pos hfl, hc, if_neg (by simp), remC_rem])
          rw [HRE.out]
          have HPU := hide (fun W (h : Below w.heap.size w W) i (hi : i < m.cf.length) => woC_any m.cf p.ac _ p.cc i W rfl (hv.below h).c hi hw.nc)
          have HFL := hide hfl
          have HFR0 : Fr w m p (cellsR r a14 a15 a16 a17 c14 c15 c16 c17) imz (((w.alloc (.cells (List.toArray [Value.slice p.ab m.br.length p.cb, .slice p.aq p.ts.length p.cq, .slice p.ac m.cf.length p.cc, .slice p.ad m.dn.length p.cd, .int .i64 m.la]) 30)).alloc (.cells (List.toArray [Value.int .i64 r.k, .int .i64 r.br, .int .i64 r.ep, .int .i64 r.tp, .int .i64 r.pa, .int .i64 r.le, .int .i64 r.cl, .int .i64 r.se, .int .i64 r.co, .bool r.fl, .string ⟨r.nm.toArray⟩, .string ⟨r.ky.toArray⟩, .string ⟨r.va.toArray⟩, .string ⟨r.rk.toArray⟩, .slice a14 r.ids.length c14, .slice a15 r.isr.length c15, .slice a16 r.ad.length c16, .slice a17 r.dr.length c17]) 62)).alloc (.cells (List.toArray [Value.slice none 0 0, .slice none 0 0, .slice none 0 0, .slice none 0 0, .int .i64 0]) 30)) := Fr.mk0 w m p _ _ _ _ (Below.refl _ _)
          clear hv hw hrw hc HFN hfl
          unfold imv
          show Calls _ _ #[_, .agg (List.toArray [.int .i64 r.k, .int .i64 r.br, .int .i64 r.ep, .int .i64 r.tp, .int .i64 r.pa, .int .i64 r.le, .int .i64 r.cl, .int .i64 r.se, .int .i64 r.co, .bool r.fl, .string ⟨r.nm.toArray⟩, .string ⟨r.ky.toArray⟩, .string ⟨r.va.toArray⟩, .string ⟨r.rk.toArray⟩, .slice a14 r.ids.length c14, .slice a15 r.isr.length c15, .slice a16 r.ad.length c16, .slice a17 r.dr.length c17])] _ _
          go_enter Tryz.func103, Tryz.ntmps103
          go_upto_region 1 with fail
          generalize ((w.alloc (.cells (List.toArray [Value.slice p.ab m.br.length p.cb, .slice p.aq p.ts.length p.cq, .slice p.ac m.cf.length p.cc, .slice p.ad m.dn.length p.cd, .int .i64 m.la]) 30)).alloc (.cells (List.toArray [Value.int .i64 r.k, .int .i64 r.br, .int .i64 r.ep, .int .i64 r.tp, .int .i64 r.pa, .int .i64 r.le, .int .i64 r.cl, .int .i64 r.se, .int .i64 r.co, .bool r.fl, .string ⟨r.nm.toArray⟩, .string ⟨r.ky.toArray⟩, .string ⟨r.va.toArray⟩, .string ⟨r.rk.toArray⟩, .slice a14 r.ids.length c14, .slice a15 r.isr.length c15, .slice a16 r.ad.length c16, .slice a17 r.dr.length c17]) 62)).alloc (.cells (List.toArray [Value.slice none 0 0, .slice none 0 0, .slice none 0 0, .slice none 0 0, .int .i64 0]) 30) = X at HFR0 ⊢
          have HFR := hide HFR0
          clear HFR0
          obtain ⟨i0, i1, i2, i3, i4⟩ := HFR.out.i.im; have r3 := HFR.out.r.at 3 _ rfl; have r9 := HFR.out.r.at 9 _ rfl; have r11 := HFR.out.r.at 11 _ rfl; have r12 := HFR.out.r.at 12 _ rfl
          unfold imv at HFC HFT
          rw [HFL.out] at r9
          go_wp2_with (first | (go_at_call 41; refine (HFT.out _ HFR.out.b).mono ?_; rintro e wx ⟨i9, _, _, _, _, _, _, rfl, hbx⟩;  replace HFR := hide (HFR.out.below hbx); clear i0 i1 i2 i3 i4 r3 r9 r11 r12; clear hbx HFT; obtain ⟨i0, i1, i2, i3, i4⟩ := HFR.out.i.im; have r3 := HFR.out.r.at 3 _ rfl; have r9 := HFR.out.r.at 9 _ rfl; have r11 := HFR.out.r.at 11 _ rfl; have r12 := HFR.out.r.at 12 _ rfl; rw [HFL.out] at r9) | (go_at_call 46; refine (HFC.out _ HFR.out.b).mono ?_; rintro e wx ⟨i, hi, hib, hins, hrem, _, _, rfl, hbx⟩; have HIN := hide ((hins ⟨r.tp, r.ky, r.va⟩).symm); have HRM := hide hrem.symm; clear hins hrem; replace HFR := hide (HFR.out.below hbx); clear i0 i1 i2 i3 i4 r3 r9 r11 r12; clear hbx HFC; obtain ⟨i0, i1, i2, i3, i4⟩ := HFR.out.i.im; have r3 := HFR.out.r.at 3 _ rfl; have r9 := HFR.out.r.at 9 _ rfl; have r11 := HFR.out.r.at 11 _ rfl; have r12 := HFR.out.r.at 12 _ rfl; rw [HFL.out] at r9) | (go_at_call 132; refine (HPU.out _ HFR.out.b i hi).mono ?_; rintro e w3 ⟨v, rfl, hro, hb3⟩; rw [HRM.out] at hro; obtain ⟨av, cv, rfl⟩ := hro.form; have HRO := hide (hro.mono HFR.out.sz); replace HFR := hide (HFR.out.below hb3); clear hro hb3 HPU; clear i0 i1 i2 i3 i4 r3 r9 r11 r12; obtain ⟨i0, i1, i2, i3, i4⟩ := HFR.out.i.im; have r3 := HFR.out.r.at 3 _ rfl; have r9 := HFR.out.r.at 9 _ rfl; have r11 := HFR.out.r.at 11 _ rfl; have r12 := HFR.out.r.at 12 _ rfl; have f2 := HFR.out.f 2 (by decide); have HFS := hide (HFR.out.set 2 (.slice av ((remO (fun x : Cf => cmpC x r.tp r.ky) m.cf)).length cv) { m with cf := (remO (fun x : Cf => cmpC x r.tp r.ky) m.cf) } { p with ac := av, cc := cv } (by decide) rfl)) | (refine wpList_set rfl _ _ _ rfl _ _ rfl HFS.out.z (iml { m with cf := (remO (fun x : Cf => cmpC x r.tp r.ky) m.cf) } { p with ac := av, cc := cv }) rfl rfl (by kernel_rfl) rfl ?_; intro W3 hz hk hb hp; have HFO := hide (HFS.out.out hz hk hb); have HRS := hide (fun W (hW : Agr n0 w.heap.size W3 W) => (HRO.out.keepG (fun g hg => (hW g (.inr (by omega))).trans ((hp g (by omega)).trans (Below.heap_setCell _ _ _ _ (show ¬ g = w.heap.size by omega))))).rs); clear hz hk hb hp))
          obtain ⟨q0, q1, q2, q3, q4⟩ := HFO.out.z.im
          exact bodyPost_ret (v := .tuple #[.agg (iml { m with cf := (remO (fun x : Cf => cmpC x r.tp r.ky) m.cf) } { p with ac := av, cc := cv }).toArray, .nilIface]) (by simp [results, Tryz.results103, go_sem, q0, q1, q2, q3, q4, iml]) rfl (st_ret HFO.out (fun W hW => ⟨(HVV.out W _ HFO.out.b hW).b, (HVV.out W _ HFO.out.b hW).t, (HVV.out W _ HFO.out.b hW).q, (HVV.out W _ HFO.out.b hW).e, (HRS.out W hW), (HVV.out W _ HFO.out.b hW).d⟩) erc_nil)
        | false =>
          have HRE : Hid (cfgC m r = ({ m with cf := (putC m.cf ⟨r.tp, r.ky, r.va⟩) }, 0)) := hide (by unfold cfgC; rw [if_neg hG, if_neg (by rw [hfl]; decide)])
          rw [HRE.out]
          have HPU := hide (fun W (h : Below w.heap.size w W) i (hi : i < m.cf.length) => putC_old m.cf p.ac _ p.cc i ⟨r.tp, r.ky, r.va⟩ W rfl (hv.below h).c hi hw.nc)
          have HFL := hide hfl
          have HFR0 : Fr w m p (cellsR r a14 a15 a16 a17 c14 c15 c16 c17) imz (((w.alloc (.cells (List.toArray [Value.slice p.ab m.br.length p.cb, .slice p.aq p.ts.length p.cq, .slice p.ac m.cf.length p.cc, .slice p.ad m.dn.length p.cd, .int .i64 m.la]) 30)).alloc (.cells (List.toArray [Value.int .i64 r.k, .int .i64 r.br, .int .i64 r.ep, .int .i64 r.tp, .int .i64 r.pa, .int .i64 r.le, .int .i64 r.cl, .int .i64 r.se, .int .i64 r.co, .bool r.fl, .string ⟨r.nm.toArray⟩, .string ⟨r.ky.toArray⟩, .string ⟨r.va.toArray⟩, .string ⟨r.rk.toArray⟩, .slice a14 r.ids.length c14, .slice a15 r.isr.length c15, .slice a16 r.ad.length c16, .slice a17 r.dr.length c17]) 62)).alloc (.cells (List.toArray [Value.slice none 0 0, .slice none 0 0, .slice none 0 0, .slice none 0 0, .int .i64 0]) 30)) := Fr.mk0 w m p _ _ _ _ (Below.refl _ _)
          clear hv hw hrw hc HFN hfl
          unfold imv
          show Calls _ _ #[_, .agg (List.toArray [.int .i64 r.k, .int .i64 r.br, .int .i64 r.ep, .int .i64 r.tp, .int .i64 r.pa, .int .i64 r.le, .int .i64 r.cl, .int .i64 r.se, .int .i64 r.co, .bool r.fl, .string ⟨r.nm.toArray⟩, .string ⟨r.ky.toArray⟩, .string ⟨r.va.toArray⟩, .string ⟨r.rk.toArray⟩, .slice a14 r.ids.length c14, .slice a15 r.isr.length c15, .slice a16 r.ad.length c16, .slice a17 r.dr.length c17])] _ _
          go_enter Tryz.func103, Tryz.ntmps103
          go_upto_region 1 with fail
          generalize ((w.alloc (.cells (List.toArray [Value.slice p.ab m.br.length p.cb, .slice p.aq p.ts.length p.cq, .slice p.ac m.cf.length p.cc, .slice p.ad m.dn.length p.cd, .int .i64 m.la]) 30)).alloc (.cells (List.toArray [Value.int .i64 r.k, .int .i64 r.br, .int .i64 r.ep, .int .i64 r.tp, .int .i64 r.pa, .int .i64 r.le, .int .i64 r.cl, .int .i64 r.se, .int .i64 r.co, .bool r.fl, .string ⟨r.nm.toArray⟩, .string ⟨r.ky.toArray⟩, .string ⟨r.va.toArray⟩, .string ⟨r.rk.toArray⟩, .slice a14 r.ids.length c14, .slice a15 r.isr.length c15, .slice a16 r.ad.length c16, .slice a17 r.dr.length c17]) 62)).alloc (.cells (List.toArray [Value.slice none 0 0, .slice none 0 0, .slice none 0 0, .slice none 0 0, .int .i64 0]) 30) = X at HFR0 ⊢
          have HFR := hide HFR0
          clear HFR0
          obtain ⟨i0, i1, i2, i3, i4⟩ := HFR.out.i.im; have r3 := HFR.out.r.at 3 _ rfl; have r9 := HFR.out.r.at 9 _ rfl; have r11 := HFR.out.r.at 11 _ rfl; have r12 := HFR.out.r.at 12 _ rfl
          unfold imv at HFC HFT
          rw [HFL.out] at r9
          go_wp2_with (first | (go_at_call 41; refine (HFT.out _ HFR.out.b).mono ?_; rintro e wx ⟨i9, _, _, _, _, _, _, rfl, hbx⟩;  replace HFR := hide (HFR.out.below hbx); clear i0 i1 i2 i3 i4 r3 r9 r11 r12; clear hbx HFT; obtain ⟨i0, i1, i2, i3, i4⟩ := HFR.out.i.im; have r3 := HFR.out.r.at 3 _ rfl; have r9 := HFR.out.r.at 9 _ rfl; have r11 := HFR.out.r.at 11 _ rfl; have r12 := HFR.out.r.at 12 _ rfl; rw [HFL.out] at r9) | (go_at_call 46; refine (HFC.out _ HFR.out.b).mono ?_; rintro e wx ⟨i, hi, hib, hins, hrem, _, _, rfl, hbx⟩; have HIN := hide ((hins ⟨r.tp, r.ky, r.va⟩).symm); have HRM := hide hrem.symm; clear hins hrem; replace HFR := hide (HFR.out.below hbx); clear i0 i1 i2 i3 i4 r3 r9 r11 r12; clear hbx HFC; obtain ⟨i0, i1, i2, i3, i4⟩ := HFR.out.i.im; have r3 := HFR.out.r.at 3 _ rfl; have r9 := HFR.out.r.at 9 _ rfl; have r11 := HFR.out.r.at 11 _ rfl; have r12 := HFR.out.r.at 12 _ rfl; rw [HFL.out] at r9) | (go_at_call 133; refine (HPU.out _ HFR.out.b i hi).mono ?_; rintro e w3 ⟨v, rfl, hro, hb3⟩; rw [HIN.out] at hro; change Ro _ _ _ _ _ _ (putC m.cf ⟨r.tp, r.ky, r.va⟩) at hro; obtain ⟨av, cv, rfl⟩ := hro.form; have HRO := hide (hro.mono HFR.out.sz); replace HFR := hide (HFR.out.below hb3); clear hro hb3 HPU; clear i0 i1 i2 i3 i4 r3 r9 r11 r12; obtain ⟨i0, i1, i2, i3, i4⟩ := HFR.out.i.im; have r3 := HFR.out.r.at 3 _ rfl; have r9 := HFR.out.r.at 9 _ rfl; have r11 := HFR.out.r.at 11 _ rfl; have r12 := HFR.out.r.at 12 _ rfl; have f2 := HFR.out.f 2 (by decide); have HFS := hide (HFR.out.set 2 (.slice av ((putC m.cf ⟨r.tp, r.ky, r.va⟩)).length cv) { m with cf := (putC m.cf ⟨r.tp, r.ky, r.va⟩) } { p with ac := av, cc := cv } (by decide) rfl)) | (refine wpList_set rfl _ _ _ rfl _ _ rfl HFS.out.z (iml { m with cf := (putC m.cf ⟨r.tp, r.ky, r.va⟩) } { p with ac := av, cc := cv }) rfl rfl (by kernel_rfl) rfl ?_; intro W3 hz hk hb hp; have HFO := hide (HFS.out.out hz hk hb); have HRS := hide (fun W (hW : Agr n0 w.heap.size W3 W) => (HRO.out.keepG (fun g hg => (hW g (.inr (by omega))).trans ((hp g (by omega)).trans (Below.heap_setCell _ _ _ _ (show ¬ g = w.heap.size by omega))))).rs); clear hz hk hb hp))
          obtain ⟨q0, q1, q2, q3, q4⟩ := HFO.out.z.im
          exact bodyPost_ret (v := .tuple #[.agg (iml { m with cf := (putC m.cf ⟨r.tp, r.ky, r.va⟩) } { p with ac := av, cc := cv }).toArray, .nilIface]) (by simp [results, Tryz.results103, go_sem, q0, q1, q2, q3, q4, iml]) rfl (st_ret HFO.out (fun W hW => ⟨(HVV.out W _ HFO.out.b hW).b, (HVV.out W _ HFO.out.b hW).t, (HVV.out W _ HFO.out.b hW).q, (HVV.out W _ HFO.out.b hW).e, (HRS.out W hW), (HVV.out W _ HFO.out.b hW).d⟩) erc_nil)
end Go.Proofs.YtfnemlbkmhcodaaGreat
namespace Go.Proofs.YtfnemlbkmhcodaaGreat
open Go.RowKit


set_option maxRecDepth 100000 in
set_option maxHeartbeats 4000000 in
theorem growD_any (n : Nat) (w : World) (hn : n ≤ 1000000) : Calls Tryz.prog 163 #[.slice none 0 0, .int .i64 (n : Int)] w fun e w' => ∃ v, e = .returned v ∧ Ro dnc 3 87 w' w.heap.size v [] ∧ Below w.heap.size w w' := by
  have h2 : wrap64 ((0 : Int) - 0) = 0 := by unfold wrap64; omega
  have h1 : ¬ ((n : Int) < 0) := by omega
  rcases Nat.eq_zero_or_pos n with h0 | h0
  · subst h0
    clear hn h1
    go_enter Tryz.func163, Tryz.ntmps163
    go_wp2_with fail
    go_ret
    exact ⟨_, rfl, ro_nil _ _ _ _ _, Below.refl _ _⟩
  · have h3 : wrap64 ((n : Int) - 0) = (n : Int) := by unfold wrap64; omega
    have h4 : (n : Int) > 0 := by omega
    have hz := fun ty => grow_zeros (I := 3) tyiD (by decide) Tryz.underlying3 w n h0 hn ty
    obtain ⟨G, c, hG, hnG, hm, hc⟩ := hz 28
    have HU := hide (fun W => upto_run tyiD (some ⟨w.heap.size, 0, none⟩) n G 0 (Nat.zero_le _) hnG W)
    have HG := hide hG
    have HR := hide (ro_room dnc 3 87 w G c hm hc)
    clear hz hG hm hc
    go_enter Tryz.func163, Tryz.ntmps163
    go_wp2_with (at_builtin; refine Lib.wpList_append_run _ rfl _ _ _ _ rfl _ _ rfl rfl _ _ HG.out ?_)
    all_goals
      go_ret
      exact ⟨_, rfl, HR.out, below_dal _ _⟩

set_option maxRecDepth 100000 in
set_option maxHeartbeats 8000000 in
theorem concD_3 (v1 v2 v3 : Value) (l1 l2 l3 : List Dn) (B : Nat) (w : World) (hB : Bx w B [v1, v2, v3]) (h1 : Rs dnc w v1 l1) (h2 : Rs dnc w v2 l2) (h3 : Rs dnc w v3 l3) (hl1 : l1.length ≤ 200000) (hl2 : l2.length ≤ 200000) (hl3 : l3.length ≤ 200000) :
    Calls Tryz.prog 154 #[.slice (some ⟨B, 0, none⟩) 3 3] w fun e w' => ∃ v, e = .returned v ∧ Ro dnc 3 87 w' w.heap.size v (l1 ++ l2 ++ l3) ∧ Below w.heap.size w w' := by
  have HG := hide (fun n hn => growD_any n w hn)
  obtain ⟨a1, c1, rfl⟩ := h1.form
  obtain ⟨a2, c2, rfl⟩ := h2.form
  obtain ⟨a3, c3, rfl⟩ := h3.form
  have HB := hide (fun W (h : Below w.heap.size w W) => (hB.below h).c3)
  have H1 := hide (fun W (h : Below w.heap.size w W) => h1.below h)
  have H2 := hide (fun W (h : Below w.heap.size w W) => h2.below h)
  have H3 := hide (fun W (h : Below w.heap.size w W) => h3.below h)
  obtain ⟨b0, b1, b2⟩ := hB.c3
  have hbl := hB.l
  clear h1 h2 h3 hB
  go_enter Tryz.func154, Tryz.ntmps154
  go_wp2_with fail
  refine wp_loop_rounds 4 ?_
  rw [rounds_succ]
  go_wp2_with fail
  rw [rounds_succ]
  go_wp2_with fail
  rw [rounds_succ]
  go_wp2_with fail
  rw [rounds_succ]
  have HN : Hid (((l1.length : Int) + l2.length + l3.length) = ((l1.length + l2.length + l3.length : Nat) : Int)) := hide (by omega)
  have HK : Hid (l1.length + l2.length + l3.length ≤ 1000000) := hide (by omega)
  go_wp2_with (go_at_call 163; first | rw [HN.out] | skip; refine (HG.out _ HK.out).mono ?_; rintro e w1 ⟨v, rfl, hr, hb⟩; obtain ⟨d0, d1, d2⟩ := HB.out _ hb; have HR := hide hr; have HBl := hide hb; clear hr hb HG b0 b1 b2)
  refine wp_loop_rounds 4 ?_
  rw [rounds_succ]
  go_wp2_with (at_builtin; refine wpList_appR tyiD encD _ rfl _ _ rfl w.heap.size _ [] rfl HR.out HBl.out.size _ l1 rfl (H1.out _ HBl.out) (by rw [List.length_nil]; omega) ?_; intro v1 w2 hr _ hb; rw [List.nil_append] at hr; obtain ⟨d0, d1, d2⟩ := HB.out _ (HBl.out.trans hb); replace HR := hide hr; replace HBl := hide (HBl.out.trans hb); clear hr hb)
  rw [rounds_succ]
  go_wp2_with (at_builtin; refine wpList_appR tyiD encD _ rfl _ _ rfl w.heap.size _ l1 rfl HR.out HBl.out.size _ l2 rfl (H2.out _ HBl.out) (by omega) ?_; intro v2 w3 hr _ hb; obtain ⟨d0, d1, d2⟩ := HB.out _ (HBl.out.trans hb); replace HR := hide hr; replace HBl := hide (HBl.out.trans hb); clear hr hb)
  rw [rounds_succ]
  go_wp2_with (at_builtin; refine wpList_appR tyiD encD _ rfl _ _ rfl w.heap.size _ (l1 ++ l2) rfl HR.out HBl.out.size _ l3 rfl (H3.out _ HBl.out) (by rw [List.length_append]; omega) ?_; intro v3 w4 hr _ hb; obtain ⟨d0, d1, d2⟩ := HB.out _ (HBl.out.trans hb); replace HR := hide hr; replace HBl := hide (HBl.out.trans hb); clear hr hb)
  rw [rounds_succ]
  go_wp2_with fail
  go_ret
  exact ⟨_, rfl, HR.out, HBl.out⟩
end Go.Proofs.YtfnemlbkmhcodaaGreat
