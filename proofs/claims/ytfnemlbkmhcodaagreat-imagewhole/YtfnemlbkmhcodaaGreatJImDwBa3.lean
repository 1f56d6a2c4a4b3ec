/-
  ONE THAT IS TAKEN OUT OF A ROW (slices.Concat of two, image.without). Conditions: the cells hold it, no more than a hundred thousand.
  A BROKER IS TURNED: fenced, opened, leaving, gone (image.turn). Conditions: an image in order, its lists no longer than a hundred thousand; a record of one of these kinds.
  A PARTITION IN ITS OWN MEMORY, AND TWO HELD TOGETHER (slices.Clone of numbers, image.Alone, image.Same). Conditions: the cells hold them, rows of no more than seven numbers.
-/
import Derived.Test.YtfnemlbkmhcodaaGreatJImDgBa3
import Derived.Test.YtfnemlbkmhcodaaGreatJImXa3
import Derived.Test.YtfnemlbkmhcodaaGreatJImDpDa3
import Derived.Test.YtfnemlbkmhcodaaGreatJImCha3
import Derived.Test.YtfnemlbkmhcodaaGreatJImHa3
namespace Go.Proofs.YtfnemlbkmhcodaaGreat
open Go.RowKit


set_option maxRecDepth 100000 in
set_option maxHeartbeats 8000000 in
theorem concB_2 (v1 v2 : Value) (l1 l2 : List Bk) (B : Nat) (w : World) (hB : Bx w B [v1, v2]) (h1 : Rs bkc w v1 l1) (h2 : Rs bkc w v2 l2) (hl1 : l1.length ≤ 200000) (hl2 : l2.length ≤ 200000) :
    Calls Tryz.prog 143 #[.slice (some ⟨B, 0, none⟩) 2 2] w fun e w' => ∃ v, e = .returned v ∧ Ro bkc 5 33 w' w.heap.size v (l1 ++ l2) ∧ Below w.heap.size w w' := by
  have HG := hide (fun n hn => growB_any n w hn)
  obtain ⟨a1, c1, rfl⟩ := h1.form
  obtain ⟨a2, c2, rfl⟩ := h2.form
  have HB := hide (fun W (h : Below w.heap.size w W) => (hB.below h).c2)
  have H1 := hide (fun W (h : Below w.heap.size w W) => h1.below h)
  have H2 := hide (fun W (h : Below w.heap.size w W) => h2.below h)
  obtain ⟨b0, b1⟩ := hB.c2
  have hbl := hB.l
  clear h1 h2 hB
  go_enter Tryz.func143, Tryz.ntmps143
  go_wp2_with fail
  refine wp_loop_rounds 3 ?_
  rw [rounds_succ]
  go_wp2_with fail
  rw [rounds_succ]
  go_wp2_with fail
  rw [rounds_succ]
  have HN : Hid (((l1.length : Int) + l2.length) = ((l1.length + l2.length : Nat) : Int)) := hide (by omega)
  have HK : Hid (l1.length + l2.length ≤ 1000000) := hide (by omega)
  go_wp2_with (go_at_call 157; first | rw [HN.out] | skip; refine (HG.out _ HK.out).mono ?_; rintro e w1 ⟨v, rfl, hr, hb⟩; obtain ⟨d0, d1⟩ := HB.out _ hb; have HR := hide hr; have HBl := hide hb; clear hr hb HG b0 b1)
  refine wp_loop_rounds 3 ?_
  rw [rounds_succ]
  go_wp2_with (at_builtin; refine wpList_appR tyiB encB _ rfl _ _ rfl w.heap.size _ [] rfl HR.out HBl.out.size _ l1 rfl (H1.out _ HBl.out) (by rw [List.length_nil]; omega) ?_; intro v1 w2 hr _ hb; rw [List.nil_append] at hr; obtain ⟨d0, d1⟩ := HB.out _ (HBl.out.trans hb); replace HR := hide hr; replace HBl := hide (HBl.out.trans hb); clear hr hb)
  rw [rounds_succ]
  go_wp2_with (at_builtin; refine wpList_appR tyiB encB _ rfl _ _ rfl w.heap.size _ l1 rfl HR.out HBl.out.size _ l2 rfl (H2.out _ HBl.out) (by omega) ?_; intro v2 w3 hr _ hb; obtain ⟨d0, d1⟩ := HB.out _ (HBl.out.trans hb); replace HR := hide hr; replace HBl := hide (HBl.out.trans hb); clear hr hb)
  rw [rounds_succ]
  go_wp2_with fail
  go_ret
  exact ⟨_, rfl, HR.out, HBl.out⟩

theorem infoSB : (Tryz.prog.info? 33).map (fun i => i.size) = some 5 := by kernel_rfl
set_option maxRecDepth 100000 in
set_option maxHeartbeats 8000000 in
theorem woB_any (l : List Bk) (ao : Option Addr) (n cap i : Nat) (w : World) (hn : n = l.length) (hv : Rs bkc w (.slice ao n cap) l) (hi : i < l.length) (hl : l.length ≤ 100000) :
    Calls Tryz.prog 127 #[.slice ao n cap, .int .i64 (i : Int)] w fun e w' => ∃ v, e = .returned v ∧ Ro bkc 5 33 w' w.heap.size v (l.take i ++ l.drop (i + 1)) ∧ Below w.heap.size w w' := by
  subst hn
  obtain ⟨bb, oo, rfl, hrg⟩ := hv.rg (by omega)
  have hu := fun W => upto_run tyiB (some ⟨bb, oo, none⟩) l.length cap i (Nat.le_of_lt hi) hv.cap.2 W
  have hcap := hv.cap.2
  have h0 : ¬ ((i : Int) + 1 < 0) := by omega
  have hwr : IntKind.i64.wrap ((i : Int) + 1) = (i : Int) + 1 := by rw [IntKind.wrap_i64]; omega
  have h00 : (0 : Int) ≤ (i : Int) + 1 := by omega
  have h1 : (i : Int) + 1 ≤ (l.length : Int) := by omega
  have hd : ∀ (ao' : Option Addr), (¬ cap = i + 1 → ao' = some ⟨bb, oo + (i + 1) * 5, none⟩) → ∀ W, Below w.heap.size w W → Rs bkc W (.slice ao' (l.length - (i + 1)) (cap - (i + 1))) (l.drop (i + 1)) := fun ao' hao W hb => by
    have := (hv.below hb).part encB (i + 1) l.length hi (Nat.le_refl _) ao' (fun q b o e => by cases e; rw [hao (by omega)])
    rwa [List.take_of_length_le (by rw [List.length_drop]; omega)] at this
  have HC : Hid (∀ (ao' : Option Addr), (¬ cap = i + 1 → ao' = some ⟨bb, oo + (i + 1) * 5, none⟩) → ∀ (n1 n2 : Nat), n1 = l.length - (i + 1) → n2 = cap - (i + 1) → ∀ U, Calls Tryz.prog 143 #[.slice (some ⟨w.heap.size, 0, none⟩) 2 2] (w.alloc (.cells #[.slice (some ⟨bb, oo, none⟩) i cap, .slice ao' n1 n2] U)).drew fun e w' => ∃ v, e = .returned v ∧ Ro bkc 5 33 w' w.heap.size v (l.take i ++ l.drop (i + 1)) ∧ Below w.heap.size w w') := hide (fun ao' hao n1 n2 e1 e2 U => by
    subst e1 e2
    obtain ⟨p1, p3⟩ := wo_frame w U (.slice (some ⟨bb, oo, none⟩) i cap) (.slice ao' (l.length - (i + 1)) (cap - (i + 1)))
    refine (concB_2 _ _ (l.take i) (l.drop (i + 1)) _ _ p1 ((hv.below p3).upto encB i (Nat.le_of_lt hi)) (hd ao' hao _ p3) (by rw [List.length_take]; omega) (by rw [List.length_drop]; omega)).mono ?_
    rintro e w1 ⟨v, rfl, hr, hb⟩
    exact ⟨v, rfl, hr.mono p3.size, bt p3 hb⟩)
  have hcap := hv.cap.2
  clear hv hd hrg hu
  by_cases hce : cap = i + 1
  · subst hce
    go_enter Tryz.func127, Tryz.ntmps127
    go_upto_region 1 with fail
    go_region_with (go_at_call 143; refine (HC.out _ (by simp) _ _ (by omega) (by omega) _).mono ?_; rintro e w1 ⟨v, rfl, hr, hb⟩; have HR := hide hr; have HB := hide hb; clear hr hb)
    all_goals
      go_wp2_with fail
      go_ret
      exact ⟨_, rfl, HR.out, HB.out⟩
  · have hce2 : ¬ cap - (i + 1) = 0 := by omega
    have hce3 : ¬ cap ≤ i + 1 := by omega
    go_enter Tryz.func127, Tryz.ntmps127
    go_upto_region 1 with fail
    go_region_with (go_at_call 143; refine (HC.out _ (fun _ => rfl) _ _ (by omega) (by omega) _).mono ?_; rintro e w1 ⟨v, rfl, hr, hb⟩; have HR := hide hr; have HB := hide hb; clear hr hb)
    all_goals
      go_wp2_with fail
      go_ret
      exact ⟨_, rfl, HR.out, HB.out⟩
end Go.Proofs.YtfnemlbkmhcodaaGreat
namespace Go.Proofs.YtfnemlbkmhcodaaGreat
open Go.RowKit

/-- What a broker that is turned becomes. -/
def trnX (b : Bk) (k : Int) : Bk := if k = 3 then ⟨b.id, b.ep, b.rk, true, b.lv⟩ else if k = 4 then ⟨b.id, b.ep, b.rk, false, false⟩ else ⟨b.id, b.ep, b.rk, b.fe, true⟩
theorem trn_no {m : Im} {b : Bk} {k : Int} (h : trnQ m b k = false) : trnB m b k = (m, 10) := by
  unfold trnQ at h
  unfold trnB
  split
  · rename_i h3
    rw [if_pos h3] at h
    rw [if_pos]
    cases hf : b.fe <;> simp_all
  · rename_i h3
    rw [if_neg h3] at h
    split
    · rename_i h4
      rw [if_pos h4] at h
      rw [if_pos h]
    · rename_i h4
      rw [if_neg h4] at h
      split
      · rename_i h5
        rw [if_pos h5] at h
        rw [if_pos]
        cases hf : b.fe <;> simp_all
      · rename_i h5
        rw [if_neg h5] at h
        rw [if_pos (by simpa using h)]
theorem trn_yes {m : Im} {b : Bk} {k : Int} (h : trnQ m b k = true) (hk : k = 3 ∨ k = 4 ∨ k = 5) : trnB m b k = ({ m with br := putB m.br (trnX b k) }, 0) := by
  unfold trnQ at h
  unfold trnB trnX
  rcases hk with rfl | rfl | rfl
  · simp at h
    simp [h]
  · simp at h
    simp [h]
  · simp at h
    simp [h]
theorem trn_gone {m : Im} {b : Bk} (h : trnQ m b 6 = true) : trnB m b 6 = ({ m with br := remB m.br b.id }, 0) := by
  unfold trnQ at h
  unfold trnB
  simp at h
  simp [h]
set_option maxRecDepth 100000 in
set_option maxHeartbeats 16000000 in
theorem turn_any {ok : Nat → Prop} (m : Im) (p : Ip) (r : Rc) (v : Value) (w : World) (n0 : Nat → Prop) (hn0 : ∀ g, n0 g → g < w.heap.size) (hv : ∀ W, (∀ g, n0 g → W.heap[g]? = w.heap[g]?) → ImR W m p) (hw : Wf m 100000) (hr : IsR ok w v r) (hk : r.k = 3 ∨ r.k = 4 ∨ r.k = 5 ∨ r.k = 6) : Calls Tryz.prog 100 #[imv m p, v] w fun e w' => StP n0 w w' (turB m r).1 (turB m r).2 e := by
  obtain ⟨a14, a15, a16, a17, c14, c15, c16, c17, rfl, hrw⟩ := hr
  have HVV := hide (fun (W W3 : World) (hb : Below w.heap.size w W3) (hW : Agr n0 w.heap.size W3 W) => hv W (fun g hg => (hW g (.inl hg)).trans (hb.block g (hn0 g hg))))
  clear hn0
  replace hv : ImR w m p := hv w (fun _ _ => rfl)
  have HV := hide (fun W (h : Below w.heap.size w W) => hv.below h)
  cases hf : fB m.br r.br with
  | none =>
    obtain ⟨ab, aq, ac, ad, cb, cq, cc, cd, ts⟩ := p
    have HF := hide (fun W (h : Below w.heap.size w W) => findBroker_no m _ r.br W (hv.below h) hw hf)
    have HRE : Hid (turB m r = (m, 8)) := hide (by unfold turB; rw [hf])
    rw [HRE.out]
    have HFR0 : Fr w m (⟨ab, aq, ac, ad, cb, cq, cc, cd, ts⟩ : Ip) (cellsR r a14 a15 a16 a17 c14 c15 c16 c17) imz (((w.alloc (.cells (List.toArray [Value.slice ab m.br.length cb, .slice aq ts.length cq, .slice ac m.cf.length cc, .slice ad m.dn.length cd, .int .i64 m.la]) 30)).alloc (.cells (List.toArray [Value.int .i64 r.k, .int .i64 r.br, .int .i64 r.ep, .int .i64 r.tp, .int .i64 r.pa, .int .i64 r.le, .int .i64 r.cl, .int .i64 r.se, .int .i64 r.co, .bool r.fl, .string ⟨r.nm.toArray⟩, .string ⟨r.ky.toArray⟩, .string ⟨r.va.toArray⟩, .string ⟨r.rk.toArray⟩, .slice a14 r.ids.length c14, .slice a15 r.isr.length c15, .slice a16 r.ad.length c16, .slice a17 r.dr.length c17]) 62)).alloc (.cells (List.toArray [Value.slice none 0 0, .slice none 0 0, .slice none 0 0, .slice none 0 0, .int .i64 0]) 30)) := Fr.mk0 w m _ _ _ _ _ (Below.refl _ _)
    clear hv hw hrw hf hk
    unfold imv
    dsimp only
    show Calls _ _ #[_, .agg (List.toArray [.int .i64 r.k, .int .i64 r.br, .int .i64 r.ep, .int .i64 r.tp, .int .i64 r.pa, .int .i64 r.le, .int .i64 r.cl, .int .i64 r.se, .int .i64 r.co, .bool r.fl, .string ⟨r.nm.toArray⟩, .string ⟨r.ky.toArray⟩, .string ⟨r.va.toArray⟩, .string ⟨r.rk.toArray⟩, .slice a14 r.ids.length c14, .slice a15 r.isr.length c15, .slice a16 r.ad.length c16, .slice a17 r.dr.length c17])] _ _
    go_enter Tryz.func100, Tryz.ntmps100
    go_upto_region 1 with fail
    generalize ((w.alloc (.cells (List.toArray [Value.slice ab m.br.length cb, .slice aq ts.length cq, .slice ac m.cf.length cc, .slice ad m.dn.length cd, .int .i64 m.la]) 30)).alloc (.cells (List.toArray [Value.int .i64 r.k, .int .i64 r.br, .int .i64 r.ep, .int .i64 r.tp, .int .i64 r.pa, .int .i64 r.le, .int .i64 r.cl, .int .i64 r.se, .int .i64 r.co, .bool r.fl, .string ⟨r.nm.toArray⟩, .string ⟨r.ky.toArray⟩, .string ⟨r.va.toArray⟩, .string ⟨r.rk.toArray⟩, .slice a14 r.ids.length c14, .slice a15 r.isr.length c15, .slice a16 r.ad.length c16, .slice a17 r.dr.length c17]) 62)).alloc (.cells (List.toArray [Value.slice none 0 0, .slice none 0 0, .slice none 0 0, .slice none 0 0, .int .i64 0]) 30) = X at HFR0 ⊢
    have HFR := hide HFR0
    clear HFR0
    obtain ⟨i0, i1, i2, i3, i4⟩ := HFR.out.i.imx; have r0 := HFR.out.r.at 0 _ rfl; have r1 := HFR.out.r.at 1 _ rfl; have r2 := HFR.out.r.at 2 _ rfl
    unfold imv at HF
    dsimp only at HF
    go_wp2_with (first | (go_at_call 39; refine (HF.out _ HFR.out.b).mono ?_; rintro e wx ⟨i9, _, _, rfl, hbx⟩; replace HFR := hide (HFR.out.below hbx); clear i0 i1 i2 i3 i4 r0 r1 r2; clear hbx HF; obtain ⟨i0, i1, i2, i3, i4⟩ := HFR.out.i.imx; have r0 := HFR.out.r.at 0 _ rfl; have r1 := HFR.out.r.at 1 _ rfl; have r2 := HFR.out.r.at 2 _ rfl) | (refine wpList_set rfl _ _ _ rfl _ _ rfl HFR.out.z (iml m (⟨ab, aq, ac, ad, cb, cq, cc, cd, ts⟩ : Ip)) rfl rfl (by kernel_rfl) rfl ?_; intro W3 hz hk hb hp; have HFO := hide (HFR.out.out hz hk hb); clear hz hk hb hp))
    obtain ⟨q0, q1, q2, q3, q4⟩ := HFO.out.z.imx
    exact bodyPost_ret (v := .tuple #[.agg (iml m (⟨ab, aq, ac, ad, cb, cq, cc, cd, ts⟩ : Ip)).toArray, .iface 71 (.int .i64 8)]) (by simp [results, Tryz.results100, go_sem, q0, q1, q2, q3, q4, iml]) rfl (st_ret HFO.out (fun W hW => HVV.out W _ HFO.out.b hW) (erc_code (by decide)))
  | some b =>
    have hne : 0 < m.br.length := List.length_pos_of_mem (List.mem_of_find?_eq_some hf)
    have HID : Hid (b.id = r.br) := hide (by have := List.find?_some hf; simpa [idB] using this)
    obtain ⟨bb, oo, hab, hrg⟩ := hv.b.rg hne
    obtain ⟨ab, aq, ac, ad, cb, cq, cc, cd, ts⟩ := p
    simp only at hab
    subst hab
    have HRG := hide hrg
    have HF := hide (fun W (h : Below w.heap.size w W) => findBroker_yes m _ r.br W (hv.below h) hw b hf)
    have HTU := hide (fun W (h : Below w.heap.size w W) => turns_any m _ b r.k W (hv.below h) hw)
    have HPU := hide (fun W (h : Below w.heap.size w W) i (hi : i < m.br.length) x => putB_old m.br (some ⟨bb, oo, none⟩) _ cb i x W rfl (hv.below h).b hi hw.nb)
    have HWO := hide (fun W (h : Below w.heap.size w W) i (hi : i < m.br.length) => woB_any m.br (some ⟨bb, oo, none⟩) _ cb i W rfl (hv.below h).b hi hw.nb)
    by_cases he : b.ep = r.ep
    · have hne1 : (b.ep != r.ep) = false := by simpa using he
      have HTB : Hid (turB m r = trnB m b r.k) := hide (by unfold turB; rw [hf]; exact if_pos he)
      cases hq : trnQ m b r.k with
      | false =>
        have HRE : Hid (turB m r = (m, 10)) := hide (by rw [HTB.out, trn_no hq])
        rw [HRE.out]
        rw [hq] at HTU
        clear he hq
        have HFR0 : Fr w m (⟨some ⟨bb, oo, none⟩, aq, ac, ad, cb, cq, cc, cd, ts⟩ : Ip) (cellsR r a14 a15 a16 a17 c14 c15 c16 c17) imz (((w.alloc (.cells (List.toArray [Value.slice (some ⟨bb, oo, none⟩) m.br.length cb, .slice aq ts.length cq, .slice ac m.cf.length cc, .slice ad m.dn.length cd, .int .i64 m.la]) 30)).alloc (.cells (List.toArray [Value.int .i64 r.k, .int .i64 r.br, .int .i64 r.ep, .int .i64 r.tp, .int .i64 r.pa, .int .i64 r.le, .int .i64 r.cl, .int .i64 r.se, .int .i64 r.co, .bool r.fl, .string ⟨r.nm.toArray⟩, .string ⟨r.ky.toArray⟩, .string ⟨r.va.toArray⟩, .string ⟨r.rk.toArray⟩, .slice a14 r.ids.length c14, .slice a15 r.isr.length c15, .slice a16 r.ad.length c16, .slice a17 r.dr.length c17]) 62)).alloc (.cells (List.toArray [Value.slice none 0 0, .slice none 0 0, .slice none 0 0, .slice none 0 0, .int .i64 0]) 30)) := Fr.mk0 w m _ _ _ _ _ (Below.refl _ _)
        clear hv hw hrw hf hrg hk
        unfold imv
        dsimp only
        show Calls _ _ #[_, .agg (List.toArray [.int .i64 r.k, .int .i64 r.br, .int .i64 r.ep, .int .i64 r.tp, .int .i64 r.pa, .int .i64 r.le, .int .i64 r.cl, .int .i64 r.se, .int .i64 r.co, .bool r.fl, .string ⟨r.nm.toArray⟩, .string ⟨r.ky.toArray⟩, .string ⟨r.va.toArray⟩, .string ⟨r.rk.toArray⟩, .slice a14 r.ids.length c14, .slice a15 r.isr.length c15, .slice a16 r.ad.length c16, .slice a17 r.dr.length c17])] _ _
        go_enter Tryz.func100, Tryz.ntmps100
        go_upto_region 1 with fail
        generalize ((w.alloc (.cells (List.toArray [Value.slice (some ⟨bb, oo, none⟩) m.br.length cb, .slice aq ts.length cq, .slice ac m.cf.length cc, .slice ad m.dn.length cd, .int .i64 m.la]) 30)).alloc (.cells (List.toArray [Value.int .i64 r.k, .int .i64 r.br, .int .i64 r.ep, .int .i64 r.tp, .int .i64 r.pa, .int .i64 r.le, .int .i64 r.cl, .int .i64 r.se, .int .i64 r.co, .bool r.fl, .string ⟨r.nm.toArray⟩, .string ⟨r.ky.toArray⟩, .string ⟨r.va.toArray⟩, .string ⟨r.rk.toArray⟩, .slice a14 r.ids.length c14, .slice a15 r.isr.length c15, .slice a16 r.ad.length c16, .slice a17 r.dr.length c17]) 62)).alloc (.cells (List.toArray [Value.slice none 0 0, .slice none 0 0, .slice none 0 0, .slice none 0 0, .int .i64 0]) 30) = X at HFR0 ⊢
        have HFR := hide HFR0
        clear HFR0
        obtain ⟨i0, i1, i2, i3, i4⟩ := HFR.out.i.imx; have r0 := HFR.out.r.at 0 _ rfl; have r1 := HFR.out.r.at 1 _ rfl; have r2 := HFR.out.r.at 2 _ rfl
        unfold imv bkc at HTU
        unfold imv at HF
        dsimp only at HF HTU
        go_upto_region 4 with (go_at_call 39; refine (HF.out _ HFR.out.b).mono ?_; rintro e wx ⟨i, hi, hib, hins, hrem, _, _, rfl, hbx⟩; have HIN := hide hins; have HRM := hide hrem; have HIB := hide hib; replace HFR := hide (HFR.out.below hbx); clear i0 i1 i2 i3 i4 r0 r1 r2; clear hbx HF hins hrem hib; obtain ⟨i0, i1, i2, i3, i4⟩ := HFR.out.i.imx; have r0 := HFR.out.r.at 0 _ rfl; have r1 := HFR.out.r.at 1 _ rfl; have r2 := HFR.out.r.at 2 _ rfl)
        have hiI : (i : Int) < (m.br.length : Int) := Int.ofNat_lt.2 hi
        have HE : Hid (wx.rangeAt bb (oo + i * 5) [.int .i64 b.id, .int .i64 b.ep, .string ⟨b.rk.toArray⟩, .bool b.fe, .bool b.lv]) := hide (by have := rg_bel (fm_at encB HRG.out hi) HFR.out.b; rw [HIB.out] at this; exact this)
        go_upto_region 5 with (refine wpList_load_mid rfl _ _ rfl _ _ rfl _ _ HE.out Tryz.underlying33 rfl (by kernel_rfl) ?_)
        clear i0 i1 i2 i3 i4 r0 r1 r2
        have HNB := hide HFR.out.sz
        have HBX := hide (Bx.new wx [.int .i64 b.id, .int .i64 b.ep, .string ⟨b.rk.toArray⟩, .bool b.fe, .bool b.lv] 33)
        replace HFR := hide (HFR.out.below (below_al1 wx (.cells (List.toArray [Value.int .i64 b.id, .int .i64 b.ep, .string ⟨b.rk.toArray⟩, .bool b.fe, .bool b.lv]) 33)))
        generalize wx.alloc (.cells (List.toArray [Value.int .i64 b.id, .int .i64 b.ep, .string ⟨b.rk.toArray⟩, .bool b.fe, .bool b.lv]) 33) = Y at HFR HBX ⊢
        generalize wx.heap.size = nb at HBX HNB ⊢
        obtain ⟨i0, i1, i2, i3, i4⟩ := HFR.out.i.imx; have r0 := HFR.out.r.at 0 _ rfl; have r1 := HFR.out.r.at 1 _ rfl; have r2 := HFR.out.r.at 2 _ rfl
        obtain ⟨b0, b1, b2, b3, b4⟩ := HBX.out.c5
        go_wp2_with (first | (go_at_call 126; refine (HTU.out _ HFR.out.b).mono ?_; rintro e wy ⟨rfl, hby⟩; replace HFR := hide (HFR.out.below hby); replace HBX := hide (HBX.out.below hby); clear i0 i1 i2 i3 i4 r0 r1 r2; clear b0 b1 b2 b3 b4; clear hby HTU; obtain ⟨i0, i1, i2, i3, i4⟩ := HFR.out.i.imx; have r0 := HFR.out.r.at 0 _ rfl; have r1 := HFR.out.r.at 1 _ rfl; have r2 := HFR.out.r.at 2 _ rfl; obtain ⟨b0, b1, b2, b3, b4⟩ := HBX.out.c5) | (refine wpList_set rfl _ _ _ rfl _ _ rfl HFR.out.z (iml m (⟨some ⟨bb, oo, none⟩, aq, ac, ad, cb, cq, cc, cd, ts⟩ : Ip)) rfl rfl (by kernel_rfl) rfl ?_; intro W3 hz hk hb hp; have HFO := hide (HFR.out.out hz hk hb); clear hz hk hb hp))
        obtain ⟨q0, q1, q2, q3, q4⟩ := HFO.out.z.imx
        exact bodyPost_ret (v := .tuple #[.agg (iml m (⟨some ⟨bb, oo, none⟩, aq, ac, ad, cb, cq, cc, cd, ts⟩ : Ip)).toArray, .iface 71 (.int .i64 10)]) (by simp [results, Tryz.results100, go_sem, q0, q1, q2, q3, q4, iml]) rfl (st_ret HFO.out (fun W hW => HVV.out W _ HFO.out.b hW) (erc_code (by decide)))
      | true =>
        rw [hq] at HTU
        rcases hk with hk | hk | hk | hk
        · obtain ⟨L, hL⟩ : ∃ L, L = putB m.br (trnX b r.k) := ⟨_, rfl⟩
          have HRE : Hid (turB m r = ({ m with br := L }, 0)) := hide (by rw [HTB.out, trn_yes hq (by omega), hL])
          rw [HRE.out]
          have HPL : Hid (∀ i, (∀ b, insO (fun x : Bk => cmpN x.id r.br) b m.br = m.br.take i ++ b :: m.br.drop (i + 1)) → m.br.take i ++ (⟨b.id, b.ep, b.rk, true, b.lv⟩ : Bk) :: m.br.drop (i + 1) = L) := hide (fun i hi => by rw [← hi, hL, hk]; exact (putB_ins (b := trnX b 3) (id := r.br) HID.out).symm)
          have HK := hide hk
          clear he hq hL hk
          have HFR0 : Fr w m (⟨some ⟨bb, oo, none⟩, aq, ac, ad, cb, cq, cc, cd, ts⟩ : Ip) (cellsR r a14 a15 a16 a17 c14 c15 c16 c17) imz (((w.alloc (.cells (List.toArray [Value.slice (some ⟨bb, oo, none⟩) m.br.length cb, .slice aq ts.length cq, .slice ac m.cf.length cc, .slice ad m.dn.length cd, .int .i64 m.la]) 30)).alloc (.cells (List.toArray [Value.int .i64 r.k, .int .i64 r.br, .int .i64 r.ep, .int .i64 r.tp, .int .i64 r.pa, .int .i64 r.le, .int .i64 r.cl, .int .i64 r.se, .int .i64 r.co, .bool r.fl, .string ⟨r.nm.toArray⟩, .string ⟨r.ky.toArray⟩, .string ⟨r.va.toArray⟩, .string ⟨r.rk.toArray⟩, .slice a14 r.ids.length c14, .slice a15 r.isr.length c15, .slice a16 r.ad.length c16, .slice a17 r.dr.length c17]) 62)).alloc (.cells (List.toArray [Value.slice none 0 0, .slice none 0 0, .slice none 0 0, .slice none 0 0, .int .i64 0]) 30)) := Fr.mk0 w m _ _ _ _ _ (Below.refl _ _)
          clear hv hw hrw hf hrg
          unfold imv
          dsimp only
          show Calls _ _ #[_, .agg (List.toArray [.int .i64 r.k, .int .i64 r.br, .int .i64 r.ep, .int .i64 r.tp, .int .i64 r.pa, .int .i64 r.le, .int .i64 r.cl, .int .i64 r.se, .int .i64 r.co, .bool r.fl, .string ⟨r.nm.toArray⟩, .string ⟨r.ky.toArray⟩, .string ⟨r.va.toArray⟩, .string ⟨r.rk.toArray⟩, .slice a14 r.ids.length c14, .slice a15 r.isr.length c15, .slice a16 r.ad.length c16, .slice a17 r.dr.length c17])] _ _
          go_enter Tryz.func100, Tryz.ntmps100
          go_upto_region 1 with fail
          generalize ((w.alloc (.cells (List.toArray [Value.slice (some ⟨bb, oo, none⟩) m.br.length cb, .slice aq ts.length cq, .slice ac m.cf.length cc, .slice ad m.dn.length cd, .int .i64 m.la]) 30)).alloc (.cells (List.toArray [Value.int .i64 r.k, .int .i64 r.br, .int .i64 r.ep, .int .i64 r.tp, .int .i64 r.pa, .int .i64 r.le, .int .i64 r.cl, .int .i64 r.se, .int .i64 r.co, .bool r.fl, .string ⟨r.nm.toArray⟩, .string ⟨r.ky.toArray⟩, .string ⟨r.va.toArray⟩, .string ⟨r.rk.toArray⟩, .slice a14 r.ids.length c14, .slice a15 r.isr.length c15, .slice a16 r.ad.length c16, .slice a17 r.dr.length c17]) 62)).alloc (.cells (List.toArray [Value.slice none 0 0, .slice none 0 0, .slice none 0 0, .slice none 0 0, .int .i64 0]) 30) = X at HFR0 ⊢
          have HFR := hide HFR0
          clear HFR0
          obtain ⟨i0, i1, i2, i3, i4⟩ := HFR.out.i.imx; have r0 := HFR.out.r.at 0 _ rfl; have r1 := HFR.out.r.at 1 _ rfl; have r2 := HFR.out.r.at 2 _ rfl
          unfold imv bkc at HTU
          unfold imv at HF
          dsimp only at HF HTU
          go_upto_region 4 with (go_at_call 39; refine (HF.out _ HFR.out.b).mono ?_; rintro e wx ⟨i, hi, hib, hins, hrem, _, _, rfl, hbx⟩; have HIN := hide hins; have HRM := hide hrem; have HIB := hide hib; replace HFR := hide (HFR.out.below hbx); clear i0 i1 i2 i3 i4 r0 r1 r2; clear hbx HF hins hrem hib; obtain ⟨i0, i1, i2, i3, i4⟩ := HFR.out.i.imx; have r0 := HFR.out.r.at 0 _ rfl; have r1 := HFR.out.r.at 1 _ rfl; have r2 := HFR.out.r.at 2 _ rfl)
          have hiI : (i : Int) < (m.br.length : Int) := Int.ofNat_lt.2 hi
          have HE : Hid (wx.rangeAt bb (oo + i * 5) [.int .i64 b.id, .int .i64 b.ep, .string ⟨b.rk.toArray⟩, .bool b.fe, .bool b.lv]) := hide (by have := rg_bel (fm_at encB HRG.out hi) HFR.out.b; rw [HIB.out] at this; exact this)
          go_upto_region 5 with (refine wpList_load_mid rfl _ _ rfl _ _ rfl _ _ HE.out Tryz.underlying33 rfl (by kernel_rfl) ?_)
          clear i0 i1 i2 i3 i4 r0 r1 r2
          have HNB := hide HFR.out.sz
          have HBX := hide (Bx.new wx [.int .i64 b.id, .int .i64 b.ep, .string ⟨b.rk.toArray⟩, .bool b.fe, .bool b.lv] 33)
          replace HFR := hide (HFR.out.below (below_al1 wx (.cells (List.toArray [Value.int .i64 b.id, .int .i64 b.ep, .string ⟨b.rk.toArray⟩, .bool b.fe, .bool b.lv]) 33)))
          generalize wx.alloc (.cells (List.toArray [Value.int .i64 b.id, .int .i64 b.ep, .string ⟨b.rk.toArray⟩, .bool b.fe, .bool b.lv]) 33) = Y at HFR HBX ⊢
          generalize wx.heap.size = nb at HBX HNB ⊢
          obtain ⟨i0, i1, i2, i3, i4⟩ := HFR.out.i.imx; have r0 := HFR.out.r.at 0 _ rfl; have r1 := HFR.out.r.at 1 _ rfl; have r2 := HFR.out.r.at 2 _ rfl
          obtain ⟨b0, b1, b2, b3, b4⟩ := HBX.out.c5
          go_upto_region 9 with (go_at_call 126; refine (HTU.out _ HFR.out.b).mono ?_; rintro e wy ⟨rfl, hby⟩; replace HFR := hide (HFR.out.below hby); replace HBX := hide (HBX.out.below hby); clear i0 i1 i2 i3 i4 r0 r1 r2; clear b0 b1 b2 b3 b4; clear hby HTU; obtain ⟨i0, i1, i2, i3, i4⟩ := HFR.out.i.imx; have r0 := HFR.out.r.at 0 _ rfl; have r1 := HFR.out.r.at 1 _ rfl; have r2 := HFR.out.r.at 2 _ rfl; obtain ⟨b0, b1, b2, b3, b4⟩ := HBX.out.c5)
          rw [HK.out] at r0
          have g3 := HBX.out.f 3 (by simp)
          go_upto_region 19 with fail
          clear i0 i1 i2 i3 i4 r0 r1 r2
          clear b0 b1 b2 b3 b4 g3
          have HFRn := hide (⟨HFR.out.i.setOther (m := nb) (by have := HNB.out; omega) 3 (.bool true), HFR.out.r.setOther (m := nb) (by have := HNB.out; omega) 3 (.bool true), HFR.out.z.setOther (m := nb) (by have := HNB.out; omega) 3 (.bool true), HFR.out.b.setCell (p := ⟨nb, 3, none⟩) (by have := HNB.out; show w.heap.size ≤ nb; omega) (.bool true)⟩ : Fr w m (⟨some ⟨bb, oo, none⟩, aq, ac, ad, cb, cq, cc, cd, ts⟩ : Ip) (cellsR r a14 a15 a16 a17 c14 c15 c16 c17) imz (wy.setCell ⟨nb, 3, none⟩ (.bool true)))
          have HBXn := hide (HBX.out.setCell 3 (by simp) (.bool true))
          clear HFR HBX
          generalize wy.setCell ⟨nb, 3, none⟩ (.bool true) = Z3 at HFRn HBXn ⊢
          have HFR := hide HFRn.out
          have HBX := hide HBXn.out
          clear HFRn HBXn
          simp only [List.set] at HBX
          obtain ⟨i0, i1, i2, i3, i4⟩ := HFR.out.i.imx; have r0 := HFR.out.r.at 0 _ rfl; have r1 := HFR.out.r.at 1 _ rfl; have r2 := HFR.out.r.at 2 _ rfl
          obtain ⟨b0, b1, b2, b3, b4⟩ := HBX.out.c5
          go_wp2_with (first | (go_at_call 125; refine (HPU.out _ HFR.out.b i hi (⟨b.id, b.ep, b.rk, true, b.lv⟩ : Bk)).mono ?_; rintro e w3 ⟨v, rfl, hro, hb3⟩; rw [HPL.out i HIN.out] at hro; obtain ⟨av, cv, rfl⟩ := hro.form; have HRO := hide (hro.mono HFR.out.sz); replace HFR := hide (HFR.out.below hb3); clear hro hb3 HPU; clear i0 i1 i2 i3 i4 r0 r1 r2; obtain ⟨i0, i1, i2, i3, i4⟩ := HFR.out.i.imx; have r0 := HFR.out.r.at 0 _ rfl; have r1 := HFR.out.r.at 1 _ rfl; have r2 := HFR.out.r.at 2 _ rfl; have f0 := HFR.out.f 0 (by decide); have HFS := hide (HFR.out.set 0 (.slice av L.length cv) { m with br := L } (⟨av, aq, ac, ad, cv, cq, cc, cd, ts⟩ : Ip) (by decide) rfl)) | (refine wpList_set rfl _ _ _ rfl _ _ rfl HFS.out.z (iml { m with br := L } (⟨av, aq, ac, ad, cv, cq, cc, cd, ts⟩ : Ip)) rfl rfl (by kernel_rfl) rfl ?_; intro W3 hz hk hb hp; have HFO := hide (HFS.out.out hz hk hb); have HRS := hide (fun W (hW : Agr n0 w.heap.size W3 W) => (HRO.out.keepG (fun g hg => (hW g (.inr (by omega))).trans ((hp g (by omega)).trans (Below.heap_setCell _ _ _ _ (show ¬ g = w.heap.size by omega))))).rs); clear hz hk hb hp))
          obtain ⟨q0, q1, q2, q3, q4⟩ := HFO.out.z.imx
          exact bodyPost_ret (v := .tuple #[.agg (iml { m with br := L } (⟨av, aq, ac, ad, cv, cq, cc, cd, ts⟩ : Ip)).toArray, .nilIface]) (by simp [results, Tryz.results100, go_sem, q0, q1, q2, q3, q4, iml]) rfl (st_ret HFO.out (fun W hW => (HVV.out W _ HFO.out.b hW).setB (HRS.out W hW)) erc_nil)
        · obtain ⟨L, hL⟩ : ∃ L, L = putB m.br (trnX b r.k) := ⟨_, rfl⟩
          have HRE : Hid (turB m r = ({ m with br := L }, 0)) := hide (by rw [HTB.out, trn_yes hq (by omega), hL])
          rw [HRE.out]
          have HPL : Hid (∀ i, (∀ b, insO (fun x : Bk => cmpN x.id r.br) b m.br = m.br.take i ++ b :: m.br.drop (i + 1)) → m.br.take i ++ (⟨b.id, b.ep, b.rk, false, false⟩ : Bk) :: m.br.drop (i + 1) = L) := hide (fun i hi => by rw [← hi, hL, hk]; exact (putB_ins (b := trnX b 4) (id := r.br) HID.out).symm)
          have HK := hide hk
          clear he hq hL hk
          have HFR0 : Fr w m (⟨some ⟨bb, oo, none⟩, aq, ac, ad, cb, cq, cc, cd, ts⟩ : Ip) (cellsR r a14 a15 a16 a17 c14 c15 c16 c17) imz (((w.alloc (.cells (List.toArray [Value.slice (some ⟨bb, oo, none⟩) m.br.length cb, .slice aq ts.length cq, .slice ac m.cf.length cc, .slice ad m.dn.length cd, .int .i64 m.la]) 30)).alloc (.cells (List.toArray [Value.int .i64 r.k, .int .i64 r.br, .int .i64 r.ep, .int .i64 r.tp, .int .i64 r.pa, .int .i64 r.le, .int .i64 r.cl, .int .i64 r.se, .int .i64 r.co, .bool r.fl, .string ⟨r.nm.toArray⟩, .string ⟨r.ky.toArray⟩, .string ⟨r.va.toArray⟩, .string ⟨r.rk.toArray⟩, .slice a14 r.ids.length c14, .slice a15 r.isr.length c15, .slice a16 r.ad.length c16, .slice a17 r.dr.length c17]) 62)).alloc (.cells (List.toArray [Value.slice none 0 0, .slice none 0 0, .slice none 0 0, .slice none 0 0, .int .i64 0]) 30)) := Fr.mk0 w m _ _ _ _ _ (Below.refl _ _)
          clear hv hw hrw hf hrg
          unfold imv
          dsimp only
          show Calls _ _ #[_, .agg (List.toArray [.int .i64 r.k, .int .i64 r.br, .int .i64 r.ep, .int .i64 r.tp, .int .i64 r.pa, .int .i64 r.le, .int .i64 r.cl, .int .i64 r.se, .int .i64 r.co, .bool r.fl, .string ⟨r.nm.toArray⟩, .string ⟨r.ky.toArray⟩, .string ⟨r.va.toArray⟩, .string ⟨r.rk.toArray⟩, .slice a14 r.ids.length c14, .slice a15 r.isr.length c15, .slice a16 r.ad.length c16, .slice a17 r.dr.length c17])] _ _
          go_enter Tryz.func100, Tryz.ntmps100
          go_upto_region 1 with fail
          generalize ((w.alloc (.cells (List.toArray [Value.slice (some ⟨bb, oo, none⟩) m.br.length cb, .slice aq ts.length cq, .slice ac m.cf.length cc, .slice ad m.dn.length cd, .int .i64 m.la]) 30)).alloc (.cells (List.toArray [Value.int .i64 r.k, .int .i64 r.br, .int .i64 r.ep, .int .i64 r.tp, .int .i64 r.pa, .int .i64 r.le, .int .i64 r.cl, .int .i64 r.se, .int .i64 r.co, .bool r.fl, .string ⟨r.nm.toArray⟩, .string ⟨r.ky.toArray⟩, .string ⟨r.va.toArray⟩, .string ⟨r.rk.toArray⟩, .slice a14 r.ids.length c14, .slice a15 r.isr.length c15, .slice a16 r.ad.length c16, .slice a17 r.dr.length c17]) 62)).alloc (.cells (List.toArray [Value.slice none 0 0, .slice none 0 0, .slice none 0 0, .slice none 0 0, .int .i64 0]) 30) = X at HFR0 ⊢
          have HFR := hide HFR0
          clear HFR0
          obtain ⟨i0, i1, i2, i3, i4⟩ := HFR.out.i.imx; have r0 := HFR.out.r.at 0 _ rfl; have r1 := HFR.out.r.at 1 _ rfl; have r2 := HFR.out.r.at 2 _ rfl
          unfold imv bkc at HTU
          unfold imv at HF
          dsimp only at HF HTU
          go_upto_region 4 with (go_at_call 39; refine (HF.out _ HFR.out.b).mono ?_; rintro e wx ⟨i, hi, hib, hins, hrem, _, _, rfl, hbx⟩; have HIN := hide hins; have HRM := hide hrem; have HIB := hide hib; replace HFR := hide (HFR.out.below hbx); clear i0 i1 i2 i3 i4 r0 r1 r2; clear hbx HF hins hrem hib; obtain ⟨i0, i1, i2, i3, i4⟩ := HFR.out.i.imx; have r0 := HFR.out.r.at 0 _ rfl; have r1 := HFR.out.r.at 1 _ rfl; have r2 := HFR.out.r.at 2 _ rfl)
          have hiI : (i : Int) < (m.br.length : Int) := Int.ofNat_lt.2 hi
          have HE : Hid (wx.rangeAt bb (oo + i * 5) [.int .i64 b.id, .int .i64 b.ep, .string ⟨b.rk.toArray⟩, .bool b.fe, .bool b.lv]) := hide (by have := rg_bel (fm_at encB HRG.out hi) HFR.out.b; rw [HIB.out] at this; exact this)
          go_upto_region 5 with (refine wpList_load_mid rfl _ _ rfl _ _ rfl _ _ HE.out Tryz.underlying33 rfl (by kernel_rfl) ?_)
          clear i0 i1 i2 i3 i4 r0 r1 r2
          have HNB := hide HFR.out.sz
          have HBX := hide (Bx.new wx [.int .i64 b.id, .int .i64 b.ep, .string ⟨b.rk.toArray⟩, .bool b.fe, .bool b.lv] 33)
          replace HFR := hide (HFR.out.below (below_al1 wx (.cells (List.toArray [Value.int .i64 b.id, .int .i64 b.ep, .string ⟨b.rk.toArray⟩, .bool b.fe, .bool b.lv]) 33)))
          generalize wx.alloc (.cells (List.toArray [Value.int .i64 b.id, .int .i64 b.ep, .string ⟨b.rk.toArray⟩, .bool b.fe, .bool b.lv]) 33) = Y at HFR HBX ⊢
          generalize wx.heap.size = nb at HBX HNB ⊢
          obtain ⟨i0, i1, i2, i3, i4⟩ := HFR.out.i.imx; have r0 := HFR.out.r.at 0 _ rfl; have r1 := HFR.out.r.at 1 _ rfl; have r2 := HFR.out.r.at 2 _ rfl
          obtain ⟨b0, b1, b2, b3, b4⟩ := HBX.out.c5
          go_upto_region 9 with (go_at_call 126; refine (HTU.out _ HFR.out.b).mono ?_; rintro e wy ⟨rfl, hby⟩; replace HFR := hide (HFR.out.below hby); replace HBX := hide (HBX.out.below hby); clear i0 i1 i2 i3 i4 r0 r1 r2; clear b0 b1 b2 b3 b4; clear hby HTU; obtain ⟨i0, i1, i2, i3, i4⟩ := HFR.out.i.imx; have r0 := HFR.out.r.at 0 _ rfl; have r1 := HFR.out.r.at 1 _ rfl; have r2 := HFR.out.r.at 2 _ rfl; obtain ⟨b0, b1, b2, b3, b4⟩ := HBX.out.c5)
          rw [HK.out] at r0
          have g3 := HBX.out.f 3 (by simp)
          have g4 := HBX.out.f 4 (by simp)
          go_upto_region 19 with fail
          clear i0 i1 i2 i3 i4 r0 r1 r2
          clear b0 b1 b2 b3 b4 g3 g4
          have HFRn := hide (⟨HFR.out.i.setOther (m := nb) (by have := HNB.out; omega) 3 (.bool false), HFR.out.r.setOther (m := nb) (by have := HNB.out; omega) 3 (.bool false), HFR.out.z.setOther (m := nb) (by have := HNB.out; omega) 3 (.bool false), HFR.out.b.setCell (p := ⟨nb, 3, none⟩) (by have := HNB.out; show w.heap.size ≤ nb; omega) (.bool false)⟩ : Fr w m (⟨some ⟨bb, oo, none⟩, aq, ac, ad, cb, cq, cc, cd, ts⟩ : Ip) (cellsR r a14 a15 a16 a17 c14 c15 c16 c17) imz (wy.setCell ⟨nb, 3, none⟩ (.bool false)))
          have HBXn := hide (HBX.out.setCell 3 (by simp) (.bool false))
          clear HFR HBX
          generalize wy.setCell ⟨nb, 3, none⟩ (.bool false) = Z3 at HFRn HBXn ⊢
          have HFR := hide HFRn.out
          have HBX := hide HBXn.out
          clear HFRn HBXn
          have HFRn := hide (⟨HFR.out.i.setOther (m := nb) (by have := HNB.out; omega) 4 (.bool false), HFR.out.r.setOther (m := nb) (by have := HNB.out; omega) 4 (.bool false), HFR.out.z.setOther (m := nb) (by have := HNB.out; omega) 4 (.bool false), HFR.out.b.setCell (p := ⟨nb, 4, none⟩) (by have := HNB.out; show w.heap.size ≤ nb; omega) (.bool false)⟩ : Fr w m (⟨some ⟨bb, oo, none⟩, aq, ac, ad, cb, cq, cc, cd, ts⟩ : Ip) (cellsR r a14 a15 a16 a17 c14 c15 c16 c17) imz (Z3.setCell ⟨nb, 4, none⟩ (.bool false)))
          have HBXn := hide (HBX.out.setCell 4 (by simp) (.bool false))
          clear HFR HBX
          generalize Z3.setCell ⟨nb, 4, none⟩ (.bool false) = Z4 at HFRn HBXn ⊢
          have HFR := hide HFRn.out
          have HBX := hide HBXn.out
          clear HFRn HBXn
          simp only [List.set] at HBX
          obtain ⟨i0, i1, i2, i3, i4⟩ := HFR.out.i.imx; have r0 := HFR.out.r.at 0 _ rfl; have r1 := HFR.out.r.at 1 _ rfl; have r2 := HFR.out.r.at 2 _ rfl
          obtain ⟨b0, b1, b2, b3, b4⟩ := HBX.out.c5
          go_wp2_with (first | (go_at_call 125; refine (HPU.out _ HFR.out.b i hi (⟨b.id, b.ep, b.rk, false, false⟩ : Bk)).mono ?_; rintro e w3 ⟨v, rfl, hro, hb3⟩; rw [HPL.out i HIN.out] at hro; obtain ⟨av, cv, rfl⟩ := hro.form; have HRO := hide (hro.mono HFR.out.sz); replace HFR := hide (HFR.out.below hb3); clear hro hb3 HPU; clear i0 i1 i2 i3 i4 r0 r1 r2; obtain ⟨i0, i1, i2, i3, i4⟩ := HFR.out.i.imx; have r0 := HFR.out.r.at 0 _ rfl; have r1 := HFR.out.r.at 1 _ rfl; have r2 := HFR.out.r.at 2 _ rfl; have f0 := HFR.out.f 0 (by decide); have HFS := hide (HFR.out.set 0 (.slice av L.length cv) { m with br := L } (⟨av, aq, ac, ad, cv, cq, cc, cd, ts⟩ : Ip) (by decide) rfl)) | (refine wpList_set rfl _ _ _ rfl _ _ rfl HFS.out.z (iml { m with br := L } (⟨av, aq, ac, ad, cv, cq, cc, cd, ts⟩ : Ip)) rfl rfl (by kernel_rfl) rfl ?_; intro W3 hz hk hb hp; have HFO := hide (HFS.out.out hz hk hb); have HRS := hide (fun W (hW : Agr n0 w.heap.size W3 W) => (HRO.out.keepG (fun g hg => (hW g (.inr (by omega))).trans ((hp g (by omega)).trans (Below.heap_setCell _ _ _ _ (show ¬ g = w.heap.size by omega))))).rs); clear hz hk hb hp))
          obtain ⟨q0, q1, q2, q3, q4⟩ := HFO.out.z.imx
          exact bodyPost_ret (v := .tuple #[.agg (iml { m with br := L } (⟨av, aq, ac, ad, cv, cq, cc, cd, ts⟩ : Ip)).toArray, .nilIface]) (by simp [results, Tryz.results100, go_sem, q0, q1, q2, q3, q4, iml]) rfl (st_ret HFO.out (fun W hW => (HVV.out W _ HFO.out.b hW).setB (HRS.out W hW)) erc_nil)
        · obtain ⟨L, hL⟩ : ∃ L, L = putB m.br (trnX b r.k) := ⟨_, rfl⟩
          have HRE : Hid (turB m r = ({ m with br := L }, 0)) := hide (by rw [HTB.out, trn_yes hq (by omega), hL])
          rw [HRE.out]
          have HPL : Hid (∀ i, (∀ b, insO (fun x : Bk => cmpN x.id r.br) b m.br = m.br.take i ++ b :: m.br.drop (i + 1)) → m.br.take i ++ (⟨b.id, b.ep, b.rk, b.fe, true⟩ : Bk) :: m.br.drop (i + 1) = L) := hide (fun i hi => by rw [← hi, hL, hk]; exact (putB_ins (b := trnX b 5) (id := r.br) HID.out).symm)
          have HK := hide hk
          clear he hq hL hk
          have HFR0 : Fr w m (⟨some ⟨bb, oo, none⟩, aq, ac, ad, cb, cq, cc, cd, ts⟩ : Ip) (cellsR r a14 a15 a16 a17 c14 c15 c16 c17) imz (((w.alloc (.cells (List.toArray [Value.slice (some ⟨bb, oo, none⟩) m.br.length cb, .slice aq ts.length cq, .slice ac m.cf.length cc, .slice ad m.dn.length cd, .int .i64 m.la]) 30)).alloc (.cells (List.toArray [Value.int .i64 r.k, .int .i64 r.br, .int .i64 r.ep, .int .i64 r.tp, .int .i64 r.pa, .int .i64 r.le, .int .i64 r.cl, .int .i64 r.se, .int .i64 r.co, .bool r.fl, .string ⟨r.nm.toArray⟩, .string ⟨r.ky.toArray⟩, .string ⟨r.va.toArray⟩, .string ⟨r.rk.toArray⟩, .slice a14 r.ids.length c14, .slice a15 r.isr.length c15, .slice a16 r.ad.length c16, .slice a17 r.dr.length c17]) 62)).alloc (.cells (List.toArray [Value.slice none 0 0, .slice none 0 0, .slice none 0 0, .slice none 0 0, .int .i64 0]) 30)) := Fr.mk0 w m _ _ _ _ _ (Below.refl _ _)
          clear hv hw hrw hf hrg
          unfold imv
          dsimp only
          show Calls _ _ #[_, .agg (List.toArray [.int .i64 r.k, .int .i64 r.br, .int .i64 r.ep, .int .i64 r.tp, .int .i64 r.pa, .int .i64 r.le, .int .i64 r.cl, .int .i64 r.se, .int .i64 r.co, .bool r.fl, .string ⟨r.nm.toArray⟩, .string ⟨r.ky.toArray⟩, .string ⟨r.va.toArray⟩, .string ⟨r.rk.toArray⟩, .slice a14 r.ids.length c14, .slice a15 r.isr.length c15, .slice a16 r.ad.length c16, .slice a17 r.dr.length c17])] _ _
          go_enter Tryz.func100, Tryz.ntmps100
          go_upto_region 1 with fail
          generalize ((w.alloc (.cells (List.toArray [Value.slice (some ⟨bb, oo, none⟩) m.br.length cb, .slice aq ts.length cq, .slice ac m.cf.length cc, .slice ad m.dn.length cd, .int .i64 m.la]) 30)).alloc (.cells (List.toArray [Value.int .i64 r.k, .int .i64 r.br, .int .i64 r.ep, .int .i64 r.tp, .int .i64 r.pa, .int .i64 r.le, .int .i64 r.cl, .int .i64 r.se, .int .i64 r.co, .bool r.fl, .string ⟨r.nm.toArray⟩, .string ⟨r.ky.toArray⟩, .string ⟨r.va.toArray⟩, .string ⟨r.rk.toArray⟩, .slice a14 r.ids.length c14, .slice a15 r.isr.length c15, .slice a16 r.ad.length c16, .slice a17 r.dr.length c17]) 62)).alloc (.cells (List.toArray [Value.slice none 0 0, .slice none 0 0, .slice none 0 0, .slice none 0 0, .int .i64 0]) 30) = X at HFR0 ⊢
          have HFR := hide HFR0
          clear HFR0
          obtain ⟨i0, i1, i2, i3, i4⟩ := HFR.out.i.imx; have r0 := HFR.out.r.at 0 _ rfl; have r1 := HFR.out.r.at 1 _ rfl; have r2 := HFR.out.r.at 2 _ rfl
          unfold imv bkc at HTU
          unfold imv at HF
          dsimp only at HF HTU
          go_upto_region 4 with (go_at_call 39; refine (HF.out _ HFR.out.b).mono ?_; rintro e wx ⟨i, hi, hib, hins, hrem, _, _, rfl, hbx⟩; have HIN := hide hins; have HRM := hide hrem; have HIB := hide hib; replace HFR := hide (HFR.out.below hbx); clear i0 i1 i2 i3 i4 r0 r1 r2; clear hbx HF hins hrem hib; obtain ⟨i0, i1, i2, i3, i4⟩ := HFR.out.i.imx; have r0 := HFR.out.r.at 0 _ rfl; have r1 := HFR.out.r.at 1 _ rfl; have r2 := HFR.out.r.at 2 _ rfl)
          have hiI : (i : Int) < (m.br.length : Int) := Int.ofNat_lt.2 hi
          have HE : Hid (wx.rangeAt bb (oo + i * 5) [.int .i64 b.id, .int .i64 b.ep, .string ⟨b.rk.toArray⟩, .bool b.fe, .bool b.lv]) := hide (by have := rg_bel (fm_at encB HRG.out hi) HFR.out.b; rw [HIB.out] at this; exact this)
          go_upto_region 5 with (refine wpList_load_mid rfl _ _ rfl _ _ rfl _ _ HE.out Tryz.underlying33 rfl (by kernel_rfl) ?_)
          clear i0 i1 i2 i3 i4 r0 r1 r2
          have HNB := hide HFR.out.sz
          have HBX := hide (Bx.new wx [.int .i64 b.id, .int .i64 b.ep, .string ⟨b.rk.toArray⟩, .bool b.fe, .bool b.lv] 33)
          replace HFR := hide (HFR.out.below (below_al1 wx (.cells (List.toArray [Value.int .i64 b.id, .int .i64 b.ep, .string ⟨b.rk.toArray⟩, .bool b.fe, .bool b.lv]) 33)))
          generalize wx.alloc (.cells (List.toArray [Value.int .i64 b.id, .int .i64 b.ep, .string ⟨b.rk.toArray⟩, .bool b.fe, .bool b.lv]) 33) = Y at HFR HBX ⊢
          generalize wx.heap.size = nb at HBX HNB ⊢
          obtain ⟨i0, i1, i2, i3, i4⟩ := HFR.out.i.imx; have r0 := HFR.out.r.at 0 _ rfl; have r1 := HFR.out.r.at 1 _ rfl; have r2 := HFR.out.r.at 2 _ rfl
          obtain ⟨b0, b1, b2, b3, b4⟩ := HBX.out.c5
          go_upto_region 9 with (go_at_call 126; refine (HTU.out _ HFR.out.b).mono ?_; rintro e wy ⟨rfl, hby⟩; replace HFR := hide (HFR.out.below hby); replace HBX := hide (HBX.out.below hby); clear i0 i1 i2 i3 i4 r0 r1 r2; clear b0 b1 b2 b3 b4; clear hby HTU; obtain ⟨i0, i1, i2, i3, i4⟩ := HFR.out.i.imx; have r0 := HFR.out.r.at 0 _ rfl; have r1 := HFR.out.r.at 1 _ rfl; have r2 := HFR.out.r.at 2 _ rfl; obtain ⟨b0, b1, b2, b3, b4⟩ := HBX.out.c5)
          rw [HK.out] at r0
          have g4 := HBX.out.f 4 (by simp)
          go_upto_region 19 with fail
          clear i0 i1 i2 i3 i4 r0 r1 r2
          clear b0 b1 b2 b3 b4 g4
          have HFRn := hide (⟨HFR.out.i.setOther (m := nb) (by have := HNB.out; omega) 4 (.bool true), HFR.out.r.setOther (m := nb) (by have := HNB.out; omega) 4 (.bool true), HFR.out.z.setOther (m := nb) (by have := HNB.out; omega) 4 (.bool true), HFR.out.b.setCell (p := ⟨nb, 4, none⟩) (by have := HNB.out; show w.heap.size ≤ nb; omega) (.bool true)⟩ : Fr w m (⟨some ⟨bb, oo, none⟩, aq, ac, ad, cb, cq, cc, cd, ts⟩ : Ip) (cellsR r a14 a15 a16 a17 c14 c15 c16 c17) imz (wy.setCell ⟨nb, 4, none⟩ (.bool true)))
          have HBXn := hide (HBX.out.setCell 4 (by simp) (.bool true))
          clear HFR HBX
          generalize wy.setCell ⟨nb, 4, none⟩ (.bool true) = Z4 at HFRn HBXn ⊢
          have HFR := hide HFRn.out
          have HBX := hide HBXn.out
          clear HFRn HBXn
          simp only [List.set] at HBX
          obtain ⟨i0, i1, i2, i3, i4⟩ := HFR.out.i.imx; have r0 := HFR.out.r.at 0 _ rfl; have r1 := HFR.out.r.at 1 _ rfl; have r2 := HFR.out.r.at 2 _ rfl
          obtain ⟨b0, b1, b2, b3, b4⟩ := HBX.out.c5
          go_wp2_with (first | (go_at_call 125; refine (HPU.out _ HFR.out.b i hi (⟨b.id, b.ep, b.rk, b.fe, true⟩ : Bk)).mono ?_; rintro e w3 ⟨v, rfl, hro, hb3⟩; rw [HPL.out i HIN.out] at hro; obtain ⟨av, cv, rfl⟩ := hro.form; have HRO := hide (hro.mono HFR.out.sz); replace HFR := hide (HFR.out.below hb3); clear hro hb3 HPU; clear i0 i1 i2 i3 i4 r0 r1 r2; obtain ⟨i0, i1, i2, i3, i4⟩ := HFR.out.i.imx; have r0 := HFR.out.r.at 0 _ rfl; have r1 := HFR.out.r.at 1 _ rfl; have r2 := HFR.out.r.at 2 _ rfl; have f0 := HFR.out.f 0 (by decide); have HFS := hide (HFR.out.set 0 (.slice av L.length cv) { m with br := L } (⟨av, aq, ac, ad, cv, cq, cc, cd, ts⟩ : Ip) (by decide) rfl)) | (refine wpList_set rfl _ _ _ rfl _ _ rfl HFS.out.z (iml { m with br := L } (⟨av, aq, ac, ad, cv, cq, cc, cd, ts⟩ : Ip)) rfl rfl (by kernel_rfl) rfl ?_; intro W3 hz hk hb hp; have HFO := hide (HFS.out.out hz hk hb); have HRS := hide (fun W (hW : Agr n0 w.heap.size W3 W) => (HRO.out.keepG (fun g hg => (hW g (.inr (by omega))).trans ((hp g (by omega)).trans (Below.heap_setCell _ _ _ _ (show ¬ g = w.heap.size by omega))))).rs); clear hz hk hb hp))
          obtain ⟨q0, q1, q2, q3, q4⟩ := HFO.out.z.imx
          exact bodyPost_ret (v := .tuple #[.agg (iml { m with br := L } (⟨av, aq, ac, ad, cv, cq, cc, cd, ts⟩ : Ip)).toArray, .nilIface]) (by simp [results, Tryz.results100, go_sem, q0, q1, q2, q3, q4, iml]) rfl (st_ret HFO.out (fun W hW => (HVV.out W _ HFO.out.b hW).setB (HRS.out W hW)) erc_nil)
        · obtain ⟨L, hL⟩ : ∃ L, L = remB m.br b.id := ⟨_, rfl⟩
          have HRE : Hid (turB m r = ({ m with br := L }, 0)) := hide (by rw [HTB.out, hk, trn_gone (hk ▸ hq), hL])
          rw [HRE.out]
          have HPL : Hid (remO (fun x : Bk => cmpN x.id r.br) m.br = L) := hide (by rw [hL, remB_rem, HID.out])
          have HK := hide hk
          clear he hq hL hk
          have HFR0 : Fr w m (⟨some ⟨bb, oo, none⟩, aq, ac, ad, cb, cq, cc, cd, ts⟩ : Ip) (cellsR r a14 a15 a16 a17 c14 c15 c16 c17) imz (((w.alloc (.cells (List.toArray [Value.slice (some ⟨bb, oo, none⟩) m.br.length cb, .slice aq ts.length cq, .slice ac m.cf.length cc, .slice ad m.dn.length cd, .int .i64 m.la]) 30)).alloc (.cells (List.toArray [Value.int .i64 r.k, .int .i64 r.br, .int .i64 r.ep, .int .i64 r.tp, .int .i64 r.pa, .int .i64 r.le, .int .i64 r.cl, .int .i64 r.se, .int .i64 r.co, .bool r.fl, .string ⟨r.nm.toArray⟩, .string ⟨r.ky.toArray⟩, .string ⟨r.va.toArray⟩, .string ⟨r.rk.toArray⟩, .slice a14 r.ids.length c14, .slice a15 r.isr.length c15, .slice a16 r.ad.length c16, .slice a17 r.dr.length c17]) 62)).alloc (.cells (List.toArray [Value.slice none 0 0, .slice none 0 0, .slice none 0 0, .slice none 0 0, .int .i64 0]) 30)) := Fr.mk0 w m _ _ _ _ _ (Below.refl _ _)
          clear hv hw hrw hf hrg
          unfold imv
          dsimp only
          show Calls _ _ #[_, .agg (List.toArray [.int .i64 r.k, .int .i64 r.br, .int .i64 r.ep, .int .i64 r.tp, .int .i64 r.pa, .int .i64 r.le, .int .i64 r.cl, .int .i64 r.se, .int .i64 r.co, .bool r.fl, .string ⟨r.nm.toArray⟩, .string ⟨r.ky.toArray⟩, .string ⟨r.va.toArray⟩, .string ⟨r.rk.toArray⟩, .slice a14 r.ids.length c14, .slice a15 r.isr.length c15, .slice a16 r.ad.length c16, .slice a17 r.dr.length c17])] _ _
          go_enter Tryz.func100, Tryz.ntmps100
          go_upto_region 1 with fail
          generalize ((w.alloc (.cells (List.toArray [Value.slice (some ⟨bb, oo, none⟩) m.br.length cb, .slice aq ts.length cq, .slice ac m.cf.length cc, .slice ad m.dn.length cd, .int .i64 m.la]) 30)).alloc (.cells (List.toArray [Value.int .i64 r.k, .int .i64 r.br, .int .i64 r.ep, .int .i64 r.tp, .int .i64 r.pa, .int .i64 r.le, .int .i64 r.cl, .int .i64 r.se, .int .i64 r.co, .bool r.fl, .string ⟨r.nm.toArray⟩, .string ⟨r.ky.toArray⟩, .string ⟨r.va.toArray⟩, .string ⟨r.rk.toArray⟩, .slice a14 r.ids.length c14, .slice a15 r.isr.length c15, .slice a16 r.ad.length c16, .slice a17 r.dr.length c17]) 62)).alloc (.cells (List.toArray [Value.slice none 0 0, .slice none 0 0, .slice none 0 0, .slice none 0 0, .int .i64 0]) 30) = X at HFR0 ⊢
          have HFR := hide HFR0
          clear HFR0
          obtain ⟨i0, i1, i2, i3, i4⟩ := HFR.out.i.imx; have r0 := HFR.out.r.at 0 _ rfl; have r1 := HFR.out.r.at 1 _ rfl; have r2 := HFR.out.r.at 2 _ rfl
          unfold imv bkc at HTU
          unfold imv at HF
          dsimp only at HF HTU
          go_upto_region 4 with (go_at_call 39; refine (HF.out _ HFR.out.b).mono ?_; rintro e wx ⟨i, hi, hib, hins, hrem, _, _, rfl, hbx⟩; have HIN := hide hins; have HRM := hide hrem; have HIB := hide hib; replace HFR := hide (HFR.out.below hbx); clear i0 i1 i2 i3 i4 r0 r1 r2; clear hbx HF hins hrem hib; obtain ⟨i0, i1, i2, i3, i4⟩ := HFR.out.i.imx; have r0 := HFR.out.r.at 0 _ rfl; have r1 := HFR.out.r.at 1 _ rfl; have r2 := HFR.out.r.at 2 _ rfl)
          have hiI : (i : Int) < (m.br.length : Int) := Int.ofNat_lt.2 hi
          have HE : Hid (wx.rangeAt bb (oo + i * 5) [.int .i64 b.id, .int .i64 b.ep, .string ⟨b.rk.toArray⟩, .bool b.fe, .bool b.lv]) := hide (by have := rg_bel (fm_at encB HRG.out hi) HFR.out.b; rw [HIB.out] at this; exact this)
          go_upto_region 5 with (refine wpList_load_mid rfl _ _ rfl _ _ rfl _ _ HE.out Tryz.underlying33 rfl (by kernel_rfl) ?_)
          clear i0 i1 i2 i3 i4 r0 r1 r2
          have HNB := hide HFR.out.sz
          have HBX := hide (Bx.new wx [.int .i64 b.id, .int .i64 b.ep, .string ⟨b.rk.toArray⟩, .bool b.fe, .bool b.lv] 33)
          replace HFR := hide (HFR.out.below (below_al1 wx (.cells (List.toArray [Value.int .i64 b.id, .int .i64 b.ep, .string ⟨b.rk.toArray⟩, .bool b.fe, .bool b.lv]) 33)))
          generalize wx.alloc (.cells (List.toArray [Value.int .i64 b.id, .int .i64 b.ep, .string ⟨b.rk.toArray⟩, .bool b.fe, .bool b.lv]) 33) = Y at HFR HBX ⊢
          generalize wx.heap.size = nb at HBX HNB ⊢
          obtain ⟨i0, i1, i2, i3, i4⟩ := HFR.out.i.imx; have r0 := HFR.out.r.at 0 _ rfl; have r1 := HFR.out.r.at 1 _ rfl; have r2 := HFR.out.r.at 2 _ rfl
          obtain ⟨b0, b1, b2, b3, b4⟩ := HBX.out.c5
          go_upto_region 9 with (go_at_call 126; refine (HTU.out _ HFR.out.b).mono ?_; rintro e wy ⟨rfl, hby⟩; replace HFR := hide (HFR.out.below hby); replace HBX := hide (HBX.out.below hby); clear i0 i1 i2 i3 i4 r0 r1 r2; clear b0 b1 b2 b3 b4; clear hby HTU; obtain ⟨i0, i1, i2, i3, i4⟩ := HFR.out.i.imx; have r0 := HFR.out.r.at 0 _ rfl; have r1 := HFR.out.r.at 1 _ rfl; have r2 := HFR.out.r.at 2 _ rfl; obtain ⟨b0, b1, b2, b3, b4⟩ := HBX.out.c5)
          rw [HK.out] at r0
          go_wp2_with (first | (go_at_call 127; refine (HWO.out _ HFR.out.b i hi).mono ?_; rintro e w3 ⟨v, rfl, hro, hb3⟩; rw [← HRM.out, HPL.out] at hro; obtain ⟨av, cv, rfl⟩ := hro.form; have HRO := hide (hro.mono HFR.out.sz); replace HFR := hide (HFR.out.below hb3); clear hro hb3 HWO; clear i0 i1 i2 i3 i4 r0 r1 r2; obtain ⟨i0, i1, i2, i3, i4⟩ := HFR.out.i.imx; have r0 := HFR.out.r.at 0 _ rfl; have r1 := HFR.out.r.at 1 _ rfl; have r2 := HFR.out.r.at 2 _ rfl; have f0 := HFR.out.f 0 (by decide); have HFS := hide (HFR.out.set 0 (.slice av L.length cv) { m with br := L } (⟨av, aq, ac, ad, cv, cq, cc, cd, ts⟩ : Ip) (by decide) rfl)) | (refine wpList_set rfl _ _ _ rfl _ _ rfl HFS.out.z (iml { m with br := L } (⟨av, aq, ac, ad, cv, cq, cc, cd, ts⟩ : Ip)) rfl rfl (by kernel_rfl) rfl ?_; intro W3 hz hk hb hp; have HFO := hide (HFS.out.out hz hk hb); have HRS := hide (fun W (hW : Agr n0 w.heap.size W3 W) => (HRO.out.keepG (fun g hg => (hW g (.inr (by omega))).trans ((hp g (by omega)).trans (Below.heap_setCell _ _ _ _ (show ¬ g = w.heap.size by omega))))).rs); clear hz hk hb hp))
          obtain ⟨q0, q1, q2, q3, q4⟩ := HFO.out.z.imx
          exact bodyPost_ret (v := .tuple #[.agg (iml { m with br := L } (⟨av, aq, ac, ad, cv, cq, cc, cd, ts⟩ : Ip)).toArray, .nilIface]) (by simp [results, Tryz.results100, go_sem, q0, q1, q2, q3, q4, iml]) rfl (st_ret HFO.out (fun W hW => (HVV.out W _ HFO.out.b hW).setB (HRS.out W hW)) erc_nil)
    · have hne1 : (b.ep != r.ep) = true := by simpa using he
      have HRE : Hid (turB m r = (m, 11)) := hide (by unfold turB; rw [hf]; exact if_neg he)
      rw [HRE.out]
      have HFR0 : Fr w m (⟨some ⟨bb, oo, none⟩, aq, ac, ad, cb, cq, cc, cd, ts⟩ : Ip) (cellsR r a14 a15 a16 a17 c14 c15 c16 c17) imz (((w.alloc (.cells (List.toArray [Value.slice (some ⟨bb, oo, none⟩) m.br.length cb, .slice aq ts.length cq, .slice ac m.cf.length cc, .slice ad m.dn.length cd, .int .i64 m.la]) 30)).alloc (.cells (List.toArray [Value.int .i64 r.k, .int .i64 r.br, .int .i64 r.ep, .int .i64 r.tp, .int .i64 r.pa, .int .i64 r.le, .int .i64 r.cl, .int .i64 r.se, .int .i64 r.co, .bool r.fl, .string ⟨r.nm.toArray⟩, .string ⟨r.ky.toArray⟩, .string ⟨r.va.toArray⟩, .string ⟨r.rk.toArray⟩, .slice a14 r.ids.length c14, .slice a15 r.isr.length c15, .slice a16 r.ad.length c16, .slice a17 r.dr.length c17]) 62)).alloc (.cells (List.toArray [Value.slice none 0 0, .slice none 0 0, .slice none 0 0, .slice none 0 0, .int .i64 0]) 30)) := Fr.mk0 w m _ _ _ _ _ (Below.refl _ _)
      clear hv hw hrw hf hrg hk
      unfold imv
      dsimp only
      show Calls _ _ #[_, .agg (List.toArray [.int .i64 r.k, .int .i64 r.br, .int .i64 r.ep, .int .i64 r.tp, .int .i64 r.pa, .int .i64 r.le, .int .i64 r.cl, .int .i64 r.se, .int .i64 r.co, .bool r.fl, .string ⟨r.nm.toArray⟩, .string ⟨r.ky.toArray⟩, .string ⟨r.va.toArray⟩, .string ⟨r.rk.toArray⟩, .slice a14 r.ids.length c14, .slice a15 r.isr.length c15, .slice a16 r.ad.length c16, .slice a17 r.dr.length c17])] _ _
      go_enter Tryz.func100, Tryz.ntmps100
      go_upto_region 1 with fail
      generalize ((w.alloc (.cells (List.toArray [Value.slice (some ⟨bb, oo, none⟩) m.br.length cb, .slice aq ts.length cq, .slice ac m.cf.length cc, .slice ad m.dn.length cd, .int .i64 m.la]) 30)).alloc (.cells (List.toArray [Value.int .i64 r.k, .int .i64 r.br, .int .i64 r.ep, .int .i64 r.tp, .int .i64 r.pa, .int .i64 r.le, .int .i64 r.cl, .int .i64 r.se, .int .i64 r.co, .bool r.fl, .string ⟨r.nm.toArray⟩, .string ⟨r.ky.toArray⟩, .string ⟨r.va.toArray⟩, .string ⟨r.rk.toArray⟩, .slice a14 r.ids.length c14, .slice a15 r.isr.length c15, .slice a16 r.ad.length c16, .slice a17 r.dr.length c17]) 62)).alloc (.cells (List.toArray [Value.slice none 0 0, .slice none 0 0, .slice none 0 0, .slice none 0 0, .int .i64 0]) 30) = X at HFR0 ⊢
      have HFR := hide HFR0
      clear HFR0
      obtain ⟨i0, i1, i2, i3, i4⟩ := HFR.out.i.imx; have r0 := HFR.out.r.at 0 _ rfl; have r1 := HFR.out.r.at 1 _ rfl; have r2 := HFR.out.r.at 2 _ rfl
      unfold imv at HF
      dsimp only at HF
      go_upto_region 4 with (go_at_call 39; refine (HF.out _ HFR.out.b).mono ?_; rintro e wx ⟨i, hi, hib, hins, hrem, _, _, rfl, hbx⟩; have HIN := hide hins; have HRM := hide hrem; have HIB := hide hib; replace HFR := hide (HFR.out.below hbx); clear i0 i1 i2 i3 i4 r0 r1 r2; clear hbx HF hins hrem hib; obtain ⟨i0, i1, i2, i3, i4⟩ := HFR.out.i.imx; have r0 := HFR.out.r.at 0 _ rfl; have r1 := HFR.out.r.at 1 _ rfl; have r2 := HFR.out.r.at 2 _ rfl)
      have hiI : (i : Int) < (m.br.length : Int) := Int.ofNat_lt.2 hi
      have HE : Hid (wx.rangeAt bb (oo + i * 5) [.int .i64 b.id, .int .i64 b.ep, .string ⟨b.rk.toArray⟩, .bool b.fe, .bool b.lv]) := hide (by have := rg_bel (fm_at encB HRG.out hi) HFR.out.b; rw [HIB.out] at this; exact this)
      go_upto_region 5 with (refine wpList_load_mid rfl _ _ rfl _ _ rfl _ _ HE.out Tryz.underlying33 rfl (by kernel_rfl) ?_)
      clear i0 i1 i2 i3 i4 r0 r1 r2
      have HNB := hide HFR.out.sz
      have HBX := hide (Bx.new wx [.int .i64 b.id, .int .i64 b.ep, .string ⟨b.rk.toArray⟩, .bool b.fe, .bool b.lv] 33)
      replace HFR := hide (HFR.out.below (below_al1 wx (.cells (List.toArray [Value.int .i64 b.id, .int .i64 b.ep, .string ⟨b.rk.toArray⟩, .bool b.fe, .bool b.lv]) 33)))
      generalize wx.alloc (.cells (List.toArray [Value.int .i64 b.id, .int .i64 b.ep, .string ⟨b.rk.toArray⟩, .bool b.fe, .bool b.lv]) 33) = Y at HFR HBX ⊢
      generalize wx.heap.size = nb at HBX HNB ⊢
      obtain ⟨i0, i1, i2, i3, i4⟩ := HFR.out.i.imx; have r0 := HFR.out.r.at 0 _ rfl; have r1 := HFR.out.r.at 1 _ rfl; have r2 := HFR.out.r.at 2 _ rfl
      obtain ⟨b0, b1, b2, b3, b4⟩ := HBX.out.c5
      go_wp2_with (first | (refine wpList_set rfl _ _ _ rfl _ _ rfl HFR.out.z (iml m (⟨some ⟨bb, oo, none⟩, aq, ac, ad, cb, cq, cc, cd, ts⟩ : Ip)) rfl rfl (by kernel_rfl) rfl ?_; intro W3 hz hk hb hp; have HFO := hide (HFR.out.out hz hk hb); clear hz hk hb hp))
      obtain ⟨q0, q1, q2, q3, q4⟩ := HFO.out.z.imx
      exact bodyPost_ret (v := .tuple #[.agg (iml m (⟨some ⟨bb, oo, none⟩, aq, ac, ad, cb, cq, cc, cd, ts⟩ : Ip)).toArray, .iface 71 (.int .i64 11)]) (by simp [results, Tryz.results100, go_sem, q0, q1, q2, q3, q4, iml]) rfl (st_ret HFO.out (fun W hW => HVV.out W _ HFO.out.b hW) (erc_code (by decide)))
end Go.Proofs.YtfnemlbkmhcodaaGreat
namespace Go.Proofs.YtfnemlbkmhcodaaGreat
open Go.RowKit

theorem nilI_yes (n cap : Nat) (w : World) : (binOp .eql 42 (.slice none n cap) (.slice none 0 0)).run Tryz.prog w = .ok (.bool true) w := by kernel_rfl
theorem nilI_no (a : Addr) (n cap : Nat) (w : World) : (binOp .eql 42 (.slice (some a) n cap) (.slice none 0 0)).run Tryz.prog w = .ok (.bool false) w := by kernel_rfl
def icl (x : Int) : List Value := [ic x]
theorem encI : Enc icl 1 := ⟨fun _ => rfl, fun x u hu => by
  simp only [icl, List.mem_cons, List.not_mem_nil, or_false] at hu
  subst hu; rfl, by decide⟩
theorem tyiI : Tyi Tryz.prog 42 3 1 := tyi_map (z := .int .i64 0) (n := 8) (by kernel_rfl) (by decide) rfl Tryz.underlying42
theorem icl_map (l : List Int) : l.flatMap icl = l.map ic := by
  induction l with
  | nil => rfl
  | cons x r ih => rw [List.flatMap_cons, ih]; rfl
theorem sl_rs {W : World} {v : Value} {l : List Int} (h : Sl ic W v l) : ∃ a n c, v = .slice a n c ∧ n = l.length ∧ (Rs icl W v l ∨ l = []) := by
  rcases h with ⟨ao, cap, rfl, rfl⟩ | ⟨b, o, cap, rfl, h2, h3⟩
  · exact ⟨_, _, _, rfl, rfl, .inr rfl⟩
  · refine ⟨_, _, _, rfl, rfl, .inl ⟨_, _, rfl, h2, fun _ => ⟨b, o, rfl, fun j u hj => ?_⟩⟩⟩
    rw [icl_map, List.getElem?_map] at hj
    obtain ⟨x, hx, rfl⟩ := Option.map_eq_some_iff.1 hj
    obtain ⟨hlt, rfl⟩ := List.getElem?_eq_some_iff.1 hx
    exact h3 j hlt
theorem rs_sl {W : World} {v : Value} {l : List Int} (h : Rs icl W v l) : Sl ic W v l := by
  obtain ⟨ao, cap, rfl, hc, hr⟩ := h
  rcases Nat.eq_zero_or_pos l.length with h0 | h0
  · obtain rfl := List.eq_nil_iff_length_eq_zero.2 h0
    exact Sl.nil _ _ _ _
  · obtain ⟨b, o, rfl, hrg⟩ := hr h0
    exact .inr ⟨b, o, cap, rfl, hc, fun i hi => hrg i _ (by rw [icl_map, List.getElem?_map, List.getElem?_eq_getElem hi]; rfl)⟩
set_option maxRecDepth 100000 in
set_option maxHeartbeats 4000000 in
theorem cloneI_any (v : Value) (l : List Int) (w : World) (hv : Sl ic w v l) (hl : l.length ≤ 100000) :
    Calls Tryz.prog 53 #[v] w fun e w' => ∃ v, e = .returned v ∧ Sl ic w' v l ∧ Ro icl 1 3 w' w.heap.size v l ∧ Below w.heap.size w w' := by
  obtain ⟨a0, n0, c0, rfl, hn, hrs⟩ := sl_rs hv
  cases a0 with
  | none =>
    have e1 := nilI_yes
    obtain rfl : l = [] := by
      rcases hrs with h | h
      · exact List.eq_nil_iff_length_eq_zero.2 (hn ▸ Rs.none0 (f := icl) h rfl)
      · exact h
    clear hv hl hn hrs
    go_enter Tryz.func53, Tryz.ntmps53
    go_wp2_with fail
    go_ret
    exact ⟨_, rfl, Sl.nil _ _ _ _, ro_nil _ _ _ _ _, Below.refl _ _⟩
  | some a =>
    have e2 := nilI_no
    have hq : Rs icl (w.alloc (.cells #[] 3)) (.slice (some a) n0 c0) l := by
      rcases hrs with h | rfl
      · exact h.below (below_al1 _ _)
      · subst hn; exact rs_nil _ _ _ _
    have HV := hide hq
    have HR := hide (ro_new encI 3 w [] (Nat.zero_le _))
    clear hv hrs hq
    go_enter Tryz.func53, Tryz.ntmps53
    go_wp2_with (at_builtin; refine wpList_appR tyiI encI _ rfl _ _ rfl w.heap.size _ [] rfl HR.out (by simp) _ l rfl HV.out (by rw [List.length_nil]; omega) ?_; intro v1 w2 hr _ hb; rw [List.nil_append] at hr; have HRO := hide hr; have HB := hide (((Below.refl w.heap.size w).alloc (Nat.le_refl _) _).trans hb); clear hr hb)
    go_ret
    exact ⟨_, rfl, rs_sl HRO.out.rs, HRO.out, HB.out⟩
/-- A partition's cells, four of them rows. -/
def ptl (p : Pt) (a0 a1 a2 a3 : Option Addr) (c0 c1 c2 c3 : Nat) : List Value := ptc (p, ⟨a0, a1, a2, a3, c0, c1, c2, c3⟩)
theorem Sl.of_ro {W W' : World} {B : Nat} {v : Value} {l : List Int} (h : Ro icl 1 3 W B v l) (hk : ∀ g, B ≤ g → W'.heap[g]? = W.heap[g]?) : Sl ic W' v l := rs_sl (h.keepG hk).rs
/-- A partition whose rows are a call's own, from block B on. -/
structure PtO (W : World) (B : Nat) (q : Pp) : Prop where
  r0 : Ro icl 1 3 W B (.slice q.2.a0 q.1.ids.length q.2.c0) q.1.ids
  r1 : Ro icl 1 3 W B (.slice q.2.a1 q.1.isr.length q.2.c1) q.1.isr
  r2 : Ro icl 1 3 W B (.slice q.2.a2 q.1.ad.length q.2.c2) q.1.ad
  r3 : Ro icl 1 3 W B (.slice q.2.a3 q.1.dr.length q.2.c3) q.1.dr
theorem ro_keep {α : Type} {f : α → List Value} {k : Nat} {T : TypeId} {W W' : World} {B : Nat} {v : Value} {l : List α} (h : Ro f k T W B v l) (hk : ∀ g, B ≤ g → g < W.heap.size → W'.heap[g]? = W.heap[g]?) : Ro f k T W' B v l := by
  refine ⟨h.1, ?_⟩
  rcases h.2 with h2 | ⟨g, cap, cur, a1, a2, a3, a4⟩
  · exact .inl h2
  · exact .inr ⟨g, cap, cur, a1, a2, by rw [hk g a2 (Array.getElem?_eq_some_iff.1 a3).1]; exact a3, a4⟩
theorem PtO.keep {W W' : World} {B : Nat} {q : Pp} (h : PtO W B q) (hk : ∀ g, B ≤ g → g < W.heap.size → W'.heap[g]? = W.heap[g]?) : PtO W' B q := ⟨ro_keep h.r0 hk, ro_keep h.r1 hk, ro_keep h.r2 hk, ro_keep h.r3 hk⟩
theorem PtO.mono {W : World} {B C : Nat} {q : Pp} (h : PtO W B q) (hc : C ≤ B) : PtO W C q := ⟨h.r0.mono hc, h.r1.mono hc, h.r2.mono hc, h.r3.mono hc⟩
theorem PtO.pt {W : World} {B : Nat} {q : Pp} (h : PtO W B q) : PtR W q := ⟨rs_sl h.r0.rs, rs_sl h.r1.rs, rs_sl h.r2.rs, rs_sl h.r3.rs⟩
set_option maxRecDepth 100000 in
set_option maxHeartbeats 8000000 in
theorem Alone_any (q : Pp) (w : World) (hq : PtR w q) (hl : WfP q.1) : Calls Tryz.prog 23 #[.agg (ptc q).toArray] w fun e w' => ∃ q' : Pp, q'.1 = q.1 ∧ e = .returned (.agg (ptc q').toArray) ∧ PtO w' w.heap.size q' ∧ Below w.heap.size w w' := by
  obtain ⟨⟨ids, isr, ld, ep, ad, dr⟩, ⟨a0, a1, a2, a3, c0, c1, c2, c3⟩⟩ := q
  have H0 := hide (fun W (h : Below w.heap.size w W) => cloneI_any _ ids W (hq.s0.below h) (Nat.le_trans hl.l0 (by decide)))
  have H1 := hide (fun W (h : Below w.heap.size w W) => cloneI_any _ isr W (hq.s1.below h) (Nat.le_trans hl.l1 (by decide)))
  have H2 := hide (fun W (h : Below w.heap.size w W) => cloneI_any _ ad W (hq.s2.below h) (Nat.le_trans hl.l2 (by decide)))
  have H3 := hide (fun W (h : Below w.heap.size w W) => cloneI_any _ dr W (hq.s3.below h) (Nat.le_trans hl.l3 (by decide)))
  clear hq hl
  unfold ptc
  dsimp only
  go_enter Tryz.func23, Tryz.ntmps23
  go_upto_region 1 with fail
  have hb1 := Bx.mk2 w [.slice a0 ids.length c0, .slice a1 isr.length c1, .int .i64 ld, .int .i64 ep, .slice a2 ad.length c2, .slice a3 dr.length c3] [.slice none 0 0, .slice none 0 0, .int .i64 0, .int .i64 0, .slice none 0 0, .slice none 0 0] 44 44 (Below.refl _ _)
  generalize ((w.alloc (.cells (List.toArray [Value.slice a0 ids.length c0, .slice a1 isr.length c1, .int .i64 ld, .int .i64 ep, .slice a2 ad.length c2, .slice a3 dr.length c3]) 44)).alloc (.cells (List.toArray [Value.slice none 0 0, .slice none 0 0, .int .i64 0, .int .i64 0, .slice none 0 0, .slice none 0 0]) 44)) = X at hb1 ⊢
  obtain ⟨hP, hR, hB⟩ := hb1
  have HP := hide hP
  have HR := hide hR
  have HB := hide hB
  obtain ⟨i0, i1, i2, i3, i4, i5⟩ := hP.c6
  clear hP hR hB
  clear i0 i1 i2 i3 i4 i5
  obtain ⟨i0, i1, i2, i3, i4, i5⟩ := HP.out.c6
  go_upto_region 2 with (go_at_call 53; refine (H0.out _ HB.out).mono ?_; rintro e w2 ⟨v, rfl, hs, hro, hb1⟩; obtain ⟨b0, d0, rfl⟩ := hs.form; have HR0 : Hid (Ro icl 1 3 w2 (w.heap.size + 1 + 1) (.slice b0 ids.length d0) ids) := hide (hro.mono HR.out.l); replace HP := hide (HP.out.below hb1); replace HR := hide (HR.out.below hb1); replace HB := hide (bt HB.out hb1); clear i0 i1 i2 i3 i4 i5 hs hro hb1 H0; obtain ⟨i0, i1, i2, i3, i4, i5⟩ := HP.out.c6; have f0 := HP.out.f 0 (by simp))
  clear i0 i1 i2 i3 i4 i5 f0
  replace HP := hide (HP.out.setCell 0 (by simp) (.slice b0 ids.length d0))
  replace HR := hide (HR.out.setOther (m := w.heap.size) (by omega) 0 (.slice b0 ids.length d0))
  replace HB := hide (HB.out.setCell (p := ⟨w.heap.size, 0, none⟩) (Nat.le_refl _) (.slice b0 ids.length d0))
  replace HR0 := hide (HR0.out.keepG (W' := w2.setCell ⟨w.heap.size, 0, none⟩ (.slice b0 ids.length d0)) (fun g hg => Below.heap_setCell _ _ _ _ (show ¬ g = w.heap.size by omega)))
  simp only [List.set] at HP
  generalize w2.setCell ⟨w.heap.size, 0, none⟩ (.slice b0 ids.length d0) = X0 at HP HR HB HR0 ⊢
  obtain ⟨i0, i1, i2, i3, i4, i5⟩ := HP.out.c6
  go_upto_region 3 with (go_at_call 53; refine (H1.out _ HB.out).mono ?_; rintro e w3 ⟨v, rfl, hs, hro, hb1⟩; obtain ⟨b1, d1, rfl⟩ := hs.form; have HR1 : Hid (Ro icl 1 3 w3 (w.heap.size + 1 + 1) (.slice b1 isr.length d1) isr) := hide (hro.mono HR.out.l); replace HR0 := hide (HR0.out.below hb1); replace HP := hide (HP.out.below hb1); replace HR := hide (HR.out.below hb1); replace HB := hide (bt HB.out hb1); clear i0 i1 i2 i3 i4 i5 hs hro hb1 H1; obtain ⟨i0, i1, i2, i3, i4, i5⟩ := HP.out.c6; have f0 := HP.out.f 1 (by simp))
  clear i0 i1 i2 i3 i4 i5 f0
  replace HP := hide (HP.out.setCell 1 (by simp) (.slice b1 isr.length d1))
  replace HR := hide (HR.out.setOther (m := w.heap.size) (by omega) 1 (.slice b1 isr.length d1))
  replace HB := hide (HB.out.setCell (p := ⟨w.heap.size, 1, none⟩) (Nat.le_refl _) (.slice b1 isr.length d1))
  replace HR0 := hide (HR0.out.keepG (W' := w3.setCell ⟨w.heap.size, 1, none⟩ (.slice b1 isr.length d1)) (fun g hg => Below.heap_setCell _ _ _ _ (show ¬ g = w.heap.size by omega)))
  replace HR1 := hide (HR1.out.keepG (W' := w3.setCell ⟨w.heap.size, 1, none⟩ (.slice b1 isr.length d1)) (fun g hg => Below.heap_setCell _ _ _ _ (show ¬ g = w.heap.size by omega)))
  simp only [List.set] at HP
  generalize w3.setCell ⟨w.heap.size, 1, none⟩ (.slice b1 isr.length d1) = X1 at HP HR HB HR0 HR1 ⊢
  obtain ⟨i0, i1, i2, i3, i4, i5⟩ := HP.out.c6
  go_upto_region 4 with (go_at_call 53; refine (H2.out _ HB.out).mono ?_; rintro e w4 ⟨v, rfl, hs, hro, hb1⟩; obtain ⟨b2, d2, rfl⟩ := hs.form; have HR2 : Hid (Ro icl 1 3 w4 (w.heap.size + 1 + 1) (.slice b2 ad.length d2) ad) := hide (hro.mono HR.out.l); replace HR0 := hide (HR0.out.below hb1); replace HR1 := hide (HR1.out.below hb1); replace HP := hide (HP.out.below hb1); replace HR := hide (HR.out.below hb1); replace HB := hide (bt HB.out hb1); clear i0 i1 i2 i3 i4 i5 hs hro hb1 H2; obtain ⟨i0, i1, i2, i3, i4, i5⟩ := HP.out.c6; have f0 := HP.out.f 4 (by simp))
  clear i0 i1 i2 i3 i4 i5 f0
  replace HP := hide (HP.out.setCell 4 (by simp) (.slice b2 ad.length d2))
  replace HR := hide (HR.out.setOther (m := w.heap.size) (by omega) 4 (.slice b2 ad.length d2))
  replace HB := hide (HB.out.setCell (p := ⟨w.heap.size, 4, none⟩) (Nat.le_refl _) (.slice b2 ad.length d2))
  replace HR0 := hide (HR0.out.keepG (W' := w4.setCell ⟨w.heap.size, 4, none⟩ (.slice b2 ad.length d2)) (fun g hg => Below.heap_setCell _ _ _ _ (show ¬ g = w.heap.size by omega)))
  replace HR1 := hide (HR1.out.keepG (W' := w4.setCell ⟨w.heap.size, 4, none⟩ (.slice b2 ad.length d2)) (fun g hg => Below.heap_setCell _ _ _ _ (show ¬ g = w.heap.size by omega)))
  replace HR2 := hide (HR2.out.keepG (W' := w4.setCell ⟨w.heap.size, 4, none⟩ (.slice b2 ad.length d2)) (fun g hg => Below.heap_setCell _ _ _ _ (show ¬ g = w.heap.size by omega)))
  simp only [List.set] at HP
  generalize w4.setCell ⟨w.heap.size, 4, none⟩ (.slice b2 ad.length d2) = X2 at HP HR HB HR0 HR1 HR2 ⊢
  obtain ⟨i0, i1, i2, i3, i4, i5⟩ := HP.out.c6
  go_upto_region 5 with (go_at_call 53; refine (H3.out _ HB.out).mono ?_; rintro e w5 ⟨v, rfl, hs, hro, hb1⟩; obtain ⟨b3, d3, rfl⟩ := hs.form; have HR3 : Hid (Ro icl 1 3 w5 (w.heap.size + 1 + 1) (.slice b3 dr.length d3) dr) := hide (hro.mono HR.out.l); replace HR0 := hide (HR0.out.below hb1); replace HR1 := hide (HR1.out.below hb1); replace HR2 := hide (HR2.out.below hb1); replace HP := hide (HP.out.below hb1); replace HR := hide (HR.out.below hb1); replace HB := hide (bt HB.out hb1); clear i0 i1 i2 i3 i4 i5 hs hro hb1 H3; obtain ⟨i0, i1, i2, i3, i4, i5⟩ := HP.out.c6; have f0 := HP.out.f 5 (by simp))
  clear i0 i1 i2 i3 i4 i5 f0
  replace HP := hide (HP.out.setCell 5 (by simp) (.slice b3 dr.length d3))
  replace HR := hide (HR.out.setOther (m := w.heap.size) (by omega) 5 (.slice b3 dr.length d3))
  replace HB := hide (HB.out.setCell (p := ⟨w.heap.size, 5, none⟩) (Nat.le_refl _) (.slice b3 dr.length d3))
  replace HR0 := hide (HR0.out.keepG (W' := w5.setCell ⟨w.heap.size, 5, none⟩ (.slice b3 dr.length d3)) (fun g hg => Below.heap_setCell _ _ _ _ (show ¬ g = w.heap.size by omega)))
  replace HR1 := hide (HR1.out.keepG (W' := w5.setCell ⟨w.heap.size, 5, none⟩ (.slice b3 dr.length d3)) (fun g hg => Below.heap_setCell _ _ _ _ (show ¬ g = w.heap.size by omega)))
  replace HR2 := hide (HR2.out.keepG (W' := w5.setCell ⟨w.heap.size, 5, none⟩ (.slice b3 dr.length d3)) (fun g hg => Below.heap_setCell _ _ _ _ (show ¬ g = w.heap.size by omega)))
  replace HR3 := hide (HR3.out.keepG (W' := w5.setCell ⟨w.heap.size, 5, none⟩ (.slice b3 dr.length d3)) (fun g hg => Below.heap_setCell _ _ _ _ (show ¬ g = w.heap.size by omega)))
  simp only [List.set] at HP
  generalize w5.setCell ⟨w.heap.size, 5, none⟩ (.slice b3 dr.length d3) = X3 at HP HR HB HR0 HR1 HR2 HR3 ⊢
  obtain ⟨i0, i1, i2, i3, i4, i5⟩ := HP.out.c6
  go_wp2_with (refine wpList_set rfl _ _ _ rfl _ _ rfl HR.out [.slice b0 ids.length d0, .slice b1 isr.length d1, .int .i64 ld, .int .i64 ep, .slice b2 ad.length d2, .slice b3 dr.length d3] rfl rfl (by kernel_rfl) rfl ?_; intro W3 hz hk hb hp; have HZ := hide hz; have HPP := hide hp; have HBB := hide (hb _ _ (Nat.le_succ _) HB.out); clear hz hk hb hp)
  obtain ⟨q0, q1, q2, q3, q4, q5⟩ := HZ.out.c6
  exact bodyPost_ret (v := .agg #[.slice b0 ids.length d0, .slice b1 isr.length d1, .int .i64 ld, .int .i64 ep, .slice b2 ad.length d2, .slice b3 dr.length d3]) (by simp [results, Tryz.results23, go_sem, q0, q1, q2, q3, q4, q5]) rfl ⟨(⟨ids, isr, ld, ep, ad, dr⟩, ⟨b0, b1, b2, b3, d0, d1, d2, d3⟩), rfl, rfl, ⟨(HR0.out.keepG (fun g hg => HPP.out g (by omega))).mono (by omega), (HR1.out.keepG (fun g hg => HPP.out g (by omega))).mono (by omega), (HR2.out.keepG (fun g hg => HPP.out g (by omega))).mono (by omega), (HR3.out.keepG (fun g hg => HPP.out g (by omega))).mono (by omega)⟩, HBB.out⟩
end Go.Proofs.YtfnemlbkmhcodaaGreat
