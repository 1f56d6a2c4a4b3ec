/-
  ONE THAT IS PUT AT A PLACE (image.put), ahead of what is there, or in its stead. Conditions: the cells hold them, no more than a hundred thousand.
  AN ANSWER IS KNOWN (image.answer). Conditions: an image in order, its lists no longer than a hundred thousand.
  WHETHER A BROKER MAY BE TURNED (image.turns). Conditions: an image in order.
-/
import Derived.Test.YtfnemlbkmhcodaaGreatJImDwCa3
import Derived.Test.YtfnemlbkmhcodaaGreatJImXa3
import Derived.Test.YtfnemlbkmhcodaaGreatJImCha3
import Derived.Test.YtfnemlbkmhcodaaGreatJImCea3
namespace Go.Proofs.YtfnemlbkmhcodaaGreat
open Go.RowKit


set_option maxRecDepth 100000 in
set_option maxHeartbeats 8000000 in
theorem putD_new (l : List Dn) (ao : Option Addr) (n cap i : Nat) (x : Dn) (w : World) (hn : n = l.length) (hv : Rs dnc w (.slice ao n cap) l) (hi : i ≤ l.length) (hl : l.length ≤ 100000) :
    Calls Tryz.prog 137 #[.slice ao n cap, .int .i64 (i : Int), .bool false, .agg (dnc x).toArray] w fun e w' => ∃ v, e = .returned v ∧ Ro dnc 3 87 w' w.heap.size v (l.take i ++ x :: l.drop i) ∧ Below w.heap.size w w' := by
  subst hn
  obtain ⟨ao', hr, hd⟩ := hv.from tyiD encD i hi
  have hu := fun W => upto_run tyiD ao l.length cap i hi hv.cap.2 W
  have HP := hide (fun o1 T U => put_frame (f := dnc) w o1 x T U (.slice ao i cap) (.slice ao' (l.length - i) (cap - i)))
  have HC := hide (fun W (hb : Below w.heap.size w W) (hB : Bx W (w.heap.size + 1 + 1) [.slice ao i cap, .slice (some ⟨w.heap.size + 1, 0, none⟩) 1 1, .slice ao' (l.length - i) (cap - i)]) (hx : Rs dnc W (.slice (some ⟨w.heap.size + 1, 0, none⟩) 1 1) [x]) => concD_3 _ _ _ (l.take i) [x] (l.drop i) _ W hB ((hv.below hb).upto encD i hi) hx (hd W hb) (by rw [List.length_take]; omega) (by simp) (by rw [List.length_drop]; omega))
  have HE : Hid (l.take i ++ [x] ++ l.drop i = l.take i ++ x :: l.drop i) := hide (by simp)
  clear hv hd
  unfold dnc at *
  go_enter Tryz.func137, Tryz.ntmps137
  go_upto_region 4 with fail
  go_region_with (go_at_call 154; obtain ⟨p1, p2, p3⟩ := HP.out _ _ _; refine (HC.out _ p3 p1 p2).mono ?_; rintro e w1 ⟨v, rfl, hr, hb⟩; rw [HE.out] at hr; have HR := hide (hr.mono p3.size); have HB := hide (bt p3 hb); clear hr hb p1 p2 p3)
  all_goals
    go_wp2_with fail
    go_ret
    exact ⟨_, rfl, HR.out, HB.out⟩
set_option maxRecDepth 100000 in
set_option maxHeartbeats 8000000 in
theorem putD_old (l : List Dn) (ao : Option Addr) (n cap i : Nat) (x : Dn) (w : World) (hn : n = l.length) (hv : Rs dnc w (.slice ao n cap) l) (hi : i < l.length) (hl : l.length ≤ 100000) :
    Calls Tryz.prog 137 #[.slice ao n cap, .int .i64 (i : Int), .bool true, .agg (dnc x).toArray] w fun e w' => ∃ v, e = .returned v ∧ Ro dnc 3 87 w' w.heap.size v (l.take i ++ x :: l.drop (i + 1)) ∧ Below w.heap.size w w' := by
  subst hn
  obtain ⟨ao', hr, hd⟩ := hv.from tyiD encD i (Nat.le_of_lt hi)
  have hdl : (l.drop i).length = l.length - i := List.length_drop
  obtain ⟨ao2, hr2, hd2⟩ := (show Rs dnc w (.slice ao' (l.drop i).length (cap - i)) (l.drop i) from hdl ▸ hd w (Below.refl _ _)).from tyiD encD 1 (by omega)
  rw [hdl] at hr2 hd2
  have hdd : (l.drop i).drop 1 = l.drop (i + 1) := by rw [List.drop_drop]
  rw [hdd] at hd2
  have hu := fun W => upto_run tyiD ao l.length cap i (Nat.le_of_lt hi) hv.cap.2 W
  replace hr2 : ∀ W, (Instr.slice 28 (.slice ao' (l.length - i) (cap - i)) (some (.int .i64 1)) none none).run Tryz.prog W = .ok (.slice ao2 (l.length - i - 1) (cap - i - 1)) W := hr2
  have HP := hide (fun o1 T U => put_frame (f := dnc) w o1 x T U (.slice ao i cap) (.slice ao2 (l.length - i - 1) (cap - i - 1)))
  have HC := hide (fun W (hb : Below w.heap.size w W) (hB : Bx W (w.heap.size + 1 + 1) [.slice ao i cap, .slice (some ⟨w.heap.size + 1, 0, none⟩) 1 1, .slice ao2 (l.length - i - 1) (cap - i - 1)]) (hx : Rs dnc W (.slice (some ⟨w.heap.size + 1, 0, none⟩) 1 1) [x]) => concD_3 _ _ _ (l.take i) [x] (l.drop (i + 1)) _ W hB ((hv.below hb).upto encD i (Nat.le_of_lt hi)) hx (hd2 W hb) (by rw [List.length_take]; omega) (by simp) (by rw [List.length_drop]; omega))
  have HE : Hid (l.take i ++ [x] ++ l.drop (i + 1) = l.take i ++ x :: l.drop (i + 1)) := hide (by simp)
  clear hv hd hd2 hdl hdd
  unfold dnc at *
  go_enter Tryz.func137, Tryz.ntmps137
  go_upto_region 4 with fail
  go_region_with (go_at_call 154; obtain ⟨p1, p2, p3⟩ := HP.out _ _ _; refine (HC.out _ p3 p1 p2).mono ?_; rintro e w1 ⟨v, rfl, hr, hb⟩; rw [HE.out] at hr; have HR := hide (hr.mono p3.size); have HB := hide (bt p3 hb); clear hr hb p1 p2 p3)
  all_goals
    go_wp2_with fail
    go_ret
    exact ⟨_, rfl, HR.out, HB.out⟩
end Go.Proofs.YtfnemlbkmhcodaaGreat
namespace Go.Proofs.YtfnemlbkmhcodaaGreat
open Go.RowKit

set_option maxRecDepth 100000 in
set_option maxHeartbeats 16000000 in
theorem answer_any {ok : Nat → Prop} (m : Im) (p : Ip) (r : Rc) (v : Value) (w : World) (n0 : Nat → Prop) (hn0 : ∀ g, n0 g → g < w.heap.size) (hv : ∀ W, (∀ g, n0 g → W.heap[g]? = w.heap[g]?) → ImR W m p) (hw : Wf m 100000) (hr : IsR ok w v r) : Calls Tryz.prog 105 #[imv m p, v] w fun e w' => StP n0 w w' (ansD m r).1 (ansD m r).2 e := by
  obtain ⟨a14, a15, a16, a17, c14, c15, c16, c17, rfl, hrw⟩ := hr
  have HVV := hide (fun (W W3 : World) (hb : Below w.heap.size w W3) (hW : Agr n0 w.heap.size W3 W) => hv W (fun g hg => (hW g (.inl hg)).trans (hb.block g (hn0 g hg))))
  clear hn0
  replace hv : ImR w m p := hv w (fun _ _ => rfl)
  have HV := hide (fun W (h : Below w.heap.size w W) => hv.below h)
  have HAN := hide (fun W (h : Below w.heap.size w W) => Answered_any m p r.cl r.se W (hv.below h) hw)
  cases hf : fD m.dn r.cl r.se with
  | some d =>
    have HRE : Hid (ansD m r = (m, 9)) := hide (by unfold ansD; rw [hf]; rfl)
    rw [HRE.out]
    rw [hf] at HAN
    unfold ansV at HAN
    have HFR0 : Fr w m p (cellsR r a14 a15 a16 a17 c14 c15 c16 c17) imz (((w.alloc (.cells (List.toArray [Value.slice p.ab m.br.length p.cb, .slice p.aq p.ts.length p.cq, .slice p.ac m.cf.length p.cc, .slice p.ad m.dn.length p.cd, .int .i64 m.la]) 30)).alloc (.cells (List.toArray [Value.int .i64 r.k, .int .i64 r.br, .int .i64 r.ep, .int .i64 r.tp, .int .i64 r.pa, .int .i64 r.le, .int .i64 r.cl, .int .i64 r.se, .int .i64 r.co, .bool r.fl, .string ⟨r.nm.toArray⟩, .string ⟨r.ky.toArray⟩, .string ⟨r.va.toArray⟩, .string ⟨r.rk.toArray⟩, .slice a14 r.ids.length c14, .slice a15 r.isr.length c15, .slice a16 r.ad.length c16, .slice a17 r.dr.length c17]) 62)).alloc (.cells (List.toArray [Value.slice none 0 0, .slice none 0 0, .slice none 0 0, .slice none 0 0, .int .i64 0]) 30)) := Fr.mk0 w m p _ _ _ _ (Below.refl _ _)
    clear hv hw hrw hf
    unfold imv
    show Calls _ _ #[_, .agg (List.toArray [.int .i64 r.k, .int .i64 r.br, .int .i64 r.ep, .int .i64 r.tp, .int .i64 r.pa, .int .i64 r.le, .int .i64 r.cl, .int .i64 r.se, .int .i64 r.co, .bool r.fl, .string ⟨r.nm.toArray⟩, .string ⟨r.ky.toArray⟩, .string ⟨r.va.toArray⟩, .string ⟨r.rk.toArray⟩, .slice a14 r.ids.length c14, .slice a15 r.isr.length c15, .slice a16 r.ad.length c16, .slice a17 r.dr.length c17])] _ _
    go_enter Tryz.func105, Tryz.ntmps105
    go_upto_region 1 with fail
    generalize ((w.alloc (.cells (List.toArray [Value.slice p.ab m.br.length p.cb, .slice p.aq p.ts.length p.cq, .slice p.ac m.cf.length p.cc, .slice p.ad m.dn.length p.cd, .int .i64 m.la]) 30)).alloc (.cells (List.toArray [Value.int .i64 r.k, .int .i64 r.br, .int .i64 r.ep, .int .i64 r.tp, .int .i64 r.pa, .int .i64 r.le, .int .i64 r.cl, .int .i64 r.se, .int .i64 r.co, .bool r.fl, .string ⟨r.nm.toArray⟩, .string ⟨r.ky.toArray⟩, .string ⟨r.va.toArray⟩, .string ⟨r.rk.toArray⟩, .slice a14 r.ids.length c14, .slice a15 r.isr.length c15, .slice a16 r.ad.length c16, .slice a17 r.dr.length c17]) 62)).alloc (.cells (List.toArray [Value.slice none 0 0, .slice none 0 0, .slice none 0 0, .slice none 0 0, .int .i64 0]) 30) = X at HFR0 ⊢
    have HFR := hide HFR0
    clear HFR0
    obtain ⟨i0, i1, i2, i3, i4⟩ := HFR.out.i.im; have r6 := HFR.out.r.at 6 _ rfl; have r7 := HFR.out.r.at 7 _ rfl; have r8 := HFR.out.r.at 8 _ rfl
    unfold imv at HAN
    go_wp2_with (first | (go_at_call 19; refine (HAN.out _ HFR.out.b).mono ?_; rintro e wx ⟨rfl, hbx⟩;  replace HFR := hide (HFR.out.below hbx); clear i0 i1 i2 i3 i4 r6 r7 r8; clear hbx HAN; obtain ⟨i0, i1, i2, i3, i4⟩ := HFR.out.i.im; have r6 := HFR.out.r.at 6 _ rfl; have r7 := HFR.out.r.at 7 _ rfl; have r8 := HFR.out.r.at 8 _ rfl) | (refine wpList_set rfl _ _ _ rfl _ _ rfl HFR.out.z (iml m p) rfl rfl (by kernel_rfl) rfl ?_; intro W3 hz hk hb hp; have HFO := hide (HFR.out.out hz hk hb); clear hz hk hb hp))
    obtain ⟨q0, q1, q2, q3, q4⟩ := HFO.out.z.im
    exact bodyPost_ret (v := .tuple #[.agg (iml m p).toArray, .iface 71 (.int .i64 9)]) (by simp [results, Tryz.results105, go_sem, q0, q1, q2, q3, q4, iml]) rfl (st_ret HFO.out (fun W hW => HVV.out W _ HFO.out.b hW) (erc_code (by decide)))
  | none =>
    obtain ⟨L, hL⟩ : ∃ L, L = putD m.dn ⟨r.cl, r.se, r.co⟩ := ⟨_, rfl⟩
    have HRE : Hid (ansD m r = ({ m with dn := L }, 0)) := hide (by unfold ansD; rw [hf, hL]; rfl)
    rw [HRE.out]
    rw [hf] at HAN
    unfold ansV at HAN
    have hnd := hw.nd
    by_cases h64 : 64 ≤ m.dn.length
    · obtain ⟨k, hk⟩ : ∃ k, k = m.dn.length + 1 - 64 := ⟨_, rfl⟩
      have hkl : k ≤ m.dn.length := by omega
      obtain ⟨ao', hfr, hdr⟩ := hv.d.from tyiD encD k hkl
      have hdl : (m.dn.drop k).length = m.dn.length - k := List.length_drop
      have HPU := hide (fun W (h : Below w.heap.size w W) => putD_new (m.dn.drop k) ao' (m.dn.length - k) (p.cd - k) (m.dn.length - k) ⟨r.cl, r.se, r.co⟩ W hdl.symm (hdr W h) (by omega) (by omega))
      have HTL : Hid ((m.dn.drop k).take (m.dn.length - k) ++ (⟨r.cl, r.se, r.co⟩ : Dn) :: (m.dn.drop k).drop (m.dn.length - k) = L) := hide (by rw [List.take_of_length_le (Nat.le_of_eq hdl), List.drop_of_length_le (Nat.le_of_eq hdl), hL, putD, hk])
      have hgt : (64 : Int) < (m.dn.length : Int) + 1 := by omega
      have hki : (k : Int) = (m.dn.length : Int) + 1 - 64 := by omega
      replace hfr : ∀ W, (Instr.slice 28 (.slice p.ad m.dn.length p.cd) (some (.int .i64 ((m.dn.length : Int) + 1 - 64))) none none).run Tryz.prog W = .ok (.slice ao' (m.dn.length - k) (p.cd - k)) W := fun W => by rw [← hki]; exact hfr W
      have hcast : ((m.dn.length - k : Nat) : Int) = (m.dn.length : Int) - k := by omega
      clear hL hk hdl hdr hki h64 hcast
      have HFR0 : Fr w m p (cellsR r a14 a15 a16 a17 c14 c15 c16 c17) imz (((w.alloc (.cells (List.toArray [Value.slice p.ab m.br.length p.cb, .slice p.aq p.ts.length p.cq, .slice p.ac m.cf.length p.cc, .slice p.ad m.dn.length p.cd, .int .i64 m.la]) 30)).alloc (.cells (List.toArray [Value.int .i64 r.k, .int .i64 r.br, .int .i64 r.ep, .int .i64 r.tp, .int .i64 r.pa, .int .i64 r.le, .int .i64 r.cl, .int .i64 r.se, .int .i64 r.co, .bool r.fl, .string ⟨r.nm.toArray⟩, .string ⟨r.ky.toArray⟩, .string ⟨r.va.toArray⟩, .string ⟨r.rk.toArray⟩, .slice a14 r.ids.length c14, .slice a15 r.isr.length c15, .slice a16 r.ad.length c16, .slice a17 r.dr.length c17]) 62)).alloc (.cells (List.toArray [Value.slice none 0 0, .slice none 0 0, .slice none 0 0, .slice none 0 0, .int .i64 0]) 30)) := Fr.mk0 w m p _ _ _ _ (Below.refl _ _)
      clear hv hw hrw hf
      unfold imv
      show Calls _ _ #[_, .agg (List.toArray [.int .i64 r.k, .int .i64 r.br, .int .i64 r.ep, .int .i64 r.tp, .int .i64 r.pa, .int .i64 r.le, .int .i64 r.cl, .int .i64 r.se, .int .i64 r.co, .bool r.fl, .string ⟨r.nm.toArray⟩, .string ⟨r.ky.toArray⟩, .string ⟨r.va.toArray⟩, .string ⟨r.rk.toArray⟩, .slice a14 r.ids.length c14, .slice a15 r.isr.length c15, .slice a16 r.ad.length c16, .slice a17 r.dr.length c17])] _ _
      go_enter Tryz.func105, Tryz.ntmps105
      go_upto_region 1 with fail
      generalize ((w.alloc (.cells (List.toArray [Value.slice p.ab m.br.length p.cb, .slice p.aq p.ts.length p.cq, .slice p.ac m.cf.length p.cc, .slice p.ad m.dn.length p.cd, .int .i64 m.la]) 30)).alloc (.cells (List.toArray [Value.int .i64 r.k, .int .i64 r.br, .int .i64 r.ep, .int .i64 r.tp, .int .i64 r.pa, .int .i64 r.le, .int .i64 r.cl, .int .i64 r.se, .int .i64 r.co, .bool r.fl, .string ⟨r.nm.toArray⟩, .string ⟨r.ky.toArray⟩, .string ⟨r.va.toArray⟩, .string ⟨r.rk.toArray⟩, .slice a14 r.ids.length c14, .slice a15 r.isr.length c15, .slice a16 r.ad.length c16, .slice a17 r.dr.length c17]) 62)).alloc (.cells (List.toArray [Value.slice none 0 0, .slice none 0 0, .slice none 0 0, .slice none 0 0, .int .i64 0]) 30) = X at HFR0 ⊢
      have HFR := hide HFR0
      clear HFR0
      obtain ⟨i0, i1, i2, i3, i4⟩ := HFR.out.i.im; have r6 := HFR.out.r.at 6 _ rfl; have r7 := HFR.out.r.at 7 _ rfl; have r8 := HFR.out.r.at 8 _ rfl
      unfold imv at HAN
      go_wp2_with (first | (go_at_call 19; refine (HAN.out _ HFR.out.b).mono ?_; rintro e wx ⟨rfl, hbx⟩;  replace HFR := hide (HFR.out.below hbx); clear i0 i1 i2 i3 i4 r6 r7 r8; clear hbx HAN; obtain ⟨i0, i1, i2, i3, i4⟩ := HFR.out.i.im; have r6 := HFR.out.r.at 6 _ rfl; have r7 := HFR.out.r.at 7 _ rfl; have r8 := HFR.out.r.at 8 _ rfl) | (go_at_call 137; refine (HPU.out _ HFR.out.b).mono ?_; rintro e w3 ⟨v, rfl, hro, hb3⟩; rw [HTL.out] at hro; obtain ⟨av, cv, rfl⟩ := hro.form; have HRO := hide (hro.mono HFR.out.sz); replace HFR := hide (HFR.out.below hb3); clear hro hb3 HPU; clear i0 i1 i2 i3 i4 r6 r7 r8; obtain ⟨i0, i1, i2, i3, i4⟩ := HFR.out.i.im; have r6 := HFR.out.r.at 6 _ rfl; have r7 := HFR.out.r.at 7 _ rfl; have r8 := HFR.out.r.at 8 _ rfl; have f3 := HFR.out.f 3 (by decide); have HFS := hide (HFR.out.set 3 (.slice av L.length cv) { m with dn := L } { p with ad := av, cd := cv } (by decide) rfl)) | (refine wpList_set rfl _ _ _ rfl _ _ rfl HFS.out.z (iml { m with dn := L } { p with ad := av, cd := cv }) rfl rfl (by kernel_rfl) rfl ?_; intro W3 hz hk hb hp; have HFO := hide (HFS.out.out hz hk hb); have HRS := hide (fun W (hW : Agr n0 w.heap.size W3 W) => (HRO.out.keepG (fun g hg => (hW g (.inr (by omega))).trans ((hp g (by omega)).trans (Below.heap_setCell _ _ _ _ (show ¬ g = w.heap.size by omega))))).rs); clear hz hk hb hp))
      obtain ⟨q0, q1, q2, q3, q4⟩ := HFO.out.z.im
      exact bodyPost_ret (v := .tuple #[.agg (iml { m with dn := L } { p with ad := av, cd := cv }).toArray, .nilIface]) (by simp [results, Tryz.results105, go_sem, q0, q1, q2, q3, q4, iml]) rfl (st_ret HFO.out (fun W hW => ⟨(HVV.out W _ HFO.out.b hW).b, (HVV.out W _ HFO.out.b hW).t, (HVV.out W _ HFO.out.b hW).q, (HVV.out W _ HFO.out.b hW).e, (HVV.out W _ HFO.out.b hW).c, (HRS.out W hW)⟩) erc_nil)
    · have HPU := hide (fun W (h : Below w.heap.size w W) => putD_new m.dn p.ad _ p.cd m.dn.length ⟨r.cl, r.se, r.co⟩ W rfl (hv.below h).d (Nat.le_refl _) hnd)
      have HTL : Hid (m.dn.take m.dn.length ++ (⟨r.cl, r.se, r.co⟩ : Dn) :: m.dn.drop m.dn.length = L) := hide (by rw [List.take_length, List.drop_length, hL, putD, show m.dn.length + 1 - 64 = 0 by omega, List.drop_zero])
      have hgt : ¬ (64 : Int) < (m.dn.length : Int) + 1 := by omega
      clear hL h64
      have HFR0 : Fr w m p (cellsR r a14 a15 a16 a17 c14 c15 c16 c17) imz (((w.alloc (.cells (List.toArray [Value.slice p.ab m.br.length p.cb, .slice p.aq p.ts.length p.cq, .slice p.ac m.cf.length p.cc, .slice p.ad m.dn.length p.cd, .int .i64 m.la]) 30)).alloc (.cells (List.toArray [Value.int .i64 r.k, .int .i64 r.br, .int .i64 r.ep, .int .i64 r.tp, .int .i64 r.pa, .int .i64 r.le, .int .i64 r.cl, .int .i64 r.se, .int .i64 r.co, .bool r.fl, .string ⟨r.nm.toArray⟩, .string ⟨r.ky.toArray⟩, .string ⟨r.va.toArray⟩, .string ⟨r.rk.toArray⟩, .slice a14 r.ids.length c14, .slice a15 r.isr.length c15, .slice a16 r.ad.length c16, .slice a17 r.dr.length c17]) 62)).alloc (.cells (List.toArray [Value.slice none 0 0, .slice none 0 0, .slice none 0 0, .slice none 0 0, .int .i64 0]) 30)) := Fr.mk0 w m p _ _ _ _ (Below.refl _ _)
      clear hv hw hrw hf
      unfold imv
      show Calls _ _ #[_, .agg (List.toArray [.int .i64 r.k, .int .i64 r.br, .int .i64 r.ep, .int .i64 r.tp, .int .i64 r.pa, .int .i64 r.le, .int .i64 r.cl, .int .i64 r.se, .int .i64 r.co, .bool r.fl, .string ⟨r.nm.toArray⟩, .string ⟨r.ky.toArray⟩, .string ⟨r.va.toArray⟩, .string ⟨r.rk.toArray⟩, .slice a14 r.ids.length c14, .slice a15 r.isr.length c15, .slice a16 r.ad.length c16, .slice a17 r.dr.length c17])] _ _
      go_enter Tryz.func105, Tryz.ntmps105
      go_upto_region 1 with fail
      generalize ((w.alloc (.cells (List.toArray [Value.slice p.ab m.br.length p.cb, .slice p.aq p.ts.length p.cq, .slice p.ac m.cf.length p.cc, .slice p.ad m.dn.length p.cd, .int .i64 m.la]) 30)).alloc (.cells (List.toArray [Value.int .i64 r.k, .int .i64 r.br, .int .i64 r.ep, .int .i64 r.tp, .int .i64 r.pa, .int .i64 r.le, .int .i64 r.cl, .int .i64 r.se, .int .i64 r.co, .bool r.fl, .string ⟨r.nm.toArray⟩, .string ⟨r.ky.toArray⟩, .string ⟨r.va.toArray⟩, .string ⟨r.rk.toArray⟩, .slice a14 r.ids.length c14, .slice a15 r.isr.length c15, .slice a16 r.ad.length c16, .slice a17 r.dr.length c17]) 62)).alloc (.cells (List.toArray [Value.slice none 0 0, .slice none 0 0, .slice none 0 0, .slice none 0 0, .int .i64 0]) 30) = X at HFR0 ⊢
      have HFR := hide HFR0
      clear HFR0
      obtain ⟨i0, i1, i2, i3, i4⟩ := HFR.out.i.im; have r6 := HFR.out.r.at 6 _ rfl; have r7 := HFR.out.r.at 7 _ rfl; have r8 := HFR.out.r.at 8 _ rfl
      unfold imv at HAN
      go_wp2_with (first | (go_at_call 19; refine (HAN.out _ HFR.out.b).mono ?_; rintro e wx ⟨rfl, hbx⟩;  replace HFR := hide (HFR.out.below hbx); clear i0 i1 i2 i3 i4 r6 r7 r8; clear hbx HAN; obtain ⟨i0, i1, i2, i3, i4⟩ := HFR.out.i.im; have r6 := HFR.out.r.at 6 _ rfl; have r7 := HFR.out.r.at 7 _ rfl; have r8 := HFR.out.r.at 8 _ rfl) | (go_at_call 137; refine (HPU.out _ HFR.out.b).mono ?_; rintro e w3 ⟨v, rfl, hro, hb3⟩; rw [HTL.out] at hro; obtain ⟨av, cv, rfl⟩ := hro.form; have HRO := hide (hro.mono HFR.out.sz); replace HFR := hide (HFR.out.below hb3); clear hro hb3 HPU; clear i0 i1 i2 i3 i4 r6 r7 r8; obtain ⟨i0, i1, i2, i3, i4⟩ := HFR.out.i.im; have r6 := HFR.out.r.at 6 _ rfl; have r7 := HFR.out.r.at 7 _ rfl; have r8 := HFR.out.r.at 8 _ rfl; have f3 := HFR.out.f 3 (by decide); have HFS := hide (HFR.out.set 3 (.slice av L.length cv) { m with dn := L } { p with ad := av, cd := cv } (by decide) rfl)) | (refine wpList_set rfl _ _ _ rfl _ _ rfl HFS.out.z (iml { m with dn := L } { p with ad := av, cd := cv }) rfl rfl (by kernel_rfl) rfl ?_; intro W3 hz hk hb hp; have HFO := hide (HFS.out.out hz hk hb); have HRS := hide (fun W (hW : Agr n0 w.heap.size W3 W) => (HRO.out.keepG (fun g hg => (hW g (.inr (by omega))).trans ((hp g (by omega)).trans (Below.heap_setCell _ _ _ _ (show ¬ g = w.heap.size by omega))))).rs); clear hz hk hb hp))
      obtain ⟨q0, q1, q2, q3, q4⟩ := HFO.out.z.im
      exact bodyPost_ret (v := .tuple #[.agg (iml { m with dn := L } { p with ad := av, cd := cv }).toArray, .nilIface]) (by simp [results, Tryz.results105, go_sem, q0, q1, q2, q3, q4, iml]) rfl (st_ret HFO.out (fun W hW => ⟨(HVV.out W _ HFO.out.b hW).b, (HVV.out W _ HFO.out.b hW).t, (HVV.out W _ HFO.out.b hW).q, (HVV.out W _ HFO.out.b hW).e, (HVV.out W _ HFO.out.b hW).c, (HRS.out W hW)⟩) erc_nil)
end Go.Proofs.YtfnemlbkmhcodaaGreat
namespace Go.Proofs.YtfnemlbkmhcodaaGreat
open Go.RowKit

def trnQ (m : Im) (b : Bk) (k : Int) : Bool := if k = 3 then (!b.fe && !leads m.ts b.id) else if k = 4 then b.fe else if k = 5 then (!b.fe && !b.lv) else !used m.ts b.id
set_option maxRecDepth 100000 in
set_option maxHeartbeats 16000000 in
theorem turns_any (m : Im) (p : Ip) (b : Bk) (k : Int) (w : World) (hv : ImR w m p) (hw : Wf m 100000) : Calls Tryz.prog 126 #[imv m p, .agg (bkc b).toArray, .int .i64 k] w fun e w' => e = .returned (.bool (trnQ m b k)) ∧ Below w.heap.size w w' := by
  have HL := hide (fun W (h : Below w.heap.size w W) => Leads_any m p b.id W (hv.below h) hw)
  have HO := hide (fun W (h : Below w.heap.size w W) => holds_any m p b.id W (hv.below h) hw)
  obtain ⟨ANS, hANS⟩ : ∃ A, A = trnQ m b k := ⟨_, rfl⟩
  rw [← hANS]
  unfold trnQ at hANS
  have HANS := hide hANS
  clear hANS hv hw
  generalize leads m.ts b.id = lb at HANS HL
  generalize used m.ts b.id = ub at HANS HO
  obtain ⟨id, ep, rk, fe, lv⟩ := b
  dsimp only at HANS HL HO
  obtain ⟨HI0, HP0, HB0⟩ := Bx.mk2 w [.slice p.ab m.br.length p.cb, .slice p.aq p.ts.length p.cq, .slice p.ac m.cf.length p.cc, .slice p.ad m.dn.length p.cd, .int .i64 m.la] [.int .i64 id, .int .i64 ep, .string ⟨rk.toArray⟩, .bool fe, .bool lv] 30 33 (Below.refl _ _)
  unfold imv bkc at *
  dsimp only at *
  go_enter Tryz.func126, Tryz.ntmps126
  go_upto_region 1 with fail
  generalize ((w.alloc (.cells (List.toArray [Value.slice p.ab m.br.length p.cb, .slice p.aq p.ts.length p.cq, .slice p.ac m.cf.length p.cc, .slice p.ad m.dn.length p.cd, .int .i64 m.la]) 30)).alloc (.cells (List.toArray [Value.int .i64 id, .int .i64 ep, .string ⟨rk.toArray⟩, .bool fe, .bool lv]) 33)) = X at HI0 HP0 HB0 ⊢
  have HB := hide HB0
  obtain ⟨i0, i1, i2, i3, i4⟩ := HI0.c5
  obtain ⟨p0, p1, p2, p3, p4⟩ := HP0.c5
  clear HI0 HP0 HB0
  by_cases h3 : k = 3
  · have k3 : (k == 3) = true := by simpa using h3
    cases fe with
    | true =>
      go_wp2_with (first | (go_at_call 26; refine (HL.out _ HB.out).mono ?_; rintro e w1 ⟨rfl, hb⟩; replace HB := hide (bt HB.out hb); clear hb HL i0 i1 i2 i3 i4 p0 p1 p2 p3 p4) | (go_at_call 144; refine (HO.out _ HB.out).mono ?_; rintro e w1 ⟨rfl, hb⟩; replace HB := hide (bt HB.out hb); clear hb HO i0 i1 i2 i3 i4 p0 p1 p2 p3 p4))
      go_ret
      exact ⟨congrArg (fun b => Ending.returned (.bool b)) (HANS.out.trans (by simp [*])).symm, HB.out⟩
    | false =>
      go_wp2_with (first | (go_at_call 26; refine (HL.out _ HB.out).mono ?_; rintro e w1 ⟨rfl, hb⟩; replace HB := hide (bt HB.out hb); clear hb HL i0 i1 i2 i3 i4 p0 p1 p2 p3 p4) | (go_at_call 144; refine (HO.out _ HB.out).mono ?_; rintro e w1 ⟨rfl, hb⟩; replace HB := hide (bt HB.out hb); clear hb HO i0 i1 i2 i3 i4 p0 p1 p2 p3 p4))
      go_ret
      exact ⟨congrArg (fun b => Ending.returned (.bool b)) (HANS.out.trans (by simp [*])).symm, HB.out⟩
  · have k3 : (k == 3) = false := by simpa using h3
    by_cases h4 : k = 4
    · have k4 : (k == 4) = true := by simpa using h4
      go_wp2_with (first | (go_at_call 26; refine (HL.out _ HB.out).mono ?_; rintro e w1 ⟨rfl, hb⟩; replace HB := hide (bt HB.out hb); clear hb HL i0 i1 i2 i3 i4 p0 p1 p2 p3 p4) | (go_at_call 144; refine (HO.out _ HB.out).mono ?_; rintro e w1 ⟨rfl, hb⟩; replace HB := hide (bt HB.out hb); clear hb HO i0 i1 i2 i3 i4 p0 p1 p2 p3 p4))
      go_ret
      exact ⟨congrArg (fun b => Ending.returned (.bool b)) (HANS.out.trans (by simp [*])).symm, HB.out⟩
    · have k4 : (k == 4) = false := by simpa using h4
      by_cases h5 : k = 5
      · have k5 : (k == 5) = true := by simpa using h5
        cases fe with
        | true =>
          go_wp2_with (first | (go_at_call 26; refine (HL.out _ HB.out).mono ?_; rintro e w1 ⟨rfl, hb⟩; replace HB := hide (bt HB.out hb); clear hb HL i0 i1 i2 i3 i4 p0 p1 p2 p3 p4) | (go_at_call 144; refine (HO.out _ HB.out).mono ?_; rintro e w1 ⟨rfl, hb⟩; replace HB := hide (bt HB.out hb); clear hb HO i0 i1 i2 i3 i4 p0 p1 p2 p3 p4))
          go_ret
          exact ⟨congrArg (fun b => Ending.returned (.bool b)) (HANS.out.trans (by simp [*])).symm, HB.out⟩
        | false =>
          go_wp2_with (first | (go_at_call 26; refine (HL.out _ HB.out).mono ?_; rintro e w1 ⟨rfl, hb⟩; replace HB := hide (bt HB.out hb); clear hb HL i0 i1 i2 i3 i4 p0 p1 p2 p3 p4) | (go_at_call 144; refine (HO.out _ HB.out).mono ?_; rintro e w1 ⟨rfl, hb⟩; replace HB := hide (bt HB.out hb); clear hb HO i0 i1 i2 i3 i4 p0 p1 p2 p3 p4))
          go_ret
          exact ⟨congrArg (fun b => Ending.returned (.bool b)) (HANS.out.trans (by simp [*])).symm, HB.out⟩
      · have k5 : (k == 5) = false := by simpa using h5
        go_wp2_with (first | (go_at_call 26; refine (HL.out _ HB.out).mono ?_; rintro e w1 ⟨rfl, hb⟩; replace HB := hide (bt HB.out hb); clear hb HL i0 i1 i2 i3 i4 p0 p1 p2 p3 p4) | (go_at_call 144; refine (HO.out _ HB.out).mono ?_; rintro e w1 ⟨rfl, hb⟩; replace HB := hide (bt HB.out hb); clear hb HO i0 i1 i2 i3 i4 p0 p1 p2 p3 p4))
        go_ret
        exact ⟨congrArg (fun b => Ending.returned (.bool b)) (HANS.out.trans (by simp [*])).symm, HB.out⟩
end Go.Proofs.YtfnemlbkmhcodaaGreat
