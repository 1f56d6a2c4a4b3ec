/-
  AN ANSWER IS KNOWN, AS THE DOCUMENT HAS IT (castellanref15.done); an append as one step of a region that draws. Conditions: an image in order, its lists no longer than a hundred thousand.
  MANY ROWS AS ONE (slices.Grow, slices.Concat). Conditions: their cells hold them, no more than two hundred thousand each.
-/
import Derived.Test.YtlggjgapdpkhiaaGreatDoorJKImQha3
import Derived.Test.YtlggjgapdpkhiaaGreatDoorJKImCba5
namespace Go.Proofs.YtlggjgapdpkhiaaGreatDoor
open Go.RowKit
theorem run_appR {α : Type} {f : α → List Value} {k : Nat} {P : Program} {S T : TypeId} (hi : Tyi P S T k) (hf : Enc f k) (ty : TypeId) (w : World) (B : Nat) (v : Value) (l : List α) (hown : Ro f k T w B v l) (hB : B ≤ w.heap.size) (u : Value) (q : List α) (hq : Rs f w u q) (hn : l.length + q.length ≤ 2000000000) :
  ∃ a c w', (Builtin.append_ #[S, S] ty #[v, u]).run P w = .ok (.slice a (l ++ q).length c) w' ∧ Ro f k T w' B (.slice a (l ++ q).length c) (l ++ q) ∧ Below B w w' := by
 obtain ⟨⟨i0, z0, h1, h2, h3, h4, h5⟩, hu⟩ := hi
 obtain ⟨ao, c, rfl, hc, hr⟩ := hq
 have fin : ∀ v' w', (Builtin.append_ #[S, S] ty #[v, .slice ao q.length c]).run P w = .ok v' w' → w'.ownsRow B T k v' (l.length + q.length) (l.flatMap f ++ q.flatMap f) → w.grownBy w' v.ownBlock → ∃ a c' w', (Builtin.append_ #[S, S] ty #[v, .slice ao q.length c]).run P w = .ok (.slice a (l ++ q).length c') w' ∧ Ro f k T w' B (.slice a (l ++ q).length c') (l ++ q) ∧ Below B w w' := fun v' w' hrun ho hg => by
  have hro : Ro f k T w' B v' (l ++ q) := by
   unfold Ro
   rw [List.length_append, List.flatMap_append]
   exact ho
  obtain ⟨a, c', rfl⟩ := hro.form
  exact ⟨a, c', w', hrun, hro, (Below.refl B w).grown hg hB (fun k e => (hown.lt k e).1)⟩
 by_cases h0 : 0 < q.length
 ·obtain ⟨b, o', rfl, hrg⟩ := hr h0
  obtain ⟨v', w', a1, a2, a3, _⟩ := run_append_own_at (P := P) w B S ty T i0 z0 k i0.bytes hu h1 h2 h3 rfl h5 hf.pos v l.length (l.flatMap f) hown ⟨b, o', none⟩ q.length c (q.flatMap f) (fm_len hf q) (fun j x hj => by rw [Addr.add_mid]; exact hrg j x hj) (fm_one hf q) (by unfold maxLen; omega) (by
   have : (l.length + q.length) * i0.bytes ≤ 2000000000 * 300 := Nat.mul_le_mul hn h4
   omega) hB
  exact fin v' w' a1 a2 a3
 ·have e : q = [] := List.eq_nil_iff_length_eq_zero.2 (by omega)
  subst e
  obtain ⟨a, c', rfl⟩ := hown.form
  have hcap : l.length ≤ c' := hown.rs.cap.2
  refine fin (.slice a l.length c') w ?_ (by simpa using (show w.ownsRow B T k (.slice a l.length c') l.length (l.flatMap f) from hown)) (World.grownBy.refl _ _)
  have hn0 : l.length + 0 ≤ c' := hcap
  cases a <;> cases ao <;> simp [Builtin.append_, run_underlying hu, sizeOf, typeInfo, h1, Builtin.lenOf, Builtin.firstCells, loadCells, loadCellsFrom, hcap, storeCells]
theorem step_appR {α : Type} {f : α → List Value} {k : Nat} {P : Program} {S T : TypeId} (hi : Tyi P S T k) (hf : Enc f k) {ops : Array Oper} {o : Oper} {a : Act} {w : World} {K : Act → World → Prop} {Q : Exit → Act → World → Prop} {E : Prop} (hg : o.guard = none) (s x : Operand)
  (ho : o.op = .call { callee := .builtin .append, args := #[s, x], argTypes := #[S, S] }) (B : Nat) (v : Value) (l : List α) (hs : a.eval s = v) (hown : Ro f k T w B v l) (hB : B ≤ w.heap.size) (u : Value) (q : List α) (hx : a.eval x = u) (hq : Rs f w u q) (hn : l.length + q.length ≤ 2000000000)
  (h : ∀ ad c w', Ro f k T w' B (.slice ad (l ++ q).length c) (l ++ q) → Below B w w' → K (a.put o.dst (.slice ad (l ++ q).length c)) w') : if Region.wanted o (yielded ops a.tmps) = true then Oper.wp P o a w K Q else E := by
 have hw : Region.wanted o (yielded ops a.tmps) = true := by simp [Region.wanted, hg]
 rw [if_pos hw]
 obtain ⟨ad, c, w', hrun, hro, hb⟩ := run_appR hi hf o.type w B v l hown hB u q hq hn
 unfold Oper.wp
 simp [execOp, ho, resolve, invoke, builtin, hs, hx, hrun, Result.andThen]
 have e := h ad c w' hro hb
 simp only [List.length_append] at e
 exact e
set_option maxRecDepth 100000 in
set_option maxHeartbeats 16000000 in
theorem rdone_any {ok : Nat → Prop} (m : Im) (p : Ip) (r : Rc) (v : Value) (w : World) (n0 : Nat → Prop) (hn0 : ∀ g, n0 g → g < w.heap.size) (hv : ∀ W, (∀ g, n0 g → W.heap[g]? = w.heap[g]?) → ImR W m p) (hw : Wf m 100000) (hr : IsR ok w v r) : Calls Tryz.prog 32 #[imv m p, v] w fun e w' => StD n0 w w' (ansD m r).1 (ansD m r).2 e := by
 obtain ⟨a14, a15, a16, a17, c14, c15, c16, c17, rfl, hrw⟩ := hr
 have HVV := hide (fun (W W3 : World) (hb : Below w.heap.size w W3) (hW : Agr n0 w.heap.size W3 W) => hv W (fun g hg => (hW g (.inl hg)).trans (hb.block g (hn0 g hg))))
 replace hv : ImR w m p := hv w (fun _ _ => rfl)
 have HV := hide (fun W (h : Below w.heap.size w W) => hv.below h)
 have HAN := hide (fun W (h : Below w.heap.size w W) => ranswered_any m p r.cl r.se W (hv.below h) hw.nd)
 have hnd := hw.nd
 cases hf : fD m.dn r.cl r.se with
 | some d =>
  have HRE : Hid (ansD m r = (m, 9)) := hide (by unfold ansD; rw [hf]; rfl)
  rw [HRE.out]
  rw [hf] at HAN
  unfold ansV at HAN
  clear hf
  unfold imv at HAN
  have HFR0 := frW_fr w m p r a14 a15 a16 a17 c14 c15 c16 c17
  clear hv hw hrw hn0
  unfold imv
  unfold cellsR
  go_enter Tryz.func32, Tryz.ntmps32
  go_upto_region 1 with fail
  rw [frW_eq]
  generalize frW w m p r a14 a15 a16 a17 c14 c15 c16 c17 = X at HFR0 ⊢
  have HFR := hide HFR0
  clear HFR0
  obtain ⟨i0, i1, i2, i3, i4⟩ := HFR.out.i.im; have r6 := HFR.out.r.at 6 _ rfl; have r7 := HFR.out.r.at 7 _ rfl; have r8 := HFR.out.r.at 8 _ rfl
  go_wp2_with (first | (refine wpList_load_mid rfl _ _ rfl _ _ rfl _ _ HFR.out.i.c Tryz.underlying30 rfl (by kernel_rfl) ?_) | (go_at_call 74; refine (HAN.out _ HFR.out.b).mono ?_; rintro e wx ⟨rfl, hbx⟩; replace HFR := hide (HFR.out.below hbx); clear i0 i1 i2 i3 i4 r6 r7 r8; clear hbx HAN; obtain ⟨i0, i1, i2, i3, i4⟩ := HFR.out.i.im; have r6 := HFR.out.r.at 6 _ rfl; have r7 := HFR.out.r.at 7 _ rfl; have r8 := HFR.out.r.at 8 _ rfl) | (refine wpList_set rfl _ _ _ rfl _ _ rfl HFR.out.z (iml m p) rfl rfl (by kernel_rfl) rfl ?_; intro W3 hz hk hb hp; have HFO := hide (HFR.out.out hz hk hb); clear hz hk hb hp))
  obtain ⟨q0, q1, q2, q3, q4⟩ := HFO.out.z.im
  exact bodyPost_ret (v := .tuple #[.agg (iml m p).toArray, .int .i64 9]) (by simp [results, Tryz.results32, go_sem, q0, q1, q2, q3, q4, iml]) rfl (std_ret HFO.out (fun W hW => HVV.out W _ HFO.out.b hW))
 | none =>
  obtain ⟨L2, hL2⟩ : ∃ L2, L2 = putD m.dn ⟨r.cl, r.se, r.co⟩ := ⟨_, rfl⟩
  have HRE : Hid (ansD m r = ({ m with dn := L2 }, 0)) := hide (by unfold ansD; rw [hf, hL2]; rfl)
  rw [HRE.out]
  rw [hf] at HAN
  unfold ansV at HAN
  have HL2 : Hid (L2 = m.dn.drop (m.dn.length + 1 - 64) ++ [⟨r.cl, r.se, r.co⟩]) := hide hL2
  clear hf hL2
  unfold imv at HAN
  have HFR0 := frW_fr w m p r a14 a15 a16 a17 c14 c15 c16 c17
  clear hv hw hrw hn0
  unfold imv
  unfold cellsR
  go_enter Tryz.func32, Tryz.ntmps32
  go_upto_region 1 with fail
  rw [frW_eq]
  generalize frW w m p r a14 a15 a16 a17 c14 c15 c16 c17 = X at HFR0 ⊢
  have HFR := hide HFR0
  clear HFR0
  obtain ⟨i0, i1, i2, i3, i4⟩ := HFR.out.i.im; have r6 := HFR.out.r.at 6 _ rfl; have r7 := HFR.out.r.at 7 _ rfl; have r8 := HFR.out.r.at 8 _ rfl
  have HIU := hide (fun W (h : Fr w m p (cellsR r a14 a15 a16 a17 c14 c15 c16 c17) imz W) => (show W.rangeAt w.heap.size 0 [Value.slice p.ab m.br.length p.cb, .slice p.aq p.ts.length p.cq, .slice p.ac m.cf.length p.cc, .slice p.ad m.dn.length p.cd, .int .i64 m.la] from h.i.c))
  go_upto_region 4 with (first | (refine wpList_load_mid rfl _ _ rfl _ _ rfl _ _ HFR.out.i.c Tryz.underlying30 rfl (by kernel_rfl) ?_) | (go_at_call 74; refine (HAN.out _ HFR.out.b).mono ?_; rintro e wx ⟨rfl, hbx⟩; replace HFR := hide (HFR.out.below hbx); clear i0 i1 i2 i3 i4 r6 r7 r8; clear hbx HAN; obtain ⟨i0, i1, i2, i3, i4⟩ := HFR.out.i.im; have r6 := HFR.out.r.at 6 _ rfl; have r7 := HFR.out.r.at 7 _ rfl; have r8 := HFR.out.r.at 8 _ rfl))
  go_upto_region 5 with (first | (refine wpList_load_mid rfl _ _ rfl _ _ rfl _ _ (HIU.out _ HFR.out) Tryz.underlying30 rfl (by kernel_rfl) ?_))
  clear HIU
  clear i0 i1 i2 i3 i4 r6 r7 r8
  have HFZ := hide (Fo.new HFR.out [Value.slice p.ab m.br.length p.cb, .slice p.aq p.ts.length p.cq, .slice p.ac m.cf.length p.cc, .slice p.ad m.dn.length p.cd, .int .i64 m.la] 30)
  generalize wx.alloc (.cells (List.toArray [Value.slice p.ab m.br.length p.cb, .slice p.aq p.ts.length p.cq, .slice p.ac m.cf.length p.cc, .slice p.ad m.dn.length p.cd, .int .i64 m.la]) 30) = Y at HFZ ⊢
  generalize wx.heap.size = bo at HFZ ⊢
  have o3 := HFZ.out.o.at 3 _ rfl
  have f3 := HFZ.out.o.f 3 (by simp)
  go_upto_region 6 with fail
  replace HFZ := hide (HFZ.out.set 3 (by simp) (.slice none 0 0))
  simp only [List.set] at HFZ
  clear o3 f3
  generalize Y.setCell ⟨bo, 3, none⟩ (.slice none 0 0) = Y1 at HFZ ⊢
  obtain ⟨v0, hv0⟩ : ∃ v : Value, v = .slice none 0 0 := ⟨_, rfl⟩
  rw [← hv0] at HFZ
  have HV0 := hide hv0
  clear hv0
  have i3 := HFZ.out.f.i.at 3 _ rfl
  obtain ⟨fr, hfr⟩ : ∃ fr : Nat, fr = m.dn.length + 1 - 64 := ⟨_, rfl⟩
  have HFRM := hide hfr
  by_cases h64 : 64 ≤ m.dn.length
  ·have hI : (64 : Int) ≤ (m.dn.length : Int) := by omega
   have hw1 : wrap64 ((m.dn.length : Int) - 63) = (fr : Int) := by unfold wrap64; omega
   have hw2 : IntKind.i64.wrap ((m.dn.length : Int) - 63) = (fr : Int) := by rw [IntKind.wrap_i64]; omega
   clear hfr
   go_upto_region 9 with fail
   have HD := hide (HV.out _ HFZ.out.f.b).d
   obtain ⟨ao, hsl, hdr⟩ := Rs.from tyiD encD HD.out fr (by have := HFRM.out; omega)
   have HDR := hide hdr
   obtain ⟨Q, hQ⟩ : ∃ Q, Q = (m.dn.drop fr) := ⟨_, rfl⟩
   rw [← hQ] at HDR
   have HQQ := hide hQ
   clear hQ hdr
   go_cut [37] (fun y W => ∃ av cv, y = .slice av Q.length cv ∧ Fo w W m p (cellsR r a14 a15 a16 a17 c14 c15 c16 c17) bo [Value.slice p.ab m.br.length p.cb, .slice p.aq p.ts.length p.cq, .slice p.ac m.cf.length p.cc, .slice av Q.length cv, .int .i64 m.la] ∧ Ro dnc 3 74 W (bo + 1) (.slice av Q.length cv) Q)
   case first =>
    have hdw : Below Y1.heap.size Y1 Y1.drew := (Below.refl _ _).drew
    refine wp_region_held_drew (S := fun _ => True) (by kernel_rfl) trivial (fun hHeld => ?_)
    have HD4 := hide hdw
    have HF4 := hide (HFZ.out.drewN 1)
    replace HF4 : Hid (Fo w Y1.drew m p (cellsR r a14 a15 a16 a17 c14 c15 c16 c17) bo [Value.slice p.ab m.br.length p.cb, .slice p.aq p.ts.length p.cq, .slice p.ac m.cf.length p.cc, v0, .int .i64 m.la]) := HF4
    generalize Y1.drew = V4 at hHeld HD4 HF4 ⊢
    clear hdw
    refine tk 0 31 (.pointer (some ⟨bo, 3, none⟩)) rfl rfl hHeld ?_
    simp only [Act.put, zA, zB, zC]
    refine tk 2 33 (.pointer (some ⟨w.heap.size, 3, none⟩)) rfl rfl hHeld ?_
    simp only [Act.put, zA, zB, zC]
    refine tk 4 35 (.int .i64 (fr : Int)) rfl rfl hHeld ?_
    simp only [Act.put, zA, zB, zC]
    refine wpAnyH_ready (rs := [1, 3]) (by kernel_rfl) (by simp) ?_
    refine AllReadyH.cons (o := _) rfl (fun K hK => ?_) (AllReadyH.cons (o := _) rfl (fun K hK => ?_) AllReadyH.nil)
    ·have h0 := HF4.out.o.at 3 _ rfl
     go_simp
     clear h0
     refine hK.out _ _ trivial (fun hHeld1 => ?_)
     clear hK K hHeld
     have hHeld := hHeld1
     clear hHeld1
     refine wpAnyH_ready (rs := [3]) (by kernel_rfl) (by simp) ?_
     refine AllReadyH.cons (o := _) rfl (fun K hK => ?_) AllReadyH.nil
     have h0 := HF4.out.f.i.at 3 _ rfl
     go_simp
     clear h0
     refine hK.out _ _ trivial (fun hHeld1 => ?_)
     clear hK K hHeld
     have hHeld := hHeld1
     clear hHeld1
     refine tk 5 36 (.slice ao (m.dn.length - fr) (p.cd - fr)) rfl rfl hHeld ?_
     simp only [Act.put, zA, zB, zC]
     refine wpAnyH_ready (rs := [6]) (by kernel_rfl) (by simp) ?_
     refine AllReadyH.cons (o := _) rfl (fun K hK => ?_) AllReadyH.nil
     refine step_appR tyiD encD rfl _ _ rfl (bo + 1) v0 [] rfl (by rw [HV0.out]; exact ro_nil _ _ _ _ _) (by have := HF4.out.o.l; omega) _ Q rfl (HDR.out V4 HD4.out) (by rw [HQQ.out]; simp; omega) ?_
     intro av1 cv1 w1 ho1 hb1
     rw [List.nil_append] at ho1 ⊢
     refine hK.out _ _ trivial (fun hHeld1 => ?_)
     clear hK K hHeld
     have hHeld := hHeld1
     clear hHeld1
     change wpAnyH _ _ _ _ _ _ _ (Act.put _ (some 37) _) _
     simp only [Act.put, zA, zB, zC]
     refine tk 7 38 (.pointer (some ⟨bo, 3, none⟩)) rfl rfl hHeld ?_
     simp only [Act.put, zA, zB, zC]
     refine wpAnyH_ready (rs := [8]) (by kernel_rfl) (by simp) ?_
     refine AllReadyH.cons (o := _) rfl (fun K hK => ?_) AllReadyH.nil
     have HF1 := hide (HF4.out.low hb1)
     have HR1 := hide ho1
     have o3 := HF1.out.o.at 3 _ rfl
     have f3 := HF1.out.o.f 3 (by simp)
     go_simp
     clear o3 f3
     refine hK.out _ _ trivial (fun hHeld1 => ?_)
     clear hK K hHeld
     have hHeld := hHeld1
     clear hHeld1
     refine wpAnyH_done (by kernel_rfl) ?_ _
     clear hHeld
     have HF20 := hide (HF1.out.set 3 (by simp) (.slice av1 Q.length cv1))
     simp only [List.set] at HF20
     have HR2 := hide (HR1.out.keepG (W' := w1.setCell ⟨bo, 3, none⟩ (.slice av1 Q.length cv1)) (fun g hg => Below.heap_setCell _ _ _ _ (show ¬ g = bo by omega)))
     go_wp2_with fail
     go_meet
     exact ⟨_, _, rfl, HF20.out, HR2.out⟩
    ·have h0 := HF4.out.f.i.at 3 _ rfl
     go_simp
     clear h0
     refine hK.out _ _ trivial (fun hHeld1 => ?_)
     clear hK K hHeld
     have hHeld := hHeld1
     clear hHeld1
     refine tk 5 36 (.slice ao (m.dn.length - fr) (p.cd - fr)) rfl rfl hHeld ?_
     simp only [Act.put, zA, zB, zC]
     refine wpAnyH_ready (rs := [1]) (by kernel_rfl) (by simp) ?_
     refine AllReadyH.cons (o := _) rfl (fun K hK => ?_) AllReadyH.nil
     have h0 := HF4.out.o.at 3 _ rfl
     go_simp
     clear h0
     refine hK.out _ _ trivial (fun hHeld1 => ?_)
     clear hK K hHeld
     have hHeld := hHeld1
     clear hHeld1
     refine wpAnyH_ready (rs := [6]) (by kernel_rfl) (by simp) ?_
     refine AllReadyH.cons (o := _) rfl (fun K hK => ?_) AllReadyH.nil
     refine step_appR tyiD encD rfl _ _ rfl (bo + 1) v0 [] rfl (by rw [HV0.out]; exact ro_nil _ _ _ _ _) (by have := HF4.out.o.l; omega) _ Q rfl (HDR.out V4 HD4.out) (by rw [HQQ.out]; simp; omega) ?_
     intro av1 cv1 w1 ho1 hb1
     rw [List.nil_append] at ho1 ⊢
     refine hK.out _ _ trivial (fun hHeld1 => ?_)
     clear hK K hHeld
     have hHeld := hHeld1
     clear hHeld1
     change wpAnyH _ _ _ _ _ _ _ (Act.put _ (some 37) _) _
     simp only [Act.put, zA, zB, zC]
     refine tk 7 38 (.pointer (some ⟨bo, 3, none⟩)) rfl rfl hHeld ?_
     simp only [Act.put, zA, zB, zC]
     refine wpAnyH_ready (rs := [8]) (by kernel_rfl) (by simp) ?_
     refine AllReadyH.cons (o := _) rfl (fun K hK => ?_) AllReadyH.nil
     have HF1 := hide (HF4.out.low hb1)
     have HR1 := hide ho1
     have o3 := HF1.out.o.at 3 _ rfl
     have f3 := HF1.out.o.f 3 (by simp)
     go_simp
     clear o3 f3
     refine hK.out _ _ trivial (fun hHeld1 => ?_)
     clear hK K hHeld
     have hHeld := hHeld1
     clear hHeld1
     refine wpAnyH_done (by kernel_rfl) ?_ _
     clear hHeld
     have HF20 := hide (HF1.out.set 3 (by simp) (.slice av1 Q.length cv1))
     simp only [List.set] at HF20
     have HR2 := hide (HR1.out.keepG (W' := w1.setCell ⟨bo, 3, none⟩ (.slice av1 Q.length cv1)) (fun g hg => Below.heap_setCell _ _ _ _ (show ¬ g = bo by omega)))
     go_wp2_with fail
     go_meet
     exact ⟨_, _, rfl, HF20.out, HR2.out⟩
   case rest =>
    obtain ⟨av0, cv0, rfl, hf2, hr2⟩ := hcut
    have HF2 := hide hf2
    have HOB := hide hr2
    clear hf2 hr2 HDR HFZ
    have HL3 : Hid (L2 = Q ++ [⟨r.cl, r.se, r.co⟩]) := hide (by rw [HL2.out, HQQ.out]; congr 2; exact HFRM.out.symm)
    have HOA := hide (HOB.out.below (below_al1 wc (.cells (List.toArray [Value.int .i64 r.cl, .int .i64 r.se, .int .i64 r.co]) 74)))
    have HUC := hide (Bx.new wc [Value.int .i64 r.cl, .int .i64 r.se, .int .i64 r.co] 74).c
    have o3 := HF2.out.o.at 3 _ rfl
    have r6 := HF2.out.f.r.at 6 _ rfl
    have r7 := HF2.out.f.r.at 7 _ rfl
    have r8 := HF2.out.f.r.at 8 _ rfl
    go_upto_region 11 with (first | (refine wpList_app1 tyiD encD _ rfl _ _ rfl (bo + 1) _ Q rfl HOA.out (by have := HF2.out.o.l; simp; omega) (⟨r.cl, r.se, r.co⟩ : Dn) _ 1 rfl (Nat.le_refl _) HUC.out (by rw [HQQ.out]; simp; omega) ?_; intro v2 w2 ho2 hb2; have HF3 := hide ((HF2.out.below (below_al1 wc (.cells (List.toArray [Value.int .i64 r.cl, .int .i64 r.se, .int .i64 r.co]) 74))).low hb2); rw [← HL3.out] at ho2; obtain ⟨av, cv, rfl⟩ := ho2.form; have HO2 := hide ho2; clear ho2 hb2 o3 r6 r7 r8; have o3 := HF3.out.o.at 3 _ rfl; have f3 := HF3.out.o.f 3 (by simp)))
    clear o3 f3 HOA HUC HOB HF2
    have HF40 := hide (HF3.out.set 3 (by simp) (.slice av L2.length cv))
    simp only [List.set] at HF40
    have HRO := hide (HO2.out.keepG (W' := w2.setCell ⟨bo, 3, none⟩ (.slice av L2.length cv)) (fun g hg => Below.heap_setCell _ _ _ _ (show ¬ g = bo by omega)))
    clear HF3 HO2
    generalize w2.setCell ⟨bo, 3, none⟩ (.slice av L2.length cv) = Z at HF40 HRO ⊢
    have HFW := hide HF40.out
    clear HF40
    go_wp2_with (first | (refine wpList_load_mid rfl _ _ rfl _ _ rfl _ _ HFW.out.o.c Tryz.underlying30 rfl (by kernel_rfl) ?_) | (refine wpList_set rfl _ _ _ rfl _ _ rfl HFW.out.f.z (iml { m with dn := L2 } { p with ad := av, cd := cv }) rfl rfl (by kernel_rfl) rfl ?_; intro W3 hz hk hb hp; have HZ := hide hz; have HBB := hide (hb _ _ (show w.heap.size ≤ w.heap.size + 1 + 1 by omega) HFW.out.f.b); have HRS := hide (fun W (hW : Agr n0 w.heap.size W3 W) => (HRO.out.keepG (fun g hg => (hW g (.inr (by have := HFW.out.ge; omega))).trans (hp g (by have := HFW.out.ge; omega)))).rs); clear hz hk hb hp))
    obtain ⟨q0, q1, q2, q3, q4⟩ := HZ.out.im
    exact bodyPost_ret (v := .tuple #[.agg (iml { m with dn := L2 } { p with ad := av, cd := cv }).toArray, .int .i64 0]) (by simp [results, Tryz.results32, go_sem, q0, q1, q2, q3, q4, iml]) rfl ⟨{ p with ad := av, cd := cv }, rfl, (fun W hW => ⟨(HVV.out W _ HBB.out hW).b, (HVV.out W _ HBB.out hW).t, (HVV.out W _ HBB.out hW).q, (HVV.out W _ HBB.out hW).e, (HVV.out W _ HBB.out hW).c, HRS.out W hW⟩), HBB.out⟩
  ·have hI : ¬ (64 : Int) ≤ (m.dn.length : Int) := by omega
   have HZ0 : Hid (fr = 0) := hide (by omega)
   clear hfr
   go_upto_region 9 with fail
   have HD := hide (HV.out _ HFZ.out.f.b).d
   obtain ⟨ao, hsl, hdr⟩ := Rs.from tyiD encD HD.out 0 (by have := HFRM.out; omega)
   replace hsl : ∀ W, (Instr.slice 28 (.slice p.ad m.dn.length p.cd) (some (.int .i64 0)) none none).run Tryz.prog W = .ok (.slice ao m.dn.length p.cd) W := hsl
   replace hdr : ∀ W, Below Y1.heap.size Y1 W → Rs dnc W (.slice ao m.dn.length p.cd) (m.dn.drop 0) := hdr
   have HDR := hide hdr
   obtain ⟨Q, hQ⟩ : ∃ Q, Q = (m.dn.drop 0) := ⟨_, rfl⟩
   rw [← hQ] at HDR
   have HQQ := hide hQ
   clear hQ hdr
   go_cut [37] (fun y W => ∃ av cv, y = .slice av Q.length cv ∧ Fo w W m p (cellsR r a14 a15 a16 a17 c14 c15 c16 c17) bo [Value.slice p.ab m.br.length p.cb, .slice p.aq p.ts.length p.cq, .slice p.ac m.cf.length p.cc, .slice av Q.length cv, .int .i64 m.la] ∧ Ro dnc 3 74 W (bo + 1) (.slice av Q.length cv) Q)
   case first =>
    have hdw : Below Y1.heap.size Y1 Y1.drew := (Below.refl _ _).drew
    refine wp_region_held_drew (S := fun _ => True) (by kernel_rfl) trivial (fun hHeld => ?_)
    have HD4 := hide hdw
    have HF4 := hide (HFZ.out.drewN 1)
    replace HF4 : Hid (Fo w Y1.drew m p (cellsR r a14 a15 a16 a17 c14 c15 c16 c17) bo [Value.slice p.ab m.br.length p.cb, .slice p.aq p.ts.length p.cq, .slice p.ac m.cf.length p.cc, v0, .int .i64 m.la]) := HF4
    generalize Y1.drew = V4 at hHeld HD4 HF4 ⊢
    clear hdw
    refine tk 0 31 (.pointer (some ⟨bo, 3, none⟩)) rfl rfl hHeld ?_
    simp only [Act.put, zA, zB, zC]
    refine tk 2 33 (.pointer (some ⟨w.heap.size, 3, none⟩)) rfl rfl hHeld ?_
    simp only [Act.put, zA, zB, zC]
    refine tk 4 35 (.int .i64 0) rfl rfl hHeld ?_
    simp only [Act.put, zA, zB, zC]
    refine wpAnyH_ready (rs := [1, 3]) (by kernel_rfl) (by simp) ?_
    refine AllReadyH.cons (o := _) rfl (fun K hK => ?_) (AllReadyH.cons (o := _) rfl (fun K hK => ?_) AllReadyH.nil)
    ·have h0 := HF4.out.o.at 3 _ rfl
     go_simp
     clear h0
     refine hK.out _ _ trivial (fun hHeld1 => ?_)
     clear hK K hHeld
     have hHeld := hHeld1
     clear hHeld1
     refine wpAnyH_ready (rs := [3]) (by kernel_rfl) (by simp) ?_
     refine AllReadyH.cons (o := _) rfl (fun K hK => ?_) AllReadyH.nil
     have h0 := HF4.out.f.i.at 3 _ rfl
     go_simp
     clear h0
     refine hK.out _ _ trivial (fun hHeld1 => ?_)
     clear hK K hHeld
     have hHeld := hHeld1
     clear hHeld1
     refine tk 5 36 (.slice ao (m.dn.length) (p.cd)) rfl rfl hHeld ?_
     simp only [Act.put, zA, zB, zC]
     refine wpAnyH_ready (rs := [6]) (by kernel_rfl) (by simp) ?_
     refine AllReadyH.cons (o := _) rfl (fun K hK => ?_) AllReadyH.nil
     refine step_appR tyiD encD rfl _ _ rfl (bo + 1) v0 [] rfl (by rw [HV0.out]; exact ro_nil _ _ _ _ _) (by have := HF4.out.o.l; omega) _ Q rfl (HDR.out V4 HD4.out) (by rw [HQQ.out]; simp; omega) ?_
     intro av1 cv1 w1 ho1 hb1
     rw [List.nil_append] at ho1 ⊢
     refine hK.out _ _ trivial (fun hHeld1 => ?_)
     clear hK K hHeld
     have hHeld := hHeld1
     clear hHeld1
     change wpAnyH _ _ _ _ _ _ _ (Act.put _ (some 37) _) _
     simp only [Act.put, zA, zB, zC]
     refine tk 7 38 (.pointer (some ⟨bo, 3, none⟩)) rfl rfl hHeld ?_
     simp only [Act.put, zA, zB, zC]
     refine wpAnyH_ready (rs := [8]) (by kernel_rfl) (by simp) ?_
     refine AllReadyH.cons (o := _) rfl (fun K hK => ?_) AllReadyH.nil
     have HF1 := hide (HF4.out.low hb1)
     have HR1 := hide ho1
     have o3 := HF1.out.o.at 3 _ rfl
     have f3 := HF1.out.o.f 3 (by simp)
     go_simp
     clear o3 f3
     refine hK.out _ _ trivial (fun hHeld1 => ?_)
     clear hK K hHeld
     have hHeld := hHeld1
     clear hHeld1
     refine wpAnyH_done (by kernel_rfl) ?_ _
     clear hHeld
     have HF20 := hide (HF1.out.set 3 (by simp) (.slice av1 Q.length cv1))
     simp only [List.set] at HF20
     have HR2 := hide (HR1.out.keepG (W' := w1.setCell ⟨bo, 3, none⟩ (.slice av1 Q.length cv1)) (fun g hg => Below.heap_setCell _ _ _ _ (show ¬ g = bo by omega)))
     go_wp2_with fail
     go_meet
     exact ⟨_, _, rfl, HF20.out, HR2.out⟩
    ·have h0 := HF4.out.f.i.at 3 _ rfl
     go_simp
     clear h0
     refine hK.out _ _ trivial (fun hHeld1 => ?_)
     clear hK K hHeld
     have hHeld := hHeld1
     clear hHeld1
     refine tk 5 36 (.slice ao (m.dn.length) (p.cd)) rfl rfl hHeld ?_
     simp only [Act.put, zA, zB, zC]
     refine wpAnyH_ready (rs := [1]) (by kernel_rfl) (by simp) ?_
     refine AllReadyH.cons (o := _) rfl (fun K hK => ?_) AllReadyH.nil
     have h0 := HF4.out.o.at 3 _ rfl
     go_simp
     clear h0
     refine hK.out _ _ trivial (fun hHeld1 => ?_)
     clear hK K hHeld
     have hHeld := hHeld1
     clear hHeld1
     refine wpAnyH_ready (rs := [6]) (by kernel_rfl) (by simp) ?_
     refine AllReadyH.cons (o := _) rfl (fun K hK => ?_) AllReadyH.nil
     refine step_appR tyiD encD rfl _ _ rfl (bo + 1) v0 [] rfl (by rw [HV0.out]; exact ro_nil _ _ _ _ _) (by have := HF4.out.o.l; omega) _ Q rfl (HDR.out V4 HD4.out) (by rw [HQQ.out]; simp; omega) ?_
     intro av1 cv1 w1 ho1 hb1
     rw [List.nil_append] at ho1 ⊢
     refine hK.out _ _ trivial (fun hHeld1 => ?_)
     clear hK K hHeld
     have hHeld := hHeld1
     clear hHeld1
     change wpAnyH _ _ _ _ _ _ _ (Act.put _ (some 37) _) _
     simp only [Act.put, zA, zB, zC]
     refine tk 7 38 (.pointer (some ⟨bo, 3, none⟩)) rfl rfl hHeld ?_
     simp only [Act.put, zA, zB, zC]
     refine wpAnyH_ready (rs := [8]) (by kernel_rfl) (by simp) ?_
     refine AllReadyH.cons (o := _) rfl (fun K hK => ?_) AllReadyH.nil
     have HF1 := hide (HF4.out.low hb1)
     have HR1 := hide ho1
     have o3 := HF1.out.o.at 3 _ rfl
     have f3 := HF1.out.o.f 3 (by simp)
     go_simp
     clear o3 f3
     refine hK.out _ _ trivial (fun hHeld1 => ?_)
     clear hK K hHeld
     have hHeld := hHeld1
     clear hHeld1
     refine wpAnyH_done (by kernel_rfl) ?_ _
     clear hHeld
     have HF20 := hide (HF1.out.set 3 (by simp) (.slice av1 Q.length cv1))
     simp only [List.set] at HF20
     have HR2 := hide (HR1.out.keepG (W' := w1.setCell ⟨bo, 3, none⟩ (.slice av1 Q.length cv1)) (fun g hg => Below.heap_setCell _ _ _ _ (show ¬ g = bo by omega)))
     go_wp2_with fail
     go_meet
     exact ⟨_, _, rfl, HF20.out, HR2.out⟩
   case rest =>
    obtain ⟨av0, cv0, rfl, hf2, hr2⟩ := hcut
    have HF2 := hide hf2
    have HOB := hide hr2
    clear hf2 hr2 HDR HFZ
    have HL3 : Hid (L2 = Q ++ [⟨r.cl, r.se, r.co⟩]) := hide (by rw [HL2.out, HQQ.out]; congr 2; exact (HFRM.out.symm.trans HZ0.out))
    have HOA := hide (HOB.out.below (below_al1 wc (.cells (List.toArray [Value.int .i64 r.cl, .int .i64 r.se, .int .i64 r.co]) 74)))
    have HUC := hide (Bx.new wc [Value.int .i64 r.cl, .int .i64 r.se, .int .i64 r.co] 74).c
    have o3 := HF2.out.o.at 3 _ rfl
    have r6 := HF2.out.f.r.at 6 _ rfl
    have r7 := HF2.out.f.r.at 7 _ rfl
    have r8 := HF2.out.f.r.at 8 _ rfl
    go_upto_region 11 with (first | (refine wpList_app1 tyiD encD _ rfl _ _ rfl (bo + 1) _ Q rfl HOA.out (by have := HF2.out.o.l; simp; omega) (⟨r.cl, r.se, r.co⟩ : Dn) _ 1 rfl (Nat.le_refl _) HUC.out (by rw [HQQ.out]; simp; omega) ?_; intro v2 w2 ho2 hb2; have HF3 := hide ((HF2.out.below (below_al1 wc (.cells (List.toArray [Value.int .i64 r.cl, .int .i64 r.se, .int .i64 r.co]) 74))).low hb2); rw [← HL3.out] at ho2; obtain ⟨av, cv, rfl⟩ := ho2.form; have HO2 := hide ho2; clear ho2 hb2 o3 r6 r7 r8; have o3 := HF3.out.o.at 3 _ rfl; have f3 := HF3.out.o.f 3 (by simp)))
    clear o3 f3 HOA HUC HOB HF2
    have HF40 := hide (HF3.out.set 3 (by simp) (.slice av L2.length cv))
    simp only [List.set] at HF40
    have HRO := hide (HO2.out.keepG (W' := w2.setCell ⟨bo, 3, none⟩ (.slice av L2.length cv)) (fun g hg => Below.heap_setCell _ _ _ _ (show ¬ g = bo by omega)))
    clear HF3 HO2
    generalize w2.setCell ⟨bo, 3, none⟩ (.slice av L2.length cv) = Z at HF40 HRO ⊢
    have HFW := hide HF40.out
    clear HF40
    go_wp2_with (first | (refine wpList_load_mid rfl _ _ rfl _ _ rfl _ _ HFW.out.o.c Tryz.underlying30 rfl (by kernel_rfl) ?_) | (refine wpList_set rfl _ _ _ rfl _ _ rfl HFW.out.f.z (iml { m with dn := L2 } { p with ad := av, cd := cv }) rfl rfl (by kernel_rfl) rfl ?_; intro W3 hz hk hb hp; have HZ := hide hz; have HBB := hide (hb _ _ (show w.heap.size ≤ w.heap.size + 1 + 1 by omega) HFW.out.f.b); have HRS := hide (fun W (hW : Agr n0 w.heap.size W3 W) => (HRO.out.keepG (fun g hg => (hW g (.inr (by have := HFW.out.ge; omega))).trans (hp g (by have := HFW.out.ge; omega)))).rs); clear hz hk hb hp))
    obtain ⟨q0, q1, q2, q3, q4⟩ := HZ.out.im
    exact bodyPost_ret (v := .tuple #[.agg (iml { m with dn := L2 } { p with ad := av, cd := cv }).toArray, .int .i64 0]) (by simp [results, Tryz.results32, go_sem, q0, q1, q2, q3, q4, iml]) rfl ⟨{ p with ad := av, cd := cv }, rfl, (fun W hW => ⟨(HVV.out W _ HBB.out hW).b, (HVV.out W _ HBB.out hW).t, (HVV.out W _ HBB.out hW).q, (HVV.out W _ HBB.out hW).e, (HVV.out W _ HBB.out hW).c, HRS.out W hW⟩), HBB.out⟩
end Go.Proofs.YtlggjgapdpkhiaaGreatDoor
namespace Go.Proofs.YtlggjgapdpkhiaaGreatDoor
open Go.RowKit
set_option maxRecDepth 100000
set_option maxHeartbeats 8000000
theorem growC_any (n : Nat) (w : World) (hn : n ≤ 1000000) : Calls Tryz.prog 162 #[.slice none 0 0, .int .i64 (n : Int)] w fun e w' => ∃ v, e = .returned v ∧ Ro cfc 3 72 w' w.heap.size v [] ∧ Below w.heap.size w w' := by
 have h2 : wrap64 ((0 : Int) - 0) = 0 := by unfold wrap64; omega
 have h1 : ¬ ((n : Int) < 0) := by omega
 rcases Nat.eq_zero_or_pos n with h0 | h0
 ·subst h0
  clear hn h1
  go_enter Tryz.func162, Tryz.ntmps162
  go_wp2_with fail
  go_ret
  exact ⟨_, rfl, ro_nil _ _ _ _ _, Below.refl _ _⟩
 ·have h3 : wrap64 ((n : Int) - 0) = (n : Int) := by unfold wrap64; omega
  have h4 : (n : Int) > 0 := by omega
  have hz := fun ty => grow_zeros (I := 3) tyiC (by decide) Tryz.underlying3 w n h0 hn ty
  obtain ⟨G, c, hG, hnG, hm, hc⟩ := hz 27
  have HU := hide (fun W => upto_run tyiC (some ⟨w.heap.size, 0, none⟩) n G 0 (Nat.zero_le _) hnG W)
  have HG := hide hG
  have HR := hide (ro_room cfc 3 72 w G c hm hc)
  clear hz hG hm hc
  go_enter Tryz.func162, Tryz.ntmps162
  go_wp2_with (at_builtin; refine Lib.wpList_append_run _ rfl _ _ _ _ rfl _ _ rfl rfl _ _ HG.out ?_)
  all_goals
   go_ret
   exact ⟨_, rfl, HR.out, below_dal _ _⟩
theorem concC_3 (v1 v2 v3 : Value) (l1 l2 l3 : List Cf) (B : Nat) (w : World) (hB : Bx w B [v1, v2, v3]) (h1 : Rs cfc w v1 l1) (h2 : Rs cfc w v2 l2) (h3 : Rs cfc w v3 l3) (hl1 : l1.length ≤ 200000) (hl2 : l2.length ≤ 200000) (hl3 : l3.length ≤ 200000) :
  Calls Tryz.prog 142 #[.slice (some ⟨B, 0, none⟩) 3 3] w fun e w' => ∃ v, e = .returned v ∧ Ro cfc 3 72 w' w.heap.size v (l1 ++ l2 ++ l3) ∧ Below w.heap.size w w' := by
 have HG := hide (fun n hn => growC_any n w hn)
 obtain ⟨a1, c1, rfl⟩ := h1.form
 obtain ⟨a2, c2, rfl⟩ := h2.form
 obtain ⟨a3, c3, rfl⟩ := h3.form
 have HB := hide (fun W (h : Below w.heap.size w W) => (hB.below h).c3)
 have H1 := hide (fun W (h : Below w.heap.size w W) => h1.below h)
 have H2 := hide (fun W (h : Below w.heap.size w W) => h2.below h)
 have H3 := hide (fun W (h : Below w.heap.size w W) => h3.below h)
 obtain ⟨b0, b1, b2⟩ := hB.c3
 have hbl := hB.l
 clear h1 h2 h3 hB
 go_enter Tryz.func142, Tryz.ntmps142
 go_wp2_with fail
 refine wp_loop_rounds 4 ?_
 rw [rounds_succ]
 go_wp2_with fail
 rw [rounds_succ]
 go_wp2_with fail
 rw [rounds_succ]
 go_wp2_with fail
 rw [rounds_succ]
 have HN : Hid (((l1.length : Int) + l2.length + l3.length) = ((l1.length + l2.length + l3.length : Nat) : Int)) := hide (by omega)
 have HK : Hid (l1.length + l2.length + l3.length ≤ 1000000) := hide (by omega)
 go_wp2_with (go_at_call 162; first | rw [HN.out] | skip; refine (HG.out _ HK.out).mono ?_; rintro e w1 ⟨v, rfl, hr, hb⟩; obtain ⟨d0, d1, d2⟩ := HB.out _ hb; have HR := hide hr; have HBl := hide hb; clear hr hb HG b0 b1 b2)
 refine wp_loop_rounds 4 ?_
 rw [rounds_succ]
 go_wp2_with (at_builtin; refine wpList_appR tyiC encC _ rfl _ _ rfl w.heap.size _ [] rfl HR.out HBl.out.size _ l1 rfl (H1.out _ HBl.out) (by rw [List.length_nil]; omega) ?_; intro v1 w2 hr _ hb; rw [List.nil_append] at hr; obtain ⟨d0, d1, d2⟩ := HB.out _ (HBl.out.trans hb); replace HR := hide hr; replace HBl := hide (HBl.out.trans hb); clear hr hb)
 rw [rounds_succ]
 go_wp2_with (at_builtin; refine wpList_appR tyiC encC _ rfl _ _ rfl w.heap.size _ l1 rfl HR.out HBl.out.size _ l2 rfl (H2.out _ HBl.out) (by omega) ?_; intro v2 w3 hr _ hb; obtain ⟨d0, d1, d2⟩ := HB.out _ (HBl.out.trans hb); replace HR := hide hr; replace HBl := hide (HBl.out.trans hb); clear hr hb)
 rw [rounds_succ]
 go_wp2_with (at_builtin; refine wpList_appR tyiC encC _ rfl _ _ rfl w.heap.size _ (l1 ++ l2) rfl HR.out HBl.out.size _ l3 rfl (H3.out _ HBl.out) (by rw [List.length_append]; omega) ?_; intro v3 w4 hr _ hb; obtain ⟨d0, d1, d2⟩ := HB.out _ (HBl.out.trans hb); replace HR := hide hr; replace HBl := hide (HBl.out.trans hb); clear hr hb)
 rw [rounds_succ]
 go_wp2_with fail
 go_ret
 exact ⟨_, rfl, HR.out, HBl.out⟩
end Go.Proofs.YtlggjgapdpkhiaaGreatDoor
