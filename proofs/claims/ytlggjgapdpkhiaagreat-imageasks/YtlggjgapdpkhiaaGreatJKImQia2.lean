/-
  AN ANSWER IS KNOWN, AS THE DOCUMENT HAS IT (castellanref15.done).
  ONE THAT IS TAKEN OUT OF A ROW (slices.Concat of two, image.without).
-/
import Derived.Test.YtlggjgapdpkhiaaGreatJKImQha3
import Derived.Test.YtlggjgapdpkhiaaGreatJKImCba5
import Derived.Test.YtlggjgapdpkhiaaGreatJKImCpa5
namespace Go.Proofs.YtlggjgapdpkhiaaGreat
open Go.RowKit
theorem run_appR {α : Type} {f : α → List Value} {k : Nat} {P : Program} {S T : TypeId} (hi : Tyi P S T k) (hf : Enc f k) (ty : TypeId) (w : World) (B : Nat) (v : Value) (l : List α) (hown : Ro f k T w B v l) (hB : B ≤ w.heap.size) (u : Value) (q : List α) (hq : Rs f w u q) (hn : l.length + q.length ≤ 2000000000) :
  ∃ a c w', (Builtin.append_ #[S, S] ty #[v, u]).run P w = .ok (.slice a (l ++ q).length c) w' ∧ Ro f k T w' B (.slice a (l ++ q).length c) (l ++ q) ∧ Below B w w' := by
 obtain ⟨⟨i0, z0, h1, h2, h3, h4, h5⟩, hu⟩ := hi
 obtain ⟨ao, c, rfl, hc, hr⟩ := hq
 have fin : ∀ v' w', (Builtin.append_ #[S, S] ty #[v, .slice ao q.length c]).run P w = .ok v' w' → w'.ownsRow B T k v' (l.length + q.length) (l.flatMap f ++ q.flatMap f) → w.grownBy w' v.ownBlock → ∃ a c' w', (Builtin.append_ #[S, S] ty #[v, .slice ao q.length c]).run P w = .ok (.slice a (l ++ q).length c') w' ∧ Ro f k T w' B (.slice a (l ++ q).length c') (l ++ q) ∧ Below B w w' := fun v' w' hrun ho hg => by
  have hro : Ro f k T w' B v' (l ++ q) := by
   unfold Ro
   rw [List.length_append, List.flatMap_append]
   exact ho
  obtain ⟨a, c', rfl⟩ := hro.form
  exact ⟨a, c', w', hrun, hro, (Below.refl B w).grown hg hB (fun k e => (hown.lt k e).1)⟩
 by_cases h0 : 0 < q.length
 ·obtain ⟨b, o', rfl, hrg⟩ := hr h0
  obtain ⟨v', w', a1, a2, a3, _⟩ := run_append_own_at (P := P) w B S ty T i0 z0 k i0.bytes hu h1 h2 h3 rfl h5 hf.pos v l.length (l.flatMap f) hown ⟨b, o', none⟩ q.length c (q.flatMap f) (fm_len hf q) (fun j x hj => by rw [Addr.add_mid]; exact hrg j x hj) (fm_one hf q) (by unfold maxLen; omega) (by
   have : (l.length + q.length) * i0.bytes ≤ 2000000000 * 300 := Nat.mul_le_mul hn h4
   omega) hB
  exact fin v' w' a1 a2 a3
 ·have e : q = [] := List.eq_nil_iff_length_eq_zero.2 (by omega)
  subst e
  obtain ⟨a, c', rfl⟩ := hown.form
  have hcap : l.length ≤ c' := hown.rs.cap.2
  refine fin (.slice a l.length c') w ?_ (by simpa using (show w.ownsRow B T k (.slice a l.length c') l.length (l.flatMap f) from hown)) (World.grownBy.refl _ _)
  have hn0 : l.length + 0 ≤ c' := hcap
  cases a <;> cases ao <;> simp [Builtin.append_, run_underlying hu, sizeOf, typeInfo, h1, Builtin.lenOf, Builtin.firstCells, loadCells, loadCellsFrom, hcap, storeCells]
theorem step_appR {α : Type} {f : α → List Value} {k : Nat} {P : Program} {S T : TypeId} (hi : Tyi P S T k) (hf : Enc f k) {ops : Array Oper} {o : Oper} {a : Act} {w : World} {K : Act → World → Prop} {Q : Exit → Act → World → Prop} {E : Prop} (hg : o.guard = none) (s x : Operand)
  (ho : o.op = .call { callee := .builtin .append, args := #[s, x], argTypes := #[S, S] }) (B : Nat) (v : Value) (l : List α) (hs : a.eval s = v) (hown : Ro f k T w B v l) (hB : B ≤ w.heap.size) (u : Value) (q : List α) (hx : a.eval x = u) (hq : Rs f w u q) (hn : l.length + q.length ≤ 2000000000)
  (h : ∀ ad c w', Ro f k T w' B (.slice ad (l ++ q).length c) (l ++ q) → Below B w w' → K (a.put o.dst (.slice ad (l ++ q).length c)) w') : if Region.wanted o (yielded ops a.tmps) = true then Oper.wp P o a w K Q else E := by
 have hw : Region.wanted o (yielded ops a.tmps) = true := by simp [Region.wanted, hg]
 rw [if_pos hw]
 obtain ⟨ad, c, w', hrun, hro, hb⟩ := run_appR hi hf o.type w B v l hown hB u q hq hn
 unfold Oper.wp
 simp [execOp, ho, resolve, invoke, builtin, hs, hx, hrun, Result.andThen]
 have e := h ad c w' hro hb
 simp only [List.length_append] at e
 exact e
set_option maxRecDepth 100000 in
set_option maxHeartbeats 16000000 in
theorem rdone_any {ok : Nat → Prop} (m : Im) (p : Ip) (r : Rc) (v : Value) (w : World) (n0 : Nat → Prop) (hn0 : ∀ g, n0 g → g < w.heap.size) (hv : ∀ W, (∀ g, n0 g → W.heap[g]? = w.heap[g]?) → ImR W m p) (hw : Wf m 100000) (hr : IsR ok w v r) : Calls Tryz.prog 71 #[imv m p, v] w fun e w' => StD n0 w w' (ansD m r).1 (ansD m r).2 e := by
 obtain ⟨a14, a15, a16, a17, c14, c15, c16, c17, rfl, hrw⟩ := hr
 have Hv := Hd (fun (W W3 : World) (hb : Below w.heap.size w W3) (hW : Agr n0 w.heap.size W3 W) => hv W (fun g hg => (hW g (.inl hg)).trans (hb.block g (hn0 g hg))))
 replace hv : ImR w m p := hv w (fun _ _ => rfl)
 have HV := Hd (fun W (h : Below w.heap.size w W) => hv.below h)
 have HAN := Hd (fun W (h : Below w.heap.size w W) => ranswered_any m p r.cl r.se W (hv.below h) hw.nd)
 have hnd := hw.nd
 cases hf : fD m.dn r.cl r.se with
 | some d =>
  have Hr : Hid (ansD m r = (m, 9)) := Hd (by unfold ansD; rw [hf]; rfl)
  rw [Hr.out]
  rw [hf] at HAN
  unfold ansV at HAN
  clear hf
  unfold imv at HAN
  have HFR0 := fF w m p r a14 a15 a16 a17 c14 c15 c16 c17
  clear hv hw hrw hn0
  unfold imv
  unfold cR
  go_enter Tryz.func71, Tryz.ntmps71
  go_upto_region 1 with fail
  rw [fE]
  generalize frW w m p r a14 a15 a16 a17 c14 c15 c16 c17 = X at HFR0 ⊢
  have Hf := Hd HFR0
  clear HFR0
  obtain ⟨i0, i1, i2, i3, i4⟩ := Hf.out.i.im; have r6 := Hf.out.r.at 6 _ rfl; have r7 := Hf.out.r.at 7 _ rfl; have r8 := Hf.out.r.at 8 _ rfl
  go_wp2_with (first | (refine wpList_load_mid rfl _ _ rfl _ _ rfl _ _ Hf.out.i.c Tryz.underlying30 rfl (by kernel_rfl) ?_) | (go_at_call 18; refine (HAN.out _ Hf.out.b).mono ?_; rintro e wx ⟨rfl, hbx⟩; replace Hf := Hd (Hf.out.below hbx); clear i0 i1 i2 i3 i4 r6 r7 r8; clear hbx HAN; obtain ⟨i0, i1, i2, i3, i4⟩ := Hf.out.i.im; have r6 := Hf.out.r.at 6 _ rfl; have r7 := Hf.out.r.at 7 _ rfl; have r8 := Hf.out.r.at 8 _ rfl) | (refine wS rfl _ _ _ rfl _ _ rfl Hf.out.z (iml m p) rfl rfl (by kernel_rfl) rfl ?_; intro W3 hz hk hb hp; have Ho := Hd (Hf.out.out hz hk hb); clear hz hk hb hp))
  obtain ⟨q0, q1, q2, q3, q4⟩ := Ho.out.z.im
  exact bodyPost_ret (v := .tuple #[.agg (iml m p).toArray, .int .i64 9]) (by simp [results, Tryz.results71, go_sem, q0, q1, q2, q3, q4, iml]) rfl (std_ret Ho.out (fun W hW => Hv.out W _ Ho.out.b hW))
 | none =>
  obtain ⟨L2, hL2⟩ : ∃ L2, L2 = putD m.dn ⟨r.cl, r.se, r.co⟩ := ⟨_, rfl⟩
  have Hr : Hid (ansD m r = ({ m with dn := L2 }, 0)) := Hd (by unfold ansD; rw [hf, hL2]; rfl)
  rw [Hr.out]
  rw [hf] at HAN
  unfold ansV at HAN
  have HL2 : Hid (L2 = m.dn.drop (m.dn.length + 1 - 64) ++ [⟨r.cl, r.se, r.co⟩]) := Hd hL2
  clear hf hL2
  unfold imv at HAN
  have HFR0 := fF w m p r a14 a15 a16 a17 c14 c15 c16 c17
  clear hv hw hrw hn0
  unfold imv
  unfold cR
  go_enter Tryz.func71, Tryz.ntmps71
  go_upto_region 1 with fail
  rw [fE]
  generalize frW w m p r a14 a15 a16 a17 c14 c15 c16 c17 = X at HFR0 ⊢
  have Hf := Hd HFR0
  clear HFR0
  obtain ⟨i0, i1, i2, i3, i4⟩ := Hf.out.i.im; have r6 := Hf.out.r.at 6 _ rfl; have r7 := Hf.out.r.at 7 _ rfl; have r8 := Hf.out.r.at 8 _ rfl
  have HIU := Hd (fun W (h : Fr w m p (cR r a14 a15 a16 a17 c14 c15 c16 c17) imz W) => (show W.rangeAt w.heap.size 0 [Value.slice p.ab m.br.length p.cb, .slice p.aq p.ts.length p.cq, .slice p.ac m.cf.length p.cc, .slice p.ad m.dn.length p.cd, .int .i64 m.la] from h.i.c))
  go_upto_region 4 with (first | (refine wpList_load_mid rfl _ _ rfl _ _ rfl _ _ Hf.out.i.c Tryz.underlying30 rfl (by kernel_rfl) ?_) | (go_at_call 18; refine (HAN.out _ Hf.out.b).mono ?_; rintro e wx ⟨rfl, hbx⟩; replace Hf := Hd (Hf.out.below hbx); clear i0 i1 i2 i3 i4 r6 r7 r8; clear hbx HAN; obtain ⟨i0, i1, i2, i3, i4⟩ := Hf.out.i.im; have r6 := Hf.out.r.at 6 _ rfl; have r7 := Hf.out.r.at 7 _ rfl; have r8 := Hf.out.r.at 8 _ rfl))
  go_upto_region 5 with (first | (refine wpList_load_mid rfl _ _ rfl _ _ rfl _ _ (HIU.out _ Hf.out) Tryz.underlying30 rfl (by kernel_rfl) ?_))
  clear HIU
  clear i0 i1 i2 i3 i4 r6 r7 r8
  have Hz := Hd (Fo.new Hf.out [Value.slice p.ab m.br.length p.cb, .slice p.aq p.ts.length p.cq, .slice p.ac m.cf.length p.cc, .slice p.ad m.dn.length p.cd, .int .i64 m.la] 30)
  generalize wx.alloc (.cells (List.toArray [Value.slice p.ab m.br.length p.cb, .slice p.aq p.ts.length p.cq, .slice p.ac m.cf.length p.cc, .slice p.ad m.dn.length p.cd, .int .i64 m.la]) 30) = Y at Hz ⊢
  generalize wx.heap.size = bo at Hz ⊢
  have o3 := Hz.out.o.at 3 _ rfl
  have f3 := Hz.out.o.f 3 (by simp)
  go_upto_region 6 with fail
  replace Hz := Hd (Hz.out.set 3 (by simp) (.slice none 0 0))
  simp only [List.set] at Hz
  clear o3 f3
  generalize Y.setCell ⟨bo, 3, none⟩ (.slice none 0 0) = Y1 at Hz ⊢
  obtain ⟨v0, hv0⟩ : ∃ v : Value, v = .slice none 0 0 := ⟨_, rfl⟩
  rw [← hv0] at Hz
  have HV0 := Hd hv0
  clear hv0
  have i3 := Hz.out.f.i.at 3 _ rfl
  obtain ⟨fr, hfr⟩ : ∃ fr : Nat, fr = m.dn.length + 1 - 64 := ⟨_, rfl⟩
  have HFRM := Hd hfr
  by_cases h64 : 64 ≤ m.dn.length
  ·have hI : (64 : Int) ≤ (m.dn.length : Int) := by omega
   have hw1 : wrap64 ((m.dn.length : Int) - 63) = (fr : Int) := by unfold wrap64; omega
   have hw2 : IntKind.i64.wrap ((m.dn.length : Int) - 63) = (fr : Int) := by rw [IntKind.wrap_i64]; omega
   clear hfr
   go_upto_region 9 with fail
   have HD := Hd (HV.out _ Hz.out.f.b).d
   obtain ⟨ao, hsl, hdr⟩ := Rs.from tyiD encD HD.out fr (by have := HFRM.out; omega)
   have HDR := Hd hdr
   obtain ⟨Q, hQ⟩ : ∃ Q, Q = (m.dn.drop fr) := ⟨_, rfl⟩
   rw [← hQ] at HDR
   have HQQ := Hd hQ
   clear hQ hdr
   go_cut [37] (fun y W => ∃ av cv, y = .slice av Q.length cv ∧ Fo w W m p (cR r a14 a15 a16 a17 c14 c15 c16 c17) bo [Value.slice p.ab m.br.length p.cb, .slice p.aq p.ts.length p.cq, .slice p.ac m.cf.length p.cc, .slice av Q.length cv, .int .i64 m.la] ∧ Ro dnc 3 83 W (bo + 1) (.slice av Q.length cv) Q)
   case first =>
    have hdw : Below Y1.heap.size Y1 Y1.drew := (Below.refl _ _).drew
    refine wp_region_held_drew (S := fun _ => True) (by kernel_rfl) trivial (fun hHeld => ?_)
    have HD4 := Hd hdw
    have HF4 := Hd (Hz.out.drewN 1)
    replace HF4 : Hid (Fo w Y1.drew m p (cR r a14 a15 a16 a17 c14 c15 c16 c17) bo [Value.slice p.ab m.br.length p.cb, .slice p.aq p.ts.length p.cq, .slice p.ac m.cf.length p.cc, v0, .int .i64 m.la]) := HF4
    generalize Y1.drew = V4 at hHeld HD4 HF4 ⊢
    clear hdw
    refine tk 0 31 (.pointer (some ⟨bo, 3, none⟩)) rfl rfl hHeld ?_
    simp only [Act.put, zA, zB, zC]
    refine tk 2 33 (.pointer (some ⟨w.heap.size, 3, none⟩)) rfl rfl hHeld ?_
    simp only [Act.put, zA, zB, zC]
    refine tk 4 35 (.int .i64 (fr : Int)) rfl rfl hHeld ?_
    simp only [Act.put, zA, zB, zC]
    refine wpAnyH_ready (rs := [1, 3]) (by kernel_rfl) (by simp) ?_
    refine AllReadyH.cons (o := _) rfl (fun K hK => ?_) (AllReadyH.cons (o := _) rfl (fun K hK => ?_) AllReadyH.nil)
    ·have h0 := HF4.out.o.at 3 _ rfl
     go_simp
     clear h0
     refine hK.out _ _ trivial (fun hHeld1 => ?_)
     clear hK K hHeld
     have hHeld := hHeld1
     clear hHeld1
     refine wpAnyH_ready (rs := [3]) (by kernel_rfl) (by simp) ?_
     refine AllReadyH.cons (o := _) rfl (fun K hK => ?_) AllReadyH.nil
     have h0 := HF4.out.f.i.at 3 _ rfl
     go_simp
     clear h0
     refine hK.out _ _ trivial (fun hHeld1 => ?_)
     clear hK K hHeld
     have hHeld := hHeld1
     clear hHeld1
     refine tk 5 36 (.slice ao (m.dn.length - fr) (p.cd - fr)) rfl rfl hHeld ?_
     simp only [Act.put, zA, zB, zC]
     refine wpAnyH_ready (rs := [6]) (by kernel_rfl) (by simp) ?_
     refine AllReadyH.cons (o := _) rfl (fun K hK => ?_) AllReadyH.nil
     refine step_appR tyiD encD rfl _ _ rfl (bo + 1) v0 [] rfl (by rw [HV0.out]; exact ro_nil _ _ _ _ _) (by have := HF4.out.o.l; omega) _ Q rfl (HDR.out V4 HD4.out) (by rw [HQQ.out]; simp; omega) ?_
     intro av1 cv1 w1 ho1 hb1
     rw [List.nil_append] at ho1 ⊢
     refine hK.out _ _ trivial (fun hHeld1 => ?_)
     clear hK K hHeld
     have hHeld := hHeld1
     clear hHeld1
     change wpAnyH _ _ _ _ _ _ _ (Act.put _ (some 37) _) _
     simp only [Act.put, zA, zB, zC]
     refine tk 7 38 (.pointer (some ⟨bo, 3, none⟩)) rfl rfl hHeld ?_
     simp only [Act.put, zA, zB, zC]
     refine wpAnyH_ready (rs := [8]) (by kernel_rfl) (by simp) ?_
     refine AllReadyH.cons (o := _) rfl (fun K hK => ?_) AllReadyH.nil
     have HF1 := Hd (HF4.out.low hb1)
     have HR1 := Hd ho1
     have o3 := HF1.out.o.at 3 _ rfl
     have f3 := HF1.out.o.f 3 (by simp)
     go_simp
     clear o3 f3
     refine hK.out _ _ trivial (fun hHeld1 => ?_)
     clear hK K hHeld
     have hHeld := hHeld1
     clear hHeld1
     refine wpAnyH_done (by kernel_rfl) ?_ _
     clear hHeld
     have HF20 := Hd (HF1.out.set 3 (by simp) (.slice av1 Q.length cv1))
     simp only [List.set] at HF20
     have HR2 := Hd (HR1.out.keepG (W' := w1.setCell ⟨bo, 3, none⟩ (.slice av1 Q.length cv1)) (fun g hg => Below.heap_setCell _ _ _ _ (show ¬ g = bo by omega)))
     go_wp2_with fail
     go_meet
     exact ⟨_, _, rfl, HF20.out, HR2.out⟩
    ·have h0 := HF4.out.f.i.at 3 _ rfl
     go_simp
     clear h0
     refine hK.out _ _ trivial (fun hHeld1 => ?_)
     clear hK K hHeld
     have hHeld := hHeld1
     clear hHeld1
     refine tk 5 36 (.slice ao (m.dn.length - fr) (p.cd - fr)) rfl rfl hHeld ?_
     simp only [Act.put, zA, zB, zC]
     refine wpAnyH_ready (rs := [1]) (by kernel_rfl) (by simp) ?_
     refine AllReadyH.cons (o := _) rfl (fun K hK => ?_) AllReadyH.nil
     have h0 := HF4.out.o.at 3 _ rfl
     go_simp
     clear h0
     refine hK.out _ _ trivial (fun hHeld1 => ?_)
     clear hK K hHeld
     have hHeld := hHeld1
     clear hHeld1
     refine wpAnyH_ready (rs := [6]) (by kernel_rfl) (by simp) ?_
     refine AllReadyH.cons (o := _) rfl (fun K hK => ?_) AllReadyH.nil
     refine step_appR tyiD encD rfl _ _ rfl (bo + 1) v0 [] rfl (by rw [HV0.out]; exact ro_nil _ _ _ _ _) (by have := HF4.out.o.l; omega) _ Q rfl (HDR.out V4 HD4.out) (by rw [HQQ.out]; simp; omega) ?_
     intro av1 cv1 w1 ho1 hb1
     rw [List.nil_append] at ho1 ⊢
     refine hK.out _ _ trivial (fun hHeld1 => ?_)
     clear hK K hHeld
     have hHeld := hHeld1
     clear hHeld1
     change wpAnyH _ _ _ _ _ _ _ (Act.put _ (some 37) _) _
     simp only [Act.put, zA, zB, zC]
     refine tk 7 38 (.pointer (some ⟨bo, 3, none⟩)) rfl rfl hHeld ?_
     simp only [Act.put, zA, zB, zC]
     refine wpAnyH_ready (rs := [8]) (by kernel_rfl) (by simp) ?_
     refine AllReadyH.cons (o := _) rfl (fun K hK => ?_) AllReadyH.nil
     have HF1 := Hd (HF4.out.low hb1)
     have HR1 := Hd ho1
     have o3 := HF1.out.o.at 3 _ rfl
     have f3 := HF1.out.o.f 3 (by simp)
     go_simp
     clear o3 f3
     refine hK.out _ _ trivial (fun hHeld1 => ?_)
     clear hK K hHeld
     have hHeld := hHeld1
     clear hHeld1
     refine wpAnyH_done (by kernel_rfl) ?_ _
     clear hHeld
     have HF20 := Hd (HF1.out.set 3 (by simp) (.slice av1 Q.length cv1))
     simp only [List.set] at HF20
     have HR2 := Hd (HR1.out.keepG (W' := w1.setCell ⟨bo, 3, none⟩ (.slice av1 Q.length cv1)) (fun g hg => Below.heap_setCell _ _ _ _ (show ¬ g = bo by omega)))
     go_wp2_with fail
     go_meet
     exact ⟨_, _, rfl, HF20.out, HR2.out⟩
   case rest =>
    obtain ⟨av0, cv0, rfl, hf2, hr2⟩ := hcut
    have HF2 := Hd hf2
    have HOB := Hd hr2
    clear hf2 hr2 HDR Hz
    have HL3 : Hid (L2 = Q ++ [⟨r.cl, r.se, r.co⟩]) := Hd (by rw [HL2.out, HQQ.out]; congr 2; exact HFRM.out.symm)
    have HOA := Hd (HOB.out.below (bA wc (.cells (List.toArray [Value.int .i64 r.cl, .int .i64 r.se, .int .i64 r.co]) 83)))
    have HUC := Hd (Bx.new wc [Value.int .i64 r.cl, .int .i64 r.se, .int .i64 r.co] 83).c
    have o3 := HF2.out.o.at 3 _ rfl
    have r6 := HF2.out.f.r.at 6 _ rfl
    have r7 := HF2.out.f.r.at 7 _ rfl
    have r8 := HF2.out.f.r.at 8 _ rfl
    go_upto_region 11 with (first | (refine wpList_app1 tyiD encD _ rfl _ _ rfl (bo + 1) _ Q rfl HOA.out (by have := HF2.out.o.l; simp; omega) (⟨r.cl, r.se, r.co⟩ : Dn) _ 1 rfl (Nat.le_refl _) HUC.out (by rw [HQQ.out]; simp; omega) ?_; intro v2 w2 ho2 hb2; have HF3 := Hd ((HF2.out.below (bA wc (.cells (List.toArray [Value.int .i64 r.cl, .int .i64 r.se, .int .i64 r.co]) 83))).low hb2); rw [← HL3.out] at ho2; obtain ⟨av, cv, rfl⟩ := ho2.form; have HO2 := Hd ho2; clear ho2 hb2 o3 r6 r7 r8; have o3 := HF3.out.o.at 3 _ rfl; have f3 := HF3.out.o.f 3 (by simp)))
    clear o3 f3 HOA HUC HOB HF2
    have HF40 := Hd (HF3.out.set 3 (by simp) (.slice av L2.length cv))
    simp only [List.set] at HF40
    have HRO := Hd (HO2.out.keepG (W' := w2.setCell ⟨bo, 3, none⟩ (.slice av L2.length cv)) (fun g hg => Below.heap_setCell _ _ _ _ (show ¬ g = bo by omega)))
    clear HF3 HO2
    generalize w2.setCell ⟨bo, 3, none⟩ (.slice av L2.length cv) = Z at HF40 HRO ⊢
    have HFW := Hd HF40.out
    clear HF40
    go_wp2_with (first | (refine wpList_load_mid rfl _ _ rfl _ _ rfl _ _ HFW.out.o.c Tryz.underlying30 rfl (by kernel_rfl) ?_) | (refine wS rfl _ _ _ rfl _ _ rfl HFW.out.f.z (iml { m with dn := L2 } { p with ad := av, cd := cv }) rfl rfl (by kernel_rfl) rfl ?_; intro W3 hz hk hb hp; have HZ := Hd hz; have Hb := Hd (hb _ _ (show w.heap.size ≤ w.heap.size + 1 + 1 by omega) HFW.out.f.b); have HRS := Hd (fun W (hW : Agr n0 w.heap.size W3 W) => (HRO.out.keepG (fun g hg => (hW g (.inr (by have := HFW.out.ge; omega))).trans (hp g (by have := HFW.out.ge; omega)))).rs); clear hz hk hb hp))
    obtain ⟨q0, q1, q2, q3, q4⟩ := HZ.out.im
    exact bodyPost_ret (v := .tuple #[.agg (iml { m with dn := L2 } { p with ad := av, cd := cv }).toArray, .int .i64 0]) (by simp [results, Tryz.results71, go_sem, q0, q1, q2, q3, q4, iml]) rfl ⟨{ p with ad := av, cd := cv }, rfl, (fun W hW => ⟨(Hv.out W _ Hb.out hW).b, (Hv.out W _ Hb.out hW).t, (Hv.out W _ Hb.out hW).q, (Hv.out W _ Hb.out hW).e, (Hv.out W _ Hb.out hW).c, HRS.out W hW⟩), Hb.out⟩
  ·have hI : ¬ (64 : Int) ≤ (m.dn.length : Int) := by omega
   have HZ0 : Hid (fr = 0) := Hd (by omega)
   clear hfr
   go_upto_region 9 with fail
   have HD := Hd (HV.out _ Hz.out.f.b).d
   obtain ⟨ao, hsl, hdr⟩ := Rs.from tyiD encD HD.out 0 (by have := HFRM.out; omega)
   replace hsl : ∀ W, (Instr.slice 28 (.slice p.ad m.dn.length p.cd) (some (.int .i64 0)) none none).run Tryz.prog W = .ok (.slice ao m.dn.length p.cd) W := hsl
   replace hdr : ∀ W, Below Y1.heap.size Y1 W → Rs dnc W (.slice ao m.dn.length p.cd) (m.dn.drop 0) := hdr
   have HDR := Hd hdr
   obtain ⟨Q, hQ⟩ : ∃ Q, Q = (m.dn.drop 0) := ⟨_, rfl⟩
   rw [← hQ] at HDR
   have HQQ := Hd hQ
   clear hQ hdr
   go_cut [37] (fun y W => ∃ av cv, y = .slice av Q.length cv ∧ Fo w W m p (cR r a14 a15 a16 a17 c14 c15 c16 c17) bo [Value.slice p.ab m.br.length p.cb, .slice p.aq p.ts.length p.cq, .slice p.ac m.cf.length p.cc, .slice av Q.length cv, .int .i64 m.la] ∧ Ro dnc 3 83 W (bo + 1) (.slice av Q.length cv) Q)
   case first =>
    have hdw : Below Y1.heap.size Y1 Y1.drew := (Below.refl _ _).drew
    refine wp_region_held_drew (S := fun _ => True) (by kernel_rfl) trivial (fun hHeld => ?_)
    have HD4 := Hd hdw
    have HF4 := Hd (Hz.out.drewN 1)
    replace HF4 : Hid (Fo w Y1.drew m p (cR r a14 a15 a16 a17 c14 c15 c16 c17) bo [Value.slice p.ab m.br.length p.cb, .slice p.aq p.ts.length p.cq, .slice p.ac m.cf.length p.cc, v0, .int .i64 m.la]) := HF4
    generalize Y1.drew = V4 at hHeld HD4 HF4 ⊢
    clear hdw
    refine tk 0 31 (.pointer (some ⟨bo, 3, none⟩)) rfl rfl hHeld ?_
    simp only [Act.put, zA, zB, zC]
    refine tk 2 33 (.pointer (some ⟨w.heap.size, 3, none⟩)) rfl rfl hHeld ?_
    simp only [Act.put, zA, zB, zC]
    refine tk 4 35 (.int .i64 0) rfl rfl hHeld ?_
    simp only [Act.put, zA, zB, zC]
    refine wpAnyH_ready (rs := [1, 3]) (by kernel_rfl) (by simp) ?_
    refine AllReadyH.cons (o := _) rfl (fun K hK => ?_) (AllReadyH.cons (o := _) rfl (fun K hK => ?_) AllReadyH.nil)
    ·have h0 := HF4.out.o.at 3 _ rfl
     go_simp
     clear h0
     refine hK.out _ _ trivial (fun hHeld1 => ?_)
     clear hK K hHeld
     have hHeld := hHeld1
     clear hHeld1
     refine wpAnyH_ready (rs := [3]) (by kernel_rfl) (by simp) ?_
     refine AllReadyH.cons (o := _) rfl (fun K hK => ?_) AllReadyH.nil
     have h0 := HF4.out.f.i.at 3 _ rfl
     go_simp
     clear h0
     refine hK.out _ _ trivial (fun hHeld1 => ?_)
     clear hK K hHeld
     have hHeld := hHeld1
     clear hHeld1
     refine tk 5 36 (.slice ao (m.dn.length) (p.cd)) rfl rfl hHeld ?_
     simp only [Act.put, zA, zB, zC]
     refine wpAnyH_ready (rs := [6]) (by kernel_rfl) (by simp) ?_
     refine AllReadyH.cons (o := _) rfl (fun K hK => ?_) AllReadyH.nil
     refine step_appR tyiD encD rfl _ _ rfl (bo + 1) v0 [] rfl (by rw [HV0.out]; exact ro_nil _ _ _ _ _) (by have := HF4.out.o.l; omega) _ Q rfl (HDR.out V4 HD4.out) (by rw [HQQ.out]; simp; omega) ?_
     intro av1 cv1 w1 ho1 hb1
     rw [List.nil_append] at ho1 ⊢
     refine hK.out _ _ trivial (fun hHeld1 => ?_)
     clear hK K hHeld
     have hHeld := hHeld1
     clear hHeld1
     change wpAnyH _ _ _ _ _ _ _ (Act.put _ (some 37) _) _
     simp only [Act.put, zA, zB, zC]
     refine tk 7 38 (.pointer (some ⟨bo, 3, none⟩)) rfl rfl hHeld ?_
     simp only [Act.put, zA, zB, zC]
     refine wpAnyH_ready (rs := [8]) (by kernel_rfl) (by simp) ?_
     refine AllReadyH.cons (o := _) rfl (fun K hK => ?_) AllReadyH.nil
     have HF1 := Hd (HF4.out.low hb1)
     have HR1 := Hd ho1
     have o3 := HF1.out.o.at 3 _ rfl
     have f3 := HF1.out.o.f 3 (by simp)
     go_simp
     clear o3 f3
     refine hK.out _ _ trivial (fun hHeld1 => ?_)
     clear hK K hHeld
     have hHeld := hHeld1
     clear hHeld1
     refine wpAnyH_done (by kernel_rfl) ?_ _
     clear hHeld
     have HF20 := Hd (HF1.out.set 3 (by simp) (.slice av1 Q.length cv1))
     simp only [List.set] at HF20
     have HR2 := Hd (HR1.out.keepG (W' := w1.setCell ⟨bo, 3, none⟩ (.slice av1 Q.length cv1)) (fun g hg => Below.heap_setCell _ _ _ _ (show ¬ g = bo by omega)))
     go_wp2_with fail
     go_meet
     exact ⟨_, _, rfl, HF20.out, HR2.out⟩
    ·have h0 := HF4.out.f.i.at 3 _ rfl
     go_simp
     clear h0
     refine hK.out _ _ trivial (fun hHeld1 => ?_)
     clear hK K hHeld
     have hHeld := hHeld1
     clear hHeld1
     refine tk 5 36 (.slice ao (m.dn.length) (p.cd)) rfl rfl hHeld ?_
     simp only [Act.put, zA, zB, zC]
     refine wpAnyH_ready (rs := [1]) (by kernel_rfl) (by simp) ?_
     refine AllReadyH.cons (o := _) rfl (fun K hK => ?_) AllReadyH.nil
     have h0 := HF4.out.o.at 3 _ rfl
     go_simp
     clear h0
     refine hK.out _ _ trivial (fun hHeld1 => ?_)
     clear hK K hHeld
     have hHeld := hHeld1
     clear hHeld1
     refine wpAnyH_ready (rs := [6]) (by kernel_rfl) (by simp) ?_
     refine AllReadyH.cons (o := _) rfl (fun K hK => ?_) AllReadyH.nil
     refine step_appR tyiD encD rfl _ _ rfl (bo + 1) v0 [] rfl (by rw [HV0.out]; exact ro_nil _ _ _ _ _) (by have := HF4.out.o.l; omega) _ Q rfl (HDR.out V4 HD4.out) (by rw [HQQ.out]; simp; omega) ?_
     intro av1 cv1 w1 ho1 hb1
     rw [List.nil_append] at ho1 ⊢
     refine hK.out _ _ trivial (fun hHeld1 => ?_)
     clear hK K hHeld
     have hHeld := hHeld1
     clear hHeld1
     change wpAnyH _ _ _ _ _ _ _ (Act.put _ (some 37) _) _
     simp only [Act.put, zA, zB, zC]
     refine tk 7 38 (.pointer (some ⟨bo, 3, none⟩)) rfl rfl hHeld ?_
     simp only [Act.put, zA, zB, zC]
     refine wpAnyH_ready (rs := [8]) (by kernel_rfl) (by simp) ?_
     refine AllReadyH.cons (o := _) rfl (fun K hK => ?_) AllReadyH.nil
     have HF1 := Hd (HF4.out.low hb1)
     have HR1 := Hd ho1
     have o3 := HF1.out.o.at 3 _ rfl
     have f3 := HF1.out.o.f 3 (by simp)
     go_simp
     clear o3 f3
     refine hK.out _ _ trivial (fun hHeld1 => ?_)
     clear hK K hHeld
     have hHeld := hHeld1
     clear hHeld1
     refine wpAnyH_done (by kernel_rfl) ?_ _
     clear hHeld
     have HF20 := Hd (HF1.out.set 3 (by simp) (.slice av1 Q.length cv1))
     simp only [List.set] at HF20
     have HR2 := Hd (HR1.out.keepG (W' := w1.setCell ⟨bo, 3, none⟩ (.slice av1 Q.length cv1)) (fun g hg => Below.heap_setCell _ _ _ _ (show ¬ g = bo by omega)))
     go_wp2_with fail
     go_meet
     exact ⟨_, _, rfl, HF20.out, HR2.out⟩
   case rest =>
    obtain ⟨av0, cv0, rfl, hf2, hr2⟩ := hcut
    have HF2 := Hd hf2
    have HOB := Hd hr2
    clear hf2 hr2 HDR Hz
    have HL3 : Hid (L2 = Q ++ [⟨r.cl, r.se, r.co⟩]) := Hd (by rw [HL2.out, HQQ.out]; congr 2; exact (HFRM.out.symm.trans HZ0.out))
    have HOA := Hd (HOB.out.below (bA wc (.cells (List.toArray [Value.int .i64 r.cl, .int .i64 r.se, .int .i64 r.co]) 83)))
    have HUC := Hd (Bx.new wc [Value.int .i64 r.cl, .int .i64 r.se, .int .i64 r.co] 83).c
    have o3 := HF2.out.o.at 3 _ rfl
    have r6 := HF2.out.f.r.at 6 _ rfl
    have r7 := HF2.out.f.r.at 7 _ rfl
    have r8 := HF2.out.f.r.at 8 _ rfl
    go_upto_region 11 with (first | (refine wpList_app1 tyiD encD _ rfl _ _ rfl (bo + 1) _ Q rfl HOA.out (by have := HF2.out.o.l; simp; omega) (⟨r.cl, r.se, r.co⟩ : Dn) _ 1 rfl (Nat.le_refl _) HUC.out (by rw [HQQ.out]; simp; omega) ?_; intro v2 w2 ho2 hb2; have HF3 := Hd ((HF2.out.below (bA wc (.cells (List.toArray [Value.int .i64 r.cl, .int .i64 r.se, .int .i64 r.co]) 83))).low hb2); rw [← HL3.out] at ho2; obtain ⟨av, cv, rfl⟩ := ho2.form; have HO2 := Hd ho2; clear ho2 hb2 o3 r6 r7 r8; have o3 := HF3.out.o.at 3 _ rfl; have f3 := HF3.out.o.f 3 (by simp)))
    clear o3 f3 HOA HUC HOB HF2
    have HF40 := Hd (HF3.out.set 3 (by simp) (.slice av L2.length cv))
    simp only [List.set] at HF40
    have HRO := Hd (HO2.out.keepG (W' := w2.setCell ⟨bo, 3, none⟩ (.slice av L2.length cv)) (fun g hg => Below.heap_setCell _ _ _ _ (show ¬ g = bo by omega)))
    clear HF3 HO2
    generalize w2.setCell ⟨bo, 3, none⟩ (.slice av L2.length cv) = Z at HF40 HRO ⊢
    have HFW := Hd HF40.out
    clear HF40
    go_wp2_with (first | (refine wpList_load_mid rfl _ _ rfl _ _ rfl _ _ HFW.out.o.c Tryz.underlying30 rfl (by kernel_rfl) ?_) | (refine wS rfl _ _ _ rfl _ _ rfl HFW.out.f.z (iml { m with dn := L2 } { p with ad := av, cd := cv }) rfl rfl (by kernel_rfl) rfl ?_; intro W3 hz hk hb hp; have HZ := Hd hz; have Hb := Hd (hb _ _ (show w.heap.size ≤ w.heap.size + 1 + 1 by omega) HFW.out.f.b); have HRS := Hd (fun W (hW : Agr n0 w.heap.size W3 W) => (HRO.out.keepG (fun g hg => (hW g (.inr (by have := HFW.out.ge; omega))).trans (hp g (by have := HFW.out.ge; omega)))).rs); clear hz hk hb hp))
    obtain ⟨q0, q1, q2, q3, q4⟩ := HZ.out.im
    exact bodyPost_ret (v := .tuple #[.agg (iml { m with dn := L2 } { p with ad := av, cd := cv }).toArray, .int .i64 0]) (by simp [results, Tryz.results71, go_sem, q0, q1, q2, q3, q4, iml]) rfl ⟨{ p with ad := av, cd := cv }, rfl, (fun W hW => ⟨(Hv.out W _ Hb.out hW).b, (Hv.out W _ Hb.out hW).t, (Hv.out W _ Hb.out hW).q, (Hv.out W _ Hb.out hW).e, (Hv.out W _ Hb.out hW).c, HRS.out W hW⟩), Hb.out⟩
end Go.Proofs.YtlggjgapdpkhiaaGreat
namespace Go.Proofs.YtlggjgapdpkhiaaGreat
open Go.RowKit
set_option maxRecDepth 100000
set_option maxHeartbeats 8000000
theorem concC_2 (v1 v2 : Value) (l1 l2 : List Cf) (B : Nat) (w : World) (hB : Bx w B [v1, v2]) (h1 : Rs cfc w v1 l1) (h2 : Rs cfc w v2 l2) (hl1 : l1.length ≤ 200000) (hl2 : l2.length ≤ 200000) :
  Calls Tryz.prog 148 #[.slice (some ⟨B, 0, none⟩) 2 2] w fun e w' => ∃ v, e = .returned v ∧ Ro cfc 3 78 w' w.heap.size v (l1 ++ l2) ∧ Below w.heap.size w w' := by
 have HG := Hd (fun n hn => growC_any n w hn)
 obtain ⟨a1, c1, rfl⟩ := h1.form
 obtain ⟨a2, c2, rfl⟩ := h2.form
 have HB := Hd (fun W (h : Below w.heap.size w W) => (hB.below h).c2)
 have H1 := Hd (fun W (h : Below w.heap.size w W) => h1.below h)
 have H2 := Hd (fun W (h : Below w.heap.size w W) => h2.below h)
 obtain ⟨b0, b1⟩ := hB.c2
 have hbl := hB.l
 clear h1 h2 hB
 go_enter Tryz.func148, Tryz.ntmps148
 go_wp2_with fail
 refine wp_loop_rounds 3 ?_
 rw [rounds_succ]
 go_wp2_with fail
 rw [rounds_succ]
 go_wp2_with fail
 rw [rounds_succ]
 have HN : Hid (((l1.length : Int) + l2.length) = ((l1.length + l2.length : Nat) : Int)) := Hd (by omega)
 have HK : Hid (l1.length + l2.length ≤ 1000000) := Hd (by omega)
 go_wp2_with (go_at_call 158; first | rw [HN.out] | skip; refine (HG.out _ HK.out).mono ?_; rintro e w1 ⟨v, rfl, hr, hb⟩; obtain ⟨d0, d1⟩ := HB.out _ hb; have HR := Hd hr; have HBl := Hd hb; clear hr hb HG b0 b1)
 refine wp_loop_rounds 3 ?_
 rw [rounds_succ]
 go_wp2_with (at_builtin; refine wR tyiC encC _ rfl _ _ rfl w.heap.size _ [] rfl HR.out HBl.out.size _ l1 rfl (H1.out _ HBl.out) (by rw [List.length_nil]; omega) ?_; intro v1 w2 hr _ hb; rw [List.nil_append] at hr; obtain ⟨d0, d1⟩ := HB.out _ (HBl.out.trans hb); replace HR := Hd hr; replace HBl := Hd (HBl.out.trans hb); clear hr hb)
 rw [rounds_succ]
 go_wp2_with (at_builtin; refine wR tyiC encC _ rfl _ _ rfl w.heap.size _ l1 rfl HR.out HBl.out.size _ l2 rfl (H2.out _ HBl.out) (by omega) ?_; intro v2 w3 hr _ hb; obtain ⟨d0, d1⟩ := HB.out _ (HBl.out.trans hb); replace HR := Hd hr; replace HBl := Hd (HBl.out.trans hb); clear hr hb)
 rw [rounds_succ]
 go_wp2_with fail
 go_ret
 exact ⟨_, rfl, HR.out, HBl.out⟩
theorem woC_any (l : List Cf) (ao : Option Addr) (n cap i : Nat) (w : World) (hn : n = l.length) (hv : Rs cfc w (.slice ao n cap) l) (hi : i < l.length) (hl : l.length ≤ 100000) :
  Calls Tryz.prog 126 #[.slice ao n cap, .int .i64 (i : Int)] w fun e w' => ∃ v, e = .returned v ∧ Ro cfc 3 78 w' w.heap.size v (l.take i ++ l.drop (i + 1)) ∧ Below w.heap.size w w' := by
 subst hn
 obtain ⟨bb, oo, rfl, hrg⟩ := hv.rg (by omega)
 have hu := fun W => upto_run tyiC (some ⟨bb, oo, none⟩) l.length cap i (Nat.le_of_lt hi) hv.cap.2 W
 have hcap := hv.cap.2
 have h0 : ¬ ((i : Int) + 1 < 0) := by omega
 have hwr : IntKind.i64.wrap ((i : Int) + 1) = (i : Int) + 1 := by rw [IntKind.wrap_i64]; omega
 have h00 : (0 : Int) ≤ (i : Int) + 1 := by omega
 have h1 : (i : Int) + 1 ≤ (l.length : Int) := by omega
 have hd : ∀ (ao' : Option Addr), (¬ cap = i + 1 → ao' = some ⟨bb, oo + (i + 1) * 3, none⟩) → ∀ W, Below w.heap.size w W → Rs cfc W (.slice ao' (l.length - (i + 1)) (cap - (i + 1))) (l.drop (i + 1)) := fun ao' hao W hb => by
  have := (hv.below hb).part encC (i + 1) l.length hi (Nat.le_refl _) ao' (fun q b o e => by cases e; rw [hao (by omega)])
  rwa [List.take_of_length_le (by rw [List.length_drop]; omega)] at this
 have HC : Hid (∀ (ao' : Option Addr), (¬ cap = i + 1 → ao' = some ⟨bb, oo + (i + 1) * 3, none⟩) → ∀ (n1 n2 : Nat), n1 = l.length - (i + 1) → n2 = cap - (i + 1) → ∀ U, Calls Tryz.prog 148 #[.slice (some ⟨w.heap.size, 0, none⟩) 2 2] (w.alloc (.cells #[.slice (some ⟨bb, oo, none⟩) i cap, .slice ao' n1 n2] U)).drew fun e w' => ∃ v, e = .returned v ∧ Ro cfc 3 78 w' w.heap.size v (l.take i ++ l.drop (i + 1)) ∧ Below w.heap.size w w') := Hd (fun ao' hao n1 n2 e1 e2 U => by
  subst e1 e2
  obtain ⟨p1, p3⟩ := wo_frame w U (.slice (some ⟨bb, oo, none⟩) i cap) (.slice ao' (l.length - (i + 1)) (cap - (i + 1)))
  refine (concC_2 _ _ (l.take i) (l.drop (i + 1)) _ _ p1 ((hv.below p3).upto encC i (Nat.le_of_lt hi)) (hd ao' hao _ p3) (by rw [List.length_take]; omega) (by rw [List.length_drop]; omega)).mono ?_
  rintro e w1 ⟨v, rfl, hr, hb⟩
  exact ⟨v, rfl, hr.mono p3.size, bt p3 hb⟩)
 have hcap := hv.cap.2
 clear hv hd hrg hu
 by_cases hce : cap = i + 1
 ·subst hce
  go_enter Tryz.func126, Tryz.ntmps126
  go_upto_region 1 with fail
  go_region_with (go_at_call 148; refine (HC.out _ (by simp) _ _ (by omega) (by omega) _).mono ?_; rintro e w1 ⟨v, rfl, hr, hb⟩; have HR := Hd hr; have HB := Hd hb; clear hr hb)
  all_goals
   go_wp2_with fail
   go_ret
   exact ⟨_, rfl, HR.out, HB.out⟩
 ·have hce2 : ¬ cap - (i + 1) = 0 := by omega
  have hce3 : ¬ cap ≤ i + 1 := by omega
  go_enter Tryz.func126, Tryz.ntmps126
  go_upto_region 1 with fail
  go_region_with (go_at_call 148; refine (HC.out _ (fun _ => rfl) _ _ (by omega) (by omega) _).mono ?_; rintro e w1 ⟨v, rfl, hr, hb⟩; have HR := Hd hr; have HB := Hd hb; clear hr hb)
  all_goals
   go_wp2_with fail
   go_ret
   exact ⟨_, rfl, HR.out, HB.out⟩
end Go.Proofs.YtlggjgapdpkhiaaGreat
