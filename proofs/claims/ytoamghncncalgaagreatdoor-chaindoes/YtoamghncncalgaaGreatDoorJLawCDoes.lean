/-
  WHATEVER IS APPENDED, SYNCED, CUT, TRIMMED, LOST AND OPENED AGAIN, each call is answered, and all blocks are, byte by byte, as the chapter says (ChainDoes): true for any room, base and acts. Conditions: the acts lie in memory, no slice longer than memory can be, and the handle of errors.As.
-/
import Derived.Test.YtoamghncncalgaaGreatDoorJDocAc
import Derived.Test.YtoamghncncalgaaGreatDoorJChLi
import Derived.Deep.CutBlock
namespace Go.Proofs.YtoamghncncalgaaGreatDoor
open Go.RowKit

theorem backD_any (x n : Int) (w : World) : Calls Tryz.prog 15 #[.int .i64 x, .int .i64 n] w fun e w' => (∃ k : Int, e = .returned (.int .i64 k)) ∧ w' = w := by
  go_enter Tryz.func15, Tryz.ntmps15
  go_wp2
  go_ret
  exact ⟨⟨_, rfl⟩, rfl⟩
theorem sumB_at {ps : List Ap} {p : Ap} (h : p ∈ ps) : p.1.by_.length ≤ sumB ps := by
  unfold sumB
  induction ps with
  | nil => simp at h
  | cons q r ih =>
    simp only [List.map_cons, List.sum_cons]
    rcases List.mem_cons.1 h with e | e
    · rw [e]; omega
    · have := ih e; omega
theorem rg_keepB {W W' : World} {g o : Nat} {cs : List Value} (h : W.rangeAt g o cs) (hk : W'.heap[g]? = W.heap[g]?) : W'.rangeAt g o cs := fun j x hx => (World.cell?_of_block hk).trans (h j x hx)
theorem b6_3 {W : World} {g : Nat} {x0 x1 x2 x3 x4 x5 : Value} (h : B6 W g [x0, x1, x2, x3, x4, x5]) (y0 y1 y2 : Value) : B6 (((W.setCell ⟨g, 0, none⟩ y0).setCell ⟨g, 1, none⟩ y1).setCell ⟨g, 2, none⟩ y2) g [y0, y1, y2, x3, x4, x5] := by
  have h0 : W.cell? ⟨g, 0, none⟩ = some x0 := h.at (i := 0) (by simp)
  have h1 : W.cell? ⟨g, 1, none⟩ = some x1 := h.at (i := 1) (by simp)
  have h2 : W.cell? ⟨g, 2, none⟩ = some x2 := h.at (i := 2) (by simp)
  have h3 : W.cell? ⟨g, 3, none⟩ = some x3 := h.at (i := 3) (by simp)
  have h4 : W.cell? ⟨g, 4, none⟩ = some x4 := h.at (i := 4) (by simp)
  have h5 : W.cell? ⟨g, 5, none⟩ = some x5 := h.at (i := 5) (by simp)
  have so : ∀ (V : World) (i j : Nat) (x : Value), i ≠ j → (V.setCell ⟨g, j, none⟩ x).cell? ⟨g, i, none⟩ = V.cell? ⟨g, i, none⟩ := fun V i j x hij => World.cell?_setCell_other _ _ _ _ (fun e => hij (by cases e; rfl))
  refine ⟨rfl, fun j u hj => ?_, fun i => by simp [h.fz i]⟩
  rw [Nat.zero_add]
  match j, hj with
  | 0, hj => cases hj; rw [so _ 0 2 _ (by omega), so _ 0 1 _ (by omega)]; exact World.cell?_setCell_same _ _ _ h0
  | 1, hj => cases hj; rw [so _ 1 2 _ (by omega)]; exact World.cell?_setCell_same _ _ _ (by rw [so _ 1 0 _ (by omega)]; exact h1)
  | 2, hj => cases hj; exact World.cell?_setCell_same _ _ _ (by rw [so _ 2 1 _ (by omega), so _ 2 0 _ (by omega)]; exact h2)
  | 3, hj => cases hj; rw [so _ 3 2 _ (by omega), so _ 3 1 _ (by omega), so _ 3 0 _ (by omega)]; exact h3
  | 4, hj => cases hj; rw [so _ 4 2 _ (by omega), so _ 4 1 _ (by omega), so _ 4 0 _ (by omega)]; exact h4
  | 5, hj => cases hj; rw [so _ 5 2 _ (by omega), so _ 5 1 _ (by omega), so _ 5 0 _ (by omega)]; exact h5
  | n + 6, hj => simp at hj
section
variable {w W V : World} {c d bS bT rB : Nat} {u : Value} {s t t' : Dst} {base nx sp ny sy : Int} {x y x' y' : Value}
/-- The box takes another store. -/
theorem Cd.doc3 (h : Cd w W c d bS bT rB u s base nx sp t ny sy x y) (hb : Below W.heap.size W V) (hd : Dd V (fun k => Qc c d bS bT rB u k ∨ W.heap.size ≤ k) (.agg #[.int .i64 t'.room, x', y']) t') : Cd w (((V.setCell ⟨rB, 0, none⟩ (.int .i64 t'.room)).setCell ⟨rB, 1, none⟩ x').setCell ⟨rB, 2, none⟩ y') c d bS bT rB u s base nx sp t' ny sy x' y' := by
  have hne : ∀ k, (Own d bS bT u k ∨ k = c) → k ≠ rB := fun k e q => h.no (by rw [← q]; exact e)
  refine ⟨(h.ch.below hb).keepD (fun k e => set3_heap (hne k e) _ _ _), ⟨set3_below (bt h.nc.be hb) h.ge _ _ _, h.nc.ow⟩, b6_3 (h.bx.below hb) _ _ _, ?_, h.no, h.ge⟩
  refine hd.keep (fun k p hk => ?_) (fun _ p hk => set3_heap ?_ _ _ _)
  · exact p.elim id (fun e => ⟨fun q => by have := h.ch.ltD q; omega, fun q => by have := h.bx.lt; omega⟩)
  · exact p.elim (fun e => e.2) (fun e q => by have := h.bx.lt; omega)
/-- It is opened again: another chain over the same store. -/
theorem Cd.opn {c' : Nat} {nx' sp' : Int} (h : Cd w W c d bS bT rB u s base nx sp t ny sy x y) (hb : Below W.heap.size W V) (hc : Chn V c' d bS bT u s base nx' sp') (hge : W.heap.size ≤ c') : Cd w V c' d bS bT rB u s base nx' sp' t ny sy x y := by
  have hlt := h.bx.lt
  refine ⟨hc, ⟨bt h.nc.be hb, fun k e => e.elim (fun e => h.nc.ow k (.inl e)) (fun e => by rw [e]; exact Nat.le_trans h.nc.be.size hge)⟩, h.bx.below hb, h.dd.keep (fun k p hk => ⟨fun e => e.elim (fun e => p.1 (.inl e)) (fun e => by omega), p.2⟩) (fun k _ hk => hb.block k hk), fun e => e.elim (fun e => h.no (.inl e)) (fun e => by omega), h.ge⟩
end
set_option maxRecDepth 100000 in
set_option maxHeartbeats 16000000 in
theorem cdoes_law (room base : Int) (v : Value) (ps : List Ap) (w : World) (hr : 0 ≤ room ∧ room ≤ 255) (hbs : 0 ≤ base ∧ base ≤ 255) (hv : Al w v ps) (hz : ∀ p ∈ ps, p.1.by_.length ≤ 1152921504606846976) (hh : Hnd w) : Calls Tryz.prog 3 #[.int .u8 room, .int .u8 base, v] w fun e w' => e = .returned (.bool true) ∧ Below w.heap.size w w' := by
  have HV := hide hv
  have HZ := hide hz
  have HH := hide hh
  obtain ⟨⟨ao, cap, rfl, hrow⟩, hps⟩ := hv
  have HROW := hide hrow
  have HPS := hide hps
  clear hrow hps hz hh
  go_enter Tryz.func3, Tryz.ntmps3
  by_cases hli : liC ps = true
  · have HLI := hide hli
    have hl40 := (liC_is hli).1
    have HSU := hide (liC_is hli).2.1
    clear hli
    have HNR : Hid (Num room) := hide ⟨by omega, by omega⟩
    have hwr : IntKind.i64.wrap room = room := by rw [IntKind.wrap_i64]; omega
    have hwb : IntKind.i64.wrap base = base := by rw [IntKind.wrap_i64]; omega
    go_upto_region 7 with (first | (go_at_call 5; refine (lightC_any _ ps _ HV.out HZ.out).mono ?_; rintro e w9 ⟨rfl, hw9⟩; rw [hw9, HLI.out]; clear hw9 w9) | (go_at_call 7; refine (q_new2 room w _ HNR.out (Below.refl _ _)).mono ?_; rintro e w1 ⟨d, bS, bT, rfl, hq1, hn1, _⟩; have HQ1 := hide hq1; have HB1 := hide hn1; clear hq1 hn1))
    clear HZ
    have HOP0 : Hid (Opn (Dst.tk ⟨room, [], []⟩) base 0 [] base 0) := hide (.stop (by unfold recS vw; split <;> rfl))
    go_upto_region 8 with (first | (go_at_call 8; refine (open_ok base base _ HQ1.out hbs.1 (Int.le_refl _) (by omega) (by simp [Dst.wt])).mono ?_; rintro e w2 ⟨c, vl, qs, ca, last, rfl, hch, _, _, hop, _, _, hcw, hb2⟩; obtain ⟨hd1, rfl, rfl⟩ := HOP0.out.det hop; have HC2 := hide hch; have HN2 : Hid (Nc w w2 c d bS bT (.slice none 0 0)) := hide ⟨(HB1.out.call hb2).be, fun k hk => hk.elim (fun e => HB1.out.ow k e) (fun e => by rw [e]; exact Nat.le_trans HB1.out.be.size hcw)⟩; clear hch hop hcw hb2 hd1))
    clear HQ1 HB1
    have HD2 : Hid (Dd w2 (fun _ => False) (.agg #[.int .i64 room, .slice none 0 0, .slice none 0 0]) ⟨room, [], []⟩) := hide ⟨_, _, [], [], rfl, ⟨⟨_, _, rfl⟩, (fun h => by simp at h), (fun q hq => by simp at hq)⟩, ⟨⟨_, _, rfl⟩, (fun h => by simp at h), (fun q hq => by simp at hq)⟩, rfl, rfl⟩
    have HOK0 : Hid (Dst.Ok ⟨room, [], []⟩) := hide ⟨asc_nil, fun p hp => by simp at hp, fun p hp => by simp at hp⟩
    go_upto_region 9 with (first | (go_at_call 9; refine (ropen_any none none 0 0 0 0 ⟨room, [], []⟩ base base _ HD2.out HOK0.out (by simp) hbs.1 (Int.le_refl _) (by omega)).mono ?_; rintro e w3 ⟨vr, qr, ra, rl, rfl, hlr, hop, hb3⟩; obtain ⟨hd9, rfl, rfl⟩ := HOP0.out.det hop; clear hd9; obtain ⟨la4, lk4, rfl⟩ := hlr.form; have HC3 := hide (HC2.out.below hb3); have HN3 := hide (HN2.out.call hb3); clear hlr hop hb3))
    clear HC2 HN2 HD2
    have hsp0 : max (0 : Int) (hiS base []) + 1 = 1 := by show max (0 : Int) 0 + 1 = 1; decide
    change Hid (Chn w3 c d bS bT (.slice none 0 0) ⟨room, [], []⟩ base base (max 0 (hiS base []) + 1)) at HC3
    rw [hsp0] at HC3
    rw [hsp0]
    clear hsp0
    have hal : Below w3.heap.size w3 (w3.alloc (.cells #[.int .i64 room, .slice none 0 0, .slice none 0 0, .int .i64 base, .int .i64 base, .int .i64 1] 39)) := (Below.refl _ _).alloc (Nat.le_refl _) _
    have HCD : Hid (Cd w (w3.alloc (.cells #[.int .i64 room, .slice none 0 0, .slice none 0 0, .int .i64 base, .int .i64 base, .int .i64 1] 39)) c d bS bT w3.heap.size (.slice none 0 0) ⟨room, [], []⟩ base base 1 ⟨room, [], []⟩ base 1 (.slice none 0 0) (.slice none 0 0)) := hide ⟨HC3.out.below hal, HN3.out.call hal, B6.new w3 _ _ _ _ _ _ _, ⟨_, _, [], [], rfl, ⟨⟨_, _, rfl⟩, (fun h => by simp at h), (fun q hq => by simp at hq)⟩, ⟨⟨_, _, rfl⟩, (fun h => by simp at h), (fun q hq => by simp at hq)⟩, rfl, rfl⟩, fun e => by have := HC3.out.ltD e; omega, HN3.out.be.size⟩
    have HBN : Hid (Bn 0 base room ⟨room, [], []⟩ base base 1) := hide ⟨HOK0.out, ⟨fun p hp => by simp at hp, fun p hp => by simp at hp⟩, ⟨hbs.1, by simp; omega⟩, ⟨Int.le_refl _, by simp; omega⟩, by simp [Dst.wt]; exact hbs.1, ⟨by decide, by decide⟩, rfl, hbs, by decide⟩
    clear hal HC3 HN3 HOP0 HOK0
    generalize w3.alloc (.cells #[.int .i64 room, .slice none 0 0, .slice none 0 0, .int .i64 base, .int .i64 base, .int .i64 1] 39) = V0 at HCD ⊢
    generalize w3.heap.size = rB at HCD ⊢
    go_upto_region 12 with fail
    go_loopw [9, 10, 16] (fun fv cv i W => ∃ (k c : Nat) (u : Value) (s : Dst) (frm nx sp : Int) (b1 b2 : Option Addr) (m1 j1 m2 j2 : Nat), k ≤ ps.length ∧ i = .int .i64 k ∧ fv = .int .i64 frm ∧ cv = .pointer (some ⟨c, 0, none⟩) ∧ Cd w W c d bS bT rB u s base nx sp s nx sp (.slice b1 m1 j1) (.slice b2 m2 j2) ∧ Bn k base room s frm nx sp) (fun _ _ i _ => ps.length - (iv i).toNat)
    case atStart => exact ⟨0, c, _, _, _, _, _, none, none, 0, 0, 0, 0, Nat.zero_le _, rfl, rfl, rfl, HCD.out, HBN.out⟩
    case round =>
      clear HCD HBN
      obtain ⟨k, c, u, s, frm, nx, sp, b1, b2, m1, j1, m2, j2, hk, rfl, rfl, rfl, hcd, hbn⟩ := hrel
      have HC := hide hcd
      have HB := hide hbn
      clear hcd hbn
      by_cases hlt : k < ps.length
      · have hk40 : k < 40 := by omega
        obtain ⟨rb, ro, rfl, hrg⟩ := HROW.out (by omega)
        have hbl := sumB_at (List.getElem_mem hlt)
        have HRG := hide (Al.at hrg hlt)
        have HAP := hide (HPS.out _ (List.getElem_mem hlt))
        clear hrg
        generalize ps[k] = p at HRG HAP hbl
        obtain ⟨⟨kd, bk, by_, ks, cut⟩, vb, vk⟩ := p
        simp only at hbl
        obtain ⟨ab, cb, hvb⟩ := HAP.out.1.form
        obtain ⟨ak, ck, hvk⟩ := HAP.out.2.2.form
        simp only at hvb hvk
        subst hvb hvk
        have HSL : Hid (Sl bc w (.slice ab by_.length cb) by_) := hide HAP.out.1
        have HBY : Hid (Byt by_) := hide HAP.out.2.1
        have HSK : Hid (Sl ic w (.slice ak ks.length ck) ks) := hide HAP.out.2.2
        have HBL : Hid (by_.length ≤ 3000) := hide (by have := HSU.out; omega)
        have HLT : Hid (rb < w.heap.size) := hide (cell_block (HRG.out 0 _ rfl))
        have HCE : Hid (∀ W, Below w.heap.size w W → W.rangeAt rb (ro + k * 5) [.int .i64 kd, .int .i64 bk, .slice ab by_.length cb, .slice ak ks.length ck, .int .i64 cut]) := hide (fun W h => range_belW HRG.out h)
        clear HRG HAP hbl
        have e0 : wr.cell? ⟨rb, ro + k * 5, none⟩ = some (.int .i64 kd) := by have := HCE.out _ HC.out.nc.be 0 _ rfl; rwa [Nat.add_zero] at this
        have hltI : (k : Int) < (ps.length : Int) := by omega
        skip
        go_upto_block 2 with fail
        go_cut [9, 10] (fun fv cv W => ∃ (c : Nat) (u : Value) (s : Dst) (frm nx sp : Int) (b1 b2 : Option Addr) (m1 j1 m2 j2 : Nat), fv = .int .i64 frm ∧ cv = .pointer (some ⟨c, 0, none⟩) ∧ Cd w W c d bS bT rB u s base nx sp s nx sp (.slice b1 m1 j1) (.slice b2 m2 j2) ∧ Bn (k + 1) base room s frm nx sp)
        case first =>
          rcases (show kd = 0 ∨ kd = 1 ∨ kd = 2 ∨ kd = 3 ∨ kd = 4 ∨ kd = 5 ∨ (kd ≠ 0 ∧ kd ≠ 1 ∧ kd ≠ 2 ∧ kd ≠ 3 ∧ kd ≠ 4 ∧ kd ≠ 5) by omega) with hkd | hkd | hkd | hkd | hkd | hkd | hkd
          · as_aux_lemma =>
              subst hkd
              obtain ⟨at_, code, t, ny, sy, hbt, hpa, hpb⟩ := act_app (c := c) (d := d) (bS := bS) (bT := bT) HB.out hk40 by_ HBL.out HBY.out
              have HBX := hide hbt
              have HPA := hide hpa
              have HPB := hide hpb
              clear hbt hpa hpb
              have e2 : wr.cell? ⟨rb, ro + k * 5 + 2, none⟩ = some (.slice ab by_.length cb) := HCE.out _ HC.out.nc.be 2 _ rfl
              go_upto_region 17 with (first | (go_at_call 10; refine (HPA.out _ _ _ _ HC.out.ch (fun W' u' hx => HSL.out.below (HC.out.nc.dx hx).be)).mono ?_; rintro e W2 ⟨u2, er, rfl, hc2, hx2, hof⟩; have HC2 := hide (HC.out.prog hc2 hx2); have HOF := hide hof; clear hc2 hx2 hof))
              clear e0 e2 HC HPA
              obtain ⟨ee, hee⟩ : ∃ ee, ev er = ee := ⟨_, rfl⟩
              have HEE := hide hee
              rw [hee]
              clear hee
              go_cut [19, 20, 21] (fun p av cv W => ∃ (g : Nat) (c1 c2 : Option Addr) (o1 q1 o2 q2 : Nat), p = .pointer (some ⟨g, 0, none⟩) ∧ av = .int .i64 at_ ∧ cv = .int .i64 code ∧ Cd w W c d bS bT rB u2 t base ny sy s nx sp (.slice b1 m1 j1) (.slice b2 m2 j2) ∧ B6 W g [.int .i64 t.room, .slice c1 o1 q1, .slice c2 o2 q2, .int .i64 base, .int .i64 ny, .int .i64 sy] ∧ Dd W (fun k => Qc c d bS bT rB u2 k) (.agg #[.int .i64 t.room, .slice c1 o1 q1, .slice c2 o2 q2]) t ∧ g ≠ rB)
              case first =>
                have hdw : Below W2.heap.size W2 W2.drew := (Below.refl _ _).drew
                refine wp_region_held_drew (S := fun W => B6 W rB [.int .i64 s.room, .slice b1 m1 j1, .slice b2 m2 j2, .int .i64 base, .int .i64 nx, .int .i64 sp] ∧ W.rangeAt rb (ro + k * 5) [.int .i64 0, .int .i64 bk, .slice ab by_.length cb, .slice ak ks.length ck, .int .i64 cut]) (by kernel_rfl) ⟨HC2.out.bx.below hdw, HCE.out _ (HC2.out.nc.call hdw).be⟩ (fun hHeld => ?_)
                have HC3 := hide (HC2.out.below hdw)
                generalize W2.drew = V1 at HC3 hHeld ⊢
                clear hdw HC2
                refine wpAnyH_take (i := 0) (oi := _) (v := .agg #[.int .i64 s.room, .slice b1 m1 j1, .slice b2 m2 j2, .int .i64 base, .int .i64 nx, .int .i64 sp]) rfl (by kernel_rfl) (by kernel_rfl) (by kernel_rfl) (fun _ _ _ h => h) (Or.inl ⟨by rfl, by intro w hSw; have h0 := hSw.1.at (i := 0) (by simp); have h1 := hSw.1.at (i := 1) (by simp); have h2 := hSw.1.at (i := 2) (by simp); have h3 := hSw.1.at (i := 3) (by simp); have h4 := hSw.1.at (i := 4) (by simp); have h5 := hSw.1.at (i := 5) (by simp); simp only [List.getElem_cons_zero, List.getElem_cons_succ] at h0 h1 h2 h3 h4 h5; go_simp⟩) hHeld ?_
                change wpAnyH _ _ _ _ _ _ _ (Act.put _ (some 104) _) _
                simp only [Act.put, List.setIfInBounds_toArray, List.set_cons_zero, List.set_cons_succ]
                refine wpAnyH_take (i := 1) (oi := _) (v := .slice (some ⟨rb, ro, none⟩) ps.length cap) rfl (by kernel_rfl) (by kernel_rfl) (by kernel_rfl) (fun _ _ _ h => h) (Or.inl ⟨by rfl, by intro w hSw; go_simp⟩) hHeld ?_
                change wpAnyH _ _ _ _ _ _ _ (Act.put _ (some 105) _) _
                simp only [Act.put, List.setIfInBounds_toArray, List.set_cons_zero, List.set_cons_succ]
                refine wpAnyH_take (i := 2) (oi := _) (v := .int .i64 (k : Int)) rfl (by kernel_rfl) (by kernel_rfl) (by kernel_rfl) (fun _ _ _ h => h) (Or.inl ⟨by rfl, by intro w hSw; go_simp⟩) hHeld ?_
                change wpAnyH _ _ _ _ _ _ _ (Act.put _ (some 106) _) _
                simp only [Act.put, List.setIfInBounds_toArray, List.set_cons_zero, List.set_cons_succ]
                refine wpAnyH_take (i := 3) (oi := _) (v := .pointer (some ⟨rb, ro + k * 5, none⟩)) rfl (by kernel_rfl) (by kernel_rfl) (by kernel_rfl) (fun _ _ _ h => h) (Or.inl ⟨by rfl, by intro w hSw; go_simp⟩) hHeld ?_
                change wpAnyH _ _ _ _ _ _ _ (Act.put _ (some 107) _) _
                simp only [Act.put, List.setIfInBounds_toArray, List.set_cons_zero, List.set_cons_succ]
                refine wpAnyH_take (i := 4) (oi := _) (v := .pointer (some ⟨rb, ro + k * 5 + 2, none⟩)) rfl (by kernel_rfl) (by kernel_rfl) (by kernel_rfl) (fun _ _ _ h => h) (Or.inl ⟨by rfl, by intro w hSw; go_simp⟩) hHeld ?_
                change wpAnyH _ _ _ _ _ _ _ (Act.put _ (some 108) _) _
                simp only [Act.put, List.setIfInBounds_toArray, List.set_cons_zero, List.set_cons_succ]
                refine wpAnyH_take (i := 5) (oi := _) (v := .slice ab by_.length cb) rfl (by kernel_rfl) (by kernel_rfl) (by kernel_rfl) (fun _ _ _ h => h) (Or.inl ⟨by rfl, by intro w hSw; have h1 := hSw.2 2 _ rfl; go_simp⟩) hHeld ?_
                change wpAnyH _ _ _ _ _ _ _ (Act.put _ (some 109) _) _
                simp only [Act.put, List.setIfInBounds_toArray, List.set_cons_zero, List.set_cons_succ]
                refine wpAnyH_ready (rs := [6, 11]) (by kernel_rfl) (by simp) ?_
                refine AllReadyH.cons (o := _) rfl (fun K hK => ?_) (AllReadyH.cons (o := _) rfl (fun K hK => ?_) AllReadyH.nil)
                · go_simp
                  go_at_call 11
                  refine (HPB.out _ _ _ _ _ _ _ _ _ _ HC3.out.dd (HSL.out.below HC3.out.nc.be)).mono ?_
                  rintro e V4 ⟨v4, rfl, hdc, hb4, _⟩
                  obtain ⟨c1, c2, o1, q1, o2, q2, rfl, hd4⟩ := hdc
                  go_wp2_with fail
                  refine hK.out _ _ ⟨hHeld.1.below hb4, range_belW hHeld.2 hb4⟩ (fun hHeld1 => ?_)
                  clear hK K hHeld
                  have hHeld := hHeld1
                  clear hHeld1
                  refine wpAnyH_take (i := 7) (oi := _) (v := .tuple #[.agg #[.int .i64 t.room, .slice c1 o1 q1, .slice c2 o2 q2, .int .i64 base, .int .i64 ny, .int .i64 sy], .int .i64 at_, .int .i64 code]) rfl (by kernel_rfl) (by kernel_rfl) (by kernel_rfl) (fun _ _ _ h => h) (Or.inl ⟨by rfl, by intro w hSw; go_simp⟩) hHeld ?_
                  change wpAnyH _ _ _ _ _ _ _ (Act.put _ (some 103) _) _
                  simp only [Act.put, List.setIfInBounds_toArray, List.set_cons_zero, List.set_cons_succ]
                  refine wpAnyH_take (i := 8) (oi := _) (v := .agg #[.int .i64 t.room, .slice c1 o1 q1, .slice c2 o2 q2, .int .i64 base, .int .i64 ny, .int .i64 sy]) rfl (by kernel_rfl) (by kernel_rfl) (by kernel_rfl) (fun _ _ _ h => h) (Or.inl ⟨by rfl, by intro w hSw; go_simp⟩) hHeld ?_
                  change wpAnyH _ _ _ _ _ _ _ (Act.put _ (some 111) _) _
                  simp only [Act.put, List.setIfInBounds_toArray, List.set_cons_zero, List.set_cons_succ]
                  refine wpAnyH_take (i := 9) (oi := _) (v := .int .i64 at_) rfl (by kernel_rfl) (by kernel_rfl) (by kernel_rfl) (fun _ _ _ h => h) (Or.inl ⟨by rfl, by intro w hSw; go_simp⟩) hHeld ?_
                  change wpAnyH _ _ _ _ _ _ _ (Act.put _ (some 112) _) _
                  simp only [Act.put, List.setIfInBounds_toArray, List.set_cons_zero, List.set_cons_succ]
                  refine wpAnyH_take (i := 10) (oi := _) (v := .int .i64 code) rfl (by kernel_rfl) (by kernel_rfl) (by kernel_rfl) (fun _ _ _ h => h) (Or.inl ⟨by rfl, by intro w hSw; go_simp⟩) hHeld ?_
                  change wpAnyH _ _ _ _ _ _ _ (Act.put _ (some 113) _) _
                  simp only [Act.put, List.setIfInBounds_toArray, List.set_cons_zero, List.set_cons_succ]
                  refine wpAnyH_ready (rs := [11]) (by kernel_rfl) (by simp) ?_
                  refine AllReadyH.cons (o := _) rfl (fun K hK => ?_) AllReadyH.nil
                  go_simp
                  refine hK.out _ _ ⟨hHeld.1.below (al_d _ _), range_belW hHeld.2 (al_d _ _)⟩ (fun hHeld1 => ?_)
                  clear hK K hHeld
                  have hHeld := hHeld1
                  clear hHeld1
                  have hal := al_d V4 (.cells #[.int .i64 0, .slice none 0 0, .slice none 0 0, .int .i64 0, .int .i64 0, .int .i64 0] 39)
                  have HX := hide ((HC3.out.below hb4).below hal)
                  have HG := hide (B6.new V4 (.int .i64 0) (.slice none 0 0) (.slice none 0 0) (.int .i64 0) (.int .i64 0) (.int .i64 0) 39)
                  have HGR : Hid (V4.heap.size ≠ rB ∧ ¬ (Own d bS bT u2 V4.heap.size ∨ V4.heap.size = c) ∧ w.heap.size ≤ V4.heap.size) := hide ⟨fun e => by have h1 := HC3.out.bx.lt; have h2 := hb4.size; omega, fun e => by have h1 := HC3.out.ch.ltD e; have h2 := hb4.size; omega, (HC3.out.nc.call hb4).be.size⟩
                  have HDn : Hid (Dd (V4.alloc (.cells #[.int .i64 0, .slice none 0 0, .slice none 0 0, .int .i64 0, .int .i64 0, .int .i64 0] 39)) (fun k => Qc c d bS bT rB u2 k ∧ k ≠ V4.heap.size) (.agg #[.int .i64 t.room, .slice c1 o1 q1, .slice c2 o2 q2]) t) := hide (hd4.keep (fun k p hk => ⟨p.elim id (fun e => ⟨fun q => by have := HC3.out.ch.ltD q; omega, fun q => by have := HC3.out.bx.lt; omega⟩), by omega⟩) (fun k _ hk => hal.block k hk))
                  have HDo : Hid (Dd (V4.alloc (.cells #[.int .i64 0, .slice none 0 0, .slice none 0 0, .int .i64 0, .int .i64 0, .int .i64 0] 39)) (fun k => Qc c d bS bT rB u2 k ∧ k ≠ V4.heap.size) (.agg #[.int .i64 s.room, .slice b1 m1 j1, .slice b2 m2 j2]) s) := hide ((HC3.out.dd.below hb4).keep (fun k p hk => ⟨p, by omega⟩) (fun k _ hk => hal.block k hk))
                  clear hal
                  generalize V4.alloc (.cells #[.int .i64 0, .slice none 0 0, .slice none 0 0, .int .i64 0, .int .i64 0, .int .i64 0] 39) = V9 at HX HG HDn HDo hHeld ⊢
                  generalize V4.heap.size = g at HG HGR HDn HDo ⊢
                  refine wpAnyH_ready (rs := [12]) (by kernel_rfl) (by simp) ?_
                  refine AllReadyH.cons (o := _) rfl (fun K hK => ?_) AllReadyH.nil
                  have z0 := HG.out.at (i := 0) (by simp)
                  have z1 := HG.out.at (i := 1) (by simp)
                  have z2 := HG.out.at (i := 2) (by simp)
                  have z3 := HG.out.at (i := 3) (by simp)
                  have z4 := HG.out.at (i := 4) (by simp)
                  have z5 := HG.out.at (i := 5) (by simp)
                  simp only [List.getElem_cons_zero, List.getElem_cons_succ] at z0 z1 z2 z3 z4 z5
                  have f0 := HG.out.fz 0
                  have f1 := HG.out.fz 1
                  have f2 := HG.out.fz 2
                  have f3 := HG.out.fz 3
                  have f4 := HG.out.fz 4
                  have f5 := HG.out.fz 5
                  have HK : Hid (∀ k, k ≠ g → (s6 V9 g (.int .i64 t.room) (.slice c1 o1 q1) (.slice c2 o2 q2) (.int .i64 base) (.int .i64 ny) (.int .i64 sy)).heap[k]? = V9.heap[k]?) := hide (fun k hk => s6_heap hk _ _ _ _ _ _)
                  have HPT := hide (HG.out.put (.int .i64 t.room) (.slice c1 o1 q1) (.slice c2 o2 q2) (.int .i64 base) (.int .i64 ny) (.int .i64 sy))
                  have HCN : Hid (Cd w (s6 V9 g (.int .i64 t.room) (.slice c1 o1 q1) (.slice c2 o2 q2) (.int .i64 base) (.int .i64 ny) (.int .i64 sy)) c d bS bT rB u2 t base ny sy s nx sp (.slice b1 m1 j1) (.slice b2 m2 j2)) := hide ⟨HX.out.ch.keepD (fun k e => HK.out k (fun q => HGR.out.2.1 (by rw [← q]; exact e))), ⟨s6_below HX.out.nc.be HGR.out.2.2 _ _ _ _ _ _, HX.out.nc.ow⟩, HX.out.bx.keepB (HK.out rB (fun q => HGR.out.1 q.symm)), HDo.out.keep (fun k p _ => p.1) (fun k p _ => HK.out k p.2), HX.out.no, HX.out.ge⟩
                  have HDN : Hid (Dd (s6 V9 g (.int .i64 t.room) (.slice c1 o1 q1) (.slice c2 o2 q2) (.int .i64 base) (.int .i64 ny) (.int .i64 sy)) (fun k => Qc c d bS bT rB u2 k) (.agg #[.int .i64 t.room, .slice c1 o1 q1, .slice c2 o2 q2]) t) := hide (HDn.out.keep (fun k p _ => p.1) (fun k p _ => HK.out k p.2))
                  go_simp
                  clear z0 z1 z2 z3 z4 z5 f0 f1 f2 f3 f4 f5
                  refine hK.out _ _ ⟨hHeld.1.keepB (HK.out rB (fun q => HGR.out.1 q.symm)), rg_keepB hHeld.2 (HK.out rb (by have h1 := HLT.out; have h2 := HGR.out.2.2; omega))⟩ (fun hHeld1 => ?_)
                  clear hK K hHeld
                  have hHeld := hHeld1
                  clear hHeld1
                  refine wpAnyH_take (i := 13) (oi := _) (v := .int .i64 at_) rfl (by kernel_rfl) (by kernel_rfl) (by kernel_rfl) (fun _ _ _ h => h) (Or.inl ⟨by rfl, by intro w hSw; go_simp⟩) hHeld ?_
                  change wpAnyH _ _ _ _ _ _ _ (Act.put _ (some 20) _) _
                  simp only [Act.put, List.setIfInBounds_toArray, List.set_cons_zero, List.set_cons_succ]
                  refine wpAnyH_take (i := 14) (oi := _) (v := .int .i64 code) rfl (by kernel_rfl) (by kernel_rfl) (by kernel_rfl) (fun _ _ _ h => h) (Or.inl ⟨by rfl, by intro w hSw; go_simp⟩) hHeld ?_
                  change wpAnyH _ _ _ _ _ _ _ (Act.put _ (some 21) _) _
                  simp only [Act.put, List.setIfInBounds_toArray, List.set_cons_zero, List.set_cons_succ]
                  refine wpAnyH_done (by kernel_rfl) ?_ _
                  clear hHeld
                  go_wp2_with fail
                  go_meet
                  exact ⟨g, c1, c2, o1, q1, o2, q2, rfl, rfl, rfl, HCN.out, HPT.out, HDN.out, HGR.out.1⟩
                · go_simp
                  refine hK.out _ _ ⟨hHeld.1.below (al_d _ _), range_belW hHeld.2 (al_d _ _)⟩ (fun hHeld1 => ?_)
                  clear hK K hHeld
                  have hHeld := hHeld1
                  clear hHeld1
                  have hal := al_d V1 (.cells #[.int .i64 0, .slice none 0 0, .slice none 0 0, .int .i64 0, .int .i64 0, .int .i64 0] 39)
                  have HC5 := hide (HC3.out.below hal)
                  have HG5 := hide (B6.new V1 (.int .i64 0) (.slice none 0 0) (.slice none 0 0) (.int .i64 0) (.int .i64 0) (.int .i64 0) 39)
                  have HGR : Hid (V1.heap.size ≠ rB ∧ ¬ (Own d bS bT u2 V1.heap.size ∨ V1.heap.size = c) ∧ w.heap.size ≤ V1.heap.size) := hide ⟨fun e => by have h1 := HC3.out.bx.lt; omega, fun e => by have h1 := HC3.out.ch.ltD e; omega, HC3.out.nc.be.size⟩
                  have HD5 : Hid (Dd (V1.alloc (.cells #[.int .i64 0, .slice none 0 0, .slice none 0 0, .int .i64 0, .int .i64 0, .int .i64 0] 39)) (fun k => Qc c d bS bT rB u2 k ∧ k ≠ V1.heap.size) (.agg #[.int .i64 s.room, .slice b1 m1 j1, .slice b2 m2 j2]) s) := hide (HC3.out.dd.keep (fun k p hk => ⟨p, by omega⟩) (fun k _ hk => hal.block k hk))
                  clear hal
                  generalize V1.alloc (.cells #[.int .i64 0, .slice none 0 0, .slice none 0 0, .int .i64 0, .int .i64 0, .int .i64 0] 39) = V5 at HC5 HG5 HD5 hHeld ⊢
                  generalize V1.heap.size = g at HG5 HGR HD5 ⊢
                  refine wpAnyH_ready (rs := [6]) (by kernel_rfl) (by simp) ?_
                  refine AllReadyH.cons (o := _) rfl (fun K hK => ?_) AllReadyH.nil
                  go_simp
                  go_at_call 11
                  refine (HPB.out _ _ _ _ _ _ _ _ _ _ HD5.out (HSL.out.below HC5.out.nc.be)).mono ?_
                  rintro e V9 ⟨v9, rfl, hdc, hb9, _⟩
                  obtain ⟨c1, c2, o1, q1, o2, q2, rfl, hd9⟩ := hdc
                  go_wp2_with fail
                  refine hK.out _ _ ⟨hHeld.1.below hb9, range_belW hHeld.2 hb9⟩ (fun hHeld1 => ?_)
                  clear hK K hHeld
                  have hHeld := hHeld1
                  clear hHeld1
                  refine wpAnyH_take (i := 7) (oi := _) (v := .tuple #[.agg #[.int .i64 t.room, .slice c1 o1 q1, .slice c2 o2 q2, .int .i64 base, .int .i64 ny, .int .i64 sy], .int .i64 at_, .int .i64 code]) rfl (by kernel_rfl) (by kernel_rfl) (by kernel_rfl) (fun _ _ _ h => h) (Or.inl ⟨by rfl, by intro w hSw; go_simp⟩) hHeld ?_
                  change wpAnyH _ _ _ _ _ _ _ (Act.put _ (some 103) _) _
                  simp only [Act.put, List.setIfInBounds_toArray, List.set_cons_zero, List.set_cons_succ]
                  refine wpAnyH_take (i := 8) (oi := _) (v := .agg #[.int .i64 t.room, .slice c1 o1 q1, .slice c2 o2 q2, .int .i64 base, .int .i64 ny, .int .i64 sy]) rfl (by kernel_rfl) (by kernel_rfl) (by kernel_rfl) (fun _ _ _ h => h) (Or.inl ⟨by rfl, by intro w hSw; go_simp⟩) hHeld ?_
                  change wpAnyH _ _ _ _ _ _ _ (Act.put _ (some 111) _) _
                  simp only [Act.put, List.setIfInBounds_toArray, List.set_cons_zero, List.set_cons_succ]
                  refine wpAnyH_take (i := 9) (oi := _) (v := .int .i64 at_) rfl (by kernel_rfl) (by kernel_rfl) (by kernel_rfl) (fun _ _ _ h => h) (Or.inl ⟨by rfl, by intro w hSw; go_simp⟩) hHeld ?_
                  change wpAnyH _ _ _ _ _ _ _ (Act.put _ (some 112) _) _
                  simp only [Act.put, List.setIfInBounds_toArray, List.set_cons_zero, List.set_cons_succ]
                  refine wpAnyH_take (i := 10) (oi := _) (v := .int .i64 code) rfl (by kernel_rfl) (by kernel_rfl) (by kernel_rfl) (fun _ _ _ h => h) (Or.inl ⟨by rfl, by intro w hSw; go_simp⟩) hHeld ?_
                  change wpAnyH _ _ _ _ _ _ _ (Act.put _ (some 113) _) _
                  simp only [Act.put, List.setIfInBounds_toArray, List.set_cons_zero, List.set_cons_succ]
                  have HX := hide (HC5.out.below hb9)
                  have HG := hide (HG5.out.below hb9)
                  have HDn : Hid (Dd V9 (fun k => Qc c d bS bT rB u2 k ∧ k ≠ g) (.agg #[.int .i64 t.room, .slice c1 o1 q1, .slice c2 o2 q2]) t) := hide (hd9.keep (fun k p hk => p.elim id (fun e => ⟨⟨fun q => by have := HC5.out.ch.ltD q; omega, fun q => by have := HC5.out.bx.lt; omega⟩, by have := HG5.out.lt; omega⟩)) (fun _ _ _ => rfl))
                  have HDo := hide (HD5.out.below hb9)
                  refine wpAnyH_ready (rs := [12]) (by kernel_rfl) (by simp) ?_
                  refine AllReadyH.cons (o := _) rfl (fun K hK => ?_) AllReadyH.nil
                  have z0 := HG.out.at (i := 0) (by simp)
                  have z1 := HG.out.at (i := 1) (by simp)
                  have z2 := HG.out.at (i := 2) (by simp)
                  have z3 := HG.out.at (i := 3) (by simp)
                  have z4 := HG.out.at (i := 4) (by simp)
                  have z5 := HG.out.at (i := 5) (by simp)
                  simp only [List.getElem_cons_zero, List.getElem_cons_succ] at z0 z1 z2 z3 z4 z5
                  have f0 := HG.out.fz 0
                  have f1 := HG.out.fz 1
                  have f2 := HG.out.fz 2
                  have f3 := HG.out.fz 3
                  have f4 := HG.out.fz 4
                  have f5 := HG.out.fz 5
                  have HK : Hid (∀ k, k ≠ g → (s6 V9 g (.int .i64 t.room) (.slice c1 o1 q1) (.slice c2 o2 q2) (.int .i64 base) (.int .i64 ny) (.int .i64 sy)).heap[k]? = V9.heap[k]?) := hide (fun k hk => s6_heap hk _ _ _ _ _ _)
                  have HPT := hide (HG.out.put (.int .i64 t.room) (.slice c1 o1 q1) (.slice c2 o2 q2) (.int .i64 base) (.int .i64 ny) (.int .i64 sy))
                  have HCN : Hid (Cd w (s6 V9 g (.int .i64 t.room) (.slice c1 o1 q1) (.slice c2 o2 q2) (.int .i64 base) (.int .i64 ny) (.int .i64 sy)) c d bS bT rB u2 t base ny sy s nx sp (.slice b1 m1 j1) (.slice b2 m2 j2)) := hide ⟨HX.out.ch.keepD (fun k e => HK.out k (fun q => HGR.out.2.1 (by rw [← q]; exact e))), ⟨s6_below HX.out.nc.be HGR.out.2.2 _ _ _ _ _ _, HX.out.nc.ow⟩, HX.out.bx.keepB (HK.out rB (fun q => HGR.out.1 q.symm)), HDo.out.keep (fun k p _ => p.1) (fun k p _ => HK.out k p.2), HX.out.no, HX.out.ge⟩
                  have HDN : Hid (Dd (s6 V9 g (.int .i64 t.room) (.slice c1 o1 q1) (.slice c2 o2 q2) (.int .i64 base) (.int .i64 ny) (.int .i64 sy)) (fun k => Qc c d bS bT rB u2 k) (.agg #[.int .i64 t.room, .slice c1 o1 q1, .slice c2 o2 q2]) t) := hide (HDn.out.keep (fun k p _ => p.1) (fun k p _ => HK.out k p.2))
                  go_simp
                  clear z0 z1 z2 z3 z4 z5 f0 f1 f2 f3 f4 f5
                  refine hK.out _ _ ⟨hHeld.1.keepB (HK.out rB (fun q => HGR.out.1 q.symm)), rg_keepB hHeld.2 (HK.out rb (by have h1 := HLT.out; have h2 := HGR.out.2.2; omega))⟩ (fun hHeld1 => ?_)
                  clear hK K hHeld
                  have hHeld := hHeld1
                  clear hHeld1
                  refine wpAnyH_take (i := 13) (oi := _) (v := .int .i64 at_) rfl (by kernel_rfl) (by kernel_rfl) (by kernel_rfl) (fun _ _ _ h => h) (Or.inl ⟨by rfl, by intro w hSw; go_simp⟩) hHeld ?_
                  change wpAnyH _ _ _ _ _ _ _ (Act.put _ (some 20) _) _
                  simp only [Act.put, List.setIfInBounds_toArray, List.set_cons_zero, List.set_cons_succ]
                  refine wpAnyH_take (i := 14) (oi := _) (v := .int .i64 code) rfl (by kernel_rfl) (by kernel_rfl) (by kernel_rfl) (fun _ _ _ h => h) (Or.inl ⟨by rfl, by intro w hSw; go_simp⟩) hHeld ?_
                  change wpAnyH _ _ _ _ _ _ _ (Act.put _ (some 21) _) _
                  simp only [Act.put, List.setIfInBounds_toArray, List.set_cons_zero, List.set_cons_succ]
                  refine wpAnyH_done (by kernel_rfl) ?_ _
                  clear hHeld
                  go_wp2_with fail
                  go_meet
                  exact ⟨g, c1, c2, o1, q1, o2, q2, rfl, rfl, rfl, HCN.out, HPT.out, HDN.out, HGR.out.1⟩
              case rest =>
                obtain ⟨g, c1, c2, o1, q1, o2, q2, rfl, rfl, rfl, hcd, hg, hd, hgr⟩ := hcut
                have HCW := hide hcd
                have HG := hide hg
                have HNW := hide (hcd.doc (ny' := ny) (sy' := sy) (Below.refl _ _) (hd.keep (fun k p _ => Or.inl p) (fun _ _ _ => rfl)))
                clear hcd hg hd hgr HC2
                have HOFE : Hid (∀ W, Below w.heap.size w W → Calls Tryz.prog 12 #[ee] W fun e w' => e = .returned (.int .i64 code) ∧ Below W.heap.size W w') := hide (fun W h => by have i := of_ev er W (HH.out.below h); rw [HOF.out, HEE.out] at i; exact i)
                have g0 := HG.out.at (i := 0) (by simp)
                have g1 := HG.out.at (i := 1) (by simp)
                have g2 := HG.out.at (i := 2) (by simp)
                have g3 := HG.out.at (i := 3) (by simp)
                have g4 := HG.out.at (i := 4) (by simp)
                have g5 := HG.out.at (i := 5) (by simp)
                simp only [List.getElem_cons_zero, List.getElem_cons_succ] at g0 g1 g2 g3 g4 g5
                have z0 := HCW.out.bx.at (i := 0) (by simp)
                have z1 := HCW.out.bx.at (i := 1) (by simp)
                have z2 := HCW.out.bx.at (i := 2) (by simp)
                have z3 := HCW.out.bx.at (i := 3) (by simp)
                have z4 := HCW.out.bx.at (i := 4) (by simp)
                have z5 := HCW.out.bx.at (i := 5) (by simp)
                simp only [List.getElem_cons_zero, List.getElem_cons_succ] at z0 z1 z2 z3 z4 z5
                have f0 := HCW.out.bx.fz 0
                have f1 := HCW.out.bx.fz 1
                have f2 := HCW.out.bx.fz 2
                have f3 := HCW.out.bx.fz 3
                have f4 := HCW.out.bx.fz 4
                have f5 := HCW.out.bx.fz 5
                go_upto_region 19 with fail
                clear z0 z1 z2 z3 z4 z5 f0 f1 f2 f3 f4 f5 g0 g1 g2 g3 g4 g5 HCW HG
                unfold s6 at HNW
                generalize (((((wc.setCell ⟨rB, 0, none⟩ (.int .i64 t.room)).setCell ⟨rB, 1, none⟩ (.slice c1 o1 q1)).setCell ⟨rB, 2, none⟩ (.slice c2 o2 q2)).setCell ⟨rB, 3, none⟩ (.int .i64 base)).setCell ⟨rB, 4, none⟩ (.int .i64 ny)).setCell ⟨rB, 5, none⟩ (.int .i64 sy) = V8 at HNW ⊢
                have hat : (at_ != at_) = false := by simp
                have hco : (code != code) = false := by simp
                go_wp2_with (first | (go_at_call 12; refine (HOFE.out _ (HNW.out.nc.be)).mono ?_; rintro e Vo ⟨rfl, hbo⟩; have HCX := hide (HNW.out.below hbo); clear hbo; skip))
                clear HNW hat hco
                go_meet
                exact ⟨c, _, _, frm, _, _, _, _, _, _, _, _, rfl, rfl, HCX.out, HBX.out⟩
          · as_aux_lemma =>
              subst hkd
              go_upto_region 23 with (first | (go_at_call 13; refine (syncC_any _ HC.out.ch (by have := HB.out.w; omega)).mono ?_; rintro e W2 ⟨rfl, hc2, hx2⟩; have HC2 := hide (HC.out.prog hc2 (Cx.of hx2)); clear hc2 hx2))
              clear e0 HC
              have x0 := HC2.out.bx.at (i := 0) (by simp)
              have x1 := HC2.out.bx.at (i := 1) (by simp)
              have x2 := HC2.out.bx.at (i := 2) (by simp)
              have x3 := HC2.out.bx.at (i := 3) (by simp)
              have x4 := HC2.out.bx.at (i := 4) (by simp)
              have x5 := HC2.out.bx.at (i := 5) (by simp)
              simp only [List.getElem_cons_zero, List.getElem_cons_succ] at x0 x1 x2 x3 x4 x5
              go_wp2_with (first | (go_at_call 14; refine (rsync9_any _ _ _ _ _ _ s base nx sp _ HC2.out.dd HB.out.ok.asc (by have := HB.out.w; omega)).mono ?_; rintro e W3 ⟨v3, rfl, hdc, hb3⟩; obtain ⟨c1, c2, o1, q1, o2, q2, rfl, hd3⟩ := hdc; have HNW := hide (HC2.out.doc (ny' := nx) (sy' := sp) hb3 hd3); have z0 := (HC2.out.bx.below hb3).at (i := 0) (by simp); have z1 := (HC2.out.bx.below hb3).at (i := 1) (by simp); have z2 := (HC2.out.bx.below hb3).at (i := 2) (by simp); have z3 := (HC2.out.bx.below hb3).at (i := 3) (by simp); have z4 := (HC2.out.bx.below hb3).at (i := 4) (by simp); have z5 := (HC2.out.bx.below hb3).at (i := 5) (by simp); simp only [List.getElem_cons_zero, List.getElem_cons_succ] at z0 z1 z2 z3 z4 z5; have f0 := (HC2.out.bx.below hb3).fz 0; have f1 := (HC2.out.bx.below hb3).fz 1; have f2 := (HC2.out.bx.below hb3).fz 2; have f3 := (HC2.out.bx.below hb3).fz 3; have f4 := (HC2.out.bx.below hb3).fz 4; have f5 := (HC2.out.bx.below hb3).fz 5; clear hd3 hb3))
              clear x0 x1 x2 x3 x4 x5
              clear z0 z1 z2 z3 z4 z5
              clear f0 f1 f2 f3 f4 f5
              unfold s6 at HNW
              generalize (((((W3.setCell ⟨rB, 0, none⟩ (.int .i64 (syS s).room)).setCell ⟨rB, 1, none⟩ (.slice c1 o1 q1)).setCell ⟨rB, 2, none⟩ (.slice c2 o2 q2)).setCell ⟨rB, 3, none⟩ (.int .i64 base)).setCell ⟨rB, 4, none⟩ (.int .i64 nx)).setCell ⟨rB, 5, none⟩ (.int .i64 sp) = V8 at HNW ⊢
              clear HC2
              have HCX := HNW
              clear HNW
              have HBX := hide (HB.out.sync hk40)
              go_meet
              exact ⟨c, _, _, frm, _, _, _, _, _, _, _, _, rfl, rfl, HCX.out, HBX.out⟩
          · as_aux_lemma =>
              subst hkd
              go_upto_region 25 with fail
              clear e0
              have hdw : Below wr.heap.size wr wr.drew := (Below.refl _ _).drew
              refine wp_region_held_drew (S := fun W => W.rangeAt rb (ro + k * 5) [.int .i64 2, .int .i64 bk, .slice ab by_.length cb, .slice ak ks.length ck, .int .i64 cut]) (by kernel_rfl) (HCE.out _ (HC.out.nc.call hdw).be) (fun hHeld => ?_)
              have HC1 := hide (HC.out.below hdw)
              generalize wr.drew = V1 at HC1 hHeld ⊢
              clear hdw HC
              refine wpAnyH_take (i := 0) (oi := _) (v := .pointer (some ⟨c, 0, none⟩)) rfl (by kernel_rfl) (by kernel_rfl) (by kernel_rfl) (fun _ _ _ h => h) (Or.inl ⟨by rfl, by intro w hSw; go_simp⟩) hHeld ?_
              change wpAnyH _ _ _ _ _ _ _ (Act.put _ (some 132) _) _
              simp only [Act.put, List.setIfInBounds_toArray, List.set_cons_zero, List.set_cons_succ]
              refine wpAnyH_take (i := 2) (oi := _) (v := .slice (some ⟨rb, ro, none⟩) ps.length cap) rfl (by kernel_rfl) (by kernel_rfl) (by kernel_rfl) (fun _ _ _ h => h) (Or.inl ⟨by rfl, by intro w hSw; go_simp⟩) hHeld ?_
              change wpAnyH _ _ _ _ _ _ _ (Act.put _ (some 134) _) _
              simp only [Act.put, List.setIfInBounds_toArray, List.set_cons_zero, List.set_cons_succ]
              refine wpAnyH_take (i := 3) (oi := _) (v := .int .i64 (k : Int)) rfl (by kernel_rfl) (by kernel_rfl) (by kernel_rfl) (fun _ _ _ h => h) (Or.inl ⟨by rfl, by intro w hSw; go_simp⟩) hHeld ?_
              change wpAnyH _ _ _ _ _ _ _ (Act.put _ (some 135) _) _
              simp only [Act.put, List.setIfInBounds_toArray, List.set_cons_zero, List.set_cons_succ]
              refine wpAnyH_take (i := 4) (oi := _) (v := .pointer (some ⟨rb, ro + k * 5, none⟩)) rfl (by kernel_rfl) (by kernel_rfl) (by kernel_rfl) (fun _ _ _ h => h) (Or.inl ⟨by rfl, by intro w hSw; go_simp⟩) hHeld ?_
              change wpAnyH _ _ _ _ _ _ _ (Act.put _ (some 136) _) _
              simp only [Act.put, List.setIfInBounds_toArray, List.set_cons_zero, List.set_cons_succ]
              refine wpAnyH_take (i := 5) (oi := _) (v := .pointer (some ⟨rb, ro + k * 5 + 1, none⟩)) rfl (by kernel_rfl) (by kernel_rfl) (by kernel_rfl) (fun _ _ _ h => h) (Or.inl ⟨by rfl, by intro w hSw; go_simp⟩) hHeld ?_
              change wpAnyH _ _ _ _ _ _ _ (Act.put _ (some 137) _) _
              simp only [Act.put, List.setIfInBounds_toArray, List.set_cons_zero, List.set_cons_succ]
              refine wpAnyH_take (i := 6) (oi := _) (v := .int .i64 bk) rfl (by kernel_rfl) (by kernel_rfl) (by kernel_rfl) (fun _ _ _ h => h) (Or.inl ⟨by rfl, by intro w hSw; have h1 := hSw 1 _ rfl; go_simp⟩) hHeld ?_
              change wpAnyH _ _ _ _ _ _ _ (Act.put _ (some 138) _) _
              simp only [Act.put, List.setIfInBounds_toArray, List.set_cons_zero, List.set_cons_succ]
              refine wpAnyH_ready (rs := [1]) (by kernel_rfl) (by simp) ?_
              refine AllReadyH.cons (o := _) rfl (fun K hK => ?_) AllReadyH.nil
              go_simp
              go_at_call 16
              refine (next_any _ HC1.out.ch).mono ?_
              rintro e Wz ⟨rfl, hwz⟩
              rw [hwz]
              clear hwz Wz
              go_wp2_with fail
              refine hK.out _ _ hHeld (fun hHeld1 => ?_)
              clear hK K hHeld
              have hHeld := hHeld1
              clear hHeld1
              refine wpAnyH_ready (rs := [7]) (by kernel_rfl) (by simp) ?_
              refine AllReadyH.cons (o := _) rfl (fun K hK => ?_) AllReadyH.nil
              go_simp
              go_at_call 15
              refine (backD_any nx bk _).mono ?_
              rintro e Wz ⟨⟨a, rfl⟩, hwz⟩
              rw [hwz]
              clear hwz Wz
              go_wp2_with fail
              refine hK.out _ _ hHeld (fun hHeld1 => ?_)
              clear hK K hHeld
              have hHeld := hHeld1
              clear hHeld1
              refine wpAnyH_take (i := 8) (oi := _) (v := .int .i64 a) rfl (by kernel_rfl) (by kernel_rfl) (by kernel_rfl) (fun _ _ _ h => h) (Or.inl ⟨by rfl, by intro w hSw; go_simp⟩) hHeld ?_
              change wpAnyH _ _ _ _ _ _ _ (Act.put _ (some 22) _) _
              simp only [Act.put, List.setIfInBounds_toArray, List.set_cons_zero, List.set_cons_succ]
              refine wpAnyH_done (by kernel_rfl) ?_ _
              clear hHeld
              obtain ⟨code, t, ny, sy, hbt, hpa, hpb⟩ := act_cut (c := c) (d := d) (bS := bS) (bT := bT) HB.out hk40 a
              have HBX := hide hbt
              have HPA := hide hpa
              have HPB := hide hpb
              clear hbt hpa hpb
              have x0 := HC1.out.bx.at (i := 0) (by simp)
              have x1 := HC1.out.bx.at (i := 1) (by simp)
              have x2 := HC1.out.bx.at (i := 2) (by simp)
              have x3 := HC1.out.bx.at (i := 3) (by simp)
              have x4 := HC1.out.bx.at (i := 4) (by simp)
              have x5 := HC1.out.bx.at (i := 5) (by simp)
              simp only [List.getElem_cons_zero, List.getElem_cons_succ] at x0 x1 x2 x3 x4 x5
              go_upto_region 27 with (first | (go_at_call 17; refine (HPB.out _ _ _ _ _ _ _ _ HC1.out.dd).mono ?_; rintro e W3 ⟨v3, rfl, hdc, hb3⟩; obtain ⟨c1, c2, o1, q1, o2, q2, rfl, hd3⟩ := hdc; have HD3 := hide hd3; have HB3 := hide hb3; clear hd3 hb3))
              clear x0 x1 x2 x3 x4 x5
              have hal := al_d W3 (.cells #[.int .i64 t.room, .slice c1 o1 q1, .slice c2 o2 q2, .int .i64 base, .int .i64 ny, .int .i64 sy] 39)
              have HG := hide (B6.new W3 (.int .i64 t.room) (.slice c1 o1 q1) (.slice c2 o2 q2) (.int .i64 base) (.int .i64 ny) (.int .i64 sy) 39)
              have HNW := hide (HC1.out.doc (ny' := ny) (sy' := sy) (bt HB3.out hal) (HD3.out.below hal))
              have HZ6 := hide (HC1.out.bx.below (bt HB3.out hal))
              clear hal HC1 HD3 HB3
              generalize W3.alloc (.cells #[.int .i64 t.room, .slice c1 o1 q1, .slice c2 o2 q2, .int .i64 base, .int .i64 ny, .int .i64 sy] 39) = V4 at HG HNW HZ6 ⊢
              generalize W3.heap.size = g at HG ⊢
              have g0 := HG.out.at (i := 0) (by simp)
              have g1 := HG.out.at (i := 1) (by simp)
              have g2 := HG.out.at (i := 2) (by simp)
              have g3 := HG.out.at (i := 3) (by simp)
              have g4 := HG.out.at (i := 4) (by simp)
              have g5 := HG.out.at (i := 5) (by simp)
              simp only [List.getElem_cons_zero, List.getElem_cons_succ] at g0 g1 g2 g3 g4 g5
              have z0 := HZ6.out.at (i := 0) (by simp)
              have z1 := HZ6.out.at (i := 1) (by simp)
              have z2 := HZ6.out.at (i := 2) (by simp)
              have z3 := HZ6.out.at (i := 3) (by simp)
              have z4 := HZ6.out.at (i := 4) (by simp)
              have z5 := HZ6.out.at (i := 5) (by simp)
              simp only [List.getElem_cons_zero, List.getElem_cons_succ] at z0 z1 z2 z3 z4 z5
              have f0 := HZ6.out.fz 0
              have f1 := HZ6.out.fz 1
              have f2 := HZ6.out.fz 2
              have f3 := HZ6.out.fz 3
              have f4 := HZ6.out.fz 4
              have f5 := HZ6.out.fz 5
              go_upto_region 28 with fail
              clear g0 g1 g2 g3 g4 g5
              clear z0 z1 z2 z3 z4 z5
              clear f0 f1 f2 f3 f4 f5
              clear HG HZ6
              unfold s6 at HNW
              generalize (((((V4.setCell ⟨rB, 0, none⟩ (.int .i64 t.room)).setCell ⟨rB, 1, none⟩ (.slice c1 o1 q1)).setCell ⟨rB, 2, none⟩ (.slice c2 o2 q2)).setCell ⟨rB, 3, none⟩ (.int .i64 base)).setCell ⟨rB, 4, none⟩ (.int .i64 ny)).setCell ⟨rB, 5, none⟩ (.int .i64 sy) = V8 at HNW ⊢
              have hco : (code != code) = false := by simp
              go_wp2_with (first | (go_at_call 18; refine (HPA.out _ _ HNW.out.ch).mono ?_; rintro e W5 ⟨u5, er, rfl, hc5, hx5, hof⟩; have HC9 := hide (HNW.out.prog hc5 hx5); have HOF := hide hof; clear hc5 hx5 hof) | (go_at_call 12; refine (of_ev er _ (HH.out.below HC9.out.nc.be)).mono ?_; rintro e Vo ⟨rfl, hbo⟩; rw [HOF.out]; have HCX := hide (HC9.out.below hbo); clear hbo))
              clear HNW hco
              go_meet
              exact ⟨c, _, _, frm, _, _, _, _, _, _, _, _, rfl, rfl, HCX.out, HBX.out⟩
          · as_aux_lemma =>
              subst hkd
              go_upto_region 31 with fail
              clear e0
              have hdw : Below wr.heap.size wr wr.drew := (Below.refl _ _).drew
              refine wp_region_held_drew (S := fun W => W.rangeAt rb (ro + k * 5) [.int .i64 3, .int .i64 bk, .slice ab by_.length cb, .slice ak ks.length ck, .int .i64 cut]) (by kernel_rfl) (HCE.out _ (HC.out.nc.call hdw).be) (fun hHeld => ?_)
              have HC1 := hide (HC.out.below hdw)
              generalize wr.drew = V1 at HC1 hHeld ⊢
              clear hdw HC
              refine wpAnyH_take (i := 0) (oi := _) (v := .pointer (some ⟨c, 0, none⟩)) rfl (by kernel_rfl) (by kernel_rfl) (by kernel_rfl) (fun _ _ _ h => h) (Or.inl ⟨by rfl, by intro w hSw; go_simp⟩) hHeld ?_
              change wpAnyH _ _ _ _ _ _ _ (Act.put _ (some 155) _) _
              simp only [Act.put, List.setIfInBounds_toArray, List.set_cons_zero, List.set_cons_succ]
              refine wpAnyH_take (i := 2) (oi := _) (v := .slice (some ⟨rb, ro, none⟩) ps.length cap) rfl (by kernel_rfl) (by kernel_rfl) (by kernel_rfl) (fun _ _ _ h => h) (Or.inl ⟨by rfl, by intro w hSw; go_simp⟩) hHeld ?_
              change wpAnyH _ _ _ _ _ _ _ (Act.put _ (some 157) _) _
              simp only [Act.put, List.setIfInBounds_toArray, List.set_cons_zero, List.set_cons_succ]
              refine wpAnyH_take (i := 3) (oi := _) (v := .int .i64 (k : Int)) rfl (by kernel_rfl) (by kernel_rfl) (by kernel_rfl) (fun _ _ _ h => h) (Or.inl ⟨by rfl, by intro w hSw; go_simp⟩) hHeld ?_
              change wpAnyH _ _ _ _ _ _ _ (Act.put _ (some 158) _) _
              simp only [Act.put, List.setIfInBounds_toArray, List.set_cons_zero, List.set_cons_succ]
              refine wpAnyH_take (i := 4) (oi := _) (v := .pointer (some ⟨rb, ro + k * 5, none⟩)) rfl (by kernel_rfl) (by kernel_rfl) (by kernel_rfl) (fun _ _ _ h => h) (Or.inl ⟨by rfl, by intro w hSw; go_simp⟩) hHeld ?_
              change wpAnyH _ _ _ _ _ _ _ (Act.put _ (some 159) _) _
              simp only [Act.put, List.setIfInBounds_toArray, List.set_cons_zero, List.set_cons_succ]
              refine wpAnyH_take (i := 5) (oi := _) (v := .pointer (some ⟨rb, ro + k * 5 + 1, none⟩)) rfl (by kernel_rfl) (by kernel_rfl) (by kernel_rfl) (fun _ _ _ h => h) (Or.inl ⟨by rfl, by intro w hSw; go_simp⟩) hHeld ?_
              change wpAnyH _ _ _ _ _ _ _ (Act.put _ (some 160) _) _
              simp only [Act.put, List.setIfInBounds_toArray, List.set_cons_zero, List.set_cons_succ]
              refine wpAnyH_take (i := 6) (oi := _) (v := .int .i64 bk) rfl (by kernel_rfl) (by kernel_rfl) (by kernel_rfl) (fun _ _ _ h => h) (Or.inl ⟨by rfl, by intro w hSw; have h1 := hSw 1 _ rfl; go_simp⟩) hHeld ?_
              change wpAnyH _ _ _ _ _ _ _ (Act.put _ (some 161) _) _
              simp only [Act.put, List.setIfInBounds_toArray, List.set_cons_zero, List.set_cons_succ]
              refine wpAnyH_ready (rs := [1]) (by kernel_rfl) (by simp) ?_
              refine AllReadyH.cons (o := _) rfl (fun K hK => ?_) AllReadyH.nil
              go_simp
              go_at_call 16
              refine (next_any _ HC1.out.ch).mono ?_
              rintro e Wz ⟨rfl, hwz⟩
              rw [hwz]
              clear hwz Wz
              go_wp2_with fail
              refine hK.out _ _ hHeld (fun hHeld1 => ?_)
              clear hK K hHeld
              have hHeld := hHeld1
              clear hHeld1
              refine wpAnyH_ready (rs := [7]) (by kernel_rfl) (by simp) ?_
              refine AllReadyH.cons (o := _) rfl (fun K hK => ?_) AllReadyH.nil
              go_simp
              go_at_call 15
              refine (backD_any nx bk _).mono ?_
              rintro e Wz ⟨⟨a, rfl⟩, hwz⟩
              rw [hwz]
              clear hwz Wz
              go_wp2_with fail
              refine hK.out _ _ hHeld (fun hHeld1 => ?_)
              clear hK K hHeld
              have hHeld := hHeld1
              clear hHeld1
              refine wpAnyH_take (i := 8) (oi := _) (v := .int .i64 a) rfl (by kernel_rfl) (by kernel_rfl) (by kernel_rfl) (fun _ _ _ h => h) (Or.inl ⟨by rfl, by intro w hSw; go_simp⟩) hHeld ?_
              change wpAnyH _ _ _ _ _ _ _ (Act.put _ (some 25) _) _
              simp only [Act.put, List.setIfInBounds_toArray, List.set_cons_zero, List.set_cons_succ]
              refine wpAnyH_done (by kernel_rfl) ?_ _
              clear hHeld
              obtain ⟨code, t, hbt, hpa, hpb⟩ := act_trim (c := c) (d := d) (bS := bS) (bT := bT) HB.out hk40 a
              have HBX := hide hbt
              have HPA := hide hpa
              have HPB := hide hpb
              clear hbt hpa hpb
              have x0 := HC1.out.bx.at (i := 0) (by simp)
              have x1 := HC1.out.bx.at (i := 1) (by simp)
              have x2 := HC1.out.bx.at (i := 2) (by simp)
              have x3 := HC1.out.bx.at (i := 3) (by simp)
              have x4 := HC1.out.bx.at (i := 4) (by simp)
              have x5 := HC1.out.bx.at (i := 5) (by simp)
              simp only [List.getElem_cons_zero, List.getElem_cons_succ] at x0 x1 x2 x3 x4 x5
              go_upto_region 33 with (first | (go_at_call 19; refine (HPB.out _ _ _ _ _ _ _ _ HC1.out.dd).mono ?_; rintro e W3 ⟨v3, rfl, hdc, hb3⟩; obtain ⟨c1, c2, o1, q1, o2, q2, rfl, hd3⟩ := hdc; have HD3 := hide hd3; have HB3 := hide hb3; clear hd3 hb3))
              clear x0 x1 x2 x3 x4 x5
              have hal := al_d W3 (.cells #[.int .i64 t.room, .slice c1 o1 q1, .slice c2 o2 q2, .int .i64 base, .int .i64 nx, .int .i64 sp] 39)
              have HG := hide (B6.new W3 (.int .i64 t.room) (.slice c1 o1 q1) (.slice c2 o2 q2) (.int .i64 base) (.int .i64 nx) (.int .i64 sp) 39)
              have HNW := hide (HC1.out.doc (ny' := nx) (sy' := sp) (bt HB3.out hal) (HD3.out.below hal))
              have HZ6 := hide (HC1.out.bx.below (bt HB3.out hal))
              clear hal HC1 HD3 HB3
              generalize W3.alloc (.cells #[.int .i64 t.room, .slice c1 o1 q1, .slice c2 o2 q2, .int .i64 base, .int .i64 nx, .int .i64 sp] 39) = V4 at HG HNW HZ6 ⊢
              generalize W3.heap.size = g at HG ⊢
              have g0 := HG.out.at (i := 0) (by simp)
              have g1 := HG.out.at (i := 1) (by simp)
              have g2 := HG.out.at (i := 2) (by simp)
              have g3 := HG.out.at (i := 3) (by simp)
              have g4 := HG.out.at (i := 4) (by simp)
              have g5 := HG.out.at (i := 5) (by simp)
              simp only [List.getElem_cons_zero, List.getElem_cons_succ] at g0 g1 g2 g3 g4 g5
              have z0 := HZ6.out.at (i := 0) (by simp)
              have z1 := HZ6.out.at (i := 1) (by simp)
              have z2 := HZ6.out.at (i := 2) (by simp)
              have z3 := HZ6.out.at (i := 3) (by simp)
              have z4 := HZ6.out.at (i := 4) (by simp)
              have z5 := HZ6.out.at (i := 5) (by simp)
              simp only [List.getElem_cons_zero, List.getElem_cons_succ] at z0 z1 z2 z3 z4 z5
              have f0 := HZ6.out.fz 0
              have f1 := HZ6.out.fz 1
              have f2 := HZ6.out.fz 2
              have f3 := HZ6.out.fz 3
              have f4 := HZ6.out.fz 4
              have f5 := HZ6.out.fz 5
              go_upto_region 34 with fail
              clear g0 g1 g2 g3 g4 g5
              clear z0 z1 z2 z3 z4 z5
              clear f0 f1 f2 f3 f4 f5
              clear HG HZ6
              unfold s6 at HNW
              generalize (((((V4.setCell ⟨rB, 0, none⟩ (.int .i64 t.room)).setCell ⟨rB, 1, none⟩ (.slice c1 o1 q1)).setCell ⟨rB, 2, none⟩ (.slice c2 o2 q2)).setCell ⟨rB, 3, none⟩ (.int .i64 base)).setCell ⟨rB, 4, none⟩ (.int .i64 nx)).setCell ⟨rB, 5, none⟩ (.int .i64 sp) = V8 at HNW ⊢
              have hco : (code != code) = false := by simp
              go_upto_region 36 with (first | (go_at_call 20; refine (HPA.out _ _ HNW.out.ch).mono ?_; rintro e W5 ⟨u5, er, rfl, hc5, hx5, hof⟩; have HC9 := hide (HNW.out.prog hc5 hx5); have HOF := hide hof; clear hc5 hx5 hof) | (go_at_call 12; refine (of_ev er _ (HH.out.below HC9.out.nc.be)).mono ?_; rintro e Vo ⟨rfl, hbo⟩; rw [HOF.out]; have HCX := hide (HC9.out.below hbo); clear hbo))
              clear HNW hco
              by_cases hc0 : code = 0
              · rw [if_pos hc0] at HBX
                have hcb : (code == 0) = true := beq_iff_eq.2 hc0
                clear hc0
                go_wp2_with fail
                go_meet
                exact ⟨c, _, _, a, _, _, _, _, _, _, _, _, rfl, rfl, HCX.out, HBX.out⟩
              · rw [if_neg hc0] at HBX
                have hcb : (code == 0) = false := beq_eq_false_iff_ne.2 hc0
                clear hc0
                go_wp2_with fail
                go_meet
                exact ⟨c, _, _, frm, _, _, _, _, _, _, _, _, rfl, rfl, HCX.out, HBX.out⟩
          · as_aux_lemma =>
              subst hkd
              go_upto_region 44 with (first | (go_at_call 8; refine (open_ok base frm _ HC.out.ch.q hbs.1 HB.out.fr.1 (by have := HB.out.w; omega) (by have := HB.out.w; omega)).mono ?_; rintro e W2 ⟨c9, vl, qs, ca, last, rfl, hch, hlw, _, hop, _, _, hcw, hb2⟩; have HC2 := hide (HC.out.opn hb2 hch hcw); have HOP := hide hop; have hrd := (hop.rd (fun q => vw_blk HB.out.ok.tb q) hlw); have HRD := hide hrd.1; have HQL := hide hrd.2; have HBX := hide (HB.out.open hk40 hop); obtain ⟨la, lk, rfl⟩ := hlw.form; clear hch hlw hop hcw hb2 hrd))
              clear HC
              clear e0
              have x0 := HC2.out.bx.at (i := 0) (by simp)
              have x1 := HC2.out.bx.at (i := 1) (by simp)
              have x2 := HC2.out.bx.at (i := 2) (by simp)
              have x3 := HC2.out.bx.at (i := 3) (by simp)
              have x4 := HC2.out.bx.at (i := 4) (by simp)
              have x5 := HC2.out.bx.at (i := 5) (by simp)
              simp only [List.getElem_cons_zero, List.getElem_cons_succ] at x0 x1 x2 x3 x4 x5
              go_upto_region 45 with (first | (go_at_call 9; refine (ropen_any _ _ _ _ _ _ s base frm _ HC2.out.dd HB.out.ok (by have := HB.out.w; omega) hbs.1 HB.out.fr.1 (by have := HB.out.w; omega)).mono ?_; rintro e W3 ⟨vr, qr, ra, rl, rfl, hlr, hop3, hb3⟩; have hrd3 := (hop3.rd (fun q => vw_blk HB.out.ok.tb q) hlr); have HRD3 := hide hrd3.1; obtain ⟨la4, lk4, rfl⟩ := hlr.form; obtain ⟨hdet1, hdet2, hdet3⟩ := HOP.out.det hop3; have HDET := hide hdet1; have HDT2 := hide hdet2; have HDT3 := hide hdet3; have HC3 := hide (HC2.out.below hb3); have HRA3 := hide (HRD.out.below hb3); clear hlr hop3 hb3 hrd3 hdet1 hdet2 hdet3))
              clear x0 x1 x2 x3 x4 x5
              rw [← HDT2.out, ← HDT3.out]
              clear HDT2 HDT3 HOP HC2 HRD
              generalize max last (hiS base s.cs) + 1 = sp9 at HC3 HBX ⊢
              have hal := al_d W3 (.cells #[.int .i64 s.room, .slice b1 m1 j1, .slice b2 m2 j2, .int .i64 base, .int .i64 ca, .int .i64 sp9] 39)
              have HG := hide (B6.new W3 (.int .i64 s.room) (.slice b1 m1 j1) (.slice b2 m2 j2) (.int .i64 base) (.int .i64 ca) (.int .i64 sp9) 39)
              have HC4 := hide (HC3.out.below hal)
              have HRA4 := hide (HRA3.out.below hal)
              have HRB4 := hide (HRD3.out.below hal)
              clear hal HC3 HRA3 HRD3
              generalize W3.alloc (.cells #[.int .i64 s.room, .slice b1 m1 j1, .slice b2 m2 j2, .int .i64 base, .int .i64 ca, .int .i64 sp9] 39) = V4 at HG HC4 HRA4 HRB4 ⊢
              generalize W3.heap.size = g at HG ⊢
              go_upto_region 48 with (first | (go_at_call 23; refine (lsame_any _ _ qs qr _ HRA4.out HRB4.out HDET.out (by have h1 := HQL.out; have h2 := HB.out.ok.tl; have h3 := HB.out.w; omega)).mono ?_; rintro e V5 ⟨rfl, hb5⟩; have HC5 := hide (HC4.out.below hb5); have HG5 := hide (HG.out.below hb5); clear hb5))
              clear HC4 HG HRA4 HRB4
              have HNW := hide (HC5.out.doc (ny' := ca) (sy' := sp9) (Below.refl _ _) (HC5.out.dd.keep (fun _ p _ => Or.inl p) (fun _ _ _ => rfl)))
              have g0 := HG5.out.at (i := 0) (by simp)
              have g1 := HG5.out.at (i := 1) (by simp)
              have g2 := HG5.out.at (i := 2) (by simp)
              have g3 := HG5.out.at (i := 3) (by simp)
              have g4 := HG5.out.at (i := 4) (by simp)
              have g5 := HG5.out.at (i := 5) (by simp)
              simp only [List.getElem_cons_zero, List.getElem_cons_succ] at g0 g1 g2 g3 g4 g5
              have z0 := HC5.out.bx.at (i := 0) (by simp)
              have z1 := HC5.out.bx.at (i := 1) (by simp)
              have z2 := HC5.out.bx.at (i := 2) (by simp)
              have z3 := HC5.out.bx.at (i := 3) (by simp)
              have z4 := HC5.out.bx.at (i := 4) (by simp)
              have z5 := HC5.out.bx.at (i := 5) (by simp)
              simp only [List.getElem_cons_zero, List.getElem_cons_succ] at z0 z1 z2 z3 z4 z5
              have f0 := HC5.out.bx.fz 0
              have f1 := HC5.out.bx.fz 1
              have f2 := HC5.out.bx.fz 2
              have f3 := HC5.out.bx.fz 3
              have f4 := HC5.out.bx.fz 4
              have f5 := HC5.out.bx.fz 5
              go_wp2_with fail
              clear g0 g1 g2 g3 g4 g5
              clear z0 z1 z2 z3 z4 z5
              clear f0 f1 f2 f3 f4 f5
              clear HC5 HG5
              unfold s6 at HNW
              generalize (((((V5.setCell ⟨rB, 0, none⟩ (.int .i64 s.room)).setCell ⟨rB, 1, none⟩ (.slice b1 m1 j1)).setCell ⟨rB, 2, none⟩ (.slice b2 m2 j2)).setCell ⟨rB, 3, none⟩ (.int .i64 base)).setCell ⟨rB, 4, none⟩ (.int .i64 ca)).setCell ⟨rB, 5, none⟩ (.int .i64 sp9) = V8 at HNW ⊢
              have HCX := HNW
              clear HNW
              go_meet
              exact ⟨c9, _, _, frm, _, _, _, _, _, _, _, _, rfl, rfl, HCX.out, HBX.out⟩
          · as_aux_lemma =>
              subst hkd
              go_upto_region 41 with fail
              clear e0
              have hdw : Below wr.heap.size wr wr.drew := (Below.refl _ _).drew
              refine wp_region_held_drew (S := fun W => W.rangeAt rb (ro + k * 5) [.int .i64 5, .int .i64 bk, .slice ab by_.length cb, .slice ak ks.length ck, .int .i64 cut]) (by kernel_rfl) (HCE.out _ (HC.out.nc.call hdw).be) (fun hHeld => ?_)
              have HC1 := hide (HC.out.below hdw)
              generalize wr.drew = V1 at HC1 hHeld ⊢
              clear hdw HC
              refine wpAnyH_take (i := 0) (oi := _) (v := .pointer (some ⟨d, 0, none⟩)) rfl (by kernel_rfl) (by kernel_rfl) (by kernel_rfl) (fun _ _ _ h => h) (Or.inl ⟨by rfl, by intro w hSw; go_simp⟩) hHeld ?_
              change wpAnyH _ _ _ _ _ _ _ (Act.put _ (some 190) _) _
              simp only [Act.put, List.setIfInBounds_toArray, List.set_cons_zero, List.set_cons_succ]
              refine wpAnyH_take (i := 1) (oi := _) (v := .slice (some ⟨rb, ro, none⟩) ps.length cap) rfl (by kernel_rfl) (by kernel_rfl) (by kernel_rfl) (fun _ _ _ h => h) (Or.inl ⟨by rfl, by intro w hSw; go_simp⟩) hHeld ?_
              change wpAnyH _ _ _ _ _ _ _ (Act.put _ (some 191) _) _
              simp only [Act.put, List.setIfInBounds_toArray, List.set_cons_zero, List.set_cons_succ]
              refine wpAnyH_take (i := 2) (oi := _) (v := .int .i64 (k : Int)) rfl (by kernel_rfl) (by kernel_rfl) (by kernel_rfl) (fun _ _ _ h => h) (Or.inl ⟨by rfl, by intro w hSw; go_simp⟩) hHeld ?_
              change wpAnyH _ _ _ _ _ _ _ (Act.put _ (some 192) _) _
              simp only [Act.put, List.setIfInBounds_toArray, List.set_cons_zero, List.set_cons_succ]
              refine wpAnyH_take (i := 3) (oi := _) (v := .pointer (some ⟨rb, ro + k * 5, none⟩)) rfl (by kernel_rfl) (by kernel_rfl) (by kernel_rfl) (fun _ _ _ h => h) (Or.inl ⟨by rfl, by intro w hSw; go_simp⟩) hHeld ?_
              change wpAnyH _ _ _ _ _ _ _ (Act.put _ (some 193) _) _
              simp only [Act.put, List.setIfInBounds_toArray, List.set_cons_zero, List.set_cons_succ]
              refine wpAnyH_take (i := 4) (oi := _) (v := .pointer (some ⟨rb, ro + k * 5 + 3, none⟩)) rfl (by kernel_rfl) (by kernel_rfl) (by kernel_rfl) (fun _ _ _ h => h) (Or.inl ⟨by rfl, by intro w hSw; go_simp⟩) hHeld ?_
              change wpAnyH _ _ _ _ _ _ _ (Act.put _ (some 194) _) _
              simp only [Act.put, List.setIfInBounds_toArray, List.set_cons_zero, List.set_cons_succ]
              refine wpAnyH_take (i := 5) (oi := _) (v := .slice ak ks.length ck) rfl (by kernel_rfl) (by kernel_rfl) (by kernel_rfl) (fun _ _ _ h => h) (Or.inl ⟨by rfl, by intro w hSw; have h1 := hSw 3 _ rfl; go_simp⟩) hHeld ?_
              change wpAnyH _ _ _ _ _ _ _ (Act.put _ (some 195) _) _
              simp only [Act.put, List.setIfInBounds_toArray, List.set_cons_zero, List.set_cons_succ]
              refine wpAnyH_take (i := 6) (oi := _) (v := .slice (some ⟨rb, ro, none⟩) ps.length cap) rfl (by kernel_rfl) (by kernel_rfl) (by kernel_rfl) (fun _ _ _ h => h) (Or.inl ⟨by rfl, by intro w hSw; go_simp⟩) hHeld ?_
              change wpAnyH _ _ _ _ _ _ _ (Act.put _ (some 196) _) _
              simp only [Act.put, List.setIfInBounds_toArray, List.set_cons_zero, List.set_cons_succ]
              refine wpAnyH_take (i := 7) (oi := _) (v := .int .i64 (k : Int)) rfl (by kernel_rfl) (by kernel_rfl) (by kernel_rfl) (fun _ _ _ h => h) (Or.inl ⟨by rfl, by intro w hSw; go_simp⟩) hHeld ?_
              change wpAnyH _ _ _ _ _ _ _ (Act.put _ (some 197) _) _
              simp only [Act.put, List.setIfInBounds_toArray, List.set_cons_zero, List.set_cons_succ]
              refine wpAnyH_take (i := 8) (oi := _) (v := .pointer (some ⟨rb, ro + k * 5, none⟩)) rfl (by kernel_rfl) (by kernel_rfl) (by kernel_rfl) (fun _ _ _ h => h) (Or.inl ⟨by rfl, by intro w hSw; go_simp⟩) hHeld ?_
              change wpAnyH _ _ _ _ _ _ _ (Act.put _ (some 198) _) _
              simp only [Act.put, List.setIfInBounds_toArray, List.set_cons_zero, List.set_cons_succ]
              refine wpAnyH_take (i := 9) (oi := _) (v := .pointer (some ⟨rb, ro + k * 5 + 4, none⟩)) rfl (by kernel_rfl) (by kernel_rfl) (by kernel_rfl) (fun _ _ _ h => h) (Or.inl ⟨by rfl, by intro w hSw; go_simp⟩) hHeld ?_
              change wpAnyH _ _ _ _ _ _ _ (Act.put _ (some 199) _) _
              simp only [Act.put, List.setIfInBounds_toArray, List.set_cons_zero, List.set_cons_succ]
              refine wpAnyH_take (i := 10) (oi := _) (v := .int .i64 cut) rfl (by kernel_rfl) (by kernel_rfl) (by kernel_rfl) (fun _ _ _ h => h) (Or.inl ⟨by rfl, by intro w hSw; have h1 := hSw 4 _ rfl; go_simp⟩) hHeld ?_
              change wpAnyH _ _ _ _ _ _ _ (Act.put _ (some 200) _) _
              simp only [Act.put, List.setIfInBounds_toArray, List.set_cons_zero, List.set_cons_succ]
              refine wpAnyH_ready (rs := [11]) (by kernel_rfl) (by simp) ?_
              refine AllReadyH.cons (o := _) rfl (fun K hK => ?_) AllReadyH.nil
              go_simp
              go_at_call 21
              refine (q_crash _ ks cut _ HC1.out.ch.q (HSK.out.below HC1.out.nc.be) (by have := HB.out.w; omega)).mono ?_
              rintro e V2 ⟨rfl, hq2, hx2⟩
              have HC2 := hide (HC1.out.prog ⟨hq2, hx2.b4 HC1.out.ch.no HC1.out.ch.x, hx2.own HC1.out.ch.x.lt HC1.out.ch.no⟩ (Cx.of hx2))
              go_wp2_with fail
              refine hK.out _ _ (HCE.out _ HC2.out.nc.be) (fun hHeld1 => ?_)
              clear hK K hHeld
              have hHeld := hHeld1
              clear hHeld1
              clear hq2 hx2 HC1
              refine wpAnyH_done (by kernel_rfl) ?_ _
              clear hHeld
              go_upto_region 42 with fail
              have hdw : Below V2.heap.size V2 V2.drew := (Below.refl _ _).drew
              refine wp_region_held_drew (S := fun W => W.rangeAt rb (ro + k * 5) [.int .i64 5, .int .i64 bk, .slice ab by_.length cb, .slice ak ks.length ck, .int .i64 cut]) (by kernel_rfl) (HCE.out _ (HC2.out.nc.call hdw).be) (fun hHeld => ?_)
              have HC3 := hide (HC2.out.below hdw)
              generalize V2.drew = V3 at HC3 hHeld ⊢
              clear hdw HC2
              refine wpAnyH_take (i := 0) (oi := _) (v := .pointer (some ⟨rB, 0, none⟩)) rfl (by kernel_rfl) (by kernel_rfl) (by kernel_rfl) (fun _ _ _ h => h) (Or.inl ⟨by rfl, by intro w hSw; go_simp⟩) hHeld ?_
              change wpAnyH _ _ _ _ _ _ _ (Act.put _ (some 202) _) _
              simp only [Act.put, List.setIfInBounds_toArray, List.set_cons_zero, List.set_cons_succ]
              refine wpAnyH_take (i := 2) (oi := _) (v := .slice (some ⟨rb, ro, none⟩) ps.length cap) rfl (by kernel_rfl) (by kernel_rfl) (by kernel_rfl) (fun _ _ _ h => h) (Or.inl ⟨by rfl, by intro w hSw; go_simp⟩) hHeld ?_
              change wpAnyH _ _ _ _ _ _ _ (Act.put _ (some 204) _) _
              simp only [Act.put, List.setIfInBounds_toArray, List.set_cons_zero, List.set_cons_succ]
              refine wpAnyH_take (i := 3) (oi := _) (v := .int .i64 (k : Int)) rfl (by kernel_rfl) (by kernel_rfl) (by kernel_rfl) (fun _ _ _ h => h) (Or.inl ⟨by rfl, by intro w hSw; go_simp⟩) hHeld ?_
              change wpAnyH _ _ _ _ _ _ _ (Act.put _ (some 205) _) _
              simp only [Act.put, List.setIfInBounds_toArray, List.set_cons_zero, List.set_cons_succ]
              refine wpAnyH_take (i := 4) (oi := _) (v := .pointer (some ⟨rb, ro + k * 5, none⟩)) rfl (by kernel_rfl) (by kernel_rfl) (by kernel_rfl) (fun _ _ _ h => h) (Or.inl ⟨by rfl, by intro w hSw; go_simp⟩) hHeld ?_
              change wpAnyH _ _ _ _ _ _ _ (Act.put _ (some 206) _) _
              simp only [Act.put, List.setIfInBounds_toArray, List.set_cons_zero, List.set_cons_succ]
              refine wpAnyH_take (i := 5) (oi := _) (v := .pointer (some ⟨rb, ro + k * 5 + 3, none⟩)) rfl (by kernel_rfl) (by kernel_rfl) (by kernel_rfl) (fun _ _ _ h => h) (Or.inl ⟨by rfl, by intro w hSw; go_simp⟩) hHeld ?_
              change wpAnyH _ _ _ _ _ _ _ (Act.put _ (some 207) _) _
              simp only [Act.put, List.setIfInBounds_toArray, List.set_cons_zero, List.set_cons_succ]
              refine wpAnyH_take (i := 6) (oi := _) (v := .slice ak ks.length ck) rfl (by kernel_rfl) (by kernel_rfl) (by kernel_rfl) (fun _ _ _ h => h) (Or.inl ⟨by rfl, by intro w hSw; have h1 := hSw 3 _ rfl; go_simp⟩) hHeld ?_
              change wpAnyH _ _ _ _ _ _ _ (Act.put _ (some 208) _) _
              simp only [Act.put, List.setIfInBounds_toArray, List.set_cons_zero, List.set_cons_succ]
              refine wpAnyH_take (i := 7) (oi := _) (v := .slice (some ⟨rb, ro, none⟩) ps.length cap) rfl (by kernel_rfl) (by kernel_rfl) (by kernel_rfl) (fun _ _ _ h => h) (Or.inl ⟨by rfl, by intro w hSw; go_simp⟩) hHeld ?_
              change wpAnyH _ _ _ _ _ _ _ (Act.put _ (some 209) _) _
              simp only [Act.put, List.setIfInBounds_toArray, List.set_cons_zero, List.set_cons_succ]
              refine wpAnyH_take (i := 8) (oi := _) (v := .int .i64 (k : Int)) rfl (by kernel_rfl) (by kernel_rfl) (by kernel_rfl) (fun _ _ _ h => h) (Or.inl ⟨by rfl, by intro w hSw; go_simp⟩) hHeld ?_
              change wpAnyH _ _ _ _ _ _ _ (Act.put _ (some 210) _) _
              simp only [Act.put, List.setIfInBounds_toArray, List.set_cons_zero, List.set_cons_succ]
              refine wpAnyH_take (i := 9) (oi := _) (v := .pointer (some ⟨rb, ro + k * 5, none⟩)) rfl (by kernel_rfl) (by kernel_rfl) (by kernel_rfl) (fun _ _ _ h => h) (Or.inl ⟨by rfl, by intro w hSw; go_simp⟩) hHeld ?_
              change wpAnyH _ _ _ _ _ _ _ (Act.put _ (some 211) _) _
              simp only [Act.put, List.setIfInBounds_toArray, List.set_cons_zero, List.set_cons_succ]
              refine wpAnyH_take (i := 10) (oi := _) (v := .pointer (some ⟨rb, ro + k * 5 + 4, none⟩)) rfl (by kernel_rfl) (by kernel_rfl) (by kernel_rfl) (fun _ _ _ h => h) (Or.inl ⟨by rfl, by intro w hSw; go_simp⟩) hHeld ?_
              change wpAnyH _ _ _ _ _ _ _ (Act.put _ (some 212) _) _
              simp only [Act.put, List.setIfInBounds_toArray, List.set_cons_zero, List.set_cons_succ]
              refine wpAnyH_take (i := 11) (oi := _) (v := .int .i64 cut) rfl (by kernel_rfl) (by kernel_rfl) (by kernel_rfl) (fun _ _ _ h => h) (Or.inl ⟨by rfl, by intro w hSw; have h1 := hSw 4 _ rfl; go_simp⟩) hHeld ?_
              change wpAnyH _ _ _ _ _ _ _ (Act.put _ (some 213) _) _
              simp only [Act.put, List.setIfInBounds_toArray, List.set_cons_zero, List.set_cons_succ]
              refine wpAnyH_ready (rs := [1]) (by kernel_rfl) (by simp) ?_
              refine AllReadyH.cons (o := _) rfl (fun K hK => ?_) AllReadyH.nil
              have x0 := HC3.out.bx.at (i := 0) (by simp)
              have x1 := HC3.out.bx.at (i := 1) (by simp)
              have x2 := HC3.out.bx.at (i := 2) (by simp)
              simp only [List.getElem_cons_zero, List.getElem_cons_succ] at x0 x1 x2
              go_simp
              clear x0 x1 x2
              refine hK.out _ _ hHeld (fun hHeld1 => ?_)
              clear hK K hHeld
              have hHeld := hHeld1
              clear hHeld1
              refine wpAnyH_ready (rs := [12]) (by kernel_rfl) (by simp) ?_
              refine AllReadyH.cons (o := _) rfl (fun K hK => ?_) AllReadyH.nil
              go_simp
              go_at_call 22
              refine (rcrash_any _ _ ks cut s _ HC3.out.dd (HSK.out.below HC3.out.nc.be) HB.out.ok.asc (by have := HB.out.w; omega)).mono ?_
              rintro e V4 ⟨v4, rfl, hd4, hb4⟩
              obtain ⟨c1, o1, q1, c2, o2, q2, rfl⟩ := hd4.form9
              have HNW := hide (HC3.out.doc3 hb4 hd4)
              have HC4 := hide (HC3.out.below hb4)
              go_wp2_with fail
              refine hK.out _ _ (range_belW hHeld hb4) (fun hHeld1 => ?_)
              clear hK K hHeld
              have hHeld := hHeld1
              clear hHeld1
              clear hd4 hb4 HC3
              refine wpAnyH_take (i := 13) (oi := _) (v := .pointer (some ⟨rB, 0, none⟩)) rfl (by kernel_rfl) (by kernel_rfl) (by kernel_rfl) (fun _ _ _ h => h) (Or.inl ⟨by rfl, by intro w hSw; go_simp⟩) hHeld ?_
              change wpAnyH _ _ _ _ _ _ _ (Act.put _ (some 215) _) _
              simp only [Act.put, List.setIfInBounds_toArray, List.set_cons_zero, List.set_cons_succ]
              refine wpAnyH_ready (rs := [14]) (by kernel_rfl) (by simp) ?_
              refine AllReadyH.cons (o := _) rfl (fun K hK => ?_) AllReadyH.nil
              have z0 := HC4.out.bx.at (i := 0) (by simp)
              have z1 := HC4.out.bx.at (i := 1) (by simp)
              have z2 := HC4.out.bx.at (i := 2) (by simp)
              simp only [List.getElem_cons_zero, List.getElem_cons_succ] at z0 z1 z2
              have f0 := HC4.out.bx.fz 0
              have f1 := HC4.out.bx.fz 1
              have f2 := HC4.out.bx.fz 2
              go_simp
              clear z0 z1 z2 f0 f1 f2
              refine hK.out _ _ (HCE.out _ HNW.out.nc.be) (fun hHeld1 => ?_)
              clear hK K hHeld
              have hHeld := hHeld1
              clear hHeld1
              refine wpAnyH_done (by kernel_rfl) ?_ _
              clear hHeld
              clear HC4
              generalize ((V4.setCell ⟨rB, 0, none⟩ (.int .i64 (crS s ks cut).room)).setCell ⟨rB, 1, none⟩ (.slice c1 o1 q1)).setCell ⟨rB, 2, none⟩ (.slice c2 o2 q2) = V8 at HNW ⊢
              have HC := HNW
              have HB0 := hide (HB.out.crash ks cut)
              clear HB HNW
              have HB := HB0
              clear HB0
              generalize crS s ks cut = s at HC HB ⊢
              skip
              go_upto_region 44 with (first | (go_at_call 8; refine (open_ok base frm _ HC.out.ch.q hbs.1 HB.out.fr.1 (by have := HB.out.w; omega) (by have := HB.out.w; omega)).mono ?_; rintro e W2 ⟨c9, vl, qs, ca, last, rfl, hch, hlw, _, hop, _, _, hcw, hb2⟩; have HC2 := hide (HC.out.opn hb2 hch hcw); have HOP := hide hop; have hrd := (hop.rd (fun q => vw_blk HB.out.ok.tb q) hlw); have HRD := hide hrd.1; have HQL := hide hrd.2; have HBX := hide (HB.out.open hk40 hop); obtain ⟨la, lk, rfl⟩ := hlw.form; clear hch hlw hop hcw hb2 hrd))
              clear HC
              have x0 := HC2.out.bx.at (i := 0) (by simp)
              have x1 := HC2.out.bx.at (i := 1) (by simp)
              have x2 := HC2.out.bx.at (i := 2) (by simp)
              have x3 := HC2.out.bx.at (i := 3) (by simp)
              have x4 := HC2.out.bx.at (i := 4) (by simp)
              have x5 := HC2.out.bx.at (i := 5) (by simp)
              simp only [List.getElem_cons_zero, List.getElem_cons_succ] at x0 x1 x2 x3 x4 x5
              go_upto_region 45 with (first | (go_at_call 9; refine (ropen_any _ _ _ _ _ _ s base frm _ HC2.out.dd HB.out.ok (by have := HB.out.w; omega) hbs.1 HB.out.fr.1 (by have := HB.out.w; omega)).mono ?_; rintro e W3 ⟨vr, qr, ra, rl, rfl, hlr, hop3, hb3⟩; have hrd3 := (hop3.rd (fun q => vw_blk HB.out.ok.tb q) hlr); have HRD3 := hide hrd3.1; obtain ⟨la4, lk4, rfl⟩ := hlr.form; obtain ⟨hdet1, hdet2, hdet3⟩ := HOP.out.det hop3; have HDET := hide hdet1; have HDT2 := hide hdet2; have HDT3 := hide hdet3; have HC3 := hide (HC2.out.below hb3); have HRA3 := hide (HRD.out.below hb3); clear hlr hop3 hb3 hrd3 hdet1 hdet2 hdet3))
              clear x0 x1 x2 x3 x4 x5
              rw [← HDT2.out, ← HDT3.out]
              clear HDT2 HDT3 HOP HC2 HRD
              generalize max last (hiS base s.cs) + 1 = sp9 at HC3 HBX ⊢
              have hal := al_d W3 (.cells #[.int .i64 s.room, .slice c1 o1 q1, .slice c2 o2 q2, .int .i64 base, .int .i64 ca, .int .i64 sp9] 39)
              have HG := hide (B6.new W3 (.int .i64 s.room) (.slice c1 o1 q1) (.slice c2 o2 q2) (.int .i64 base) (.int .i64 ca) (.int .i64 sp9) 39)
              have HC4 := hide (HC3.out.below hal)
              have HRA4 := hide (HRA3.out.below hal)
              have HRB4 := hide (HRD3.out.below hal)
              clear hal HC3 HRA3 HRD3
              generalize W3.alloc (.cells #[.int .i64 s.room, .slice c1 o1 q1, .slice c2 o2 q2, .int .i64 base, .int .i64 ca, .int .i64 sp9] 39) = V4 at HG HC4 HRA4 HRB4 ⊢
              generalize W3.heap.size = g at HG ⊢
              go_upto_region 48 with (first | (go_at_call 23; refine (lsame_any _ _ qs qr _ HRA4.out HRB4.out HDET.out (by have h1 := HQL.out; have h2 := HB.out.ok.tl; have h3 := HB.out.w; omega)).mono ?_; rintro e V5 ⟨rfl, hb5⟩; have HC5 := hide (HC4.out.below hb5); have HG5 := hide (HG.out.below hb5); clear hb5))
              clear HC4 HG HRA4 HRB4
              have HNW := hide (HC5.out.doc (ny' := ca) (sy' := sp9) (Below.refl _ _) (HC5.out.dd.keep (fun _ p _ => Or.inl p) (fun _ _ _ => rfl)))
              have g0 := HG5.out.at (i := 0) (by simp)
              have g1 := HG5.out.at (i := 1) (by simp)
              have g2 := HG5.out.at (i := 2) (by simp)
              have g3 := HG5.out.at (i := 3) (by simp)
              have g4 := HG5.out.at (i := 4) (by simp)
              have g5 := HG5.out.at (i := 5) (by simp)
              simp only [List.getElem_cons_zero, List.getElem_cons_succ] at g0 g1 g2 g3 g4 g5
              have z0 := HC5.out.bx.at (i := 0) (by simp)
              have z1 := HC5.out.bx.at (i := 1) (by simp)
              have z2 := HC5.out.bx.at (i := 2) (by simp)
              have z3 := HC5.out.bx.at (i := 3) (by simp)
              have z4 := HC5.out.bx.at (i := 4) (by simp)
              have z5 := HC5.out.bx.at (i := 5) (by simp)
              simp only [List.getElem_cons_zero, List.getElem_cons_succ] at z0 z1 z2 z3 z4 z5
              have f0 := HC5.out.bx.fz 0
              have f1 := HC5.out.bx.fz 1
              have f2 := HC5.out.bx.fz 2
              have f3 := HC5.out.bx.fz 3
              have f4 := HC5.out.bx.fz 4
              have f5 := HC5.out.bx.fz 5
              go_wp2_with fail
              clear g0 g1 g2 g3 g4 g5
              clear z0 z1 z2 z3 z4 z5
              clear f0 f1 f2 f3 f4 f5
              clear HC5 HG5
              unfold s6 at HNW
              generalize (((((V5.setCell ⟨rB, 0, none⟩ (.int .i64 s.room)).setCell ⟨rB, 1, none⟩ (.slice c1 o1 q1)).setCell ⟨rB, 2, none⟩ (.slice c2 o2 q2)).setCell ⟨rB, 3, none⟩ (.int .i64 base)).setCell ⟨rB, 4, none⟩ (.int .i64 ca)).setCell ⟨rB, 5, none⟩ (.int .i64 sp9) = V8 at HNW ⊢
              have HCX := HNW
              clear HNW
              go_meet
              exact ⟨c9, _, _, frm, _, _, _, _, _, _, _, _, rfl, rfl, HCX.out, HBX.out⟩
          · as_aux_lemma =>
              obtain ⟨h0, h1, h2, h3, h4, h5⟩ := hkd
              have n0 : (kd == 0) = false := beq_eq_false_iff_ne.2 h0
              have n1 : (kd == 1) = false := beq_eq_false_iff_ne.2 h1
              have n2 : (kd == 2) = false := beq_eq_false_iff_ne.2 h2
              have n3 : (kd == 3) = false := beq_eq_false_iff_ne.2 h3
              have n4 : (kd == 4) = false := beq_eq_false_iff_ne.2 h4
              have n5 : (kd == 5) = false := beq_eq_false_iff_ne.2 h5
              clear h0 h1 h2 h3 h4 h5
              have HCX := HC
              have HBX := hide (HB.out.next hk40)
              go_wp2_with fail
              go_meet
              exact ⟨c, _, _, frm, _, _, _, _, _, _, _, _, rfl, rfl, HCX.out, HBX.out⟩
        case rest =>
          obtain ⟨c9, u9, s9, f9, nx9, sp9, d1, d2, p1, r1, p2, r2, rfl, rfl, hcd9, hbn9⟩ := hcut
          have HCX := hide hcd9
          have HBX := hide hbn9
          clear hcd9 hbn9 HC HB
          have q0 := HCX.out.bx.at (i := 0) (by simp)
          have q1 := HCX.out.bx.at (i := 1) (by simp)
          have q2 := HCX.out.bx.at (i := 2) (by simp)
          have q3 := HCX.out.bx.at (i := 3) (by simp)
          have q4 := HCX.out.bx.at (i := 4) (by simp)
          have q5 := HCX.out.bx.at (i := 5) (by simp)
          simp only [List.getElem_cons_zero, List.getElem_cons_succ] at q0 q1 q2 q3 q4 q5
          go_wp2_with (first | (go_at_call 24; refine (same9_any _ _ _ _ _ _ _ HCX.out.ch HCX.out.dd (by have := HBX.out.w; omega)).mono ?_; rintro e Vs ⟨rfl, hbs9⟩; have HCY := hide (HCX.out.below hbs9); clear hbs9))
          exact ⟨⟨k + 1, c9, _, _, f9, _, _, _, _, _, _, _, _, by omega, by go_num, rfl, rfl, HCY.out, HBX.out⟩, by simp [iv]; omega⟩
      · have hnl : ¬ (k : Int) < (ps.length : Int) := by omega
        go_wp2_with (first | (go_at_call 6; refine (cworks_any _).mono ?_; rintro e w12 ⟨rfl, hb12⟩; have HB12 := hide (bt HC.out.nc.be hb12); clear hb12))
        go_ret
        exact ⟨rfl, HB12.out⟩
  · have HLI : Hid (liC ps = false) := hide (by simpa using hli)
    clear hli
    go_wp2_with (first | (go_at_call 5; refine (lightC_any _ ps _ HV.out HZ.out).mono ?_; rintro e w9 ⟨rfl, hw9⟩; rw [hw9, HLI.out]; clear hw9 w9) | (go_at_call 6; refine (cworks_any _).mono ?_; rintro e w12 ⟨rfl, hb12⟩; have HB12 := hide hb12; clear hb12))
    go_ret
    exact ⟨rfl, HB12.out⟩
end Go.Proofs.YtoamghncncalgaaGreatDoor
