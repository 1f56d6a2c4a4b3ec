/-
  WHATEVER LIES THERE (ChainOpens): of any blocks a chain, opened at any one, has the records that the chapter says. True for any blocks, any base and any block to begin at. Conditions: the blocks lie in memory, and the handle of errors.As.
-/
import Derived.Test.YtoamghncncalgaaGreatDoorJDocCra2
import Derived.Test.YtoamghncncalgaaGreatDoorJBlkQa2
namespace Go.Proofs.YtoamghncncalgaaGreatDoor
open Go.RowKit

theorem ropen_any9 {Pd : Nat → Prop} (a1 a2 : Option Addr) (n1 k1 n2 k2 : Nat) (s : Dst) (base frm : Int) (w : World) (hd : Dd w Pd (.agg #[.int .i64 300, .slice a1 n1 k1, .slice a2 n2 k2]) s) (hr : s.room = 300) (hok : s.Ok) (hn : s.cs.length + s.lo.length < 80000) (hb : 0 ≤ base) (hf : base ≤ frm) (hm : frm ≤ 1073741824) : Calls Tryz.prog 9 #[.agg #[.int .i64 300, .slice a1 n1 k1, .slice a2 n2 k2], .int .i64 base, .int .i64 frm] w fun e w' => ∃ vl qs a last, e = .returned (.tuple #[.agg #[.int .i64 300, .slice a1 n1 k1, .slice a2 n2 k2, .int .i64 base, .int .i64 a, .int .i64 (max last (hiS base s.cs) + 1)], vl, .int .i64 0]) ∧ Lw w' (w.heap.size + 2) vl qs ∧ Opn s.tk frm 0 (lkO qs) a last ∧ Below w.heap.size w w' := by
  have h := ropen_any a1 a2 n1 k1 n2 k2 s base frm w (by rw [hr]; exact hd) hok hn hb hf hm
  rw [hr] at h
  refine h.mono ?_
  rintro e w' ⟨vl, qs, a, last, h1, h2⟩
  rw [hr] at h1
  exact ⟨vl, qs, a, last, h1, h2⟩
set_option maxRecDepth 100000 in
set_option maxHeartbeats 16000000 in
theorem copens_law (v : Value) (ps : List Cq) (base frm : Int) (w : World) (hv : Aq w v ps) (hh : Hnd w) : Calls Tryz.prog 4 #[v, .int .i64 base, .int .i64 frm] w fun e w' => e = .returned (.bool true) ∧ Below w.heap.size w w' := by
  have HH := hide hh
  obtain ⟨⟨ao, cap, rfl, hrow⟩, hps⟩ := hv
  have HROW := hide hrow
  have HPS := hide hps
  clear hrow hps hh
  go_enter Tryz.func4, Tryz.ntmps4
  by_cases h60 : ps.length ≤ 60
  · have h60I : ¬ (60 : Int) < (ps.length : Int) := by omega
    have HN3 : Hid (Num 300) := hide ⟨by decide, by decide⟩
    go_upto_region 7 with (first | (go_at_call 7; refine (q_new2 300 w _ HN3.out (Below.refl _ _)).mono ?_; rintro e w1 ⟨d, bS, bT, rfl, hq1, hn1, _⟩; have HQ1 := hide hq1; have HB1 := hide hn1; clear hq1 hn1))
    have HL0 : Hid (Lp w (w1.alloc (.cells #[.int .i64 300, .slice none 0 0, .slice none 0 0] 37)) d bS bT w1.heap.size (.slice none 0 0) ⟨300, [], []⟩ ⟨300, [], []⟩ 300 none none 0 0 0 0) := hide (by
      have hal := al_d w1 (.cells #[.int .i64 300, .slice none 0 0, .slice none 0 0] 37)
      exact ⟨HQ1.out.below hal, HB1.out.call hal, ⟨_, _, [], [], rfl, ⟨⟨_, _, rfl⟩, (fun h => by simp at h), (fun q hq => by simp at hq)⟩, ⟨⟨_, _, rfl⟩, (fun h => by simp at h), (fun q hq => by simp at hq)⟩, rfl, rfl⟩, b3_new w1 _ _ _ _, (fun e => by have := HQ1.out.dk.lt e; omega), HB1.out.be.size, rfl⟩)
    generalize w1.alloc (.cells #[.int .i64 300, .slice none 0 0, .slice none 0 0] 37) = V at HL0 ⊢
    generalize w1.heap.size = rB at HL0 ⊢
    clear HQ1 HB1
    go_upto_region 8 with fail
    go_loopw [10] (fun i W => ∃ (k : Nat) (u : Value) (s : Dst) (a3 a4 : Option Addr) (n3 k3 n4 k4 : Nat), k ≤ ps.length ∧ i = .int .i64 k ∧ Lp w W d bS bT rB u s s 300 a3 a4 n3 k3 n4 k4 ∧ s.wt ≤ k) (fun i _ => ps.length - (iv i).toNat)
    case atStart => exact ⟨0, _, _, _, _, _, _, _, _, Nat.zero_le _, rfl, HL0.out, Nat.le_refl _⟩
    case round =>
      clear HL0
      obtain ⟨k, u, s, a3, a4, n3, k3, n4, k4, hk, rfl, hlp, hwt⟩ := hrel
      have HL := hide hlp
      have HWT := hide hwt
      clear hlp hwt
      have HN3 : Hid (s.wt < 30000) := hide (by have := HWT.out; omega)
      by_cases hlt : k < ps.length
      · obtain ⟨rb, ro, rfl, hrg⟩ := HROW.out (by omega)
        have HRG := hide (Aq.at hrg hlt)
        have HAP := hide (HPS.out _ (List.getElem_mem hlt))
        clear hrg
        generalize ps[k] = p at HRG HAP
        obtain ⟨⟨pa, pb⟩, pv⟩ := p
        obtain ⟨ab, cb, hpv⟩ := HAP.out.1.form
        simp only at hpv
        subst hpv
        have HSL : Hid (Sl bc w (.slice ab pb.length cb) pb) := hide HAP.out.1
        have HBY : Hid (Byt pb) := hide HAP.out.2.1
        have hpa : 0 ≤ pa ∧ pa ≤ 255 := HAP.out.2.2
        have HRG2 : Hid (∀ W, Below w.heap.size w W → W.rangeAt rb (ro + k * 2) [.int .u8 pa, .slice ab pb.length cb]) := hide (fun W h => range_belW HRG.out h)
        have HLT : Hid (rb < w.heap.size) := hide (cell_block (HRG.out 0 _ rfl))
        have HRO : Hid (¬ Own d bS bT u rb) := hide (fun q => by have := HL.out.b.ow _ q; have := HLT.out; omega)
        clear HRG HAP
        have d1 : wr.cell? ⟨rb, ro + k * 2 + 1, none⟩ = some (.slice ab pb.length cb) := HRG2.out _ HL.out.b.be 1 _ rfl
        have hltI : (k : Int) < (ps.length : Int) := by omega
        by_cases h64 : pb.length ≤ 64
        · have HASC0 : Hid (Asc s.cs) := hide HL.out.q.ok.asc
          have h64I : ¬ (64 : Int) < (pb.length : Int) := by omega
          go_upto_region 12 with fail
          clear d1
          have hdw : Below wr.heap.size wr wr.drew := (Below.refl _ _).drew
          refine wp_region_held_drew (S := fun W => W.rangeAt rb (ro + k * 2) [.int .u8 pa, .slice ab pb.length cb]) (by kernel_rfl) (HRG2.out _ (HL.out.b.call hdw).be) (fun hHeld => ?_)
          have HL1 := hide (HL.out.below hdw)
          generalize wr.drew = V1 at HL1 hHeld ⊢
          clear hdw HL
          have hwp : IntKind.i64.wrap pa = pa := by rw [IntKind.wrap_i64]; omega
          refine wpAnyH_take (i := 0) (oi := _) (v := .pointer (some ⟨d, 0, none⟩)) rfl (by kernel_rfl) (by kernel_rfl) (by kernel_rfl) (fun _ _ _ h => h) (Or.inl ⟨by rfl, by intro w hSw; go_simp⟩) hHeld ?_
          change wpAnyH _ _ _ _ _ _ _ (Act.put _ (some 48) _) _
          simp only [Act.put, List.setIfInBounds_toArray, List.set_cons_zero, List.set_cons_succ]
          refine wpAnyH_take (i := 1) (oi := _) (v := .slice (some ⟨rb, ro, none⟩) ps.length cap) rfl (by kernel_rfl) (by kernel_rfl) (by kernel_rfl) (fun _ _ _ h => h) (Or.inl ⟨by rfl, by intro w hSw; go_simp⟩) hHeld ?_
          change wpAnyH _ _ _ _ _ _ _ (Act.put _ (some 49) _) _
          simp only [Act.put, List.setIfInBounds_toArray, List.set_cons_zero, List.set_cons_succ]
          refine wpAnyH_take (i := 2) (oi := _) (v := .int .i64 (k : Int)) rfl (by kernel_rfl) (by kernel_rfl) (by kernel_rfl) (fun _ _ _ h => h) (Or.inl ⟨by rfl, by intro w hSw; go_simp⟩) hHeld ?_
          change wpAnyH _ _ _ _ _ _ _ (Act.put _ (some 50) _) _
          simp only [Act.put, List.setIfInBounds_toArray, List.set_cons_zero, List.set_cons_succ]
          refine wpAnyH_take (i := 3) (oi := _) (v := .pointer (some ⟨rb, ro + k * 2, none⟩)) rfl (by kernel_rfl) (by kernel_rfl) (by kernel_rfl) (fun _ _ _ h => h) (Or.inl ⟨by rfl, by intro w hSw; go_simp⟩) hHeld ?_
          change wpAnyH _ _ _ _ _ _ _ (Act.put _ (some 51) _) _
          simp only [Act.put, List.setIfInBounds_toArray, List.set_cons_zero, List.set_cons_succ]
          refine wpAnyH_take (i := 4) (oi := _) (v := .pointer (some ⟨rb, ro + k * 2, none⟩)) rfl (by kernel_rfl) (by kernel_rfl) (by kernel_rfl) (fun _ _ _ h => h) (Or.inl ⟨by rfl, by intro w hSw; go_simp⟩) hHeld ?_
          change wpAnyH _ _ _ _ _ _ _ (Act.put _ (some 52) _) _
          simp only [Act.put, List.setIfInBounds_toArray, List.set_cons_zero, List.set_cons_succ]
          refine wpAnyH_take (i := 5) (oi := _) (v := .int .u8 pa) rfl (by kernel_rfl) (by kernel_rfl) (by kernel_rfl) (fun _ _ _ h => h) (Or.inl ⟨by rfl, by intro w hSw; have h1 := hSw 0 _ rfl; rw [Nat.add_zero] at h1; go_simp⟩) hHeld ?_
          change wpAnyH _ _ _ _ _ _ _ (Act.put _ (some 53) _) _
          simp only [Act.put, List.setIfInBounds_toArray, List.set_cons_zero, List.set_cons_succ]
          refine wpAnyH_take (i := 6) (oi := _) (v := .int .i64 pa) rfl (by kernel_rfl) (by kernel_rfl) (by kernel_rfl) (fun _ _ _ h => h) (Or.inl ⟨by rfl, by intro w hSw; go_simp⟩) hHeld ?_
          change wpAnyH _ _ _ _ _ _ _ (Act.put _ (some 54) _) _
          simp only [Act.put, List.setIfInBounds_toArray, List.set_cons_zero, List.set_cons_succ]
          refine wpAnyH_take (i := 7) (oi := _) (v := .slice (some ⟨rb, ro, none⟩) ps.length cap) rfl (by kernel_rfl) (by kernel_rfl) (by kernel_rfl) (fun _ _ _ h => h) (Or.inl ⟨by rfl, by intro w hSw; go_simp⟩) hHeld ?_
          change wpAnyH _ _ _ _ _ _ _ (Act.put _ (some 55) _) _
          simp only [Act.put, List.setIfInBounds_toArray, List.set_cons_zero, List.set_cons_succ]
          refine wpAnyH_take (i := 8) (oi := _) (v := .int .i64 (k : Int)) rfl (by kernel_rfl) (by kernel_rfl) (by kernel_rfl) (fun _ _ _ h => h) (Or.inl ⟨by rfl, by intro w hSw; go_simp⟩) hHeld ?_
          change wpAnyH _ _ _ _ _ _ _ (Act.put _ (some 56) _) _
          simp only [Act.put, List.setIfInBounds_toArray, List.set_cons_zero, List.set_cons_succ]
          refine wpAnyH_take (i := 9) (oi := _) (v := .pointer (some ⟨rb, ro + k * 2, none⟩)) rfl (by kernel_rfl) (by kernel_rfl) (by kernel_rfl) (fun _ _ _ h => h) (Or.inl ⟨by rfl, by intro w hSw; go_simp⟩) hHeld ?_
          change wpAnyH _ _ _ _ _ _ _ (Act.put _ (some 57) _) _
          simp only [Act.put, List.setIfInBounds_toArray, List.set_cons_zero, List.set_cons_succ]
          refine wpAnyH_take (i := 10) (oi := _) (v := .pointer (some ⟨rb, ro + k * 2 + 1, none⟩)) rfl (by kernel_rfl) (by kernel_rfl) (by kernel_rfl) (fun _ _ _ h => h) (Or.inl ⟨by rfl, by intro w hSw; go_simp⟩) hHeld ?_
          change wpAnyH _ _ _ _ _ _ _ (Act.put _ (some 58) _) _
          simp only [Act.put, List.setIfInBounds_toArray, List.set_cons_zero, List.set_cons_succ]
          refine wpAnyH_take (i := 11) (oi := _) (v := .slice ab pb.length cb) rfl (by kernel_rfl) (by kernel_rfl) (by kernel_rfl) (fun _ _ _ h => h) (Or.inl ⟨by rfl, by intro w hSw; have h1 := hSw 1 _ rfl; go_simp⟩) hHeld ?_
          change wpAnyH _ _ _ _ _ _ _ (Act.put _ (some 59) _) _
          simp only [Act.put, List.setIfInBounds_toArray, List.set_cons_zero, List.set_cons_succ]
          refine wpAnyH_ready (rs := [12]) (by kernel_rfl) (by simp) ?_
          refine AllReadyH.cons (o := _) rfl (fun K hK => ?_) AllReadyH.nil
          go_simp
          go_at_call 25
          refine (q_write pa _ pb _ HL1.out.q (HSL.out.below HL1.out.b.be) HBY.out HN3.out).mono ?_
          rintro e V2 ⟨u2, rfl, hq2, hx2⟩
          have HL2 := hide (HL1.out.step hq2 hx2)
          obtain ⟨ee, hee⟩ : ∃ ee, ev (wrE s pa pb) = ee := ⟨_, rfl⟩
          rw [hee]
          go_wp2_with fail
          refine hK.out _ _ (hx2.rgL HRO.out hHeld) (fun hHeld1 => ?_)
          clear hK K hHeld
          have hHeld := hHeld1
          clear hHeld1
          have HRO2 : Hid (¬ Own d bS bT u2 rb) := hide (fun q => by have := HL2.out.b.ow _ q; have := HLT.out; omega)
          clear hq2 hx2 HL1 hee HRO
          refine wpAnyH_done (by kernel_rfl) ?_ _
          clear hHeld
          go_wp2_with fail
          have HRM : Hid ((wrS s pa pb).room = 300) := hide ((wrS_rm s pa pb).trans HL2.out.rm)
          go_cut [11, 12] (fun x y W => ∃ (g : Nat) (b3 b4 : Option Addr) (m3 j3 m4 j4 : Nat) (cd : Int), x = .pointer (some ⟨g, 0, none⟩) ∧ y = .int .i64 cd ∧ Lr w W d bS bT rB g u2 (wrS s pa pb) (wrS s pa pb) 300 a3 a4 b3 b4 n3 k3 n4 k4 m3 j3 m4 j4)
          case first =>
            have HASC : Hid (Asc s.cs) := hide HASC0.out
            have hdw : Below V2.heap.size V2 V2.drew := (Below.refl _ _).drew
            refine wp_region_held_drew (S := fun W => B3 W rB (.int .i64 300) (.slice a3 n3 k3) (.slice a4 n4 k4) ∧ W.rangeAt rb (ro + k * 2) [.int .u8 pa, .slice ab pb.length cb]) (by kernel_rfl) ⟨HL2.out.x.below hdw, HRG2.out _ (HL2.out.b.call hdw).be⟩ (fun hHeld => ?_)
            have HL4 := hide (HL2.out.below hdw)
            generalize V2.drew = V4 at HL4 hHeld ⊢
            clear hdw HL2
            refine wpAnyH_take (i := 0) (oi := _) (v := .agg #[.int .i64 300, .slice a3 n3 k3, .slice a4 n4 k4]) rfl (by kernel_rfl) (by kernel_rfl) (by kernel_rfl) (fun _ _ _ h => h) (Or.inl ⟨by rfl, by intro w hSw; have h0 := hSw.1.c0; have h1 := hSw.1.c1; have h2 := hSw.1.c2; go_simp⟩) hHeld ?_
            change wpAnyH _ _ _ _ _ _ _ (Act.put _ (some 62) _) _
            simp only [Act.put, List.setIfInBounds_toArray, List.set_cons_zero, List.set_cons_succ]
            refine wpAnyH_take (i := 1) (oi := _) (v := .slice (some ⟨rb, ro, none⟩) ps.length cap) rfl (by kernel_rfl) (by kernel_rfl) (by kernel_rfl) (fun _ _ _ h => h) (Or.inl ⟨by rfl, by intro w hSw; go_simp⟩) hHeld ?_
            change wpAnyH _ _ _ _ _ _ _ (Act.put _ (some 63) _) _
            simp only [Act.put, List.setIfInBounds_toArray, List.set_cons_zero, List.set_cons_succ]
            refine wpAnyH_take (i := 2) (oi := _) (v := .int .i64 (k : Int)) rfl (by kernel_rfl) (by kernel_rfl) (by kernel_rfl) (fun _ _ _ h => h) (Or.inl ⟨by rfl, by intro w hSw; go_simp⟩) hHeld ?_
            change wpAnyH _ _ _ _ _ _ _ (Act.put _ (some 64) _) _
            simp only [Act.put, List.setIfInBounds_toArray, List.set_cons_zero, List.set_cons_succ]
            refine wpAnyH_take (i := 3) (oi := _) (v := .pointer (some ⟨rb, ro + k * 2, none⟩)) rfl (by kernel_rfl) (by kernel_rfl) (by kernel_rfl) (fun _ _ _ h => h) (Or.inl ⟨by rfl, by intro w hSw; go_simp⟩) hHeld ?_
            change wpAnyH _ _ _ _ _ _ _ (Act.put _ (some 65) _) _
            simp only [Act.put, List.setIfInBounds_toArray, List.set_cons_zero, List.set_cons_succ]
            refine wpAnyH_take (i := 4) (oi := _) (v := .pointer (some ⟨rb, ro + k * 2, none⟩)) rfl (by kernel_rfl) (by kernel_rfl) (by kernel_rfl) (fun _ _ _ h => h) (Or.inl ⟨by rfl, by intro w hSw; go_simp⟩) hHeld ?_
            change wpAnyH _ _ _ _ _ _ _ (Act.put _ (some 66) _) _
            simp only [Act.put, List.setIfInBounds_toArray, List.set_cons_zero, List.set_cons_succ]
            refine wpAnyH_take (i := 5) (oi := _) (v := .int .u8 pa) rfl (by kernel_rfl) (by kernel_rfl) (by kernel_rfl) (fun _ _ _ h => h) (Or.inl ⟨by rfl, by intro w hSw; have h1 := hSw.2 0 _ rfl; rw [Nat.add_zero] at h1; go_simp⟩) hHeld ?_
            change wpAnyH _ _ _ _ _ _ _ (Act.put _ (some 67) _) _
            simp only [Act.put, List.setIfInBounds_toArray, List.set_cons_zero, List.set_cons_succ]
            refine wpAnyH_take (i := 6) (oi := _) (v := .int .i64 pa) rfl (by kernel_rfl) (by kernel_rfl) (by kernel_rfl) (fun _ _ _ h => h) (Or.inl ⟨by rfl, by intro w hSw; go_simp⟩) hHeld ?_
            change wpAnyH _ _ _ _ _ _ _ (Act.put _ (some 68) _) _
            simp only [Act.put, List.setIfInBounds_toArray, List.set_cons_zero, List.set_cons_succ]
            refine wpAnyH_take (i := 7) (oi := _) (v := .slice (some ⟨rb, ro, none⟩) ps.length cap) rfl (by kernel_rfl) (by kernel_rfl) (by kernel_rfl) (fun _ _ _ h => h) (Or.inl ⟨by rfl, by intro w hSw; go_simp⟩) hHeld ?_
            change wpAnyH _ _ _ _ _ _ _ (Act.put _ (some 69) _) _
            simp only [Act.put, List.setIfInBounds_toArray, List.set_cons_zero, List.set_cons_succ]
            refine wpAnyH_take (i := 8) (oi := _) (v := .int .i64 (k : Int)) rfl (by kernel_rfl) (by kernel_rfl) (by kernel_rfl) (fun _ _ _ h => h) (Or.inl ⟨by rfl, by intro w hSw; go_simp⟩) hHeld ?_
            change wpAnyH _ _ _ _ _ _ _ (Act.put _ (some 70) _) _
            simp only [Act.put, List.setIfInBounds_toArray, List.set_cons_zero, List.set_cons_succ]
            refine wpAnyH_take (i := 9) (oi := _) (v := .pointer (some ⟨rb, ro + k * 2, none⟩)) rfl (by kernel_rfl) (by kernel_rfl) (by kernel_rfl) (fun _ _ _ h => h) (Or.inl ⟨by rfl, by intro w hSw; go_simp⟩) hHeld ?_
            change wpAnyH _ _ _ _ _ _ _ (Act.put _ (some 71) _) _
            simp only [Act.put, List.setIfInBounds_toArray, List.set_cons_zero, List.set_cons_succ]
            refine wpAnyH_take (i := 10) (oi := _) (v := .pointer (some ⟨rb, ro + k * 2 + 1, none⟩)) rfl (by kernel_rfl) (by kernel_rfl) (by kernel_rfl) (fun _ _ _ h => h) (Or.inl ⟨by rfl, by intro w hSw; go_simp⟩) hHeld ?_
            change wpAnyH _ _ _ _ _ _ _ (Act.put _ (some 72) _) _
            simp only [Act.put, List.setIfInBounds_toArray, List.set_cons_zero, List.set_cons_succ]
            refine wpAnyH_take (i := 11) (oi := _) (v := .slice ab pb.length cb) rfl (by kernel_rfl) (by kernel_rfl) (by kernel_rfl) (fun _ _ _ h => h) (Or.inl ⟨by rfl, by intro w hSw; have h1 := hSw.2 1 _ rfl; go_simp⟩) hHeld ?_
            change wpAnyH _ _ _ _ _ _ _ (Act.put _ (some 73) _) _
            simp only [Act.put, List.setIfInBounds_toArray, List.set_cons_zero, List.set_cons_succ]
            refine wpAnyH_ready (rs := [12, 16]) (by kernel_rfl) (by simp) ?_
            refine AllReadyH.cons (o := _) rfl (fun K hK => ?_) (AllReadyH.cons (o := _) rfl (fun K hK => ?_) AllReadyH.nil)
            · go_simp
              go_at_call 26
              refine (rputA_any _ pa _ pb s _ HL4.out.dd HASC.out (HSL.out.below HL4.out.b.be) HBY.out (wt_8L HN3.out)).mono ?_
              rintro e V6 ⟨v6, rfl, hd6, hb6⟩
              obtain ⟨b3, m3, j3, b4, m4, j4, rfl⟩ := hd6.form9
              rw [HRM.out] at hd6 ⊢
              go_wp2_with fail
              refine hK.out _ _ ⟨hHeld.1.below hb6, range_belW hHeld.2 hb6⟩ (fun hHeld1 => ?_)
              clear hK K hHeld
              have hHeld := hHeld1
              clear hHeld1
              have HD6 := hide (hd6.nol HL4.out.q (fun k e => by rw [e]; exact cell_block HL4.out.x.c0))
              refine wpAnyH_take (i := 13) (oi := _) (v := .tuple #[.agg #[.int .i64 300, .slice b3 m3 j3, .slice b4 m4 j4], .int .i64 (wrC s pa pb)]) rfl (by kernel_rfl) (by kernel_rfl) (by kernel_rfl) (fun _ _ _ h => h) (Or.inl ⟨by rfl, by intro w hSw; go_simp⟩) hHeld ?_
              change wpAnyH _ _ _ _ _ _ _ (Act.put _ (some 61) _) _
              simp only [Act.put, List.setIfInBounds_toArray, List.set_cons_zero, List.set_cons_succ]
              refine wpAnyH_take (i := 14) (oi := _) (v := .agg #[.int .i64 300, .slice b3 m3 j3, .slice b4 m4 j4]) rfl (by kernel_rfl) (by kernel_rfl) (by kernel_rfl) (fun _ _ _ h => h) (Or.inl ⟨by rfl, by intro w hSw; go_simp⟩) hHeld ?_
              change wpAnyH _ _ _ _ _ _ _ (Act.put _ (some 75) _) _
              simp only [Act.put, List.setIfInBounds_toArray, List.set_cons_zero, List.set_cons_succ]
              refine wpAnyH_take (i := 15) (oi := _) (v := .int .i64 (wrC s pa pb)) rfl (by kernel_rfl) (by kernel_rfl) (by kernel_rfl) (fun _ _ _ h => h) (Or.inl ⟨by rfl, by intro w hSw; go_simp⟩) hHeld ?_
              change wpAnyH _ _ _ _ _ _ _ (Act.put _ (some 76) _) _
              simp only [Act.put, List.setIfInBounds_toArray, List.set_cons_zero, List.set_cons_succ]
              refine wpAnyH_ready (rs := [16]) (by kernel_rfl) (by simp) ?_
              refine AllReadyH.cons (o := _) rfl (fun K hK => ?_) AllReadyH.nil
              go_simp
              refine hK.out _ _ ⟨hHeld.1.below (al_d _ _), range_belW hHeld.2 (al_d _ _)⟩ (fun hHeld1 => ?_)
              clear hK K hHeld
              have hHeld := hHeld1
              clear hHeld1
              have HR8 := hide (lrL_one HL4.out HD6.out hb6 HRM.out)
              have hb := b3_new V6 (.int .i64 0) (.slice none 0 0) (.slice none 0 0) 37
              have hne : rB ≠ V6.heap.size := fun e => by have : rB < V6.heap.size := Nat.lt_of_lt_of_le (cell_block HL4.out.x.c0) hb6.size; omega
              have hne2 : rb ≠ V6.heap.size := fun e => by have h1 := HL4.out.b.be.size; have h2 := hb6.size; have h3 := HLT.out; omega
              generalize V6.alloc (.cells #[.int .i64 0, .slice none 0 0, .slice none 0 0] 37) = V7 at HR8 hb hHeld ⊢
              generalize V6.heap.size = g at HR8 hb hne hne2 ⊢
              refine wpAnyH_ready (rs := [17]) (by kernel_rfl) (by simp) ?_
              refine AllReadyH.cons (o := _) rfl (fun K hK => ?_) AllReadyH.nil
              have e0 := hb.c0
              have e1 := hb.c1
              have e2 := hb.c2
              have f0 := hb.fz 0
              have f1 := hb.fz 1
              have f2 := hb.fz 2
              go_simp
              clear e0 e1 e2 f0 f1 f2
              refine hK.out _ _ ⟨((hHeld.1.setO hne _).setO hne _).setO hne _, rg_setL (rg_setL (rg_setL hHeld.2 hne2) hne2) hne2⟩ (fun hHeld1 => ?_)
              clear hK K hHeld
              have hHeld := hHeld1
              clear hHeld1
              refine wpAnyH_take (i := 18) (oi := _) (v := .int .i64 (wrC s pa pb)) rfl (by kernel_rfl) (by kernel_rfl) (by kernel_rfl) (fun _ _ _ h => h) (Or.inl ⟨by rfl, by intro w hSw; go_simp⟩) hHeld ?_
              change wpAnyH _ _ _ _ _ _ _ (Act.put _ (some 12) _) _
              simp only [Act.put, List.setIfInBounds_toArray, List.set_cons_zero, List.set_cons_succ]
              refine wpAnyH_done (by kernel_rfl) ?_ _
              clear hHeld
              go_wp2_with fail
              go_meet
              exact ⟨g, b3, b4, m3, j3, m4, j4, _, rfl, rfl, HR8.out⟩
            · go_simp
              refine hK.out _ _ ⟨hHeld.1.below (al_d _ _), range_belW hHeld.2 (al_d _ _)⟩ (fun hHeld1 => ?_)
              clear hK K hHeld
              have hHeld := hHeld1
              clear hHeld1
              have hal := al_d V4 (.cells #[.int .i64 0, .slice none 0 0, .slice none 0 0] 37)
              have HB5 := hide (b3_new V4 (.int .i64 0) (.slice none 0 0) (.slice none 0 0) 37)
              have HL5 := hide (HL4.out.below hal)
              have HG5 : Hid (¬ Own d bS bT u2 V4.heap.size ∧ rB ≠ V4.heap.size ∧ rb ≠ V4.heap.size ∧ w.heap.size ≤ V4.heap.size) := hide ⟨fun e => by have := HL4.out.q.dk.lt e; omega, fun e => by have : rB < V4.heap.size := cell_block HL4.out.x.c0; omega, fun e => by have := HL4.out.b.be.size; have := HLT.out; omega, HL4.out.b.be.size⟩
              have HD5 : Hid (Dd (V4.alloc (.cells #[.int .i64 0, .slice none 0 0, .slice none 0 0] 37)) (Nol d bS bT u2 (fun k => k = rB ∨ k = V4.heap.size)) (.agg #[.int .i64 300, .slice a3 n3 k3, .slice a4 n4 k4]) s) := hide (HL4.out.dd.keep (fun k p hk => ⟨p.1, fun e => e.elim p.2 (fun e => by omega)⟩) (fun k _ hk => hal.block k hk))
              clear hal
              generalize V4.alloc (.cells #[.int .i64 0, .slice none 0 0, .slice none 0 0] 37) = V5 at HL5 HD5 HB5 hHeld ⊢
              generalize V4.heap.size = g at HG5 HD5 HB5 ⊢
              clear HL4
              refine wpAnyH_ready (rs := [12]) (by kernel_rfl) (by simp) ?_
              refine AllReadyH.cons (o := _) rfl (fun K hK => ?_) AllReadyH.nil
              go_simp
              go_at_call 26
              refine (rputA_any _ pa _ pb s _ HD5.out HASC.out (HSL.out.below HL5.out.b.be) HBY.out (wt_8L HN3.out)).mono ?_
              rintro e V6 ⟨v6, rfl, hd6, hb6⟩
              obtain ⟨b3, m3, j3, b4, m4, j4, rfl⟩ := hd6.form9
              rw [HRM.out] at hd6 ⊢
              go_wp2_with fail
              refine hK.out _ _ ⟨hHeld.1.below hb6, range_belW hHeld.2 hb6⟩ (fun hHeld1 => ?_)
              clear hK K hHeld
              have hHeld := hHeld1
              clear hHeld1
              have HD6 := hide (hd6.nol HL5.out.q (fun k e => e.elim (fun e => by rw [e]; exact cell_block HL5.out.x.c0) (fun e => by rw [e]; exact cell_block HB5.out.c0)))
              refine wpAnyH_take (i := 13) (oi := _) (v := .tuple #[.agg #[.int .i64 300, .slice b3 m3 j3, .slice b4 m4 j4], .int .i64 (wrC s pa pb)]) rfl (by kernel_rfl) (by kernel_rfl) (by kernel_rfl) (fun _ _ _ h => h) (Or.inl ⟨by rfl, by intro w hSw; go_simp⟩) hHeld ?_
              change wpAnyH _ _ _ _ _ _ _ (Act.put _ (some 61) _) _
              simp only [Act.put, List.setIfInBounds_toArray, List.set_cons_zero, List.set_cons_succ]
              refine wpAnyH_take (i := 14) (oi := _) (v := .agg #[.int .i64 300, .slice b3 m3 j3, .slice b4 m4 j4]) rfl (by kernel_rfl) (by kernel_rfl) (by kernel_rfl) (fun _ _ _ h => h) (Or.inl ⟨by rfl, by intro w hSw; go_simp⟩) hHeld ?_
              change wpAnyH _ _ _ _ _ _ _ (Act.put _ (some 75) _) _
              simp only [Act.put, List.setIfInBounds_toArray, List.set_cons_zero, List.set_cons_succ]
              refine wpAnyH_take (i := 15) (oi := _) (v := .int .i64 (wrC s pa pb)) rfl (by kernel_rfl) (by kernel_rfl) (by kernel_rfl) (fun _ _ _ h => h) (Or.inl ⟨by rfl, by intro w hSw; go_simp⟩) hHeld ?_
              change wpAnyH _ _ _ _ _ _ _ (Act.put _ (some 76) _) _
              simp only [Act.put, List.setIfInBounds_toArray, List.set_cons_zero, List.set_cons_succ]
              have HR8 := hide (lrL_two HL5.out HB5.out HG5.out.1 HG5.out.2.1 HG5.out.2.2.2 HD6.out hb6 HRM.out)
              have hb := HB5.out.below hb6
              have hne := HG5.out.2.1
              have hne2 := HG5.out.2.2.1
              refine wpAnyH_ready (rs := [17]) (by kernel_rfl) (by simp) ?_
              refine AllReadyH.cons (o := _) rfl (fun K hK => ?_) AllReadyH.nil
              have e0 := hb.c0
              have e1 := hb.c1
              have e2 := hb.c2
              have f0 := hb.fz 0
              have f1 := hb.fz 1
              have f2 := hb.fz 2
              go_simp
              clear e0 e1 e2 f0 f1 f2
              refine hK.out _ _ ⟨((hHeld.1.setO hne _).setO hne _).setO hne _, rg_setL (rg_setL (rg_setL hHeld.2 hne2) hne2) hne2⟩ (fun hHeld1 => ?_)
              clear hK K hHeld
              have hHeld := hHeld1
              clear hHeld1
              refine wpAnyH_take (i := 18) (oi := _) (v := .int .i64 (wrC s pa pb)) rfl (by kernel_rfl) (by kernel_rfl) (by kernel_rfl) (fun _ _ _ h => h) (Or.inl ⟨by rfl, by intro w hSw; go_simp⟩) hHeld ?_
              change wpAnyH _ _ _ _ _ _ _ (Act.put _ (some 12) _) _
              simp only [Act.put, List.setIfInBounds_toArray, List.set_cons_zero, List.set_cons_succ]
              refine wpAnyH_done (by kernel_rfl) ?_ _
              clear hHeld
              go_wp2_with fail
              go_meet
              exact ⟨g, b3, b4, m3, j3, m4, j4, _, rfl, rfl, HR8.out⟩
          case rest =>
            obtain ⟨g, b3, b4, m3, j3, m4, j4, cd, rfl, rfl, hlr⟩ := hcut
            have HLR := hide hlr
            clear hlr
            have HWT6 : Hid ((wrS s pa pb).wt ≤ k + 1) := hide (by have := wrS_wt s pa pb; have := HWT.out; omega)
            have HGE := hide HL2.out.ge
            clear HL2 HRM HN3 HLT HWT HRO2 HRG2 HSL HBY HASC0
            generalize wrS s pa pb = s6 at HWT6 HLR
            have HLP := hide (HLR.out.store HGE.out)
            obtain ⟨x0, x1, x2, xf⟩ := HLR.out.x
            obtain ⟨y0, y1, y2, _⟩ := HLR.out.y
            have xf0 := xf 0
            have xf1 := xf 1
            have xf2 := xf 2
            clear xf
            go_wp2_with fail
            exact ⟨⟨k + 1, _, _, _, _, _, _, _, _, by omega, by go_num, HLP.out, HWT6.out⟩, by simp [iv]; omega⟩
        · have h64I : (64 : Int) < (pb.length : Int) := by omega
          go_wp2_with (first | (go_at_call 6; refine (cworks_any _).mono ?_; rintro e w12 ⟨rfl, hb12⟩; have HB12 := hide (bt HL.out.b.be hb12); clear hb12))
          go_ret
          exact ⟨rfl, HB12.out⟩
      · have hnl : ¬ (k : Int) < (ps.length : Int) := by omega
        go_upto_region 16 with (first | (go_at_call 27; refine (q_sync _ HL.out.q HN3.out).mono ?_; rintro e V1 ⟨rfl, hq1, hx1⟩; have HL1 := hide (HL.out.step hq1 hx1); clear hq1 hx1))
        have HASC : Hid (Asc s.cs) := hide HL.out.q.ok.asc
        have HWS : Hid ((syS s).wt < 30000 ∧ (syS s).room = 300 ∧ (syS s).Ok) := hide ⟨by have h1 := syS_wt HL.out.q.ok; have h2 := HWT.out; omega, HL.out.rm, HL1.out.q.ok⟩
        clear HL HWT hnl
        skip
        by_cases hbad : 0 ≤ base ∧ base ≤ frm ∧ frm ≤ 1073741824
        · obtain ⟨hb0, hbf, hfm⟩ := hbad
          go_upto_region 17 with (first | (go_at_call 8; refine (open_ok base frm _ HL1.out.q hb0 hbf hfm HWS.out.1).mono ?_; rintro e V2 ⟨c, vl, qs, ca, last, rfl, hch, hlw, _, hop, hca0, hca1, hcw, hb2⟩; have HL2 := hide (HL1.out.below hb2); have HCH := hide hch; have HOP := hide hop; have hrd := (hop.rd (fun q => vw_blk HWS.out.2.2.tb q) hlw); have HRD := hide hrd.1; have HQL := hide hrd.2; obtain ⟨la, lk, rfl⟩ := hlw.form; clear hch hlw hop hcw hb2 hrd))
          clear HL1
          obtain ⟨x0, x1, x2, xf⟩ := HL2.out.x
          go_upto_region 18 with (first | (go_at_call 28; refine (rsync_any _ s _ HL2.out.dd HASC.out (wt_8L HN3.out)).mono ?_; rintro e V3 ⟨v3, rfl, hd3, hb3⟩; obtain ⟨b3, m3, j3, b4, m4, j4, rfl⟩ := hd3.form9; rw [HWS.out.2.1] at hd3 ⊢; have HD3 := hide (hd3.nol HL2.out.q (fun k e => by rw [e]; exact cell_block HL2.out.x.c0)); have HL3 := hide (HL2.out.below hb3); have HCH3 := hide (HCH.out.below hb3); have HRD3 := hide (HRD.out.below hb3); clear hd3 hb3) | (go_at_call 9; refine (ropen_any9 _ _ _ _ _ _ (syS s) base frm _ HD3.out HWS.out.2.1 HWS.out.2.2 (wt_8L HWS.out.1) hb0 hbf hfm).mono ?_; rintro e V4 ⟨vr, qr, ra, rlast, rfl, hlw4, hop4, hb4⟩; have hrd4 := (hop4.rd (fun q => vw_blk HWS.out.2.2.tb q) hlw4); have HRD4 := hide hrd4.1; obtain ⟨la4, lk4, rfl⟩ := hlw4.form; obtain ⟨hdet1, hdet2, hdet3⟩ := HOP.out.det hop4; have HDET := hide hdet1; have HCH4 := hide (HCH3.out.below hb4); have HRA4 := hide (HRD3.out.below hb4); have HB4 := hide (bt HL3.out.b.be hb4); clear hlw4 hop4 hb4 hrd4 hdet1))
          clear x0 x1 x2 xf HCH HRD HL2 HL3 HD3
          subst hdet2
          subst hdet3
          generalize hsp : max last (hiS base (syS s).cs) + 1 = sp at HCH4 ⊢
          clear hsp
          have hal := (Below.refl V4.heap.size V4).alloc (Nat.le_refl _) (.cells #[.int .i64 300, .slice b3 m3 j3, .slice b4 m4 j4, .int .i64 base, .int .i64 ca, .int .i64 sp] 39)
          have HBX := hide (B6.new V4 (.int .i64 300) (.slice b3 m3 j3) (.slice b4 m4 j4) (.int .i64 base) (.int .i64 ca) (.int .i64 sp) 39)
          have HCH5 := hide (HCH4.out.below hal)
          have HRA5 := hide (HRA4.out.below hal)
          have HRB5 := hide (HRD4.out.below hal)
          have HB5 := hide (bt HB4.out hal)
          clear hal HCH4 HRA4 HRD4 HB4
          generalize V4.alloc (.cells #[.int .i64 300, .slice b3 m3 j3, .slice b4 m4 j4, .int .i64 base, .int .i64 ca, .int .i64 sp] 39) = V5 at HBX HCH5 HRA5 HRB5 HB5 ⊢
          generalize V4.heap.size = gb at HBX ⊢
          go_upto_region 20 with fail
          have hdw : Below V5.heap.size V5 V5.drew := (Below.refl _ _).drew
          refine wp_region_held_drew (S := fun W => W.cell? ⟨gb, 4, none⟩ = some (.int .i64 ca) ∧ W.cell? ⟨gb, 5, none⟩ = some (.int .i64 sp)) (by kernel_rfl) ⟨(HBX.out.below hdw).at (i := 4) (by simp), (HBX.out.below hdw).at (i := 5) (by simp)⟩ (fun hHeld => ?_)
          have HCH6 := hide (HCH5.out.below hdw)
          have HRA6 := hide (HRA5.out.below hdw)
          have HRB6 := hide (HRB5.out.below hdw)
          have HB6 := hide (bt HB5.out hdw)
          have HGB : Hid (gb < V5.drew.heap.size) := hide (HBX.out.below hdw).lt
          generalize V5.drew = V6 at HCH6 HRA6 HRB6 HB6 HGB hHeld ⊢
          clear hdw HBX HCH5 HRA5 HRB5 HB5
          refine wpAnyH_take (i := 0) (oi := _) (v := .nilIface) rfl (by kernel_rfl) (by kernel_rfl) (by kernel_rfl) (fun _ _ _ h => h) (Or.inl ⟨by rfl, by intro w hSw; go_simp⟩) hHeld ?_
          change wpAnyH _ _ _ _ _ _ _ (Act.put _ (some 115) _) _
          simp only [Act.put, List.setIfInBounds_toArray, List.set_cons_zero, List.set_cons_succ]
          refine wpAnyH_take (i := 1) (oi := _) (v := .bool true) rfl (by kernel_rfl) (by kernel_rfl) (by kernel_rfl) (fun _ _ _ h => h) (Or.inl ⟨by rfl, by intro w hSw; go_simp⟩) hHeld ?_
          change wpAnyH _ _ _ _ _ _ _ (Act.put _ (some 116) _) _
          simp only [Act.put, List.setIfInBounds_toArray, List.set_cons_zero, List.set_cons_succ]
          refine wpAnyH_take (i := 2) (oi := _) (v := .bool true) rfl (by kernel_rfl) (by kernel_rfl) (by kernel_rfl) (fun _ _ _ h => h) (Or.inl ⟨by rfl, by intro w hSw; go_simp⟩) hHeld ?_
          change wpAnyH _ _ _ _ _ _ _ (Act.put _ (some 117) _) _
          simp only [Act.put, List.setIfInBounds_toArray, List.set_cons_zero, List.set_cons_succ]
          refine wpAnyH_take (i := 3) (oi := _) (v := .pointer (some ⟨c, 0, none⟩)) rfl (by kernel_rfl) (by kernel_rfl) (by kernel_rfl) (fun _ _ _ h => h) (Or.inl ⟨by rfl, by intro w hSw; go_simp⟩) hHeld ?_
          change wpAnyH _ _ _ _ _ _ _ (Act.put _ (some 118) _) _
          simp only [Act.put, List.setIfInBounds_toArray, List.set_cons_zero, List.set_cons_succ]
          refine wpAnyH_take (i := 4) (oi := _) (v := .bool true) rfl (by kernel_rfl) (by kernel_rfl) (by kernel_rfl) (fun _ _ _ h => h) (Or.inl ⟨by rfl, by intro w hSw; go_simp⟩) hHeld ?_
          change wpAnyH _ _ _ _ _ _ _ (Act.put _ (some 119) _) _
          simp only [Act.put, List.setIfInBounds_toArray, List.set_cons_zero, List.set_cons_succ]
          refine wpAnyH_take (i := 5) (oi := _) (v := .bool true) rfl (by kernel_rfl) (by kernel_rfl) (by kernel_rfl) (fun _ _ _ h => h) (Or.inl ⟨by rfl, by intro w hSw; go_simp⟩) hHeld ?_
          change wpAnyH _ _ _ _ _ _ _ (Act.put _ (some 120) _) _
          simp only [Act.put, List.setIfInBounds_toArray, List.set_cons_zero, List.set_cons_succ]
          refine wpAnyH_take (i := 6) (oi := _) (v := .bool true) rfl (by kernel_rfl) (by kernel_rfl) (by kernel_rfl) (fun _ _ _ h => h) (Or.inl ⟨by rfl, by intro w hSw; go_simp⟩) hHeld ?_
          change wpAnyH _ _ _ _ _ _ _ (Act.put _ (some 121) _) _
          simp only [Act.put, List.setIfInBounds_toArray, List.set_cons_zero, List.set_cons_succ]
          refine wpAnyH_take (i := 7) (oi := _) (v := .slice la qs.length lk) rfl (by kernel_rfl) (by kernel_rfl) (by kernel_rfl) (fun _ _ _ h => h) (Or.inl ⟨by rfl, by intro w hSw; go_simp⟩) hHeld ?_
          change wpAnyH _ _ _ _ _ _ _ (Act.put _ (some 122) _) _
          simp only [Act.put, List.setIfInBounds_toArray, List.set_cons_zero, List.set_cons_succ]
          refine wpAnyH_take (i := 8) (oi := _) (v := .slice la4 qr.length lk4) rfl (by kernel_rfl) (by kernel_rfl) (by kernel_rfl) (fun _ _ _ h => h) (Or.inl ⟨by rfl, by intro w hSw; go_simp⟩) hHeld ?_
          change wpAnyH _ _ _ _ _ _ _ (Act.put _ (some 123) _) _
          simp only [Act.put, List.setIfInBounds_toArray, List.set_cons_zero, List.set_cons_succ]
          refine wpAnyH_ready (rs := [9]) (by kernel_rfl) (by simp) ?_
          refine AllReadyH.cons (o := _) rfl (fun K hK => ?_) AllReadyH.nil
          go_simp
          go_at_call 23
          refine (lsame_any _ _ qs qr _ HRA6.out HRB6.out HDET.out (by have h1 := HQL.out; have h2 := HWS.out.2.2.tl; have h3 := HWS.out.1; omega)).mono ?_
          rintro e V7 ⟨rfl, hb7⟩
          go_wp2_with fail
          refine hK.out _ _ ⟨(hb7.cell (p := ⟨gb, 4, none⟩) HGB.out).trans hHeld.1, (hb7.cell (p := ⟨gb, 5, none⟩) HGB.out).trans hHeld.2⟩ (fun hHeld1 => ?_)
          clear hK K hHeld
          have hHeld := hHeld1
          clear hHeld1
          have HCH7 := hide (HCH6.out.below hb7)
          have HB7 := hide (bt HB6.out hb7)
          have HGB7 : Hid (gb < V7.heap.size) := hide (Nat.lt_of_lt_of_le HGB.out hb7.size)
          clear hb7 HCH6 HRA6 HRB6 HB6 HGB
          have HGB := HGB7
          clear HGB7
          refine wpAnyH_take (i := 10) (oi := _) (v := .bool true) rfl (by kernel_rfl) (by kernel_rfl) (by kernel_rfl) (fun _ _ _ h => h) (Or.inl ⟨by rfl, by intro w hSw; go_simp⟩) hHeld ?_
          change wpAnyH _ _ _ _ _ _ _ (Act.put _ (some 125) _) _
          simp only [Act.put, List.setIfInBounds_toArray, List.set_cons_zero, List.set_cons_succ]
          refine wpAnyH_take (i := 11) (oi := _) (v := .bool true) rfl (by kernel_rfl) (by kernel_rfl) (by kernel_rfl) (fun _ _ _ h => h) (Or.inl ⟨by rfl, by intro w hSw; go_simp⟩) hHeld ?_
          change wpAnyH _ _ _ _ _ _ _ (Act.put _ (some 126) _) _
          simp only [Act.put, List.setIfInBounds_toArray, List.set_cons_zero, List.set_cons_succ]
          refine wpAnyH_take (i := 12) (oi := _) (v := .pointer (some ⟨c, 0, none⟩)) rfl (by kernel_rfl) (by kernel_rfl) (by kernel_rfl) (fun _ _ _ h => h) (Or.inl ⟨by rfl, by intro w hSw; go_simp⟩) hHeld ?_
          change wpAnyH _ _ _ _ _ _ _ (Act.put _ (some 127) _) _
          simp only [Act.put, List.setIfInBounds_toArray, List.set_cons_zero, List.set_cons_succ]
          refine wpAnyH_take (i := 14) (oi := _) (v := .pointer (some ⟨gb, 4, none⟩)) rfl (by kernel_rfl) (by kernel_rfl) (by kernel_rfl) (fun _ _ _ h => h) (Or.inl ⟨by rfl, by intro w hSw; go_simp⟩) hHeld ?_
          change wpAnyH _ _ _ _ _ _ _ (Act.put _ (some 129) _) _
          simp only [Act.put, List.setIfInBounds_toArray, List.set_cons_zero, List.set_cons_succ]
          refine wpAnyH_take (i := 15) (oi := _) (v := .int .i64 ca) rfl (by kernel_rfl) (by kernel_rfl) (by kernel_rfl) (fun _ _ _ h => h) (Or.inl ⟨by rfl, by intro w hSw; have h1 := hSw.1; go_simp⟩) hHeld ?_
          change wpAnyH _ _ _ _ _ _ _ (Act.put _ (some 130) _) _
          simp only [Act.put, List.setIfInBounds_toArray, List.set_cons_zero, List.set_cons_succ]
          refine wpAnyH_ready (rs := [13]) (by kernel_rfl) (by simp) ?_
          refine AllReadyH.cons (o := _) rfl (fun K hK => ?_) AllReadyH.nil
          go_simp
          go_at_call 16
          refine (next_any _ HCH7.out).mono ?_
          rintro e Wz ⟨rfl, hwz⟩
          rw [hwz]
          clear hwz Wz
          go_wp2_with fail
          refine hK.out _ _ hHeld (fun hHeld1 => ?_)
          clear hK K hHeld
          have hHeld := hHeld1
          clear hHeld1
          have hcc : (ca == ca) = true := by simp
          refine wpAnyH_take (i := 16) (oi := _) (v := .bool true) rfl (by kernel_rfl) (by kernel_rfl) (by kernel_rfl) (fun _ _ _ h => h) (Or.inl ⟨by rfl, by intro w hSw; go_simp⟩) hHeld ?_
          change wpAnyH _ _ _ _ _ _ _ (Act.put _ (some 131) _) _
          simp only [Act.put, List.setIfInBounds_toArray, List.set_cons_zero, List.set_cons_succ]
          refine wpAnyH_take (i := 17) (oi := _) (v := .bool true) rfl (by kernel_rfl) (by kernel_rfl) (by kernel_rfl) (fun _ _ _ h => h) (Or.inl ⟨by rfl, by intro w hSw; go_simp⟩) hHeld ?_
          change wpAnyH _ _ _ _ _ _ _ (Act.put _ (some 132) _) _
          simp only [Act.put, List.setIfInBounds_toArray, List.set_cons_zero, List.set_cons_succ]
          refine wpAnyH_take (i := 18) (oi := _) (v := .bool true) rfl (by kernel_rfl) (by kernel_rfl) (by kernel_rfl) (fun _ _ _ h => h) (Or.inl ⟨by rfl, by intro w hSw; go_simp⟩) hHeld ?_
          change wpAnyH _ _ _ _ _ _ _ (Act.put _ (some 133) _) _
          simp only [Act.put, List.setIfInBounds_toArray, List.set_cons_zero, List.set_cons_succ]
          clear hcc
          refine wpAnyH_take (i := 19) (oi := _) (v := .pointer (some ⟨c, 0, none⟩)) rfl (by kernel_rfl) (by kernel_rfl) (by kernel_rfl) (fun _ _ _ h => h) (Or.inl ⟨by rfl, by intro w hSw; go_simp⟩) hHeld ?_
          change wpAnyH _ _ _ _ _ _ _ (Act.put _ (some 134) _) _
          simp only [Act.put, List.setIfInBounds_toArray, List.set_cons_zero, List.set_cons_succ]
          refine wpAnyH_take (i := 21) (oi := _) (v := .pointer (some ⟨gb, 5, none⟩)) rfl (by kernel_rfl) (by kernel_rfl) (by kernel_rfl) (fun _ _ _ h => h) (Or.inl ⟨by rfl, by intro w hSw; go_simp⟩) hHeld ?_
          change wpAnyH _ _ _ _ _ _ _ (Act.put _ (some 136) _) _
          simp only [Act.put, List.setIfInBounds_toArray, List.set_cons_zero, List.set_cons_succ]
          refine wpAnyH_take (i := 22) (oi := _) (v := .int .i64 sp) rfl (by kernel_rfl) (by kernel_rfl) (by kernel_rfl) (fun _ _ _ h => h) (Or.inl ⟨by rfl, by intro w hSw; have h1 := hSw.2; go_simp⟩) hHeld ?_
          change wpAnyH _ _ _ _ _ _ _ (Act.put _ (some 137) _) _
          simp only [Act.put, List.setIfInBounds_toArray, List.set_cons_zero, List.set_cons_succ]
          refine wpAnyH_ready (rs := [20]) (by kernel_rfl) (by simp) ?_
          refine AllReadyH.cons (o := _) rfl (fun K hK => ?_) AllReadyH.nil
          go_simp
          go_at_call 29
          refine (stampC_any _ HCH7.out).mono ?_
          rintro e Wz ⟨rfl, hwz⟩
          rw [hwz]
          clear hwz Wz
          go_wp2_with fail
          refine hK.out _ _ hHeld (fun hHeld1 => ?_)
          clear hK K hHeld
          have hHeld := hHeld1
          clear hHeld1
          have hsp : (sp == sp) = true := by simp
          refine wpAnyH_take (i := 23) (oi := _) (v := .bool true) rfl (by kernel_rfl) (by kernel_rfl) (by kernel_rfl) (fun _ _ _ h => h) (Or.inl ⟨by rfl, by intro w hSw; go_simp⟩) hHeld ?_
          change wpAnyH _ _ _ _ _ _ _ (Act.put _ (some 138) _) _
          simp only [Act.put, List.setIfInBounds_toArray, List.set_cons_zero, List.set_cons_succ]
          refine wpAnyH_take (i := 24) (oi := _) (v := .bool true) rfl (by kernel_rfl) (by kernel_rfl) (by kernel_rfl) (fun _ _ _ h => h) (Or.inl ⟨by rfl, by intro w hSw; go_simp⟩) hHeld ?_
          change wpAnyH _ _ _ _ _ _ _ (Act.put _ (some 139) _) _
          simp only [Act.put, List.setIfInBounds_toArray, List.set_cons_zero, List.set_cons_succ]
          refine wpAnyH_take (i := 25) (oi := _) (v := .bool true) rfl (by kernel_rfl) (by kernel_rfl) (by kernel_rfl) (fun _ _ _ h => h) (Or.inl ⟨by rfl, by intro w hSw; go_simp⟩) hHeld ?_
          change wpAnyH _ _ _ _ _ _ _ (Act.put _ (some 140) _) _
          simp only [Act.put, List.setIfInBounds_toArray, List.set_cons_zero, List.set_cons_succ]
          clear hsp
          refine wpAnyH_ready (rs := [26]) (by kernel_rfl) (by simp) ?_
          refine AllReadyH.cons (o := _) rfl (fun K hK => ?_) AllReadyH.nil
          go_simp
          go_at_call 6
          refine (cworks_any _).mono ?_
          rintro e V8 ⟨rfl, hb8⟩
          go_wp2_with fail
          refine hK.out _ _ ⟨(hb8.cell (p := ⟨gb, 4, none⟩) HGB.out).trans hHeld.1, (hb8.cell (p := ⟨gb, 5, none⟩) HGB.out).trans hHeld.2⟩ (fun hHeld1 => ?_)
          clear hK K hHeld
          have hHeld := hHeld1
          clear hHeld1
          have HB8 := hide (bt HB7.out hb8)
          clear hb8
          refine wpAnyH_take (i := 27) (oi := _) (v := .bool true) rfl (by kernel_rfl) (by kernel_rfl) (by kernel_rfl) (fun _ _ _ h => h) (Or.inl ⟨by rfl, by intro w hSw; go_simp⟩) hHeld ?_
          change wpAnyH _ _ _ _ _ _ _ (Act.put _ (some 142) _) _
          simp only [Act.put, List.setIfInBounds_toArray, List.set_cons_zero, List.set_cons_succ]
          refine wpAnyH_take (i := 28) (oi := _) (v := .bool true) rfl (by kernel_rfl) (by kernel_rfl) (by kernel_rfl) (fun _ _ _ h => h) (Or.inl ⟨by rfl, by intro w hSw; go_simp⟩) hHeld ?_
          change wpAnyH _ _ _ _ _ _ _ (Act.put _ (some 6) _) _
          simp only [Act.put, List.setIfInBounds_toArray, List.set_cons_zero, List.set_cons_succ]
          refine wpAnyH_done (by kernel_rfl) ?_ _
          clear hHeld
          go_wp2_with fail
          go_ret
          exact ⟨rfl, HB8.out⟩
        · have HBD : Hid (base < 0 ∨ (0 ≤ base ∧ (frm < base ∨ (base ≤ frm ∧ 1073741824 < frm)))) := hide (by omega)
          clear hbad
          go_upto_region 17 with (first | (go_at_call 8; refine (open_bad d base frm _ HBD.out).mono ?_; rintro e w9 ⟨rfl, hw9⟩; rw [hw9]; clear hw9 w9))
          obtain ⟨x0, x1, x2, xf⟩ := HL1.out.x
          go_upto_region 18 with (first | (go_at_call 28; refine (rsync_any _ s _ HL1.out.dd HASC.out (wt_8L HN3.out)).mono ?_; rintro e V3 ⟨v3, rfl, hd3, hb3⟩; obtain ⟨b3, m3, j3, b4, m4, j4, rfl⟩ := hd3.form9; rw [HWS.out.2.1] at hd3 ⊢; have HD3 := hide (hd3.nol HL1.out.q (fun k e => by rw [e]; exact cell_block HL1.out.x.c0)); have HL3 := hide (HL1.out.below hb3); clear hd3 hb3) | (go_at_call 9; refine (ropen_bad _ _ _ _ _ _ _ base frm _ HBD.out).mono ?_; rintro e V4 ⟨rfl, hb4⟩; have HB4 := hide (bt HL3.out.b.be hb4); clear hb4))
          clear x0 x1 x2 xf
          have hofv : ofV (some ([(opFrom, frm)], 2)) = 2 := rfl
          have HB5 : Hid (Below w.heap.size w (V4.alloc (.cells #[.int .i64 300, .slice b3 m3 j3, .slice b4 m4 j4, .int .i64 0, .int .i64 0, .int .i64 0] 39))) := hide (bt HB4.out ((Below.refl _ _).alloc (Nat.le_refl _) _))
          generalize V4.alloc (.cells #[.int .i64 300, .slice b3 m3 j3, .slice b4 m4 j4, .int .i64 0, .int .i64 0, .int .i64 0] 39) = V5 at HB5 ⊢
          go_wp2_with (first | (go_at_call 12; refine (of_ev _ _ (HH.out.below HB5.out)).mono ?_; rintro e V6 ⟨rfl, hb6⟩; rw [hofv]; have HB6 := hide (bt HB5.out hb6); clear hb6) | (go_at_call 6; refine (cworks_any _).mono ?_; rintro e w12 ⟨rfl, hb12⟩; have HB12 := hide (bt HB6.out hb12); clear hb12))
          go_ret
          exact ⟨rfl, HB12.out⟩
  · have h60I : (60 : Int) < (ps.length : Int) := by omega
    go_wp2_with (first | (go_at_call 6; refine (cworks_any _).mono ?_; rintro e w12 ⟨rfl, hb12⟩; have HB12 := hide hb12; clear hb12))
    go_ret
    exact ⟨rfl, HB12.out⟩
end Go.Proofs.YtoamghncncalgaaGreatDoor
