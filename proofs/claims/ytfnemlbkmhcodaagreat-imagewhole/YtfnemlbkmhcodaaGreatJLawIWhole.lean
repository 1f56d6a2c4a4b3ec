/-
  WHAT MAY BE STAYS SO (ImageWhole): whichever records come, the image is whole, and one that is no legal step leaves it as it was. Condition: the records lie in their cells, their rows in memory that was there.
-/
import Derived.Test.YtfnemlbkmhcodaaGreatJImLwa3
import Derived.Test.YtfnemlbkmhcodaaGreatJImWk
import Derived.Test.YtfnemlbkmhcodaaGreatJImQt
import Derived.Test.YtfnemlbkmhcodaaGreatJImQw
namespace Go.Proofs.YtfnemlbkmhcodaaGreat
open Go.RowKit

set_option maxRecDepth 100000 in
set_option maxHeartbeats 16000000 in
theorem iwhole_law {okb : Nat → Prop} (u : Value) (ps : List Rp) (w : World) (hv : Rl okb (fun k => k < w.heap.size) w u ps) : Calls Tryz.prog 4 #[u] w fun e w' => e = .returned (.bool true) ∧ Below w.heap.size w w' := by
  have HLI := hide (light_any u ps w hv)
  by_cases hli : liR (rcl ps) = true
  · rw [hli] at HLI
    have HV := hide hv
    have hl120 : ps.length ≤ 120 := by have := liR_len hli; rwa [rcl_len] at this
    have HTX : Hid (∀ r ∈ rcl ps, TxR r) := hide (liR_tx hli)
    obtain ⟨ao, cap, rfl⟩ := hv.form
    clear hv hli
    go_enter Tryz.func4, Tryz.ntmps4
    go_upto_region 5 with (first | (go_at_call 6; refine HLI.out.mono ?_; rintro e w1 ⟨rfl, hb1⟩; have HB1 := hide hb1; clear hb1 HLI))
    have HL0 : Hid (Lw w1 (w1.alloc (.cells (List.toArray [Value.slice none 0 0, .slice none 0 0, .slice none 0 0, .slice none 0 0, .int .i64 0]) 30)) w1.heap.size Im.zero Ip.zero (.slice none 0 0) []) := hide ⟨Bx.new w1 (iml Im.zero Ip.zero) _, fun W _ => ⟨rs_nil _ _ _ _, rs_nil _ _ _ _, (fun t ht => by cases ht), rfl, rs_nil _ _ _ _, rs_nil _ _ _ _⟩, ro_nil _ _ _ _ _, below_al1 w1 _⟩
    generalize w1.alloc (.cells (List.toArray [Value.slice none 0 0, .slice none 0 0, .slice none 0 0, .slice none 0 0, .int .i64 0]) 30) = V at HL0 ⊢
    have HBL : Hid (w.heap.size ≤ w1.heap.size) := hide HB1.out.size
    generalize hBB : w1.heap.size = BB at HL0 HBL ⊢
    have HBQ := hide hBB
    clear hBB
    obtain ⟨vo, hvo⟩ : ∃ v : Value, v = .slice none 0 0 := ⟨_, rfl⟩
    obtain ⟨lo, hlo⟩ : ∃ l : List Rgn, l = [] := ⟨_, rfl⟩
    rw [← hvo, ← hlo] at HL0
    clear hvo hlo
    go_loopw [4] (fun i W => ∃ (k : Nat) (m : Im) (p : Ip), k ≤ ps.length ∧ i = .int .i64 (k : Int) ∧ Lw w1 W BB m p vo lo ∧ Wf m k ∧ Who m) (fun i _ => ps.length - (ivQ i).toNat)
    case atStart => exact ⟨0, Im.zero, Ip.zero, Nat.zero_le _, rfl, HL0.out, wf_zero 0, who_zero⟩
    case round =>
      clear HL0
      obtain ⟨k, m, p, hk, rfl, hl, hwf, hwho⟩ := hrel
      have HL := hide hl
      have HWF := hide hwf
      have HWO := hide hwho
      clear hl hwf hwho
      have HBW : Hid (Below w.heap.size w wr) := hide (HB1.out.trans (by have h := HL.out.b; exact h.mono (by have := HBQ.out; have := HBL.out; omega)))
      by_cases hlt : k < ps.length
      · have hltI : (k : Int) < (ps.length : Int) := by omega
        obtain ⟨rb, ro, rfl, hrg⟩ := HV.out.rg (by omega)
        have HRB : Hid (rb < BB) := hide (by have := cell_block ((range_at hrg hlt) 0 _ rfl); have := HBL.out; simp only at *; omega)
        have HRG := hide (rg_bel (W := w) (range_at hrg hlt) HBW.out)
        have HIS := hide (fun W (h : Below wr.heap.size wr W) => ((HV.out.2 _ (List.getElem_mem hlt)).below (bt HBW.out h)).is)
        have HTR := hide (HTX.out _ (List.mem_map.2 ⟨_, List.getElem_mem hlt, rfl⟩))
        clear hrg
        generalize ps[k] = r at HRG HIS HTR
        have HW1 := hide (wf_app HWF.out r.1)
        have HO1 := hide (HWO.out.stp (app_stp m r.1))
        have HER : Hid ((app m r.1).2 ≠ 0 → (app m r.1).1 = m) := hide app_err
        go_upto_region 7 with fail
        go_cut [5, 6] (fun x y W => ∃ (g : Nat) (p' : Ip) (E : Value), x = .pointer (some ⟨g, 0, none⟩) ∧ y = E ∧ Lx w1 W BB g m (app m r.1).1 p p' vo lo ∧ Erc (app m r.1).2 E)
        case first =>
          clear HW1 HO1 HER
          have hdw : Below wr.heap.size wr wr.drew := (Below.refl _ _).drew
          refine wp_region_held_drew (S := fun W => Bx W BB (iml m p) ∧ W.rangeAt rb (ro + k * 18) (cel r)) (by kernel_rfl) ⟨HL.out.x.below hdw, rg_bel HRG.out hdw⟩ (fun hHeld => ?_)
          have HL4 := hide (HL.out.below hdw)
          replace HIS := hide (fun W (h : Below wr.drew.heap.size wr.drew W) => HIS.out W (bt hdw h))
          generalize wr.drew = V4 at HL4 HIS hHeld ⊢
          clear hdw HL
          have HAP := hide (fun W (h : Below V4.heap.size V4 W) => Apply_any m p r.1 _ W (Nok V4 BB vo) (fun g hg => Nat.lt_of_lt_of_le hg.1 h.size) (fun W' hW' => HL4.out.r W' (fun g g1 g2 g3 => (hW' g ⟨g1, g2, g3⟩).trans (h.block g g1))) (HWF.out.mono (by omega)) (HIS.out W h) HTR.out)
          obtain ⟨m', c', har⟩ : ∃ a b, app m r.1 = (a, b) := ⟨_, _, rfl⟩
          have HAR := hide har
          rw [har] at HAP
          clear har HIS HTR HWF
          refine wpAnyH_take (i := 0) (oi := _) (v := _) rfl (by kernel_rfl) (by kernel_rfl) (by kernel_rfl) (fun _ _ _ h => h) (yieldsIf_load_mid (by rfl) _ _ rfl _ _ rfl (iml m p) _ (fun W hW => hW.1.c) Tryz.underlying30 rfl (by kernel_rfl)) hHeld ?_
          change wpAnyH _ _ _ _ _ _ _ (Act.put _ (some 19) _) _
          simp only [Act.put, List.setIfInBounds_toArray, List.set_cons_zero, List.set_cons_succ]
          refine wpAnyH_take (i := 1) (oi := _) (v := .slice (some ⟨rb, ro, none⟩) ps.length cap) rfl (by kernel_rfl) (by kernel_rfl) (by kernel_rfl) (fun _ _ _ h => h) (Or.inl ⟨by rfl, by intro w hSw; go_simp⟩) hHeld ?_
          change wpAnyH _ _ _ _ _ _ _ (Act.put _ (some 20) _) _
          simp only [Act.put, List.setIfInBounds_toArray, List.set_cons_zero, List.set_cons_succ]
          refine wpAnyH_take (i := 2) (oi := _) (v := .int .i64 (k : Int)) rfl (by kernel_rfl) (by kernel_rfl) (by kernel_rfl) (fun _ _ _ h => h) (Or.inl ⟨by rfl, by intro w hSw; go_simp⟩) hHeld ?_
          change wpAnyH _ _ _ _ _ _ _ (Act.put _ (some 21) _) _
          simp only [Act.put, List.setIfInBounds_toArray, List.set_cons_zero, List.set_cons_succ]
          refine wpAnyH_take (i := 3) (oi := _) (v := .pointer (some ⟨rb, ro + k * 18, none⟩)) rfl (by kernel_rfl) (by kernel_rfl) (by kernel_rfl) (fun _ _ _ h => h) (Or.inl ⟨by rfl, by intro w hSw; go_simp⟩) hHeld ?_
          change wpAnyH _ _ _ _ _ _ _ (Act.put _ (some 22) _) _
          simp only [Act.put, List.setIfInBounds_toArray, List.set_cons_zero, List.set_cons_succ]
          refine wpAnyH_take (i := 4) (oi := _) (v := _) rfl (by kernel_rfl) (by kernel_rfl) (by kernel_rfl) (fun _ _ _ h => h) (yieldsIf_load_mid (by rfl) _ _ rfl _ _ rfl (cel r) _ (fun W hW => hW.2) Tryz.underlying62 rfl (by kernel_rfl)) hHeld ?_
          change wpAnyH _ _ _ _ _ _ _ (Act.put _ (some 23) _) _
          simp only [Act.put, List.setIfInBounds_toArray, List.set_cons_zero, List.set_cons_succ]
          refine wpAnyH_ready (rs := [5, 9]) (by kernel_rfl) (by simp) ?_
          refine AllReadyH.cons (o := _) rfl (fun K hK => ?_) (AllReadyH.cons (o := _) rfl (fun K hK => ?_) AllReadyH.nil)
          · go_simp
            go_at_call 30
            refine (HAP.out V4 (Below.refl _ _)).mono ?_
            rintro e V6 ⟨p', E, rfl, him, hE, hbx⟩
            have HEE := hide hE
            clear hE
            go_wp2_with fail
            refine hK.out _ _ ⟨hHeld.1.below hbx, rg_bel hHeld.2 hbx⟩ (fun hHeld1 => ?_)
            clear hK K hHeld
            have hHeld := hHeld1
            clear hHeld1
            refine wpAnyH_take (i := 6) (oi := _) (v := .tuple #[.agg (List.toArray [.slice p'.ab m'.br.length p'.cb, .slice p'.aq p'.ts.length p'.cq, .slice p'.ac m'.cf.length p'.cc, .slice p'.ad m'.dn.length p'.cd, .int .i64 m'.la]), E]) rfl (by kernel_rfl) (by kernel_rfl) (by kernel_rfl) (fun _ _ _ h => h) (Or.inl ⟨by rfl, by intro w hSw; unfold imv; go_simp⟩) hHeld ?_
            change wpAnyH _ _ _ _ _ _ _ (Act.put _ (some 18) _) _
            simp only [Act.put, List.setIfInBounds_toArray, List.set_cons_zero, List.set_cons_succ]
            refine wpAnyH_take (i := 7) (oi := _) (v := .agg (List.toArray [.slice p'.ab m'.br.length p'.cb, .slice p'.aq p'.ts.length p'.cq, .slice p'.ac m'.cf.length p'.cc, .slice p'.ad m'.dn.length p'.cd, .int .i64 m'.la])) rfl (by kernel_rfl) (by kernel_rfl) (by kernel_rfl) (fun _ _ _ h => h) (Or.inl ⟨by rfl, by intro w hSw; go_simp⟩) hHeld ?_
            change wpAnyH _ _ _ _ _ _ _ (Act.put _ (some 25) _) _
            simp only [Act.put, List.setIfInBounds_toArray, List.set_cons_zero, List.set_cons_succ]
            refine wpAnyH_take (i := 8) (oi := _) (v := E) rfl (by kernel_rfl) (by kernel_rfl) (by kernel_rfl) (fun _ _ _ h => h) (Or.inl ⟨by rfl, by intro w hSw; go_simp⟩) hHeld ?_
            change wpAnyH _ _ _ _ _ _ _ (Act.put _ (some 26) _) _
            simp only [Act.put, List.setIfInBounds_toArray, List.set_cons_zero, List.set_cons_succ]
            refine wpAnyH_ready (rs := [9]) (by kernel_rfl) (by simp) ?_
            refine AllReadyH.cons (o := _) rfl (fun K hK => ?_) AllReadyH.nil
            go_simp
            refine hK.out _ _ ⟨hHeld.1.below (below_al1 _ _), rg_bel hHeld.2 (below_al1 _ _)⟩ (fun hHeld1 => ?_)
            clear hK K hHeld
            have hHeld := hHeld1
            clear hHeld1
            have hne : ¬ BB = V6.heap.size := fun e => by have := HL4.out.x.l; have := hbx.size; omega
            have hnr : ¬ rb = V6.heap.size := fun e => by have := HRB.out; have := HL4.out.x.l; have := hbx.size; omega
            have hzz := Bx.new V6 imzl 30
            have HLX := hide (Lw.one HL4.out hbx him (hzz.set (iml m' p') rfl) (below_sets (Nat.le_refl _) (iml m' p') 0 _ (below_al1 V6 (.cells (List.toArray [Value.slice none 0 0, .slice none 0 0, .slice none 0 0, .slice none 0 0, .int .i64 0]) 30))))
            clear him hbx
            replace HLX : Hid (Lx w1 ((V6.alloc (.cells (List.toArray [Value.slice none 0 0, .slice none 0 0, .slice none 0 0, .slice none 0 0, .int .i64 0]) 30)).setCells V6.heap.size 0 (iml m' p')) BB V6.heap.size m m' p p' vo lo) := HLX
            replace hzz : Bx (V6.alloc (.cells (List.toArray [Value.slice none 0 0, .slice none 0 0, .slice none 0 0, .slice none 0 0, .int .i64 0]) 30)) V6.heap.size imzl := hzz
            generalize V6.alloc (.cells (List.toArray [Value.slice none 0 0, .slice none 0 0, .slice none 0 0, .slice none 0 0, .int .i64 0]) 30) = V7 at HLX hzz hHeld ⊢
            generalize V6.heap.size = gg at HLX hzz hne hnr ⊢
            refine wpAnyH_ready (rs := [10]) (by kernel_rfl) (by simp) ?_
            refine AllReadyH.cons (o := _) rfl (fun K hK => ?_) AllReadyH.nil
            obtain ⟨e0, e1, e2, e3, e4⟩ := hzz.c5
            have f0 := hzz.f 0 (by decide)
            have f1 := hzz.f 1 (by decide)
            have f2 := hzz.f 2 (by decide)
            have f3 := hzz.f 3 (by decide)
            have f4 := hzz.f 4 (by decide)
            go_simp
            clear e0 e1 e2 e3 e4 f0 f1 f2 f3 f4
            refine hK.out _ _ ⟨hHeld.1.apart hne (iml m' p') 0, rg_sets hHeld.2 hnr (iml m' p') 0⟩ (fun hHeld1 => ?_)
            clear hK K hHeld
            have hHeld := hHeld1
            clear hHeld1
            refine wpAnyH_take (i := 11) (oi := _) (v := E) rfl (by kernel_rfl) (by kernel_rfl) (by kernel_rfl) (fun _ _ _ h => h) (Or.inl ⟨by rfl, by intro w hSw; go_simp⟩) hHeld ?_
            change wpAnyH _ _ _ _ _ _ _ (Act.put _ (some 6) _) _
            simp only [Act.put, List.setIfInBounds_toArray, List.set_cons_zero, List.set_cons_succ]
            refine wpAnyH_done (by kernel_rfl) ?_ _
            clear hHeld
            go_wp2_with fail
            go_meet
            exact ⟨gg, p', E, rfl, rfl, by rw [HAR.out]; exact HLX.out, by rw [HAR.out]; exact HEE.out⟩
          · go_simp
            refine hK.out _ _ ⟨hHeld.1.below (below_al1 _ _), rg_bel hHeld.2 (below_al1 _ _)⟩ (fun hHeld1 => ?_)
            clear hK K hHeld
            have hHeld := hHeld1
            clear hHeld1
            have HZB := hide (Bx.new V4 imzl 30)
            have HB5 := hide (below_al1 V4 (.cells (List.toArray [Value.slice none 0 0, .slice none 0 0, .slice none 0 0, .slice none 0 0, .int .i64 0]) 30))
            have HS5 : Hid (V4.heap.size < (V4.alloc (.cells (List.toArray [Value.slice none 0 0, .slice none 0 0, .slice none 0 0, .slice none 0 0, .int .i64 0]) 30)).heap.size) := hide (by simp)
            replace HZB : Hid (Bx (V4.alloc (.cells (List.toArray [Value.slice none 0 0, .slice none 0 0, .slice none 0 0, .slice none 0 0, .int .i64 0]) 30)) V4.heap.size imzl) := HZB
            generalize V4.alloc (.cells (List.toArray [Value.slice none 0 0, .slice none 0 0, .slice none 0 0, .slice none 0 0, .int .i64 0]) 30) = V5 at HZB HB5 HS5 hHeld ⊢
            refine wpAnyH_ready (rs := [5]) (by kernel_rfl) (by simp) ?_
            refine AllReadyH.cons (o := _) rfl (fun K hK => ?_) AllReadyH.nil
            go_simp
            go_at_call 30
            refine (HAP.out V5 HB5.out).mono ?_
            rintro e V6 ⟨p', E, rfl, him, hE, hbx⟩
            have HEE := hide hE
            clear hE
            go_wp2_with fail
            refine hK.out _ _ ⟨hHeld.1.below hbx, rg_bel hHeld.2 hbx⟩ (fun hHeld1 => ?_)
            clear hK K hHeld
            have hHeld := hHeld1
            clear hHeld1
            refine wpAnyH_take (i := 6) (oi := _) (v := .tuple #[.agg (List.toArray [.slice p'.ab m'.br.length p'.cb, .slice p'.aq p'.ts.length p'.cq, .slice p'.ac m'.cf.length p'.cc, .slice p'.ad m'.dn.length p'.cd, .int .i64 m'.la]), E]) rfl (by kernel_rfl) (by kernel_rfl) (by kernel_rfl) (fun _ _ _ h => h) (Or.inl ⟨by rfl, by intro w hSw; unfold imv; go_simp⟩) hHeld ?_
            change wpAnyH _ _ _ _ _ _ _ (Act.put _ (some 18) _) _
            simp only [Act.put, List.setIfInBounds_toArray, List.set_cons_zero, List.set_cons_succ]
            refine wpAnyH_take (i := 7) (oi := _) (v := .agg (List.toArray [.slice p'.ab m'.br.length p'.cb, .slice p'.aq p'.ts.length p'.cq, .slice p'.ac m'.cf.length p'.cc, .slice p'.ad m'.dn.length p'.cd, .int .i64 m'.la])) rfl (by kernel_rfl) (by kernel_rfl) (by kernel_rfl) (fun _ _ _ h => h) (Or.inl ⟨by rfl, by intro w hSw; go_simp⟩) hHeld ?_
            change wpAnyH _ _ _ _ _ _ _ (Act.put _ (some 25) _) _
            simp only [Act.put, List.setIfInBounds_toArray, List.set_cons_zero, List.set_cons_succ]
            refine wpAnyH_take (i := 8) (oi := _) (v := E) rfl (by kernel_rfl) (by kernel_rfl) (by kernel_rfl) (fun _ _ _ h => h) (Or.inl ⟨by rfl, by intro w hSw; go_simp⟩) hHeld ?_
            change wpAnyH _ _ _ _ _ _ _ (Act.put _ (some 26) _) _
            simp only [Act.put, List.setIfInBounds_toArray, List.set_cons_zero, List.set_cons_succ]
            have hzz := HZB.out.below hbx
            have hne : ¬ BB = V4.heap.size := fun e => by have := HL4.out.x.l; omega
            have hnr : ¬ rb = V4.heap.size := fun e => by have := HRB.out; have := HL4.out.x.l; omega
            have HLX := hide (Lw.two HL4.out HB5.out HS5.out hbx him (hzz.set (iml m' p') rfl) (fun q xs e h => h.apart e _ 0) (fun A u e h => below_sets e _ 0 _ h) (fun g e => hp_sets e _ 0 _) (by rw [sz_sets]; exact Nat.le_refl _))
            clear him hbx
            generalize V4.heap.size = gg at HLX hzz hne hnr ⊢
            refine wpAnyH_ready (rs := [10]) (by kernel_rfl) (by simp) ?_
            refine AllReadyH.cons (o := _) rfl (fun K hK => ?_) AllReadyH.nil
            obtain ⟨e0, e1, e2, e3, e4⟩ := hzz.c5
            have f0 := hzz.f 0 (by decide)
            have f1 := hzz.f 1 (by decide)
            have f2 := hzz.f 2 (by decide)
            have f3 := hzz.f 3 (by decide)
            have f4 := hzz.f 4 (by decide)
            go_simp
            clear e0 e1 e2 e3 e4 f0 f1 f2 f3 f4
            refine hK.out _ _ ⟨hHeld.1.apart hne (iml m' p') 0, rg_sets hHeld.2 hnr (iml m' p') 0⟩ (fun hHeld1 => ?_)
            clear hK K hHeld
            have hHeld := hHeld1
            clear hHeld1
            refine wpAnyH_take (i := 11) (oi := _) (v := E) rfl (by kernel_rfl) (by kernel_rfl) (by kernel_rfl) (fun _ _ _ h => h) (Or.inl ⟨by rfl, by intro w hSw; go_simp⟩) hHeld ?_
            change wpAnyH _ _ _ _ _ _ _ (Act.put _ (some 6) _) _
            simp only [Act.put, List.setIfInBounds_toArray, List.set_cons_zero, List.set_cons_succ]
            refine wpAnyH_done (by kernel_rfl) ?_ _
            clear hHeld
            go_wp2_with fail
            go_meet
            exact ⟨gg, p', E, rfl, rfl, by rw [HAR.out]; exact HLX.out, by rw [HAR.out]; exact HEE.out⟩
        case rest =>
          obtain ⟨g, p', E, rfl, rfl, hlx, hee⟩ := hcut
          have HLX := hide hlx
          have HEE := hide hee
          clear hlx hee HL HRG HIS HTR HRB HWF HWO
          generalize app m r.1 = ar at HLX HW1 HO1 HER HEE ⊢
          obtain ⟨m', c'⟩ := ar
          dsimp only at *
          have HWH := hide (fun W (h : Below wc.heap.size wc W) => whole_any m' p' W ((HLX.out.below h).r W (fun _ _ _ _ _ => rfl)) (HW1.out.mono (by omega)) HO1.out)
          by_cases hc : c' = 0
          · subst hc
            obtain rfl := erc_zero HEE.out
            replace HWH := hide (HWH.out _ (Below.refl _ _))
            unfold imv at HWH
            obtain ⟨y0, y1, y2, y3, y4⟩ := HLX.out.y.im
            go_wp2_with (first | (go_at_call 31; refine HWH.out.mono ?_; rintro e wz ⟨rfl, hbz⟩; replace HLX := hide (HLX.out.below hbz); clear hbz HWH) | (refine wpList_load_mid rfl _ _ rfl _ _ rfl _ _ HLX.out.y.c Tryz.underlying30 rfl (by kernel_rfl) ?_) | (refine wpList_set rfl _ _ _ rfl _ _ rfl HLX.out.x (iml m' p') rfl rfl (by kernel_rfl) rfl ?_; intro W3 hz hk hb hp; have HLF := hide (HLX.out.next hz hb hp (hb 0 _ (Nat.zero_le _) (Below.refl _ _)).size); clear hz hk hb hp))
            go_roundw
            case rel => exact ⟨k + 1, m', p', by omega, by go_num, HLF.out, HW1.out, HO1.out⟩
            case measure => simp [ivQ]; omega
          · obtain ⟨tE, vE, rfl, _⟩ := erc_wrap HEE.out hc
            have hmm := HER.out hc
            subst hmm
            have HSA := hide (rsame_any m' p' p wc (HLX.out.r wc (fun _ _ _ _ _ => rfl)) (HLX.out.q wc (fun _ _ _ _ _ => rfl)) (HW1.out.mono (by omega)))
            clear HEE HER hc
            unfold imv at HWH HSA
            go_wp2_with (first | (refine wpList_load_want (by go_simp; done) _ _ rfl _ _ rfl _ _ HLX.out.y.c Tryz.underlying30 rfl (by kernel_rfl) ?_) | (refine wpList_load_want (by go_simp; done) _ _ rfl _ _ rfl _ _ HLX.out.x.c Tryz.underlying30 rfl (by kernel_rfl) ?_) | (go_at_call 28; refine HSA.out.mono ?_; rintro e wy ⟨rfl, hby⟩; replace HLX := hide (HLX.out.below hby); replace HWH := hide (HWH.out _ hby); clear hby HSA) | (go_at_call 31; refine HWH.out.mono ?_; rintro e wz ⟨rfl, hbz⟩; replace HLX := hide (HLX.out.below hbz); clear hbz HWH) | (refine wpList_load_mid rfl _ _ rfl _ _ rfl _ _ HLX.out.y.c Tryz.underlying30 rfl (by kernel_rfl) ?_) | (refine wpList_set rfl _ _ _ rfl _ _ rfl HLX.out.x (iml m' p') rfl rfl (by kernel_rfl) rfl ?_; intro W3 hz hk hb hp; have HLF := hide (HLX.out.next hz hb hp (hb 0 _ (Nat.zero_le _) (Below.refl _ _)).size); clear hz hk hb hp))
            go_roundw
            case rel => exact ⟨k + 1, m', p', by omega, by go_num, HLF.out, HW1.out, HO1.out⟩
            case measure => simp [ivQ]; omega
      · obtain rfl : k = ps.length := by omega
        go_wp2_with (first | (go_at_call 7; refine (works_any _).mono ?_; rintro e w9 ⟨rfl, hb9⟩; have HB9 := hide (bt HBW.out hb9); clear hb9))
        go_ret
        exact ⟨rfl, HB9.out⟩
  · rw [Bool.eq_false_iff.2 hli] at HLI
    obtain ⟨ao, cap, rfl⟩ := hv.form
    clear hv hli
    go_enter Tryz.func4, Tryz.ntmps4
    go_wp2_with (first | (go_at_call 6; refine HLI.out.mono ?_; rintro e w1 ⟨rfl, hb1⟩; have HB1 := hide hb1; clear hb1 HLI) | (go_at_call 7; refine (works_any _).mono ?_; rintro e w9 ⟨rfl, hb9⟩; have HB9 := hide (bt HB1.out hb9); clear hb9))
    go_ret
    exact ⟨rfl, HB9.out⟩
end Go.Proofs.YtfnemlbkmhcodaaGreat
