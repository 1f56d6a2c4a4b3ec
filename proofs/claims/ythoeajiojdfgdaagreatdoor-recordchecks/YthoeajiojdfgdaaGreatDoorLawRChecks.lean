/-
  RecordChecks' WALK, where all is asked: the region that draws its order, step by step.
-/
import Derived.Test.YthoeajiojdfgdaaGreatDoorRecChks
import Derived.Deep.RegionHeld3
import Derived.Deep.MidRow
namespace Go.Proofs.YthoeajiojdfgdaaGreatDoor
open Go.RowKit

set_option maxRecDepth 100000 in
set_option maxHeartbeats 64000000 in
theorem rchk_4 (r q : Rc) (a14 a15 a16 a17 b14 b15 b16 b17 : Option Addr) (c14 c15 c16 c17 d14 d15 d16 d17 : Nat) (S : List UInt8) (ao : Option Addr) (cap : Nat) (l : List Int) (w : World) (hrw : RwsR (fun b => b < w.heap.size) w r a14 a15 a16 a17 c14 c15 c16 c17) (hqw : RwsR (fun b => b < w.heap.size) w q b14 b15 b16 b17 d14 d15 d16 d17) (hv : Sl ic w (.slice ao l.length cap) l) (hg : Hnd w) (hs : shB r = true) (hq : shB q = true) (hS : ¬ 400 < S.length) (hl : ¬ 100 < l.length) :
    Calls Tryz.prog 3 #[.agg (cellsR r a14 a15 a16 a17 c14 c15 c16 c17).toArray, .agg (cellsR q b14 b15 b16 b17 d14 d15 d16 d17).toArray, .string ⟨S.toArray⟩, .slice ao l.length cap] w fun e w' => e = .returned (.bool true) ∧ Below w.heap.size w w' := by
  have HVR : Hid (∀ W, Below w.heap.size w W → IsR (fun b => b < w.heap.size) W (.agg (cellsR r a14 a15 a16 a17 c14 c15 c16 c17).toArray) r) := hide (fun W h => ⟨a14, a15, a16, a17, c14, c15, c16, c17, rfl, hrw.below h⟩)
  have HVQ : Hid (∀ W, Below w.heap.size w W → IsR (fun b => b < w.heap.size) W (.agg (cellsR q b14 b15 b16 b17 d14 d15 d16 d17).toArray) q) := hide (fun W h => ⟨b14, b15, b16, b17, d14, d15, d16, d17, rfl, hqw.below h⟩)
  have HG := hide hg
  have HVL := hide hv
  have HSR := hide (fun W (h : Below w.heap.size w W) => short_any r _ W (HVR.out W h))
  have HSQ := hide (fun W (h : Below w.heap.size w W) => short_any q _ W (HVQ.out W h))
  have HWK := hide (fun W (h : Below w.heap.size w W) => works_any W (HG.out.below h))
  have HRG : Hid (((w.alloc (.cells (cellsR r a14 a15 a16 a17 c14 c15 c16 c17).toArray 24)).alloc (.cells (cellsR q b14 b15 b16 b17 d14 d15 d16 d17).toArray 24)).rangeAt w.heap.size 0 (cellsR r a14 a15 a16 a17 c14 c15 c16 c17)) := hide (World.rangeAt_alloc (range_new w _ _) _)
  have HPG : Hid (((w.alloc (.cells (cellsR r a14 a15 a16 a17 c14 c15 c16 c17).toArray 24)).alloc (.cells (cellsR q b14 b15 b16 b17 d14 d15 d16 d17).toArray 24)).rangeAt (w.heap.size + 1) 0 (cellsR q b14 b15 b16 b17 d14 d15 d16 d17)) := hide (by
    have := range_new (w.alloc (.cells (cellsR r a14 a15 a16 a17 c14 c15 c16 c17).toArray 24)) (cellsR q b14 b15 b16 b17 d14 d15 d16 d17) 24
    have hz : (w.alloc (.cells (cellsR r a14 a15 a16 a17 c14 c15 c16 c17).toArray 24)).heap.size = w.heap.size + 1 := by simp
    rwa [hz] at this)
  have HB : Hid (Below w.heap.size w ((w.alloc (.cells (cellsR r a14 a15 a16 a17 c14 c15 c16 c17).toArray 24)).alloc (.cells (cellsR q b14 b15 b16 b17 d14 d15 d16 d17).toArray 24))) := hide (((Below.refl _ _).alloc (Nat.le_refl _) _).alloc (by simp) _)
  clear hrw hqw hg hv
  obtain ⟨X, hX⟩ : ∃ X, X = ((w.alloc (.cells (cellsR r a14 a15 a16 a17 c14 c15 c16 c17).toArray 24)).alloc (.cells (cellsR q b14 b15 b16 b17 d14 d15 d16 d17).toArray 24)) := ⟨_, rfl⟩
  rw [← hX] at HRG HPG HB
  have HX := hide hX
  clear hX
  have HTR := hide (sh_tx hs)
  have HLR : Hid (LnR r) := hide (by have := of_decide_eq_true (show decide _ = true from hs); exact ⟨by omega, by omega, by omega, by omega⟩)
  rw [hs] at HSR
  clear hs
  rw [hq] at HSQ
  clear hq
  have hSI : ¬ (400 : Int) < (S.length : Int) := by omega
  have hlI : ¬ (100 : Int) < (l.length : Int) := by omega
  go_enter Tryz.func3, Tryz.ntmps3
  go_upto_region 1 with fail
  rw [← show X = _ from HX.out]
  go_upto_region 3 with (first | (refine wpList_load_mid rfl _ _ rfl _ _ rfl _ _ (HRG.out) Tryz.underlying24 rfl (by kernel_rfl) ?_) | (refine wpList_load_want (by rfl) _ _ rfl _ _ rfl _ _ (HPG.out) Tryz.underlying24 rfl (by kernel_rfl) ?_) | (go_at_call 6; first | (with_reducible refine (HSR.out _ HB.out).mono ?_; rintro e W1 ⟨rfl, hb1⟩; replace HB := hide (HB.out.trans (hb1.mono HB.out.size)); replace HRG := hide (range_below HRG.out hb1); replace HPG := hide (range_below HPG.out hb1); clear hb1) | (refine (HSQ.out _ HB.out).mono ?_; rintro e W1 ⟨rfl, hb1⟩; replace HB := hide (HB.out.trans (hb1.mono HB.out.size)); replace HRG := hide (range_below HRG.out hb1); replace HPG := hide (range_below HPG.out hb1); clear hb1)) | (go_at_call 7; refine (HWK.out _ HB.out).mono ?_; rintro e W1 ⟨rfl, hb1⟩; replace HB := hide (HB.out.trans (hb1.mono HB.out.size)); clear hb1))
  clear HX HSR HSQ
  obtain ⟨Y, hY⟩ : ∃ Y : World, Y = W1 := ⟨_, rfl⟩
  rw [← hY] at HRG HPG HB ⊢
  clear hY
  have HCK := hide (fun W (h : Below Y.heap.size Y W) => ccheck_any r _ W (HVR.out W (HB.out.trans (h.mono HB.out.size))) HTR.out)
  have HRC := hide (fun W (h : Below Y.heap.size Y W) => rcheck_any r _ W (HVR.out W (HB.out.trans (h.mono HB.out.size))) HTR.out)
  have HWR := hide (fun W (h : Below Y.heap.size Y W) => wrong_any (chk r).1 (chk r).2.1 (chk r).2.2 W (HG.out.below (HB.out.trans (h.mono HB.out.size))))
  generalize erN (chk r).1 (chk r).2.1 (chk r).2.2 = E at *
  generalize chk r = TT at *
  have HN1 := hide (fun W => cname_any S W (by omega))
  have HN2 := hide (fun W => name_any S W (by omega))
  generalize nameB S = tn at *
  have HB1 := hide (fun W (h : Below Y.heap.size Y W) => cbrok_any _ l W (HVL.out.below (HB.out.trans (h.mono HB.out.size))))
  have HB2 := hide (fun W (h : Below Y.heap.size Y W) => brok_any _ l W (HVL.out.below (HB.out.trans (h.mono HB.out.size))))
  generalize brokB l = tb at *
  have HS1 := hide (fun W (h : Below Y.heap.size Y W) => csame_any r q _ _ W (HVR.out W (HB.out.trans (h.mono HB.out.size))) (HVQ.out W (HB.out.trans (h.mono HB.out.size))) HLR.out)
  have HS2 := hide (fun W (h : Below Y.heap.size Y W) => rsame_any r q _ _ W (HVR.out W (HB.out.trans (h.mono HB.out.size))) (HVQ.out W (HB.out.trans (h.mono HB.out.size))) HLR.out)
  generalize sameR r q = ts at *
  have HWY := hide (fun W (h : Below Y.heap.size Y W) => HWK.out W (HB.out.trans (h.mono HB.out.size)))
  have HFF : Hid (∀ W, Below Y.heap.size Y W → (fun W : World => (W.rangeAt w.heap.size 0 (cellsR r a14 a15 a16 a17 c14 c15 c16 c17) ∧ W.rangeAt (w.heap.size + 1) 0 (cellsR q b14 b15 b16 b17 d14 d15 d16 d17))) W) := hide (fun W h => ⟨range_below HRG.out h, range_below HPG.out h⟩)
  have HS0 := hide (hs_drew HFF.out (Nat.le_refl _))
  clear HRG HPG HVL HVR HVQ HTR HWK
  refine wp_region_held_drew (S := fun W => (W.rangeAt w.heap.size 0 (cellsR r a14 a15 a16 a17 c14 c15 c16 c17) ∧ W.rangeAt (w.heap.size + 1) 0 (cellsR q b14 b15 b16 b17 d14 d15 d16 d17)) ∧ Below Y.heap.size Y W ∧ Y.heap.size ≤ W.heap.size) (by kernel_rfl) HS0.out (fun hHeld => ?_)
  -- operation 0, a load
  refine wpAnyH_take (i := 0) (oi := _) (v := _) rfl (by kernel_rfl) (by kernel_rfl) (by kernel_rfl) (fun _ _ _ h => h) (yieldsIf_load_mid (by rfl) _ _ rfl _ _ rfl (cellsR r a14 a15 a16 a17 c14 c15 c16 c17) _ (fun W hW => hW.1.1) Tryz.underlying24 rfl (by kernel_rfl)) hHeld ?_
  change wpAnyH _ _ _ _ _ _ _ (Act.put _ (some 28) _) _
  simp only [Act.put, List.setIfInBounds_toArray, List.set_cons_zero, List.set_cons_succ]
  -- operation 2, a load
  refine wpAnyH_take (i := 2) (oi := _) (v := _) rfl (by kernel_rfl) (by kernel_rfl) (by kernel_rfl) (fun _ _ _ h => h) (yieldsIf_load_mid (by rfl) _ _ rfl _ _ rfl (cellsR r a14 a15 a16 a17 c14 c15 c16 c17) _ (fun W hW => hW.1.1) Tryz.underlying24 rfl (by kernel_rfl)) hHeld ?_
  change wpAnyH _ _ _ _ _ _ _ (Act.put _ (some 30) _) _
  simp only [Act.put, List.setIfInBounds_toArray, List.set_cons_zero, List.set_cons_succ]
  -- operation 1, record.Check
  refine wpAnyH_ready (rs := [1]) (by kernel_rfl) (by simp) ?_
  refine AllReadyH.cons (o := _) rfl (fun K hK => ?_) AllReadyH.nil
  go_simp
  go_at_call 9
  refine (HCK.out _ hHeld.2.1).mono ?_
  rintro e w1 ⟨rfl, hb⟩
  go_wp2_with fail
  refine hK.out _ _ ?_ (fun hHeld1 => ?_)
  · exact hs_call HFF.out hb hHeld
  clear hK K hHeld
  have hHeld := hHeld1
  clear hHeld1 hb
  -- operation 3, castellanref05.Check
  refine wpAnyH_ready (rs := [3]) (by kernel_rfl) (by simp) ?_
  refine AllReadyH.cons (o := _) rfl (fun K hK => ?_) AllReadyH.nil
  go_simp
  go_at_call 10
  refine (HRC.out _ hHeld.2.1).mono ?_
  rintro e w3 ⟨rfl, hb⟩
  go_wp2_with fail
  refine hK.out _ _ ?_ (fun hHeld1 => ?_)
  · exact hs_call HFF.out hb hHeld
  clear hK K hHeld
  have hHeld := hHeld1
  clear hHeld1 hb
  -- operation 4, castellanlaw05.wrong
  refine wpAnyH_ready (rs := [4]) (by kernel_rfl) (by simp) ?_
  refine AllReadyH.cons (o := _) rfl (fun K hK => ?_) AllReadyH.nil
  go_simp
  go_at_call 8
  refine (HWR.out _ hHeld.2.1).mono ?_
  rintro e w4 ⟨rfl, hb⟩
  go_wp2_with fail
  refine hK.out _ _ ?_ (fun hHeld1 => ?_)
  · exact hs_call HFF.out hb hHeld
  clear hK K hHeld
  have hHeld := hHeld1
  clear hHeld1 hb
  -- operation 5
  refine wpAnyH_take (i := 5) (oi := _) (v := .bool true) rfl (by kernel_rfl) (by kernel_rfl) (by kernel_rfl) (fun _ _ _ h => h) (Or.inl ⟨by rfl, by intro w hSw; go_simp⟩) hHeld ?_
  change wpAnyH _ _ _ _ _ _ _ (Act.put _ (some 33) _) _
  simp only [Act.put, List.setIfInBounds_toArray, List.set_cons_zero, List.set_cons_succ]
  -- operation 6
  refine wpAnyH_take (i := 6) (oi := _) (v := .string ⟨S.toArray⟩) rfl (by kernel_rfl) (by kernel_rfl) (by kernel_rfl) (fun _ _ _ h => h) (Or.inl ⟨by rfl, by intro w hSw; go_simp⟩) hHeld ?_
  change wpAnyH _ _ _ _ _ _ _ (Act.put _ (some 34) _) _
  simp only [Act.put, List.setIfInBounds_toArray, List.set_cons_zero, List.set_cons_succ]
  -- operation 8
  refine wpAnyH_take (i := 8) (oi := _) (v := .string ⟨S.toArray⟩) rfl (by kernel_rfl) (by kernel_rfl) (by kernel_rfl) (fun _ _ _ h => h) (Or.inl ⟨by rfl, by intro w hSw; go_simp⟩) hHeld ?_
  change wpAnyH _ _ _ _ _ _ _ (Act.put _ (some 36) _) _
  simp only [Act.put, List.setIfInBounds_toArray, List.set_cons_zero, List.set_cons_succ]
  -- operation 7, record.Name
  refine wpAnyH_ready (rs := [7]) (by kernel_rfl) (by simp) ?_
  refine AllReadyH.cons (o := _) rfl (fun K hK => ?_) AllReadyH.nil
  go_simp
  go_at_call 11
  refine (HN1.out _).mono ?_
  rintro e w7 ⟨rfl, hb⟩
  go_wp2_with fail
  refine hK.out _ _ ?_ (fun hHeld1 => ?_)
  · exact hs_call HFF.out hb hHeld
  clear hK K hHeld
  have hHeld := hHeld1
  clear hHeld1 hb
  -- operation 9, castellanref05.Name
  refine wpAnyH_ready (rs := [9]) (by kernel_rfl) (by simp) ?_
  refine AllReadyH.cons (o := _) rfl (fun K hK => ?_) AllReadyH.nil
  go_simp
  go_at_call 12
  refine (HN2.out _).mono ?_
  rintro e w9 ⟨rfl, hw⟩
  go_wp2_with fail
  refine hK.out _ _ ?_ (fun hHeld1 => ?_)
  · first | exact hHeld | (rw [hw]; exact hHeld)
  clear hK K hHeld
  have hHeld := hHeld1
  clear hHeld1 hw
  -- operation 10
  refine wpAnyH_take (i := 10) (oi := _) (v := .bool true) rfl (by kernel_rfl) (by kernel_rfl) (by kernel_rfl) (fun _ _ _ h => h) (Or.inl ⟨by rfl, by intro w hSw; go_simp⟩) hHeld ?_
  change wpAnyH _ _ _ _ _ _ _ (Act.put _ (some 38) _) _
  simp only [Act.put, List.setIfInBounds_toArray, List.set_cons_zero, List.set_cons_succ]
  -- operation 11
  refine wpAnyH_take (i := 11) (oi := _) (v := .bool true) rfl (by kernel_rfl) (by kernel_rfl) (by kernel_rfl) (fun _ _ _ h => h) (Or.inl ⟨by rfl, by intro w hSw; go_simp⟩) hHeld ?_
  change wpAnyH _ _ _ _ _ _ _ (Act.put _ (some 39) _) _
  simp only [Act.put, List.setIfInBounds_toArray, List.set_cons_zero, List.set_cons_succ]
  -- operation 12
  refine wpAnyH_take (i := 12) (oi := _) (v := .bool true) rfl (by kernel_rfl) (by kernel_rfl) (by kernel_rfl) (fun _ _ _ h => h) (Or.inl ⟨by rfl, by intro w hSw; go_simp⟩) hHeld ?_
  change wpAnyH _ _ _ _ _ _ _ (Act.put _ (some 40) _) _
  simp only [Act.put, List.setIfInBounds_toArray, List.set_cons_zero, List.set_cons_succ]
  -- operation 13
  refine wpAnyH_take (i := 13) (oi := _) (v := .slice ao l.length cap) rfl (by kernel_rfl) (by kernel_rfl) (by kernel_rfl) (fun _ _ _ h => h) (Or.inl ⟨by rfl, by intro w hSw; go_simp⟩) hHeld ?_
  change wpAnyH _ _ _ _ _ _ _ (Act.put _ (some 41) _) _
  simp only [Act.put, List.setIfInBounds_toArray, List.set_cons_zero, List.set_cons_succ]
  -- operation 15
  refine wpAnyH_take (i := 15) (oi := _) (v := .slice ao l.length cap) rfl (by kernel_rfl) (by kernel_rfl) (by kernel_rfl) (fun _ _ _ h => h) (Or.inl ⟨by rfl, by intro w hSw; go_simp⟩) hHeld ?_
  change wpAnyH _ _ _ _ _ _ _ (Act.put _ (some 43) _) _
  simp only [Act.put, List.setIfInBounds_toArray, List.set_cons_zero, List.set_cons_succ]
  -- operation 14, record.Brokers
  refine wpAnyH_ready (rs := [14]) (by kernel_rfl) (by simp) ?_
  refine AllReadyH.cons (o := _) rfl (fun K hK => ?_) AllReadyH.nil
  go_simp
  go_at_call 13
  refine (HB1.out _ hHeld.2.1).mono ?_
  rintro e w14 ⟨rfl, hw⟩
  go_wp2_with fail
  refine hK.out _ _ ?_ (fun hHeld1 => ?_)
  · first | exact hHeld | (rw [hw]; exact hHeld)
  clear hK K hHeld
  have hHeld := hHeld1
  clear hHeld1 hw
  -- operation 16, castellanref05.Brokers
  refine wpAnyH_ready (rs := [16]) (by kernel_rfl) (by simp) ?_
  refine AllReadyH.cons (o := _) rfl (fun K hK => ?_) AllReadyH.nil
  go_simp
  go_at_call 14
  refine (HB2.out _ hHeld.2.1).mono ?_
  rintro e w16 ⟨rfl, hq⟩
  go_wp2_with fail
  refine hK.out _ _ ?_ (fun hHeld1 => ?_)
  · exact hs_call HFF.out hq.below hHeld
  clear hK K hHeld
  have hHeld := hHeld1
  clear hHeld1 hq
  -- operation 17
  refine wpAnyH_take (i := 17) (oi := _) (v := .bool true) rfl (by kernel_rfl) (by kernel_rfl) (by kernel_rfl) (fun _ _ _ h => h) (Or.inl ⟨by rfl, by intro w hSw; go_simp⟩) hHeld ?_
  change wpAnyH _ _ _ _ _ _ _ (Act.put _ (some 45) _) _
  simp only [Act.put, List.setIfInBounds_toArray, List.set_cons_zero, List.set_cons_succ]
  -- operation 18
  refine wpAnyH_take (i := 18) (oi := _) (v := .bool true) rfl (by kernel_rfl) (by kernel_rfl) (by kernel_rfl) (fun _ _ _ h => h) (Or.inl ⟨by rfl, by intro w hSw; go_simp⟩) hHeld ?_
  change wpAnyH _ _ _ _ _ _ _ (Act.put _ (some 46) _) _
  simp only [Act.put, List.setIfInBounds_toArray, List.set_cons_zero, List.set_cons_succ]
  -- operation 19
  refine wpAnyH_take (i := 19) (oi := _) (v := .bool true) rfl (by kernel_rfl) (by kernel_rfl) (by kernel_rfl) (fun _ _ _ h => h) (Or.inl ⟨by rfl, by intro w hSw; go_simp⟩) hHeld ?_
  change wpAnyH _ _ _ _ _ _ _ (Act.put _ (some 47) _) _
  simp only [Act.put, List.setIfInBounds_toArray, List.set_cons_zero, List.set_cons_succ]
  -- operation 20, a load
  refine wpAnyH_take (i := 20) (oi := _) (v := _) rfl (by kernel_rfl) (by kernel_rfl) (by kernel_rfl) (fun _ _ _ h => h) (yieldsIf_load_mid (by rfl) _ _ rfl _ _ rfl (cellsR r a14 a15 a16 a17 c14 c15 c16 c17) _ (fun W hW => hW.1.1) Tryz.underlying24 rfl (by kernel_rfl)) hHeld ?_
  change wpAnyH _ _ _ _ _ _ _ (Act.put _ (some 48) _) _
  simp only [Act.put, List.setIfInBounds_toArray, List.set_cons_zero, List.set_cons_succ]
  -- operation 21, a load
  refine wpAnyH_take (i := 21) (oi := _) (v := _) rfl (by kernel_rfl) (by kernel_rfl) (by kernel_rfl) (fun _ _ _ h => h) (yieldsIf_load_mid (by rfl) _ _ rfl _ _ rfl (cellsR q b14 b15 b16 b17 d14 d15 d16 d17) _ (fun W hW => hW.1.2) Tryz.underlying24 rfl (by kernel_rfl)) hHeld ?_
  change wpAnyH _ _ _ _ _ _ _ (Act.put _ (some 49) _) _
  simp only [Act.put, List.setIfInBounds_toArray, List.set_cons_zero, List.set_cons_succ]
  -- operation 23, a load
  refine wpAnyH_take (i := 23) (oi := _) (v := _) rfl (by kernel_rfl) (by kernel_rfl) (by kernel_rfl) (fun _ _ _ h => h) (yieldsIf_load_mid (by rfl) _ _ rfl _ _ rfl (cellsR r a14 a15 a16 a17 c14 c15 c16 c17) _ (fun W hW => hW.1.1) Tryz.underlying24 rfl (by kernel_rfl)) hHeld ?_
  change wpAnyH _ _ _ _ _ _ _ (Act.put _ (some 51) _) _
  simp only [Act.put, List.setIfInBounds_toArray, List.set_cons_zero, List.set_cons_succ]
  -- operation 24, a load
  refine wpAnyH_take (i := 24) (oi := _) (v := _) rfl (by kernel_rfl) (by kernel_rfl) (by kernel_rfl) (fun _ _ _ h => h) (yieldsIf_load_mid (by rfl) _ _ rfl _ _ rfl (cellsR q b14 b15 b16 b17 d14 d15 d16 d17) _ (fun W hW => hW.1.2) Tryz.underlying24 rfl (by kernel_rfl)) hHeld ?_
  change wpAnyH _ _ _ _ _ _ _ (Act.put _ (some 52) _) _
  simp only [Act.put, List.setIfInBounds_toArray, List.set_cons_zero, List.set_cons_succ]
  -- operation 22, record.Same
  refine wpAnyH_ready (rs := [22]) (by kernel_rfl) (by simp) ?_
  refine AllReadyH.cons (o := _) rfl (fun K hK => ?_) AllReadyH.nil
  go_simp
  go_at_call 15
  refine (HS1.out _ hHeld.2.1).mono ?_
  rintro e w22 ⟨rfl, hb⟩
  go_wp2_with fail
  refine hK.out _ _ ?_ (fun hHeld1 => ?_)
  · exact hs_call HFF.out hb hHeld
  clear hK K hHeld
  have hHeld := hHeld1
  clear hHeld1 hb
  -- operation 25, castellanref05.Same
  refine wpAnyH_ready (rs := [25]) (by kernel_rfl) (by simp) ?_
  refine AllReadyH.cons (o := _) rfl (fun K hK => ?_) AllReadyH.nil
  go_simp
  go_at_call 16
  refine (HS2.out _ hHeld.2.1).mono ?_
  rintro e w25 ⟨rfl, hb⟩
  go_wp2_with fail
  refine hK.out _ _ ?_ (fun hHeld1 => ?_)
  · exact hs_call HFF.out hb hHeld
  clear hK K hHeld
  have hHeld := hHeld1
  clear hHeld1 hb
  -- operation 26
  refine wpAnyH_take (i := 26) (oi := _) (v := .bool true) rfl (by kernel_rfl) (by kernel_rfl) (by kernel_rfl) (fun _ _ _ h => h) (Or.inl ⟨by rfl, by intro w hSw; go_simp⟩) hHeld ?_
  change wpAnyH _ _ _ _ _ _ _ (Act.put _ (some 54) _) _
  simp only [Act.put, List.setIfInBounds_toArray, List.set_cons_zero, List.set_cons_succ]
  -- operation 27
  refine wpAnyH_take (i := 27) (oi := _) (v := .bool true) rfl (by kernel_rfl) (by kernel_rfl) (by kernel_rfl) (fun _ _ _ h => h) (Or.inl ⟨by rfl, by intro w hSw; go_simp⟩) hHeld ?_
  change wpAnyH _ _ _ _ _ _ _ (Act.put _ (some 55) _) _
  simp only [Act.put, List.setIfInBounds_toArray, List.set_cons_zero, List.set_cons_succ]
  -- operation 28
  refine wpAnyH_take (i := 28) (oi := _) (v := .bool true) rfl (by kernel_rfl) (by kernel_rfl) (by kernel_rfl) (fun _ _ _ h => h) (Or.inl ⟨by rfl, by intro w hSw; go_simp⟩) hHeld ?_
  change wpAnyH _ _ _ _ _ _ _ (Act.put _ (some 56) _) _
  simp only [Act.put, List.setIfInBounds_toArray, List.set_cons_zero, List.set_cons_succ]
  -- operation 29, castellanlaw05.works
  refine wpAnyH_ready (rs := [29]) (by kernel_rfl) (by simp) ?_
  refine AllReadyH.cons (o := _) rfl (fun K hK => ?_) AllReadyH.nil
  go_simp
  go_at_call 7
  refine (HWY.out _ hHeld.2.1).mono ?_
  rintro e w29 ⟨rfl, hb⟩
  go_wp2_with fail
  refine hK.out _ _ ?_ (fun hHeld1 => ?_)
  · exact hs_call HFF.out hb hHeld
  clear hK K hHeld
  have hHeld := hHeld1
  clear hHeld1 hb
  -- operation 30
  refine wpAnyH_take (i := 30) (oi := _) (v := .bool true) rfl (by kernel_rfl) (by kernel_rfl) (by kernel_rfl) (fun _ _ _ h => h) (Or.inl ⟨by rfl, by intro w hSw; go_simp⟩) hHeld ?_
  change wpAnyH _ _ _ _ _ _ _ (Act.put _ (some 58) _) _
  simp only [Act.put, List.setIfInBounds_toArray, List.set_cons_zero, List.set_cons_succ]
  -- operation 31
  refine wpAnyH_take (i := 31) (oi := _) (v := .bool true) rfl (by kernel_rfl) (by kernel_rfl) (by kernel_rfl) (fun _ _ _ h => h) (Or.inl ⟨by rfl, by intro w hSw; go_simp⟩) hHeld ?_
  change wpAnyH _ _ _ _ _ _ _ (Act.put _ (some 8) _) _
  simp only [Act.put, List.setIfInBounds_toArray, List.set_cons_zero, List.set_cons_succ]
  refine wpAnyH_done (by kernel_rfl) ?_ _
  have HBF := hide (HB.out.trans (hHeld.2.1.mono HB.out.size))
  clear hHeld
  go_wp2_with fail
  go_ret
  refine ⟨?_, HBF.out⟩
  first | (simp; done) | (simp [Act.put]; done) | (simp [Act.put, go_sem]; done)
theorem rchk_law (r q : Rc) (v u x : Value) (S : List UInt8) (l : List Int) (w : World) (hv : IsR (fun b => b < w.heap.size) w v r) (hu : IsR (fun b => b < w.heap.size) w u q) (hx : Sl ic w x l) (hg : Hnd w) :
    Calls Tryz.prog 3 #[v, u, .string ⟨S.toArray⟩, x] w fun e w' => e = .returned (.bool true) ∧ Below w.heap.size w w' := by
  obtain ⟨a14, a15, a16, a17, c14, c15, c16, c17, rfl, h⟩ := hv
  obtain ⟨b14, b15, b16, b17, d14, d15, d16, d17, rfl, k⟩ := hu
  obtain ⟨ao, cap, rfl⟩ := hx.form
  cases hs : shB r with
  | false => exact rchk_0 r q a14 a15 a16 a17 b14 b15 b16 b17 c14 c15 c16 c17 d14 d15 d16 d17 S ao cap l w h k hx hg hs
  | true =>
    cases hq : shB q with
    | false => exact rchk_1 r q a14 a15 a16 a17 b14 b15 b16 b17 c14 c15 c16 c17 d14 d15 d16 d17 S ao cap l w h k hx hg hs hq
    | true =>
      by_cases hS : 400 < S.length
      · exact rchk_2 r q a14 a15 a16 a17 b14 b15 b16 b17 c14 c15 c16 c17 d14 d15 d16 d17 S ao cap l w h k hx hg hs hq hS
      · by_cases hl : 100 < l.length
        · exact rchk_3 r q a14 a15 a16 a17 b14 b15 b16 b17 c14 c15 c16 c17 d14 d15 d16 d17 S ao cap l w h k hx hg hs hq hS hl
        · exact rchk_4 r q a14 a15 a16 a17 b14 b15 b16 b17 c14 c15 c16 c17 d14 d15 d16 d17 S ao cap l w h k hx hg hs hq hS hl
end Go.Proofs.YthoeajiojdfgdaaGreatDoor
