/-
  RecordPuts' WALK: any record as bytes, behind any others, or what is wrong with it, is what the chapter says. Conditions: the rows' cells hold them; errors.errorType is laid.
-/
import Derived.Test.YthoeajiojdfgdaaGreatDoorRecBytb
import Derived.Test.YthoeajiojdfgdaaGreatDoorRecChks
import Derived.Test.YthoeajiojdfgdaaGreatDoorMB
import Derived.Deep.RegionHeld3
namespace Go.Proofs.YthoeajiojdfgdaaGreatDoor
open Go.RowKit

set_option maxRecDepth 100000 in
set_option maxHeartbeats 64000000 in
theorem rputs_0 (r : Rc) (a14 a15 a16 a17 : Option Addr) (c14 c15 c16 c17 : Nat) (ao : Option Addr) (cap : Nat) (l : List Int) (w : World) (hrw : RwsR (fun b => b < w.heap.size) w r a14 a15 a16 a17 c14 c15 c16 c17) (hv : Sl bc w (.slice ao l.length cap) l) (hg : Hnd w) (hs : shB r = false) :
    Calls Tryz.prog 4 #[.slice ao l.length cap, .agg (cellsR r a14 a15 a16 a17 c14 c15 c16 c17).toArray] w fun e w' => e = .returned (.bool true) ∧ Below w.heap.size w w' := by
  have HV : Hid (∀ W, Below w.heap.size w W → IsR (fun b => b < w.heap.size) W (.agg (cellsR r a14 a15 a16 a17 c14 c15 c16 c17).toArray) r) := hide (fun W h => ⟨a14, a15, a16, a17, c14, c15, c16, c17, rfl, hrw.below h⟩)
  have HG := hide hg
  have HVL := hide hv
  have HSR := hide (fun W (h : Below w.heap.size w W) => short_any r _ W (HV.out W h))
  have HWK := hide (fun W (h : Below w.heap.size w W) => works_any W (HG.out.below h))
  have HRG : Hid ((w.alloc (.cells (cellsR r a14 a15 a16 a17 c14 c15 c16 c17).toArray 24)).rangeAt w.heap.size 0 (cellsR r a14 a15 a16 a17 c14 c15 c16 c17)) := hide (range_new w _ _)
  have HB : Hid (Below w.heap.size w (w.alloc (.cells (cellsR r a14 a15 a16 a17 c14 c15 c16 c17).toArray 24))) := hide ((Below.refl _ _).alloc (Nat.le_refl _) _)
  clear hrw hg hv
  obtain ⟨X, hX⟩ : ∃ X, X = w.alloc (.cells (cellsR r a14 a15 a16 a17 c14 c15 c16 c17).toArray 24) := ⟨_, rfl⟩
  rw [← hX] at HRG HB
  have HX := hide hX
  clear hX
  rw [hs] at HSR
  clear hs
  go_enter Tryz.func4, Tryz.ntmps4
  go_upto_region 1 with fail
  rw [← show X = _ from HX.out]
  go_wp2_with (first | (refine wpList_load_mid rfl _ _ rfl _ _ rfl _ _ (HRG.out) Tryz.underlying24 rfl (by kernel_rfl) ?_) | (go_at_call 6; refine (HSR.out _ HB.out).mono ?_; rintro e W1 ⟨rfl, hb1⟩; replace HB := hide (HB.out.trans (hb1.mono HB.out.size)); replace HRG := hide (range_below HRG.out hb1); clear hb1) | (go_at_call 7; refine (HWK.out _ HB.out).mono ?_; rintro e W1 ⟨rfl, hb1⟩; replace HB := hide (HB.out.trans (hb1.mono HB.out.size)); clear hb1))
  go_ret
  exact ⟨rfl, HB.out⟩
set_option maxRecDepth 100000 in
set_option maxHeartbeats 64000000 in
theorem rputs_1 (r : Rc) (a14 a15 a16 a17 : Option Addr) (c14 c15 c16 c17 : Nat) (ao : Option Addr) (cap : Nat) (l : List Int) (w : World) (hrw : RwsR (fun b => b < w.heap.size) w r a14 a15 a16 a17 c14 c15 c16 c17) (hv : Sl bc w (.slice ao l.length cap) l) (hg : Hnd w) (hs : shB r = true) (hl : 300 < l.length) :
    Calls Tryz.prog 4 #[.slice ao l.length cap, .agg (cellsR r a14 a15 a16 a17 c14 c15 c16 c17).toArray] w fun e w' => e = .returned (.bool true) ∧ Below w.heap.size w w' := by
  have HV : Hid (∀ W, Below w.heap.size w W → IsR (fun b => b < w.heap.size) W (.agg (cellsR r a14 a15 a16 a17 c14 c15 c16 c17).toArray) r) := hide (fun W h => ⟨a14, a15, a16, a17, c14, c15, c16, c17, rfl, hrw.below h⟩)
  have HG := hide hg
  have HVL := hide hv
  have HSR := hide (fun W (h : Below w.heap.size w W) => short_any r _ W (HV.out W h))
  have HWK := hide (fun W (h : Below w.heap.size w W) => works_any W (HG.out.below h))
  have HRG : Hid ((w.alloc (.cells (cellsR r a14 a15 a16 a17 c14 c15 c16 c17).toArray 24)).rangeAt w.heap.size 0 (cellsR r a14 a15 a16 a17 c14 c15 c16 c17)) := hide (range_new w _ _)
  have HB : Hid (Below w.heap.size w (w.alloc (.cells (cellsR r a14 a15 a16 a17 c14 c15 c16 c17).toArray 24))) := hide ((Below.refl _ _).alloc (Nat.le_refl _) _)
  clear hrw hg hv
  obtain ⟨X, hX⟩ : ∃ X, X = w.alloc (.cells (cellsR r a14 a15 a16 a17 c14 c15 c16 c17).toArray 24) := ⟨_, rfl⟩
  rw [← hX] at HRG HB
  have HX := hide hX
  clear hX
  rw [hs] at HSR
  clear hs
  have hlI : (300 : Int) < (l.length : Int) := by omega
  go_enter Tryz.func4, Tryz.ntmps4
  go_upto_region 1 with fail
  rw [← show X = _ from HX.out]
  go_wp2_with (first | (refine wpList_load_mid rfl _ _ rfl _ _ rfl _ _ (HRG.out) Tryz.underlying24 rfl (by kernel_rfl) ?_) | (go_at_call 6; refine (HSR.out _ HB.out).mono ?_; rintro e W1 ⟨rfl, hb1⟩; replace HB := hide (HB.out.trans (hb1.mono HB.out.size)); replace HRG := hide (range_below HRG.out hb1); clear hb1) | (go_at_call 7; refine (HWK.out _ HB.out).mono ?_; rintro e W1 ⟨rfl, hb1⟩; replace HB := hide (HB.out.trans (hb1.mono HB.out.size)); clear hb1))
  go_ret
  exact ⟨rfl, HB.out⟩
set_option maxRecDepth 100000 in
set_option maxHeartbeats 64000000 in
theorem rputs_2 (r : Rc) (a14 a15 a16 a17 : Option Addr) (c14 c15 c16 c17 : Nat) (ao : Option Addr) (cap : Nat) (l : List Int) (w : World) (hrw : RwsR (fun b => b < w.heap.size) w r a14 a15 a16 a17 c14 c15 c16 c17) (hv : Sl bc w (.slice ao l.length cap) l) (hg : Hnd w) (hs : shB r = true) (hl : ¬ 300 < l.length) (hc : (chk r).2.2 ≠ 0) :
    Calls Tryz.prog 4 #[.slice ao l.length cap, .agg (cellsR r a14 a15 a16 a17 c14 c15 c16 c17).toArray] w fun e w' => e = .returned (.bool true) ∧ Below w.heap.size w w' := by
  have HV : Hid (∀ W, Below w.heap.size w W → IsR (fun b => b < w.heap.size) W (.agg (cellsR r a14 a15 a16 a17 c14 c15 c16 c17).toArray) r) := hide (fun W h => ⟨a14, a15, a16, a17, c14, c15, c16, c17, rfl, hrw.below h⟩)
  have HG := hide hg
  have HVL := hide hv
  have HSR := hide (fun W (h : Below w.heap.size w W) => short_any r _ W (HV.out W h))
  have HWK := hide (fun W (h : Below w.heap.size w W) => works_any W (HG.out.below h))
  have HRG : Hid ((w.alloc (.cells (cellsR r a14 a15 a16 a17 c14 c15 c16 c17).toArray 24)).rangeAt w.heap.size 0 (cellsR r a14 a15 a16 a17 c14 c15 c16 c17)) := hide (range_new w _ _)
  have HB : Hid (Below w.heap.size w (w.alloc (.cells (cellsR r a14 a15 a16 a17 c14 c15 c16 c17).toArray 24))) := hide ((Below.refl _ _).alloc (Nat.le_refl _) _)
  clear hrw hg hv
  obtain ⟨X, hX⟩ : ∃ X, X = w.alloc (.cells (cellsR r a14 a15 a16 a17 c14 c15 c16 c17).toArray 24) := ⟨_, rfl⟩
  rw [← hX] at HRG HB
  have HX := hide hX
  clear hX
  have HTR := hide (sh_tx hs)
  rw [hs] at HSR
  clear hs
  have hlI : ¬ (300 : Int) < (l.length : Int) := by omega
  go_enter Tryz.func4, Tryz.ntmps4
  go_upto_region 1 with fail
  rw [← show X = _ from HX.out]
  go_upto_region 4 with (first | (refine wpList_load_mid rfl _ _ rfl _ _ rfl _ _ (HRG.out) Tryz.underlying24 rfl (by kernel_rfl) ?_) | (go_at_call 6; refine (HSR.out _ HB.out).mono ?_; rintro e W1 ⟨rfl, hb1⟩; replace HB := hide (HB.out.trans (hb1.mono HB.out.size)); replace HRG := hide (range_below HRG.out hb1); clear hb1) | (go_at_call 7; refine (HWK.out _ HB.out).mono ?_; rintro e W1 ⟨rfl, hb1⟩; replace HB := hide (HB.out.trans (hb1.mono HB.out.size)); clear hb1))
  clear HX HSR
  obtain ⟨Y, hY⟩ : ∃ Y : World, Y = W1 := ⟨_, rfl⟩
  rw [← hY] at HRG HB ⊢
  clear hY
  go_upto_region 5 with (at_builtin; refine wpList_append_ow rfl _ _ rfl Y.heap.size _ [] rfl (ow_nil _ _) (Nat.le_refl _) _ l rfl (HVL.out.below HB.out) (by simp; omega) ?_; intro W2 x ho2 hb2)
  have HO2 : Hid (Ow Y.heap.size W2 x l) := hide ho2
  have HB2 := hide (HB.out.trans (hb2.mono HB.out.size))
  have HRG2 := hide (range_below HRG.out hb2)
  have HZ2 := hide hb2
  clear ho2 hb2
  have HPUT := hide (cput_bad r _ x W2 (HV.out W2 HB2.out) HTR.out hc)
  have HRC := hide (fun W (h : Below w.heap.size w W) => rcheck_any r _ W (HV.out W h) HTR.out)
  have HWR := hide (fun W (h : Below w.heap.size w W) => wrong_any (chk r).1 (chk r).2.1 (chk r).2.2 W (HG.out.below h))
  rw [show erN (chk r).1 (chk r).2.1 (chk r).2.2 = ft (chk r).1 (chk r).2.1 (chk r).2.2 from if_neg hc] at HWR
  generalize ft (chk r).1 (chk r).2.1 (chk r).2.2 = E at *
  generalize chk r = TT at *
  clear HO2 HRG HB
  have HB := HB2
  have HRG := HRG2
  clear HB2 HRG2
  go_upto_region 6 with (first | (refine wpList_load_mid rfl _ _ rfl _ _ rfl _ _ (HRG.out) Tryz.underlying24 rfl (by kernel_rfl) ?_) | (go_at_call 17; refine HPUT.out.mono ?_; rintro e W3 ⟨rfl, hb3⟩; replace HB := hide (HB.out.trans (hb3.mono HB.out.size)); replace HRG := hide (range_below HRG.out hb3); clear hb3))
  go_upto_region 7 with (first | (refine wpList_load_mid rfl _ _ rfl _ _ rfl _ _ (HRG.out) Tryz.underlying24 rfl (by kernel_rfl) ?_) | (go_at_call 10; refine (HRC.out _ HB.out).mono ?_; rintro e W4 ⟨rfl, hb4⟩; replace HB := hide (HB.out.trans (hb4.mono HB.out.size)); clear hb4))
  have HB5 : Hid (Below w.heap.size w (W4.alloc (.cells #[.string TT.1, .int .i64 TT.2.1, .int .i64 TT.2.2] 33))) := hide (HB.out.alloc HB.out.size _)
  go_wp2_with (first | (go_at_call 8; refine (HWR.out _ HB5.out).mono ?_; rintro e W5 ⟨rfl, hb5⟩; replace HB := hide (HB5.out.trans (hb5.mono HB5.out.size)); clear hb5) | (go_at_call 7; refine (HWK.out _ HB.out).mono ?_; rintro e W1 ⟨rfl, hb1⟩; replace HB := hide (HB.out.trans (hb1.mono HB.out.size)); clear hb1))
  go_ret
  exact ⟨rfl, HB.out⟩
set_option maxRecDepth 100000 in
set_option maxHeartbeats 64000000 in
theorem rputs_3 (r : Rc) (a14 a15 a16 a17 : Option Addr) (c14 c15 c16 c17 : Nat) (ao : Option Addr) (cap : Nat) (l : List Int) (w : World) (hrw : RwsR (fun b => b < w.heap.size) w r a14 a15 a16 a17 c14 c15 c16 c17) (hv : Sl bc w (.slice ao l.length cap) l) (hg : Hnd w) (hs : shB r = true) (hl : ¬ 300 < l.length) (hc : (chk r).2.2 = 0) :
    Calls Tryz.prog 4 #[.slice ao l.length cap, .agg (cellsR r a14 a15 a16 a17 c14 c15 c16 c17).toArray] w fun e w' => e = .returned (.bool true) ∧ Below w.heap.size w w' := by
  have HV : Hid (∀ W, Below w.heap.size w W → IsR (fun b => b < w.heap.size) W (.agg (cellsR r a14 a15 a16 a17 c14 c15 c16 c17).toArray) r) := hide (fun W h => ⟨a14, a15, a16, a17, c14, c15, c16, c17, rfl, hrw.below h⟩)
  have HG := hide hg
  have HVL := hide hv
  have HSR := hide (fun W (h : Below w.heap.size w W) => short_any r _ W (HV.out W h))
  have HWK := hide (fun W (h : Below w.heap.size w W) => works_any W (HG.out.below h))
  have HRG : Hid ((w.alloc (.cells (cellsR r a14 a15 a16 a17 c14 c15 c16 c17).toArray 24)).rangeAt w.heap.size 0 (cellsR r a14 a15 a16 a17 c14 c15 c16 c17)) := hide (range_new w _ _)
  have HB : Hid (Below w.heap.size w (w.alloc (.cells (cellsR r a14 a15 a16 a17 c14 c15 c16 c17).toArray 24))) := hide ((Below.refl _ _).alloc (Nat.le_refl _) _)
  clear hrw hg hv
  obtain ⟨X, hX⟩ : ∃ X, X = w.alloc (.cells (cellsR r a14 a15 a16 a17 c14 c15 c16 c17).toArray 24) := ⟨_, rfl⟩
  rw [← hX] at HRG HB
  have HX := hide hX
  clear hX
  have HTR := hide (sh_tx hs)
  rw [hs] at HSR
  clear hs
  have hlI : ¬ (300 : Int) < (l.length : Int) := by omega
  go_enter Tryz.func4, Tryz.ntmps4
  go_upto_region 1 with fail
  rw [← show X = _ from HX.out]
  go_upto_region 4 with (first | (refine wpList_load_mid rfl _ _ rfl _ _ rfl _ _ (HRG.out) Tryz.underlying24 rfl (by kernel_rfl) ?_) | (go_at_call 6; refine (HSR.out _ HB.out).mono ?_; rintro e W1 ⟨rfl, hb1⟩; replace HB := hide (HB.out.trans (hb1.mono HB.out.size)); replace HRG := hide (range_below HRG.out hb1); clear hb1) | (go_at_call 7; refine (HWK.out _ HB.out).mono ?_; rintro e W1 ⟨rfl, hb1⟩; replace HB := hide (HB.out.trans (hb1.mono HB.out.size)); clear hb1))
  clear HX HSR
  obtain ⟨Y, hY⟩ : ∃ Y : World, Y = W1 := ⟨_, rfl⟩
  rw [← hY] at HRG HB ⊢
  clear hY
  go_upto_region 5 with (at_builtin; refine wpList_append_ow rfl _ _ rfl Y.heap.size _ [] rfl (ow_nil _ _) (Nat.le_refl _) _ l rfl (HVL.out.below HB.out) (by simp; omega) ?_; intro W2 x ho2 hb2)
  have HO2 : Hid (Ow Y.heap.size W2 x l) := hide ho2
  have HB2 := hide (HB.out.trans (hb2.mono HB.out.size))
  have HRG2 := hide (range_below HRG.out hb2)
  have HZ2 := hide hb2
  clear ho2 hb2
  have hzw : w.heap.size ≤ Y.heap.size := HB.out.size
  have HVY : Hid (IsR (fun b => b < Y.heap.size) W2 (.agg (cellsR r a14 a15 a16 a17 c14 c15 c16 c17).toArray) r) := hide (by
    obtain ⟨b14, b15, b16, b17, d14, d15, d16, d17, e, h⟩ := HV.out W2 HB2.out
    exact ⟨_, _, _, _, _, _, _, _, e, ⟨h.h14.imp (fun b _ q => Nat.lt_of_lt_of_le q hzw) (fun _ _ _ _ => rfl), h.h15.imp (fun b _ q => Nat.lt_of_lt_of_le q hzw) (fun _ _ _ _ => rfl), h.h16.imp (fun b _ q => Nat.lt_of_lt_of_le q hzw) (fun _ _ _ _ => rfl), h.h17.imp (fun b _ q => Nat.lt_of_lt_of_le q hzw) (fun _ _ _ _ => rfl)⟩⟩)
  have HPUT := hide (cput_ok Y.heap.size x l r (.agg (cellsR r a14 a15 a16 a17 c14 c15 c16 c17).toArray) W2 HO2.out (by omega) HZ2.out.size HVY.out hc)
  have HRC := hide (fun W (h : Below w.heap.size w W) => rcheck_any r _ W (HV.out W h) HTR.out)
  have HBY := hide (fun W (h : Below w.heap.size w W) => rbytes_any r _ W (HV.out W h) hc)
  have hpl := put_len hc
  rw [hc] at HRC
  generalize putL r = pl at HPUT HBY hpl
  generalize chk r = TT at *
  clear HVY HTR HV
  go_upto_region 6 with (first | (refine wpList_load_mid rfl _ _ rfl _ _ rfl _ _ (HRG2.out) Tryz.underlying24 rfl (by kernel_rfl) ?_) | (go_at_call 17; refine HPUT.out.mono ?_; rintro e W3 ⟨v3, rfl, ho3, hg3⟩))
  have HO3 := hide ho3
  have HB3 := hide (HB2.out.trans (hg3.below.mono hzw))
  have HRG3 := hide (range_below HRG.out (HZ2.out.trans hg3.below))
  clear ho3 hg3 HPUT HRG2 HRG HO2
  go_upto_region 7 with (first | (refine wpList_load_mid rfl _ _ rfl _ _ rfl _ _ (HRG3.out) Tryz.underlying24 rfl (by kernel_rfl) ?_) | (go_at_call 10; refine (HRC.out _ HB3.out).mono ?_; rintro e W4 ⟨rfl, hb4⟩))
  have hb5 : Below W3.heap.size W3 (W4.alloc (.cells #[.string TT.1, .int .i64 TT.2.1, .int .i64 0] 33)) := hb4.alloc hb4.size _
  have HOZ := hide (HO3.out.below hb5)
  have HBZ := hide (HB3.out.trans (hb5.mono HB3.out.size))
  have HRGZ := hide (range_below HRG3.out hb5)
  clear hb4 hb5 HO3 HB3 HRG3 HB2 HB
  go_upto_region 10 with fail
  generalize W4.alloc (.cells #[.string TT.1, .int .i64 TT.2.1, .int .i64 0] 33) = Z at HOZ HBZ HRGZ ⊢
  have HFF : Hid (∀ W, Below Z.heap.size Z W → (fun W : World => W.rangeAt w.heap.size 0 (cellsR r a14 a15 a16 a17 c14 c15 c16 c17)) W) := hide (fun W h => range_below HRGZ.out h)
  have HS0 := hide (hs_drew HFF.out (Nat.le_refl _))
  have HVZ := hide (HVL.out.below HBZ.out.drew)
  refine wp_region_held_drew (S := fun W => W.rangeAt w.heap.size 0 (cellsR r a14 a15 a16 a17 c14 c15 c16 c17) ∧ Below Z.heap.size Z W ∧ Z.heap.size ≤ W.heap.size) (by kernel_rfl) HS0.out (fun hHeld => ?_)
  -- operation 0
  refine wpAnyH_take (i := 0) (oi := _) (v := .slice none 0 0) rfl (by kernel_rfl) (by kernel_rfl) (by kernel_rfl) (fun _ _ _ h => h) (Or.inl ⟨by rfl, by intro w hSw; go_simp⟩) hHeld ?_
  change wpAnyH _ _ _ _ _ _ _ (Act.put _ (some 44) _) _
  simp only [Act.put, List.setIfInBounds_toArray, List.set_cons_zero, List.set_cons_succ]
  -- operation 1
  refine wpAnyH_take (i := 1) (oi := _) (v := .slice ao l.length cap) rfl (by kernel_rfl) (by kernel_rfl) (by kernel_rfl) (fun _ _ _ h => h) (Or.inl ⟨by rfl, by intro w hSw; go_simp⟩) hHeld ?_
  change wpAnyH _ _ _ _ _ _ _ (Act.put _ (some 45) _) _
  simp only [Act.put, List.setIfInBounds_toArray, List.set_cons_zero, List.set_cons_succ]
  -- operation 3, a load
  refine wpAnyH_take (i := 3) (oi := _) (v := _) rfl (by kernel_rfl) (by kernel_rfl) (by kernel_rfl) (fun _ _ _ h => h) (yieldsIf_load_mid (by rfl) _ _ rfl _ _ rfl (cellsR r a14 a15 a16 a17 c14 c15 c16 c17) _ (fun W hW => hW.1) Tryz.underlying24 rfl (by kernel_rfl)) hHeld ?_
  change wpAnyH _ _ _ _ _ _ _ (Act.put _ (some 47) _) _
  simp only [Act.put, List.setIfInBounds_toArray, List.set_cons_zero, List.set_cons_succ]
  refine wpAnyH_ready (rs := [2]) (by kernel_rfl) (by simp) ?_
  refine AllReadyH.cons (o := _) rfl (fun K hK => ?_) AllReadyH.nil
  refine step_append_ow rfl _ _ rfl Z.heap.size _ [] rfl (ow_nil _ _) (Nat.le_refl _) _ l rfl HVZ.out (by simp; omega) ?_
  intro Wa za hoa hba
  have HOA : Hid (Ow Z.heap.size Wa za l) := hide hoa
  refine hK.out _ _ ?_ (fun hHeld1 => ?_)
  · exact hs_putb HFF.out hba hHeld
  clear hK K hHeld hoa hba
  change wpAnyH _ _ _ _ _ _ _ (Act.put _ (some 46) _) _
  simp only [Act.put, List.setIfInBounds_toArray, List.set_cons_zero, List.set_cons_succ]
  refine wpAnyH_ready (rs := [4]) (by kernel_rfl) (by simp) ?_
  refine AllReadyH.cons (o := _) rfl (fun K hK => ?_) AllReadyH.nil
  go_simp
  go_at_call 18
  refine (HBY.out _ (HBZ.out.trans (hHeld1.2.1.mono HBZ.out.size))).mono ?_
  rintro e Wb ⟨ub, rfl, hub, hbb⟩
  have HOB := hide (HOA.out.below hbb)
  have HUB := hide hub
  clear hub
  go_wp2_with fail
  refine hK.out _ _ ?_ (fun hHeld2 => ?_)
  · exact hs_call HFF.out hbb hHeld1
  clear hK K hHeld1 hbb HOA
  refine wpAnyH_ready (rs := [5]) (by kernel_rfl) (by simp) ?_
  refine AllReadyH.cons (o := _) rfl (fun K hK => ?_) AllReadyH.nil
  refine step_append_ow rfl _ _ rfl Z.heap.size _ l rfl HOB.out hHeld2.2.2 _ pl rfl HUB.out (by omega) ?_
  intro Wc zc hoc hbc
  have HOC := hide hoc
  refine hK.out _ _ ?_ (fun hHeld3 => ?_)
  · exact hs_putb HFF.out hbc hHeld2
  clear hK K hHeld2 hoc hbc HOB HUB
  change wpAnyH _ _ _ _ _ _ _ (Act.put _ (some 49) _) _
  simp only [Act.put, List.setIfInBounds_toArray, List.set_cons_zero, List.set_cons_succ]
  -- operation 6
  refine wpAnyH_take (i := 6) (oi := _) (v := zc) rfl (by kernel_rfl) (by kernel_rfl) (by kernel_rfl) (fun _ _ _ h => h) (Or.inl ⟨by rfl, by intro w hSw; go_simp⟩) hHeld3 ?_
  change wpAnyH _ _ _ _ _ _ _ (Act.put _ (some 9) _) _
  simp only [Act.put, List.setIfInBounds_toArray, List.set_cons_zero, List.set_cons_succ]
  refine wpAnyH_done (by kernel_rfl) ?_ _
  have HBC := hide (HBZ.out.trans (hHeld3.2.1.mono HBZ.out.size))
  have HSM := hide (same_bytes v3 zc (l ++ pl) Wc (HOZ.out.below hHeld3.2.1).sl HOC.out.sl (by rw [List.length_append]; omega))
  clear hHeld3 HOC HOZ HBZ HRGZ HFF HS0 HVZ
  go_wp2_with (first | (go_at_call 19; refine HSM.out.mono ?_; rintro e W9 ⟨rfl, hb9⟩; replace HBC := hide (HBC.out.trans (hb9.mono HBC.out.size)); clear hb9) | (go_at_call 7; refine (HWK.out _ HBC.out).mono ?_; rintro e W8 ⟨rfl, hb8⟩; replace HBC := hide (HBC.out.trans (hb8.mono HBC.out.size)); clear hb8))
  go_ret
  exact ⟨rfl, HBC.out⟩
theorem rputs_law (r : Rc) (v x : Value) (l : List Int) (w : World) (hx : Sl bc w x l) (hv : IsR (fun b => b < w.heap.size) w v r) (hg : Hnd w) :
    Calls Tryz.prog 4 #[x, v] w fun e w' => e = .returned (.bool true) ∧ Below w.heap.size w w' := by
  obtain ⟨a14, a15, a16, a17, c14, c15, c16, c17, rfl, h⟩ := hv
  obtain ⟨ao, cap, rfl⟩ := hx.form
  cases hs : shB r with
  | false => exact rputs_0 r a14 a15 a16 a17 c14 c15 c16 c17 ao cap l w h hx hg hs
  | true =>
    by_cases hl : 300 < l.length
    · exact rputs_1 r a14 a15 a16 a17 c14 c15 c16 c17 ao cap l w h hx hg hs hl
    · by_cases hc : (chk r).2.2 = 0
      · exact rputs_3 r a14 a15 a16 a17 c14 c15 c16 c17 ao cap l w h hx hg hs hl hc
      · exact rputs_2 r a14 a15 a16 a17 c14 c15 c16 c17 ao cap l w h hx hg hs hl hc
end Go.Proofs.YthoeajiojdfgdaaGreatDoor
