/-
  RecordBack's WALK: a record that may be, as bytes, is read again as what it was; bytes that are read are those that are written. Conditions: the record's rows' cells and the bytes' cells hold them; errors.errorType is laid.
-/
import Derived.Test.YthoeajiojdfgdaaDoorRecPb
import Derived.Test.YthoeajiojdfgdaaDoorMB
import Derived.Deep.RegionHeld3
namespace Go.Proofs.YthoeajiojdfgdaaDoor
open Go.RowKit

set_option maxRecDepth 100000 in
set_option maxHeartbeats 16000000 in
theorem rback_go (r : Rc) (a14 a15 a16 a17 : Option Addr) (c14 c15 c16 c17 : Nat) (ao : Option Addr) (cap : Nat) (lb : List Int) (w : World) (hrw : RwsR (fun b => b < w.heap.size) w r a14 a15 a16 a17 c14 c15 c16 c17) (hvb : Sl bc w (.slice ao lb.length cap) lb) (hby : Byt lb) (hg : Hnd w) :
    Calls Tryd.prog 3 #[.agg (cellsR r a14 a15 a16 a17 c14 c15 c16 c17).toArray, .slice ao lb.length cap] w fun e w' => e = .returned (.bool true) ∧ Below w.heap.size w w' := by
  have hpos : 0 < w.heap.size := cell_block hg
  have HV : Hid (∀ W, Below w.heap.size w W → IsR (fun b => b < w.heap.size) W (.agg (cellsR r a14 a15 a16 a17 c14 c15 c16 c17).toArray) r) := hide (fun W h => ⟨a14, a15, a16, a17, c14, c15, c16, c17, rfl, hrw.below h⟩)
  have HG := hide hg
  have HVB := hide hvb
  have HBYB := hide hby
  have HSH := hide (fun W (h : Below w.heap.size w W) => short_any r _ W (HV.out W h))
  have HWK := hide (fun W (h : Below w.heap.size w W) => works_any W (HG.out.below h))
  have HRG : Hid ((w.alloc (.cells (cellsR r a14 a15 a16 a17 c14 c15 c16 c17).toArray 24)).rangeAt w.heap.size 0 (cellsR r a14 a15 a16 a17 c14 c15 c16 c17)) := hide (range_new w _ _)
  have HB : Hid (Below w.heap.size w (w.alloc (.cells (cellsR r a14 a15 a16 a17 c14 c15 c16 c17).toArray 24))) := hide ((Below.refl _ _).alloc (Nat.le_refl _) _)
  clear hrw hg hvb hby
  obtain ⟨X, hX⟩ : ∃ X, X = w.alloc (.cells (cellsR r a14 a15 a16 a17 c14 c15 c16 c17).toArray 24) := ⟨_, rfl⟩
  rw [← hX] at HRG HB
  have HX := hide hX
  clear hX
  cases hs : shB r with
  | false =>
    rw [hs] at HSH
    go_enter Tryd.func3, Tryd.ntmps3
    go_upto_region 1 with fail
    rw [← show X = _ from HX.out]
    go_wp2_with (first | (refine wpList_load_mid rfl _ _ rfl _ _ rfl _ _ (HRG.out) Tryd.underlying24 rfl (by kernel_rfl) ?_) | (go_at_call 5; refine (HSH.out _ HB.out).mono ?_; rintro e W1 ⟨rfl, hb1⟩; replace HB := hide (HB.out.trans (hb1.mono HB.out.size)); replace HRG := hide (range_below HRG.out hb1); clear hb1) | (go_at_call 6; refine (HWK.out _ HB.out).mono ?_; rintro e W1 ⟨rfl, hb1⟩; replace HB := hide (HB.out.trans (hb1.mono HB.out.size)); clear hb1))
    go_ret
    exact ⟨rfl, HB.out⟩
  | true =>
    rw [hs] at HSH
    have HTX := hide (sh_tx hs)
    clear hs
    by_cases hlb : 1500 < lb.length
    case pos =>
      have hlbI : (1500 : Int) < (lb.length : Int) := by omega
      go_enter Tryd.func3, Tryd.ntmps3
      go_upto_region 1 with fail
      rw [← show X = _ from HX.out]
      go_wp2_with (first | (refine wpList_load_mid rfl _ _ rfl _ _ rfl _ _ (HRG.out) Tryd.underlying24 rfl (by kernel_rfl) ?_) | (go_at_call 5; refine (HSH.out _ HB.out).mono ?_; rintro e W1 ⟨rfl, hb1⟩; replace HB := hide (HB.out.trans (hb1.mono HB.out.size)); replace HRG := hide (range_below HRG.out hb1); clear hb1) | (go_at_call 6; refine (HWK.out _ HB.out).mono ?_; rintro e W1 ⟨rfl, hb1⟩; replace HB := hide (HB.out.trans (hb1.mono HB.out.size)); clear hb1))
      go_ret
      exact ⟨rfl, HB.out⟩
    have hlbI : ¬ (1500 : Int) < (lb.length : Int) := by omega
    by_cases hc : (chk r).2.2 = 0
    case neg =>
      have HP := hide (fun W (h : Below w.heap.size w W) => cput_bad r _ (.slice none 0 0) W (HV.out W h) HTX.out hc)
      unfold ft at HP
      generalize chk r = TT at HP
      clear hc
      go_enter Tryd.func3, Tryd.ntmps3
      go_upto_region 1 with fail
      rw [← show X = _ from HX.out]
      go_upto_region 3 with (first | (refine wpList_load_mid rfl _ _ rfl _ _ rfl _ _ (HRG.out) Tryd.underlying24 rfl (by kernel_rfl) ?_) | (go_at_call 5; refine (HSH.out _ HB.out).mono ?_; rintro e W1 ⟨rfl, hb1⟩; replace HB := hide (HB.out.trans (hb1.mono HB.out.size)); replace HRG := hide (range_below HRG.out hb1); clear hb1))
      go_upto_region 8 with (first | (refine wpList_load_mid rfl _ _ rfl _ _ rfl _ _ (HRG.out) Tryd.underlying24 rfl (by kernel_rfl) ?_) | (go_at_call 7; refine (HP.out _ HB.out).mono ?_; rintro e WE ⟨rfl, hb1⟩))
      have HBE := hide (HB.out.trans (hb1.mono HB.out.size))
      clear hb1 HB HRG HP HSH HX
      have hzE : w.heap.size ≤ WE.heap.size := HBE.out.size
      have HRD8 := hide (read_any ao lb.length cap WE)
      go_upto_region 11 with (first | (go_at_call 8; refine HRD8.out.mono ?_; rintro e W9 ⟨rfl, hr9, hb9⟩))
      have HB9 := hide (HBE.out.trans (hb9.mono hzE))
      have hp9 : WE.heap.size < W9.heap.size := hr9.lt
      have HV9 : Hid (Slx WE.heap.size bc W9 (.slice ao lb.length cap) lb) := hide (((HVB.out.below HBE.out).out (Nat.le_refl _)).below hb9)
      have HC9 := hide (cread_any WE.heap.size _ lb (okS 0) W9 hr9 HV9.out (by omega) HBYB.out (Nat.zero_le _) (HG.out.below HB9.out) (by show WE.heap.size ≠ 0; omega))
      have hrp := read_pt (s := okS 0) HBYB.out (Nat.zero_le _)
      have HON := hide (fun h => read_once lb HBYB.out 0 (Nat.zero_le _) h)
      have HZE := hide (fun h => read_zero lb (okS 0) h)
      rcases hq : readG lb (okS 0) with ⟨s5, x⟩
      rw [hq] at HC9 HON HZE hrp
      simp only at HC9 HON HZE hrp
      clear hr9 hb9 hq HRD8
      go_upto_region 12 with (first | (go_at_call 10; refine HC9.out.mono ?_; rintro e Wa ⟨vx, rfl, hxa, hra, hba⟩; obtain ⟨b14, b15, b16, b17, d14, d15, d16, d17, rfl, hwa⟩ := hxa) | (refine wpList_store_mid rfl _ _ _ rfl Wa.heap.size 0 (cellsR x b14 b15 b16 b17 d14 d15 d16 d17).toArray rfl rfl (there_new Wa) (by kernel_rfl) (cellsR_one _ _ _ _ _ _ _ _ _) ?_))
      obtain ⟨Wb, hWb⟩ : ∃ Wb, Wb = (Wa.alloc (.cells #[.int .i64 0, .int .i64 0, .int .i64 0, .int .i64 0, .int .i64 0, .int .i64 0, .int .i64 0, .int .i64 0, .int .i64 0, .bool false, .string ⟨#[]⟩, .string ⟨#[]⟩, .string ⟨#[]⟩, .string ⟨#[]⟩, .slice none 0 0, .slice none 0 0, .slice none 0 0, .slice none 0 0] 24)).setCells Wa.heap.size 0 (cellsR x b14 b15 b16 b17 d14 d15 d16 d17) := ⟨_, rfl⟩
      obtain ⟨hrb, hbb, hwb, hrgb, hzb, _⟩ := laid0 hra hba hp9 hwa hWb
      have HRGB := hide hrgb
      have HWB := hide hwb
      have HBB := hide (below_bx HB9.out hbb hzE HB9.out.size)
      have HRDB := hide hrb
      have hzz : w.heap.size ≤ Wb.heap.size := HBB.out.size
      have HVL : Hid (Sl bc Wb (.slice ao lb.length cap) lb) := hide (HV9.out.bx hbb).sl
      have HER := hide (err_any WE.heap.size _ _ _ Wb hrb)
      have HAT := hide (fun W (h : Below Wb.heap.size Wb W) => at_any WE.heap.size _ _ _ W (hrb.below h))
      have HWKB := hide (fun W (h : Below Wb.heap.size Wb W) => HWK.out W (HBB.out.trans (h.mono HBB.out.size)))
      have HEB := hide hWb
      rw [← HEB.out]
      clear hWb hra hba hwa hrb hbb hwb hrgb HEB HC9 HV9
      have HBX := hide (Below.refl Wb.heap.size Wb)
      by_cases h5 : s5.c = 0
      case neg =>
        rw [show erN s5.op s5.pt s5.c = ft s5.op s5.pt s5.c from if_neg h5] at HER
        have hx0 := HZE.out h5
        subst hx0
        have HSM : Hid (∀ W, Below Wb.heap.size Wb W → Calls Tryd.prog 9 #[.agg (cellsR Rc.zero b14 b15 b16 b17 d14 d15 d16 d17).toArray, .agg #[.int .i64 0, .int .i64 0, .int .i64 0, .int .i64 0, .int .i64 0, .int .i64 0, .int .i64 0, .int .i64 0, .int .i64 0, .bool false, .string ⟨#[]⟩, .string ⟨#[]⟩, .string ⟨#[]⟩, .string ⟨#[]⟩, .slice none 0 0, .slice none 0 0, .slice none 0 0, .slice none 0 0]] W fun e w' => e = .returned (.bool true) ∧ Below W.heap.size W w') := hide (fun W h => by
          have := rsame_any Rc.zero Rc.zero (.agg (cellsR Rc.zero b14 b15 b16 b17 d14 d15 d16 d17).toArray) (.agg (cellsR Rc.zero none none none none 0 0 0 0).toArray) W ⟨_, _, _, _, _, _, _, _, rfl, HWB.out.below h⟩ (isR_zero (fun _ => True) W) ⟨by decide, by decide, by decide, by decide⟩
          rw [sameR_self] at this
          exact this)
        unfold cellsR at HSM
        unfold ft at HER
        go_wp2_with (first | (go_at_call 12; refine HER.out.mono ?_; rintro e w9 ⟨rfl, hw9⟩; rw [hw9]; clear hw9 w9) | (refine wpList_load_mid rfl _ _ rfl _ _ rfl _ _ (range_below HRGB.out HBX.out) Tryd.underlying24 rfl (by kernel_rfl) ?_) | (go_at_call 9; with_reducible refine (HSM.out _ HBX.out).mono ?_; rintro e W9 ⟨rfl, hb9⟩; replace HBX := hide (HBX.out.trans (hb9.mono HBX.out.size)); clear hb9) | (go_at_call 6; refine (HWKB.out _ HBX.out).mono ?_; rintro e W9 ⟨rfl, hb9⟩; replace HBX := hide (HBX.out.trans (hb9.mono HBX.out.size)); clear hb9))
        go_ret
        exact ⟨rfl, HBB.out.trans (HBX.out.mono HBB.out.size)⟩
      rw [show erN s5.op s5.pt s5.c = .nilIface from if_pos h5] at HER
      obtain ⟨hcx, n, hn1, _, hn2, hn3⟩ := HON.out h5
      obtain ⟨rfl, _⟩ := Prod.mk.inj hn1
      have hpt : (okS n).pt = n := rfl
      rw [hpt] at HAT
      have hn3' : lb.take n = putL x := by
        rw [List.drop_zero] at hn3
        have h9 := congrArg List.length hn3
        rw [List.length_append, List.length_drop] at h9
        have h8 : (putL x).length = n := by omega
        rw [hn3, ← h8, List.take_left]
      have HPX := hide (cput_ok Wb.heap.size (.slice none 0 0) [] x (.agg (cellsR x b14 b15 b16 b17 d14 d15 d16 d17).toArray) Wb (ow_nil _ _) (by decide) (Nat.le_refl _) ⟨_, _, _, _, _, _, _, _, rfl, ⟨HWB.out.h14.sl.li, HWB.out.h15.sl.li, HWB.out.h16.sl.li, HWB.out.h17.sl.li⟩⟩ hcx)
      simp only [List.nil_append] at HPX
      rw [← hn3'] at HPX
      have hlx : (lb.take n).length = n := by rw [List.length_take]; omega
      clear hn3 hn3' hcx HON HZE hn1
      go_upto_region 14 with (first | (go_at_call 12; refine HER.out.mono ?_; rintro e w9 ⟨rfl, hw9⟩; rw [hw9]; clear hw9 w9))
      go_upto_region 15 with (first | (refine wpList_load_mid rfl _ _ rfl _ _ rfl _ _ (HRGB.out) Tryd.underlying24 rfl (by kernel_rfl) ?_) | (go_at_call 7; refine HPX.out.mono ?_; rintro e Wc ⟨vc, rfl, hoc, hgc⟩))
      have HBC := hide (hgc.below)
      have HSC := hide hoc.sl
      have hncap : n ≤ cap := by rcases HVL.out with ⟨_, _, e, _⟩ | ⟨_, _, _, e, q, _⟩; (subst e; simp at hn2; omega); (cases e; omega)
      have HSLB : Hid (Sl bc Wc (.slice ao n cap) (lb.take n)) := hide (by
        have h9 := HVL.out.below HBC.out
        rcases h9 with ⟨ao', cap', e1, e2⟩ | ⟨b, o, cap', e2, e3, e4⟩
        · subst e1
          have : n = 0 := by simpa using hn2
          subst this
          exact .inl ⟨ao, cap, rfl, rfl⟩
        · cases e2
          refine .inr ⟨b, o, cap, by rw [hlx], by omega, fun i hi => ?_⟩
          rw [List.getElem_take]
          exact e4 i (by rw [hlx] at hi; omega))
      have HSMB := hide (same_bytes vc (.slice ao n cap) (lb.take n) Wc HSC.out HSLB.out (by rw [hlx]; omega))
      have HATC := hide (HAT.out Wc HBC.out)
      have hnI : (n : Int) ≤ (lb.length : Int) := by omega
      clear hoc hgc HSC HSLB HPX HER hlx HVL
      replace HBX := HBC
      go_wp2_with (first | (go_at_call 14; refine HATC.out.mono ?_; rintro e w9 ⟨rfl, hw9⟩; rw [hw9]; clear hw9 w9) | (go_at_call 13; refine HSMB.out.mono ?_; rintro e W9 ⟨rfl, hb9⟩; replace HBX := hide (HBX.out.trans (hb9.mono HBX.out.size)); clear hb9) | (go_at_call 6; refine (HWKB.out _ HBX.out).mono ?_; rintro e W9 ⟨rfl, hb9⟩; replace HBX := hide (HBX.out.trans (hb9.mono HBX.out.size)); clear hb9))
      go_ret
      exact ⟨rfl, HBB.out.trans (HBX.out.mono HBB.out.size)⟩
    have HP := hide (fun W (h : Below w.heap.size w W) => cput_ok W.heap.size (.slice none 0 0) [] r _ W (ow_nil _ _) (by decide) (Nat.le_refl _) (by
      obtain ⟨b14, b15, b16, b17, d14, d15, d16, d17, e, q⟩ := HV.out W h
      have hz := h.size
      exact ⟨b14, b15, b16, b17, d14, d15, d16, d17, e, ⟨q.h14.imp (fun _ _ q => by omega) (fun _ _ _ _ => rfl), q.h15.imp (fun _ _ q => by omega) (fun _ _ _ _ => rfl), q.h16.imp (fun _ _ q => by omega) (fun _ _ _ _ => rfl), q.h17.imp (fun _ _ q => by omega) (fun _ _ _ _ => rfl)⟩⟩) hc)
    simp only [List.nil_append] at HP
    have hpos2 := put_pos r
    have hlen := put_len hc
    have HBY := hide (put_byt hc)
    have HBK : Hid (readG (putL r) (okS 0) = (okS (putL r).length, r)) := hide (by have := read_back r hc [] []; simpa using this)
    have HLN : Hid (LnR r) := hide (by
      have hi := chk_is hc
      have hrow : ∀ (l : List Int) (h : Bool), rowB l h = true → l.length ≤ 10000 := fun l h e => by
        have := rowB_asks e
        split at this
        · have := this.1; omega
        · rw [this]; simp
      exact ⟨hrow _ _ hi.ids, hrow _ _ hi.isr, hrow _ _ hi.ad, hrow _ _ hi.dr⟩)
    generalize putL r = l at *
    go_enter Tryd.func3, Tryd.ntmps3
    go_upto_region 1 with fail
    rw [← show X = _ from HX.out]
    go_upto_region 3 with (first | (refine wpList_load_mid rfl _ _ rfl _ _ rfl _ _ (HRG.out) Tryd.underlying24 rfl (by kernel_rfl) ?_) | (go_at_call 5; refine (HSH.out _ HB.out).mono ?_; rintro e W1 ⟨rfl, hb1⟩; replace HB := hide (HB.out.trans (hb1.mono HB.out.size)); replace HRG := hide (range_below HRG.out hb1); clear hb1))
    go_upto_region 4 with (first | (refine wpList_load_mid rfl _ _ rfl _ _ rfl _ _ (HRG.out) Tryd.underlying24 rfl (by kernel_rfl) ?_) | (go_at_call 7; refine (HP.out _ HB.out).mono ?_; rintro e W2 ⟨v2, rfl, ho2, hg2⟩))
    obtain ⟨g, c, rfl, hgc, hcm⟩ := ho2.at hpos2
    have HSL2 := hide ho2.sl
    have HB2 := hide (HB.out.trans (hg2.below.mono HB.out.size))
    have HRG2 := hide (range_below HRG.out hg2.below)
    have hz2 : w.heap.size < W2.heap.size := cell_block (HRG2.out 0 _ rfl)
    clear ho2 hg2 HRG HB HP HSH HX
    have HRD := hide (read_any (some ⟨g, 0, none⟩) l.length c W2)
    go_upto_region 6 with (first | (go_at_call 8; refine HRD.out.mono ?_; rintro e W3 ⟨rfl, hr3, hb3⟩))
    have HB3 := hide (HB2.out.trans (hb3.mono HB2.out.size))
    have hp3 : W2.heap.size < W3.heap.size := hr3.lt
    have HV3 : Hid (Slx W2.heap.size bc W3 (.slice (some ⟨g, 0, none⟩) l.length c) l) := hide ((HSL2.out.out (Nat.le_refl _)).below hb3)
    have HRG3 := hide (range_below HRG2.out hb3)
    have hdr : Below W3.heap.size W3 W3.drew := (Below.refl _ _).drew
    have HCR := hide (cread_any W2.heap.size _ l (okS 0) W3.drew (RdG.below hr3 hdr) (HV3.out.below hdr) (by omega) HBY.out (Nat.zero_le _) (HG.out.below (HB3.out.trans (hdr.mono HB3.out.size))) (by show W2.heap.size ≠ 0; omega))
    rw [HBK.out] at HCR
    have hce : ∀ W : World, W.rangeAt w.heap.size 0 (cellsR r a14 a15 a16 a17 c14 c15 c16 c17) → (W.cell? ⟨w.heap.size, 0, none⟩ = some (.int .i64 r.k) ∧ W.cell? ⟨w.heap.size, 1, none⟩ = some (.int .i64 r.br) ∧ W.cell? ⟨w.heap.size, 2, none⟩ = some (.int .i64 r.ep) ∧ W.cell? ⟨w.heap.size, 3, none⟩ = some (.int .i64 r.tp) ∧ W.cell? ⟨w.heap.size, 4, none⟩ = some (.int .i64 r.pa) ∧ W.cell? ⟨w.heap.size, 5, none⟩ = some (.int .i64 r.le) ∧ W.cell? ⟨w.heap.size, 6, none⟩ = some (.int .i64 r.cl) ∧ W.cell? ⟨w.heap.size, 7, none⟩ = some (.int .i64 r.se) ∧ W.cell? ⟨w.heap.size, 8, none⟩ = some (.int .i64 r.co) ∧ W.cell? ⟨w.heap.size, 9, none⟩ = some (.bool r.fl) ∧ W.cell? ⟨w.heap.size, 10, none⟩ = some (.string ⟨r.nm.toArray⟩) ∧ W.cell? ⟨w.heap.size, 11, none⟩ = some (.string ⟨r.ky.toArray⟩) ∧ W.cell? ⟨w.heap.size, 12, none⟩ = some (.string ⟨r.va.toArray⟩) ∧ W.cell? ⟨w.heap.size, 13, none⟩ = some (.string ⟨r.rk.toArray⟩) ∧ W.cell? ⟨w.heap.size, 14, none⟩ = some (.slice a14 r.ids.length c14) ∧ W.cell? ⟨w.heap.size, 15, none⟩ = some (.slice a15 r.isr.length c15) ∧ W.cell? ⟨w.heap.size, 16, none⟩ = some (.slice a16 r.ad.length c16) ∧ W.cell? ⟨w.heap.size, 17, none⟩ = some (.slice a17 r.dr.length c17)) := fun W h => by
      obtain ⟨q0, q1, q2, q3, q4, q5, q6, q7, q8, q9, q10, q11, q12, q13, q14, q15, q16, q17⟩ := C18.of h
      exact ⟨q0, q1, q2, q3, q4, q5, q6, q7, q8, q9, q10, q11, q12, q13, q14, q15, q16, q17⟩
    have HK : Hid (∀ W : World, Bx W2.heap.size W3 W → (W.cell? ⟨w.heap.size, 0, none⟩ = some (.int .i64 r.k) ∧ W.cell? ⟨w.heap.size, 1, none⟩ = some (.int .i64 r.br) ∧ W.cell? ⟨w.heap.size, 2, none⟩ = some (.int .i64 r.ep) ∧ W.cell? ⟨w.heap.size, 3, none⟩ = some (.int .i64 r.tp) ∧ W.cell? ⟨w.heap.size, 4, none⟩ = some (.int .i64 r.pa) ∧ W.cell? ⟨w.heap.size, 5, none⟩ = some (.int .i64 r.le) ∧ W.cell? ⟨w.heap.size, 6, none⟩ = some (.int .i64 r.cl) ∧ W.cell? ⟨w.heap.size, 7, none⟩ = some (.int .i64 r.se) ∧ W.cell? ⟨w.heap.size, 8, none⟩ = some (.int .i64 r.co) ∧ W.cell? ⟨w.heap.size, 9, none⟩ = some (.bool r.fl) ∧ W.cell? ⟨w.heap.size, 10, none⟩ = some (.string ⟨r.nm.toArray⟩) ∧ W.cell? ⟨w.heap.size, 11, none⟩ = some (.string ⟨r.ky.toArray⟩) ∧ W.cell? ⟨w.heap.size, 12, none⟩ = some (.string ⟨r.va.toArray⟩) ∧ W.cell? ⟨w.heap.size, 13, none⟩ = some (.string ⟨r.rk.toArray⟩) ∧ W.cell? ⟨w.heap.size, 14, none⟩ = some (.slice a14 r.ids.length c14) ∧ W.cell? ⟨w.heap.size, 15, none⟩ = some (.slice a15 r.isr.length c15) ∧ W.cell? ⟨w.heap.size, 16, none⟩ = some (.slice a16 r.ad.length c16) ∧ W.cell? ⟨w.heap.size, 17, none⟩ = some (.slice a17 r.dr.length c17)) ∧ Bx W2.heap.size W3 W) := hide (fun W h => ⟨hce W (h.range (by omega) HRG3.out), h⟩)
    have HK0 := hide (HK.out W3.drew (Bx.of hdr))
    have HKX : Hid (∀ {W W' : World}, ((W.cell? ⟨w.heap.size, 0, none⟩ = some (.int .i64 r.k) ∧ W.cell? ⟨w.heap.size, 1, none⟩ = some (.int .i64 r.br) ∧ W.cell? ⟨w.heap.size, 2, none⟩ = some (.int .i64 r.ep) ∧ W.cell? ⟨w.heap.size, 3, none⟩ = some (.int .i64 r.tp) ∧ W.cell? ⟨w.heap.size, 4, none⟩ = some (.int .i64 r.pa) ∧ W.cell? ⟨w.heap.size, 5, none⟩ = some (.int .i64 r.le) ∧ W.cell? ⟨w.heap.size, 6, none⟩ = some (.int .i64 r.cl) ∧ W.cell? ⟨w.heap.size, 7, none⟩ = some (.int .i64 r.se) ∧ W.cell? ⟨w.heap.size, 8, none⟩ = some (.int .i64 r.co) ∧ W.cell? ⟨w.heap.size, 9, none⟩ = some (.bool r.fl) ∧ W.cell? ⟨w.heap.size, 10, none⟩ = some (.string ⟨r.nm.toArray⟩) ∧ W.cell? ⟨w.heap.size, 11, none⟩ = some (.string ⟨r.ky.toArray⟩) ∧ W.cell? ⟨w.heap.size, 12, none⟩ = some (.string ⟨r.va.toArray⟩) ∧ W.cell? ⟨w.heap.size, 13, none⟩ = some (.string ⟨r.rk.toArray⟩) ∧ W.cell? ⟨w.heap.size, 14, none⟩ = some (.slice a14 r.ids.length c14) ∧ W.cell? ⟨w.heap.size, 15, none⟩ = some (.slice a15 r.isr.length c15) ∧ W.cell? ⟨w.heap.size, 16, none⟩ = some (.slice a16 r.ad.length c16) ∧ W.cell? ⟨w.heap.size, 17, none⟩ = some (.slice a17 r.dr.length c17)) ∧ Bx W2.heap.size W3 W) → Bx W2.heap.size W W' → (W'.cell? ⟨w.heap.size, 0, none⟩ = some (.int .i64 r.k) ∧ W'.cell? ⟨w.heap.size, 1, none⟩ = some (.int .i64 r.br) ∧ W'.cell? ⟨w.heap.size, 2, none⟩ = some (.int .i64 r.ep) ∧ W'.cell? ⟨w.heap.size, 3, none⟩ = some (.int .i64 r.tp) ∧ W'.cell? ⟨w.heap.size, 4, none⟩ = some (.int .i64 r.pa) ∧ W'.cell? ⟨w.heap.size, 5, none⟩ = some (.int .i64 r.le) ∧ W'.cell? ⟨w.heap.size, 6, none⟩ = some (.int .i64 r.cl) ∧ W'.cell? ⟨w.heap.size, 7, none⟩ = some (.int .i64 r.se) ∧ W'.cell? ⟨w.heap.size, 8, none⟩ = some (.int .i64 r.co) ∧ W'.cell? ⟨w.heap.size, 9, none⟩ = some (.bool r.fl) ∧ W'.cell? ⟨w.heap.size, 10, none⟩ = some (.string ⟨r.nm.toArray⟩) ∧ W'.cell? ⟨w.heap.size, 11, none⟩ = some (.string ⟨r.ky.toArray⟩) ∧ W'.cell? ⟨w.heap.size, 12, none⟩ = some (.string ⟨r.va.toArray⟩) ∧ W'.cell? ⟨w.heap.size, 13, none⟩ = some (.string ⟨r.rk.toArray⟩) ∧ W'.cell? ⟨w.heap.size, 14, none⟩ = some (.slice a14 r.ids.length c14) ∧ W'.cell? ⟨w.heap.size, 15, none⟩ = some (.slice a15 r.isr.length c15) ∧ W'.cell? ⟨w.heap.size, 16, none⟩ = some (.slice a16 r.ad.length c16) ∧ W'.cell? ⟨w.heap.size, 17, none⟩ = some (.slice a17 r.dr.length c17)) ∧ Bx W2.heap.size W3 W') := hide (fun h k => HK.out _ (h.2.trans k))
    have HKB : Hid (∀ {W W' : World}, ((W.cell? ⟨w.heap.size, 0, none⟩ = some (.int .i64 r.k) ∧ W.cell? ⟨w.heap.size, 1, none⟩ = some (.int .i64 r.br) ∧ W.cell? ⟨w.heap.size, 2, none⟩ = some (.int .i64 r.ep) ∧ W.cell? ⟨w.heap.size, 3, none⟩ = some (.int .i64 r.tp) ∧ W.cell? ⟨w.heap.size, 4, none⟩ = some (.int .i64 r.pa) ∧ W.cell? ⟨w.heap.size, 5, none⟩ = some (.int .i64 r.le) ∧ W.cell? ⟨w.heap.size, 6, none⟩ = some (.int .i64 r.cl) ∧ W.cell? ⟨w.heap.size, 7, none⟩ = some (.int .i64 r.se) ∧ W.cell? ⟨w.heap.size, 8, none⟩ = some (.int .i64 r.co) ∧ W.cell? ⟨w.heap.size, 9, none⟩ = some (.bool r.fl) ∧ W.cell? ⟨w.heap.size, 10, none⟩ = some (.string ⟨r.nm.toArray⟩) ∧ W.cell? ⟨w.heap.size, 11, none⟩ = some (.string ⟨r.ky.toArray⟩) ∧ W.cell? ⟨w.heap.size, 12, none⟩ = some (.string ⟨r.va.toArray⟩) ∧ W.cell? ⟨w.heap.size, 13, none⟩ = some (.string ⟨r.rk.toArray⟩) ∧ W.cell? ⟨w.heap.size, 14, none⟩ = some (.slice a14 r.ids.length c14) ∧ W.cell? ⟨w.heap.size, 15, none⟩ = some (.slice a15 r.isr.length c15) ∧ W.cell? ⟨w.heap.size, 16, none⟩ = some (.slice a16 r.ad.length c16) ∧ W.cell? ⟨w.heap.size, 17, none⟩ = some (.slice a17 r.dr.length c17)) ∧ Bx W2.heap.size W3 W) → Below W.heap.size W W' → (W'.cell? ⟨w.heap.size, 0, none⟩ = some (.int .i64 r.k) ∧ W'.cell? ⟨w.heap.size, 1, none⟩ = some (.int .i64 r.br) ∧ W'.cell? ⟨w.heap.size, 2, none⟩ = some (.int .i64 r.ep) ∧ W'.cell? ⟨w.heap.size, 3, none⟩ = some (.int .i64 r.tp) ∧ W'.cell? ⟨w.heap.size, 4, none⟩ = some (.int .i64 r.pa) ∧ W'.cell? ⟨w.heap.size, 5, none⟩ = some (.int .i64 r.le) ∧ W'.cell? ⟨w.heap.size, 6, none⟩ = some (.int .i64 r.cl) ∧ W'.cell? ⟨w.heap.size, 7, none⟩ = some (.int .i64 r.se) ∧ W'.cell? ⟨w.heap.size, 8, none⟩ = some (.int .i64 r.co) ∧ W'.cell? ⟨w.heap.size, 9, none⟩ = some (.bool r.fl) ∧ W'.cell? ⟨w.heap.size, 10, none⟩ = some (.string ⟨r.nm.toArray⟩) ∧ W'.cell? ⟨w.heap.size, 11, none⟩ = some (.string ⟨r.ky.toArray⟩) ∧ W'.cell? ⟨w.heap.size, 12, none⟩ = some (.string ⟨r.va.toArray⟩) ∧ W'.cell? ⟨w.heap.size, 13, none⟩ = some (.string ⟨r.rk.toArray⟩) ∧ W'.cell? ⟨w.heap.size, 14, none⟩ = some (.slice a14 r.ids.length c14) ∧ W'.cell? ⟨w.heap.size, 15, none⟩ = some (.slice a15 r.isr.length c15) ∧ W'.cell? ⟨w.heap.size, 16, none⟩ = some (.slice a16 r.ad.length c16) ∧ W'.cell? ⟨w.heap.size, 17, none⟩ = some (.slice a17 r.dr.length c17)) ∧ Bx W2.heap.size W3 W') := hide (fun h k => HK.out _ (h.2.call k))
    have HSM := hide (fun W (h : Bx W2.heap.size W3 W) b14 b15 b16 b17 d14 d15 d16 d17 (hx : RwsR (fun b => W3.drew.heap.size ≤ b) W r b14 b15 b16 b17 d14 d15 d16 d17) => rsame_any r r (.agg (cellsR r b14 b15 b16 b17 d14 d15 d16 d17).toArray) (.agg (cellsR r a14 a15 a16 a17 c14 c15 c16 c17).toArray) W ⟨b14, b15, b16, b17, d14, d15, d16, d17, rfl, hx⟩ ((HV.out W3 HB3.out).bx h (fun b q => by omega)) HLN.out)
    simp only [sameR_self] at HSM
    clear hr3 hb3 HRG2 HRD HSL2 hdr HRG3 hce
    go_region_held3 (fun W => (W.cell? ⟨w.heap.size, 0, none⟩ = some (.int .i64 r.k) ∧ W.cell? ⟨w.heap.size, 1, none⟩ = some (.int .i64 r.br) ∧ W.cell? ⟨w.heap.size, 2, none⟩ = some (.int .i64 r.ep) ∧ W.cell? ⟨w.heap.size, 3, none⟩ = some (.int .i64 r.tp) ∧ W.cell? ⟨w.heap.size, 4, none⟩ = some (.int .i64 r.pa) ∧ W.cell? ⟨w.heap.size, 5, none⟩ = some (.int .i64 r.le) ∧ W.cell? ⟨w.heap.size, 6, none⟩ = some (.int .i64 r.cl) ∧ W.cell? ⟨w.heap.size, 7, none⟩ = some (.int .i64 r.se) ∧ W.cell? ⟨w.heap.size, 8, none⟩ = some (.int .i64 r.co) ∧ W.cell? ⟨w.heap.size, 9, none⟩ = some (.bool r.fl) ∧ W.cell? ⟨w.heap.size, 10, none⟩ = some (.string ⟨r.nm.toArray⟩) ∧ W.cell? ⟨w.heap.size, 11, none⟩ = some (.string ⟨r.ky.toArray⟩) ∧ W.cell? ⟨w.heap.size, 12, none⟩ = some (.string ⟨r.va.toArray⟩) ∧ W.cell? ⟨w.heap.size, 13, none⟩ = some (.string ⟨r.rk.toArray⟩) ∧ W.cell? ⟨w.heap.size, 14, none⟩ = some (.slice a14 r.ids.length c14) ∧ W.cell? ⟨w.heap.size, 15, none⟩ = some (.slice a15 r.isr.length c15) ∧ W.cell? ⟨w.heap.size, 16, none⟩ = some (.slice a16 r.ad.length c16) ∧ W.cell? ⟨w.heap.size, 17, none⟩ = some (.slice a17 r.dr.length c17)) ∧ Bx W2.heap.size W3 W)
      (first | with_reducible assumption | with_reducible exact HK0.out | with_reducible exact HKX.out (by assumption) (by assumption) | with_reducible exact HKB.out (by assumption) (by assumption))
      (first
        | (go_at_call 10; refine HCR.out.mono ?_; rintro e W4 ⟨vx, rfl, hx4, hr4, hb4⟩; obtain ⟨b14, b15, b16, b17, d14, d15, d16, d17, rfl, hw4⟩ := hx4; have hb34 : Bx W2.heap.size W3 W4 := (HK0.out.2).trans hb4)
        | (go_at_call 9; refine (HSM.out _ (by assumption) _ _ _ _ _ _ _ _ (by assumption)).mono ?_; rintro e W5 ⟨rfl, hb5⟩)
        | (go_at_call 11; refine (rend_any W2.heap.size (some ⟨g, 0, none⟩) l.length c l.length _ (RdG.below hr4 hb5)).mono ?_; rw [show erN ⟨#[101, 110, 100]⟩ (l.length : Nat) (endC l.length l.length) = .nilIface by simp [erN, endC]]; rintro e W6 ⟨rfl, _, hb6⟩))
    have hb36 : Bx W2.heap.size W3 W6 := (hb34.call hb5).trans hb6
    have HBE := hide (below_bx HB3.out hb36 (Nat.le_of_lt hz2) HB3.out.size)
    obtain ⟨WE, hWE⟩ : ∃ WE : World, WE = W6 := ⟨_, rfl⟩
    rw [← hWE] at HBE ⊢
    clear hb36 hb6 hb5 hb34 hb4 hr4 hw4 HK HK0 HKX HKB HSM HCR HV3 HBK HBY HLN hWE
    go_upto_region 8 with fail
    have hzE : w.heap.size ≤ WE.heap.size := HBE.out.size
    have HRD8 := hide (read_any ao lb.length cap WE)
    go_upto_region 11 with (first | (go_at_call 8; refine HRD8.out.mono ?_; rintro e W9 ⟨rfl, hr9, hb9⟩))
    have HB9 := hide (HBE.out.trans (hb9.mono hzE))
    have hp9 : WE.heap.size < W9.heap.size := hr9.lt
    have HV9 : Hid (Slx WE.heap.size bc W9 (.slice ao lb.length cap) lb) := hide (((HVB.out.below HBE.out).out (Nat.le_refl _)).below hb9)
    have HC9 := hide (cread_any WE.heap.size _ lb (okS 0) W9 hr9 HV9.out (by omega) HBYB.out (Nat.zero_le _) (HG.out.below HB9.out) (by show WE.heap.size ≠ 0; omega))
    have hrp := read_pt (s := okS 0) HBYB.out (Nat.zero_le _)
    have HON := hide (fun h => read_once lb HBYB.out 0 (Nat.zero_le _) h)
    have HZE := hide (fun h => read_zero lb (okS 0) h)
    rcases hq : readG lb (okS 0) with ⟨s5, x⟩
    rw [hq] at HC9 HON HZE hrp
    simp only at HC9 HON HZE hrp
    clear hr9 hb9 hq HRD8
    go_upto_region 12 with (first | (go_at_call 10; refine HC9.out.mono ?_; rintro e Wa ⟨vx, rfl, hxa, hra, hba⟩; obtain ⟨b14, b15, b16, b17, d14, d15, d16, d17, rfl, hwa⟩ := hxa) | (refine wpList_store_mid rfl _ _ _ rfl Wa.heap.size 0 (cellsR x b14 b15 b16 b17 d14 d15 d16 d17).toArray rfl rfl (there_new Wa) (by kernel_rfl) (cellsR_one _ _ _ _ _ _ _ _ _) ?_))
    obtain ⟨Wb, hWb⟩ : ∃ Wb, Wb = (Wa.alloc (.cells #[.int .i64 0, .int .i64 0, .int .i64 0, .int .i64 0, .int .i64 0, .int .i64 0, .int .i64 0, .int .i64 0, .int .i64 0, .bool false, .string ⟨#[]⟩, .string ⟨#[]⟩, .string ⟨#[]⟩, .string ⟨#[]⟩, .slice none 0 0, .slice none 0 0, .slice none 0 0, .slice none 0 0] 24)).setCells Wa.heap.size 0 (cellsR x b14 b15 b16 b17 d14 d15 d16 d17) := ⟨_, rfl⟩
    obtain ⟨hrb, hbb, hwb, hrgb, hzb, _⟩ := laid0 hra hba hp9 hwa hWb
    have HRGB := hide hrgb
    have HWB := hide hwb
    have HBB := hide (below_bx HB9.out hbb hzE HB9.out.size)
    have HRDB := hide hrb
    have hzz : w.heap.size ≤ Wb.heap.size := HBB.out.size
    have HVL : Hid (Sl bc Wb (.slice ao lb.length cap) lb) := hide (HV9.out.bx hbb).sl
    have HER := hide (err_any WE.heap.size _ _ _ Wb hrb)
    have HAT := hide (fun W (h : Below Wb.heap.size Wb W) => at_any WE.heap.size _ _ _ W (hrb.below h))
    have HWKB := hide (fun W (h : Below Wb.heap.size Wb W) => HWK.out W (HBB.out.trans (h.mono HBB.out.size)))
    have HEB := hide hWb
    rw [← HEB.out]
    clear hWb hra hba hwa hrb hbb hwb hrgb HEB HC9 HV9
    have HBX := hide (Below.refl Wb.heap.size Wb)
    by_cases h5 : s5.c = 0
    case neg =>
      rw [show erN s5.op s5.pt s5.c = ft s5.op s5.pt s5.c from if_neg h5] at HER
      have hx0 := HZE.out h5
      subst hx0
      have HSM : Hid (∀ W, Below Wb.heap.size Wb W → Calls Tryd.prog 9 #[.agg (cellsR Rc.zero b14 b15 b16 b17 d14 d15 d16 d17).toArray, .agg #[.int .i64 0, .int .i64 0, .int .i64 0, .int .i64 0, .int .i64 0, .int .i64 0, .int .i64 0, .int .i64 0, .int .i64 0, .bool false, .string ⟨#[]⟩, .string ⟨#[]⟩, .string ⟨#[]⟩, .string ⟨#[]⟩, .slice none 0 0, .slice none 0 0, .slice none 0 0, .slice none 0 0]] W fun e w' => e = .returned (.bool true) ∧ Below W.heap.size W w') := hide (fun W h => by
        have := rsame_any Rc.zero Rc.zero (.agg (cellsR Rc.zero b14 b15 b16 b17 d14 d15 d16 d17).toArray) (.agg (cellsR Rc.zero none none none none 0 0 0 0).toArray) W ⟨_, _, _, _, _, _, _, _, rfl, HWB.out.below h⟩ (isR_zero (fun _ => True) W) ⟨by decide, by decide, by decide, by decide⟩
        rw [sameR_self] at this
        exact this)
      unfold cellsR at HSM
      unfold ft at HER
      go_wp2_with (first | (go_at_call 12; refine HER.out.mono ?_; rintro e w9 ⟨rfl, hw9⟩; rw [hw9]; clear hw9 w9) | (refine wpList_load_mid rfl _ _ rfl _ _ rfl _ _ (range_below HRGB.out HBX.out) Tryd.underlying24 rfl (by kernel_rfl) ?_) | (go_at_call 9; with_reducible refine (HSM.out _ HBX.out).mono ?_; rintro e W9 ⟨rfl, hb9⟩; replace HBX := hide (HBX.out.trans (hb9.mono HBX.out.size)); clear hb9) | (go_at_call 6; refine (HWKB.out _ HBX.out).mono ?_; rintro e W9 ⟨rfl, hb9⟩; replace HBX := hide (HBX.out.trans (hb9.mono HBX.out.size)); clear hb9))
      go_ret
      exact ⟨rfl, HBB.out.trans (HBX.out.mono HBB.out.size)⟩
    rw [show erN s5.op s5.pt s5.c = .nilIface from if_pos h5] at HER
    obtain ⟨hcx, n, hn1, _, hn2, hn3⟩ := HON.out h5
    obtain ⟨rfl, _⟩ := Prod.mk.inj hn1
    have hpt : (okS n).pt = n := rfl
    rw [hpt] at HAT
    have hn3' : lb.take n = putL x := by
      rw [List.drop_zero] at hn3
      have h9 := congrArg List.length hn3
      rw [List.length_append, List.length_drop] at h9
      have h8 : (putL x).length = n := by omega
      rw [hn3, ← h8, List.take_left]
    have HPX := hide (cput_ok Wb.heap.size (.slice none 0 0) [] x (.agg (cellsR x b14 b15 b16 b17 d14 d15 d16 d17).toArray) Wb (ow_nil _ _) (by decide) (Nat.le_refl _) ⟨_, _, _, _, _, _, _, _, rfl, ⟨HWB.out.h14.sl.li, HWB.out.h15.sl.li, HWB.out.h16.sl.li, HWB.out.h17.sl.li⟩⟩ hcx)
    simp only [List.nil_append] at HPX
    rw [← hn3'] at HPX
    have hlx : (lb.take n).length = n := by rw [List.length_take]; omega
    clear hn3 hn3' hcx HON HZE hn1
    go_upto_region 14 with (first | (go_at_call 12; refine HER.out.mono ?_; rintro e w9 ⟨rfl, hw9⟩; rw [hw9]; clear hw9 w9))
    go_upto_region 15 with (first | (refine wpList_load_mid rfl _ _ rfl _ _ rfl _ _ (HRGB.out) Tryd.underlying24 rfl (by kernel_rfl) ?_) | (go_at_call 7; refine HPX.out.mono ?_; rintro e Wc ⟨vc, rfl, hoc, hgc⟩))
    have HBC := hide (hgc.below)
    have HSC := hide hoc.sl
    have hncap : n ≤ cap := by rcases HVL.out with ⟨_, _, e, _⟩ | ⟨_, _, _, e, q, _⟩; (subst e; simp at hn2; omega); (cases e; omega)
    have HSLB : Hid (Sl bc Wc (.slice ao n cap) (lb.take n)) := hide (by
      have h9 := HVL.out.below HBC.out
      rcases h9 with ⟨ao', cap', e1, e2⟩ | ⟨b, o, cap', e2, e3, e4⟩
      · subst e1
        have : n = 0 := by simpa using hn2
        subst this
        exact .inl ⟨ao, cap, rfl, rfl⟩
      · cases e2
        refine .inr ⟨b, o, cap, by rw [hlx], by omega, fun i hi => ?_⟩
        rw [List.getElem_take]
        exact e4 i (by rw [hlx] at hi; omega))
    have HSMB := hide (same_bytes vc (.slice ao n cap) (lb.take n) Wc HSC.out HSLB.out (by rw [hlx]; omega))
    have HATC := hide (HAT.out Wc HBC.out)
    have hnI : (n : Int) ≤ (lb.length : Int) := by omega
    clear hoc hgc HSC HSLB HPX HER hlx HVL
    replace HBX := HBC
    go_wp2_with (first | (go_at_call 14; refine HATC.out.mono ?_; rintro e w9 ⟨rfl, hw9⟩; rw [hw9]; clear hw9 w9) | (go_at_call 13; refine HSMB.out.mono ?_; rintro e W9 ⟨rfl, hb9⟩; replace HBX := hide (HBX.out.trans (hb9.mono HBX.out.size)); clear hb9) | (go_at_call 6; refine (HWKB.out _ HBX.out).mono ?_; rintro e W9 ⟨rfl, hb9⟩; replace HBX := hide (HBX.out.trans (hb9.mono HBX.out.size)); clear hb9))
    go_ret
    exact ⟨rfl, HBB.out.trans (HBX.out.mono HBB.out.size)⟩
theorem rback_law (r : Rc) (v u : Value) (lb : List Int) (w : World) (hv : IsR (fun b => b < w.heap.size) w v r) (hu : Sl bc w u lb) (hby : Byt lb) (hg : Hnd w) :
    Calls Tryd.prog 3 #[v, u] w fun e w' => e = .returned (.bool true) ∧ Below w.heap.size w w' := by
  obtain ⟨a14, a15, a16, a17, c14, c15, c16, c17, rfl, h⟩ := hv
  obtain ⟨ao, cap, rfl⟩ := hu.form
  exact rback_go r a14 a15 a16 a17 c14 c15 c16 c17 ao cap lb w h hu hby hg
end Go.Proofs.YthoeajiojdfgdaaDoor
