/-
  RecordShort's WALK: a record's bytes cut short are none. Conditions: the record's rows' cells hold them; errors.errorType is laid.
-/
import Derived.Test.YthoeajiojdfgdaaDoorRecPb
namespace Go.Proofs.YthoeajiojdfgdaaDoor
open Go.RowKit

set_option maxRecDepth 100000 in
set_option maxHeartbeats 16000000 in
theorem rshort_go (r : Rc) (a14 a15 a16 a17 : Option Addr) (c14 c15 c16 c17 : Nat) (cut : Int) (w : World) (hrw : RwsR (fun b => b < w.heap.size) w r a14 a15 a16 a17 c14 c15 c16 c17) (h0 : 0 ≤ cut) (h1 : cut ≤ 65535) (hg : Hnd w) :
    Calls Tryd.prog 4 #[.agg (cellsR r a14 a15 a16 a17 c14 c15 c16 c17).toArray, .int .u16 cut] w fun e w' => e = .returned (.bool true) ∧ Below w.heap.size w w' := by
  have hpos : 0 < w.heap.size := cell_block hg
  have HV : Hid (∀ W, Below w.heap.size w W → IsR (fun b => b < w.heap.size) W (.agg (cellsR r a14 a15 a16 a17 c14 c15 c16 c17).toArray) r) := hide (fun W h => ⟨a14, a15, a16, a17, c14, c15, c16, c17, rfl, hrw.below h⟩)
  have HG := hide hg
  have HSH := hide (fun W (h : Below w.heap.size w W) => short_any r _ W (HV.out W h))
  have HWK := hide (fun W (h : Below w.heap.size w W) => works_any W (HG.out.below h))
  have HRG : Hid ((w.alloc (.cells (cellsR r a14 a15 a16 a17 c14 c15 c16 c17).toArray 24)).rangeAt w.heap.size 0 (cellsR r a14 a15 a16 a17 c14 c15 c16 c17)) := hide (range_new w _ _)
  have HB : Hid (Below w.heap.size w (w.alloc (.cells (cellsR r a14 a15 a16 a17 c14 c15 c16 c17).toArray 24))) := hide ((Below.refl _ _).alloc (Nat.le_refl _) _)
  clear hrw hg
  have HW0 := hide (rfl : w.alloc (.cells (cellsR r a14 a15 a16 a17 c14 c15 c16 c17).toArray 24) = w.alloc (.cells (cellsR r a14 a15 a16 a17 c14 c15 c16 c17).toArray 24))
  obtain ⟨X, hX⟩ : ∃ X, X = w.alloc (.cells (cellsR r a14 a15 a16 a17 c14 c15 c16 c17).toArray 24) := ⟨_, rfl⟩
  rw [← hX] at HRG HB
  have HX := hide hX
  clear hX HW0
  cases hs : shB r with
  | false =>
    rw [hs] at HSH
    go_enter Tryd.func4, Tryd.ntmps4
    go_upto_region 1 with fail
    rw [← show X = _ from HX.out]
    go_wp2_with (first | (refine wpList_load_mid rfl _ _ rfl _ _ rfl _ _ (HRG.out) Tryd.underlying24 rfl (by kernel_rfl) ?_) | (go_at_call 5; refine (HSH.out _ HB.out).mono ?_; rintro e W1 ⟨rfl, hb1⟩; replace HB := hide (HB.out.trans (hb1.mono HB.out.size)); clear hb1) | (go_at_call 6; refine (HWK.out _ HB.out).mono ?_; rintro e W1 ⟨rfl, hb1⟩; replace HB := hide (HB.out.trans (hb1.mono HB.out.size)); clear hb1))
    go_ret
    exact ⟨rfl, HB.out⟩
  | true =>
    rw [hs] at HSH
    have HTX := hide (sh_tx hs)
    clear hs
    by_cases hc : (chk r).2.2 = 0
    case neg =>
      have HP := hide (fun W (h : Below w.heap.size w W) => cput_bad r _ (.slice none 0 0) W (HV.out W h) HTX.out hc)
      unfold ft at HP
      generalize chk r = TT at HP
      clear hc
      go_enter Tryd.func4, Tryd.ntmps4
      go_upto_region 1 with fail
      rw [← show X = _ from HX.out]
      go_upto_region 3 with (first | (refine wpList_load_mid rfl _ _ rfl _ _ rfl _ _ (HRG.out) Tryd.underlying24 rfl (by kernel_rfl) ?_) | (go_at_call 5; refine (HSH.out _ HB.out).mono ?_; rintro e W1 ⟨rfl, hb1⟩; replace HB := hide (HB.out.trans (hb1.mono HB.out.size)); replace HRG := hide (range_below HRG.out hb1); clear hb1))
      go_wp2_with (first | (refine wpList_load_mid rfl _ _ rfl _ _ rfl _ _ (HRG.out) Tryd.underlying24 rfl (by kernel_rfl) ?_) | (go_at_call 7; refine (HP.out _ HB.out).mono ?_; rintro e W1 ⟨rfl, hb1⟩; replace HB := hide (HB.out.trans (hb1.mono HB.out.size)); clear hb1) | (go_at_call 6; refine (HWK.out _ HB.out).mono ?_; rintro e W1 ⟨rfl, hb1⟩; replace HB := hide (HB.out.trans (hb1.mono HB.out.size)); clear hb1))
      go_ret
      exact ⟨rfl, HB.out⟩
    have HP := hide (fun W (h : Below w.heap.size w W) => cput_ok W.heap.size (.slice none 0 0) [] r _ W (ow_nil _ _) (by decide) (Nat.le_refl _) (by
      obtain ⟨b14, b15, b16, b17, d14, d15, d16, d17, e, q⟩ := HV.out W h
      have hz := h.size
      exact ⟨b14, b15, b16, b17, d14, d15, d16, d17, e, ⟨q.h14.imp (fun _ _ q => by omega) (fun _ _ _ _ => rfl), q.h15.imp (fun _ _ q => by omega) (fun _ _ _ _ => rfl), q.h16.imp (fun _ _ q => by omega) (fun _ _ _ _ => rfl), q.h17.imp (fun _ _ q => by omega) (fun _ _ _ _ => rfl)⟩⟩) hc)
    simp only [List.nil_append] at HP
    have hpos2 := put_pos r
    have hlen := put_len hc
    have HBY := hide (put_byt hc)
    have HSHT := hide (fun m (hm : m < (putL r).length) => read_short r hc m hm)
    generalize putL r = l at *
    go_enter Tryd.func4, Tryd.ntmps4
    go_upto_region 1 with fail
    rw [← show X = _ from HX.out]
    go_upto_region 3 with (first | (refine wpList_load_mid rfl _ _ rfl _ _ rfl _ _ (HRG.out) Tryd.underlying24 rfl (by kernel_rfl) ?_) | (go_at_call 5; refine (HSH.out _ HB.out).mono ?_; rintro e W1 ⟨rfl, hb1⟩; replace HB := hide (HB.out.trans (hb1.mono HB.out.size)); replace HRG := hide (range_below HRG.out hb1); clear hb1))
    go_upto_region 4 with (first | (refine wpList_load_mid rfl _ _ rfl _ _ rfl _ _ (HRG.out) Tryd.underlying24 rfl (by kernel_rfl) ?_) | (go_at_call 7; refine (HP.out _ HB.out).mono ?_; rintro e W2 ⟨v2, rfl, ho2, hg2⟩))
    obtain ⟨g, c, rfl, hgc, hcm⟩ := ho2.at hpos2
    have HSL2 := hide ho2.sl
    have HB2 := hide (HB.out.trans (hg2.below.mono HB.out.size))
    clear ho2 hg2 HRG HB HP HSH HX
    have hm0 : 0 ≤ cut % (l.length : Int) := Int.emod_nonneg _ (by omega)
    have hm1 : cut % (l.length : Int) < (l.length : Int) := Int.emod_lt_of_pos _ (by omega)
    obtain ⟨m, hm⟩ : ∃ m : Nat, cut % (l.length : Int) = (m : Int) := ⟨(cut % (l.length : Int)).toNat, by omega⟩
    have hml : m < l.length := by omega
    have hne : ¬ (l.length : Int) = 0 := by omega
    have hne2 : ((l.length : Int) == 0) = false := by simpa using hne
    have hmI : (m : Int) ≤ (l.length : Int) := by omega
    have hmc : m ≤ c := by omega
    clear hm0 hm1
    have HRD := hide (read_any (some ⟨g, 0, none⟩) m c W2)
    go_upto_region 8 with fail
    go_upto_region 9 with (first | (go_at_call 8; refine HRD.out.mono ?_; rintro e W3 ⟨rfl, hr3, hb3⟩))
    have hz2 : w.heap.size ≤ W2.heap.size := HB2.out.size
    have HB3 := hide (HB2.out.trans (hb3.mono hz2))
    have hp3 : W2.heap.size < W3.heap.size := hr3.lt
    have HV3 : Hid (Slx W2.heap.size bc W3 (.slice (some ⟨g, 0, none⟩) m c) (l.take m)) := hide (((HSL2.out.take (Nat.le_of_lt hml)).out (Nat.le_refl _)).below hb3)
    have hlt : (l.take m).length ≤ 10000 := by rw [List.length_take]; omega
    have HCR := hide (cread_any W2.heap.size _ (l.take m) (okS 0) W3 hr3 HV3.out hlt (fun x hx => HBY.out x (List.mem_of_mem_take hx)) (Nat.zero_le _) (HG.out.below HB3.out) (by show W2.heap.size ≠ 0; omega))
    have hq3 := HSHT.out m hml
    have hqz := read_zero (l.take m) (okS 0) (by rw [hq3]; decide)
    rcases hq : readG (l.take m) (okS 0) with ⟨s5, x5⟩
    rw [hq] at HCR hq3 hqz
    simp only at HCR hq3 hqz
    subst hqz
    have HQ3 := hide hq3
    clear hr3 hb3 HV3 HSHT HBY HSL2 hlt hq hq3 HRD
    go_upto_region 12 with (first | (go_at_call 10; refine HCR.out.mono ?_; rintro e W4 ⟨vx, rfl, hx4, hr4, hb4⟩; obtain ⟨b14, b15, b16, b17, d14, d15, d16, d17, rfl, hw4⟩ := hx4) | (refine wpList_store_mid rfl _ _ _ rfl W4.heap.size 0 (cellsR Rc.zero b14 b15 b16 b17 d14 d15 d16 d17).toArray rfl rfl (there_new W4) (by kernel_rfl) (cellsR_one _ _ _ _ _ _ _ _ _) ?_))
    obtain ⟨W5, hW5⟩ : ∃ W5, W5 = (W4.alloc (.cells #[.int .i64 0, .int .i64 0, .int .i64 0, .int .i64 0, .int .i64 0, .int .i64 0, .int .i64 0, .int .i64 0, .int .i64 0, .bool false, .string ⟨#[]⟩, .string ⟨#[]⟩, .string ⟨#[]⟩, .string ⟨#[]⟩, .slice none 0 0, .slice none 0 0, .slice none 0 0, .slice none 0 0] 24)).setCells W4.heap.size 0 (cellsR Rc.zero b14 b15 b16 b17 d14 d15 d16 d17) := ⟨_, rfl⟩
    obtain ⟨hr5, hb5, hw5, hrg5, hz5, _⟩ := laid0 hr4 hb4 hp3 hw4 hW5
    have HRG5 := hide hrg5
    have HW5 := hide hw5
    have HB5 := hide (below_bx HB3.out hb5 hz2 HB3.out.size)
    have HER := hide (err_any W2.heap.size _ _ _ W5 hr5)
    rw [show erN s5.op s5.pt s5.c = ft s5.op s5.pt s5.c from if_neg (by rw [HQ3.out]; decide), HQ3.out] at HER
    have HISC : Hid (∀ W, Calls Tryd.prog 15 #[ft s5.op s5.pt 3, .int .i64 3] W fun e w' => e = .returned (.bool true) ∧ Below W.heap.size W w') := hide (fun W => is_ev (some ([(s5.op, (s5.pt : Int))], 3)) 3 W)
    have HSM : Hid (∀ W, Below W5.heap.size W5 W → Calls Tryd.prog 9 #[.agg (cellsR Rc.zero b14 b15 b16 b17 d14 d15 d16 d17).toArray, .agg #[.int .i64 0, .int .i64 0, .int .i64 0, .int .i64 0, .int .i64 0, .int .i64 0, .int .i64 0, .int .i64 0, .int .i64 0, .bool false, .string ⟨#[]⟩, .string ⟨#[]⟩, .string ⟨#[]⟩, .string ⟨#[]⟩, .slice none 0 0, .slice none 0 0, .slice none 0 0, .slice none 0 0]] W fun e w' => e = .returned (.bool true) ∧ Below W.heap.size W w') := hide (fun W h => by
      have := rsame_any Rc.zero Rc.zero (.agg (cellsR Rc.zero b14 b15 b16 b17 d14 d15 d16 d17).toArray) (.agg (cellsR Rc.zero none none none none 0 0 0 0).toArray) W ⟨_, _, _, _, _, _, _, _, rfl, HW5.out.below h⟩ (isR_zero (fun _ => True) W) ⟨by decide, by decide, by decide, by decide⟩
      rw [sameR_self] at this
      exact this)
    unfold cellsR at HSM
    have HWK5 := hide (fun W (h : Below W5.heap.size W5 W) => HWK.out W (HB5.out.trans (h.mono HB5.out.size)))
    have HE5 := hide hW5
    rw [← HE5.out]
    clear hW5 hr4 hb4 hw4 hr5 hb5 hw5 hrg5 HE5 HCR HW5
    unfold ft at HER HISC
    have HBX := hide (Below.refl W5.heap.size W5)
    go_wp2_with (first | (go_at_call 12; refine HER.out.mono ?_; rintro e w9 ⟨rfl, hw9⟩; rw [hw9]; clear hw9 w9) | (go_at_call 15; refine (HISC.out _).mono ?_; rintro e W9 ⟨rfl, hb9⟩; replace HBX := hide (HBX.out.trans (hb9.mono HBX.out.size)); clear hb9) | (refine wpList_load_want (by rfl) _ _ rfl _ _ rfl _ _ (range_below HRG5.out HBX.out) Tryd.underlying24 rfl (by kernel_rfl) ?_) | (go_at_call 9; with_reducible refine (HSM.out _ HBX.out).mono ?_; rintro e W9 ⟨rfl, hb9⟩; replace HBX := hide (HBX.out.trans (hb9.mono HBX.out.size)); clear hb9) | (go_at_call 6; refine (HWK5.out _ HBX.out).mono ?_; rintro e W9 ⟨rfl, hb9⟩; replace HBX := hide (HBX.out.trans (hb9.mono HBX.out.size)); clear hb9))
    go_ret
    exact ⟨rfl, HB5.out.trans (HBX.out.mono HB5.out.size)⟩
theorem rshort_law (r : Rc) (v : Value) (cut : Int) (w : World) (hv : IsR (fun b => b < w.heap.size) w v r) (h0 : 0 ≤ cut) (h1 : cut ≤ 65535) (hg : Hnd w) :
    Calls Tryd.prog 4 #[v, .int .u16 cut] w fun e w' => e = .returned (.bool true) ∧ Below w.heap.size w w' := by
  obtain ⟨a14, a15, a16, a17, c14, c15, c16, c17, rfl, h⟩ := hv
  exact rshort_go r a14 a15 a16 a17 c14 c15 c16 c17 cut w h h0 h1 hg
end Go.Proofs.YthoeajiojdfgdaaDoor
