/-
  THE RECORD THAT A READER READS NEXT (record.Read): the walk.
-/
import Derived.Test.YthoeajiojdfgdaaGreatDoorRecRda
namespace Go.Proofs.YthoeajiojdfgdaaGreatDoor
open Go.RowKit

theorem read_kind {l : List Int} {s : Gs} {s1 : Gs} {k : Int} (hq : gN 63 l s = (s1, k)) (hk : ¬ (1 ≤ k ∧ k ≤ 12)) : readG l s = (refS ⟨#[107, 105, 110, 100]⟩ 5 s1, Rc.zero) := by
  unfold readG refS
  rw [hq]
  simp only
  rw [if_neg hk]
theorem read_body {l : List Int} {s : Gs} {s1 s4 : Gs} {k : Int} {x : Rc} (hq : gN 63 l s = (s1, k)) (hk : 1 ≤ k ∧ k ≤ 12) (hb : bodyG l k s1 = (s4, x)) : readG l s = if s4.c = 0 then (if (chk x).2.2 = 0 then (s4, x) else (⟨(chk x).2.2, ⟨#[114, 101, 99, 111, 114, 100]⟩, s4.pt⟩, Rc.zero)) else (s4, Rc.zero) := by
  unfold readG
  rw [hq]
  simp only
  rw [if_pos hk, hb]
set_option maxRecDepth 100000 in
set_option maxHeartbeats 16000000 in
theorem cread_any (p : Nat) (v : Value) (l : List Int) (s : Gs) (w : World) (hrd : RdG w p v s) (hv : Slx p bc w v l) (hl : l.length ≤ 10000) (hby : Byt l) (hs : s.pt ≤ l.length) (hg : Hnd w) (hpz : p ≠ 0) :
    Calls Tryz.prog 21 #[.pointer (some ⟨p, 0, none⟩)] w fun e w' => ∃ vx, e = .returned vx ∧ IsR (fun b => w.heap.size ≤ b) w' vx (readG l s).2 ∧ RdG w' p v (readG l s).1 ∧ Bx p w w' := by
  have HBY := hide hby
  have hp : p < w.heap.size := hrd.lt
  have hbl : Below w.heap.size w (w.alloc (.cells #[.int .i64 0, .int .i64 0, .int .i64 0, .int .i64 0, .int .i64 0, .int .i64 0, .int .i64 0, .int .i64 0, .int .i64 0, .bool false, .string ⟨#[]⟩, .string ⟨#[]⟩, .string ⟨#[]⟩, .string ⟨#[]⟩, .slice none 0 0, .slice none 0 0, .slice none 0 0, .slice none 0 0] 24)) := (Below.refl _ _).alloc (Nat.le_refl _) _
  have HTH := hide (there_new w)
  have HG := hide (hg.below hbl)
  have HC := hide (rint_gs p v l 63 s _ (hrd.below hbl) (hv.below hbl) hl hby hs (by decide) (by decide))
  have hpt := gN_pt (m := 63) (s := s) hby hs
  have HB0 := hide (Bx.of (p := p) hbl)
  have HV := hide hv
  have HGW := hide hg
  rcases hq : gN 63 l s with ⟨s1, k⟩
  rw [hq] at HC hpt
  simp only at HC hpt
  have HS := hide (fun W => subj_any k W)
  have HQ := hide hq
  clear hbl hrd hv hby hs hg hq
  by_cases hk : 1 ≤ k ∧ k ≤ 12
  · rw [show knd k = true from decide_eq_true hk] at HS
    rcases hb : bodyG l k s1 with ⟨s4, x⟩
    have HR := hide (read_body HQ.out hk hb)
    have HTX : Hid (TxR x) := hide (by have := body_tx (k := k) (s := s1) HBY.out; rwa [hb] at this)
    have HXK : Hid ({ x.k0 with k := k } = x) := hide (by have := body_k l k s1; rw [hb] at this; cases x; simp only [Rc.k0] at this ⊢; rw [this])
    go_enter Tryz.func21, Tryz.ntmps21
    go_upto_region 1 with fail
    generalize w.alloc (.cells #[.int .i64 0, .int .i64 0, .int .i64 0, .int .i64 0, .int .i64 0, .int .i64 0, .int .i64 0, .int .i64 0, .int .i64 0, .bool false, .string ⟨#[]⟩, .string ⟨#[]⟩, .string ⟨#[]⟩, .string ⟨#[]⟩, .slice none 0 0, .slice none 0 0, .slice none 0 0, .slice none 0 0] 24) = X0 at HTH HG HC HB0 ⊢
    go_upto_region 6 with (first | (go_at_call 61; refine HC.out.mono ?_; rintro e w1 ⟨rfl, hr1, hb1⟩) | (go_at_call 30; refine (HS.out _).mono ?_; rintro e w9 ⟨rfl, hw9⟩; rw [hw9]; clear hw9 w9))
    replace HTH := hide (there_bx HTH.out hb1 (by omega))
    replace HG := hide (hb1.handle hpz HG.out)
    replace HB0 := hide (HB0.out.trans hb1)
    have HF := hide (fields_any p v l s1 k w1 hr1 (HV.out.bx HB0.out) hl HBY.out hpt hk)
    rw [hb] at HF
    simp only at HF
    have hz1 : w.heap.size ≤ w1.heap.size := HB0.out.size
    have hw1 : w.heap.size < w1.heap.size := by
      obtain ⟨y, hy⟩ := Option.isSome_iff_exists.1 (HTH.out 0 (by decide)).1
      exact cell_block hy
    clear hr1 hb1 hb HC hk
    clear X0
    go_upto_region 7 with (first | (go_at_call 63; refine HF.out.mono ?_; rintro e w2 ⟨vx, rfl, hx2, hr2, hb2⟩; obtain ⟨a14, a15, a16, a17, c14, c15, c16, c17, rfl, hw2⟩ := hx2; have HT2 := hide (there_bx HTH.out hb2 (by omega)); have HN2 := hide (there_new w2)) | (refine wpList_store_mid rfl _ _ _ rfl w2.heap.size 0 (cellsR x.k0 a14 a15 a16 a17 c14 c15 c16 c17).toArray rfl rfl HN2.out (by kernel_rfl) (cellsR_one _ _ _ _ _ _ _ _ _) ?_))
    have hX2 := Nat.lt_of_lt_of_le hw1 hb2.size
    have hz2 : w1.heap.size ≤ w2.heap.size := hb2.size
    obtain ⟨W1, hW1⟩ : ∃ W1, W1 = (w2.alloc (.cells #[.int .i64 0, .int .i64 0, .int .i64 0, .int .i64 0, .int .i64 0, .int .i64 0, .int .i64 0, .int .i64 0, .int .i64 0, .bool false, .string ⟨#[]⟩, .string ⟨#[]⟩, .string ⟨#[]⟩, .string ⟨#[]⟩, .slice none 0 0, .slice none 0 0, .slice none 0 0, .slice none 0 0] 24)).setCells w2.heap.size 0 (cellsR x.k0 a14 a15 a16 a17 c14 c15 c16 c17) := ⟨_, rfl⟩
    obtain ⟨W2, hW2⟩ : ∃ W2, W2 = W1.setCell ⟨w2.heap.size, 0, none⟩ (.int .i64 k) := ⟨_, rfl⟩
    obtain ⟨⟨g0, f0⟩, hr3, hb3, hw3, ht3, hrg3, hx3⟩ := laid (k := k) (R := w.heap.size) rfl hr2 (HB0.out.trans hb2) hp hw2 HT2.out hX2 hW1 hW2
    rw [HXK.out] at hw3 hrg3
    have HRD3 := hide hr3
    have HBX3 := hide hb3
    have HW3 := hide hw3
    have HTH3 := hide ht3
    have HRG3 := hide hrg3
    have HG3 := hide (hb3.handle hpz (show Hnd w from HGW.out))
    have HW2 := hide hW2
    show Code.wp _ _ _ _ _
    rw [← hW1]
    clear hr2 hb2 hw2 HT2 HN2 hr3 hb3 hw3 ht3 hrg3 hW1 hW2 HF HTH HG HB0 HS
    go_upto_region 8 with fail
    rw [← HW2.out]
    have HCK := hide (ccheck_any x _ W2 ⟨a14, a15, a16, a17, c14, c15, c16, c17, rfl, HW3.out⟩ HTX.out)
    clear HW2 g0 f0 HTX HXK hx3
    clear W1
    by_cases hc : (chk x).2.2 = 0
    · rw [show erN (chk x).1 (chk x).2.1 (chk x).2.2 = .nilIface from if_pos hc] at HCK
      have HR2 : Hid (readG l s = if s4.c = 0 then (s4, x) else (s4, Rc.zero)) := hide (by rw [HR.out, if_pos hc])
      go_upto_region 11 with (first | (refine wpList_load_mid rfl _ _ rfl _ _ rfl _ _ HRG3.out Tryz.underlying24 rfl (by kernel_rfl) ?_) | (go_at_call 9; refine HCK.out.mono ?_; rintro e w5 ⟨rfl, hb5⟩))
      have hX2' : w2.heap.size < W2.heap.size := cell_block (HRG3.out 0 _ rfl)
      have HRD := hide (HRD3.out.below hb5)
      have HBX := hide (HBX3.out.call hb5)
      have HTH := hide (there_bx HTH3.out (Bx.of (p := p) hb5) (by omega))
      have HRG := hide (range_below HRG3.out hb5)
      have HWS := hide (HW3.out.below hb5)
      clear HRD3 HBX3 HTH3 HRG3 HW3 hb5 HR HCK
      by_cases h4 : s4.c = 0
      · have HRX := hide (HR2.out.trans (if_pos h4))
        have HE := hide (err_any p v _ _ w5 HRD.out)
        rw [show erN s4.op s4.pt s4.c = .nilIface from if_pos h4] at HE
        go_wp2_with (first | (go_at_call 64; refine HE.out.mono ?_; rintro e w9 ⟨rfl, hw9⟩; rw [hw9]; clear hw9 w9) | (refine wpList_load_mid rfl _ _ rfl _ _ rfl _ _ HRG.out Tryz.underlying24 rfl (by kernel_rfl) ?_) | (refine wpList_store_mid rfl _ _ _ rfl w.heap.size 0 (cellsR x a14 a15 a16 a17 c14 c15 c16 c17).toArray rfl rfl HTH.out (by kernel_rfl) (cellsR_one _ _ _ _ _ _ _ _ _) ?_))
        have hRp : w.heap.size ≠ p := by omega
        exact bodyPost_ret (v := .agg (cellsR x a14 a15 a16 a17 c14 c15 c16 c17).toArray) (results_mid Tryz.results21 _ _ w.heap.size _ _ rfl (World.rangeAt_setCells_same _ _ _ _ HTH.out) Tryz.underlying24 rfl (by kernel_rfl)) rfl ⟨_, rfl, by rw [HRX.out]; exact (⟨a14, a15, a16, a17, c14, c15, c16, c17, rfl, HWS.out.h14.imp (fun b _ q => by omega) (fun b i _ q => cell_many (by omega) _ _), HWS.out.h15.imp (fun b _ q => by omega) (fun b i _ q => cell_many (by omega) _ _), HWS.out.h16.imp (fun b _ q => by omega) (fun b i _ q => cell_many (by omega) _ _), HWS.out.h17.imp (fun b _ q => by omega) (fun b i _ q => cell_many (by omega) _ _)⟩), by rw [HRX.out]; exact rdG_many hRp _ _ HRD.out, Bx.many (Nat.le_refl _) _ _ HBX.out⟩
      · have HRX := hide (HR2.out.trans (if_neg h4))
        have HE := hide (err_any p v _ _ w5 HRD.out)
        rw [show erN s4.op s4.pt s4.c = ft s4.op s4.pt s4.c from if_neg h4] at HE
        unfold ft at HE
        go_wp2_with (first | (go_at_call 64; refine HE.out.mono ?_; rintro e w9 ⟨rfl, hw9⟩; rw [hw9]; clear hw9 w9) | (refine wpList_store_mid rfl _ _ _ rfl w.heap.size 0 (cellsR Rc.zero none none none none 0 0 0 0).toArray rfl rfl HTH.out (by kernel_rfl) (cellsR_one _ _ _ _ _ _ _ _ _) ?_))
        have hRp : w.heap.size ≠ p := by omega
        exact bodyPost_ret (v := .agg (cellsR Rc.zero none none none none 0 0 0 0).toArray) (results_mid Tryz.results21 _ _ w.heap.size _ _ rfl (World.rangeAt_setCells_same _ _ _ _ HTH.out) Tryz.underlying24 rfl (by kernel_rfl)) rfl ⟨_, rfl, by rw [HRX.out]; exact (isR_zero _ _), by rw [HRX.out]; exact rdG_many hRp _ _ HRD.out, Bx.many (Nat.le_refl _) _ _ HBX.out⟩
    · rw [show erN (chk x).1 (chk x).2.1 (chk x).2.2 = ft (chk x).1 (chk x).2.1 (chk x).2.2 from if_neg hc] at HCK
      have HR2 : Hid (readG l s = (refS ⟨#[114, 101, 99, 111, 114, 100]⟩ (chk x).2.2 s4, Rc.zero)) := hide (by rw [HR.out, refS, if_neg hc]; split <;> rfl)
      have hrc : (refS ⟨#[114, 101, 99, 111, 114, 100]⟩ (chk x).2.2 s4).c ≠ 0 := by
        unfold refS
        split
        · exact hc
        · assumption
      have HRF := hide (fun W (h : RdG W p v s4) => refuse_gs p v s4 ⟨#[114, 101, 99, 111, 114, 100]⟩ (chk x).2.2 W hc h)
      generalize refS ⟨#[114, 101, 99, 111, 114, 100]⟩ (chk x).2.2 s4 = s5 at *
      generalize chk x = TT at *
      have HOF := hide (fun W (h : Hnd W) => of_ev (some ([(TT.1, TT.2.1)], TT.2.2)) W h)
      rw [show ofV (some ([(TT.1, TT.2.1)], TT.2.2)) = TT.2.2 from rfl] at HOF
      change Hid (∀ W, Hnd W → Calls Tryz.prog 28 #[ft TT.1 TT.2.1 TT.2.2] W fun e w' => e = .returned (.int .i64 TT.2.2) ∧ Below W.heap.size W w') at HOF
      unfold ft at HOF HCK
      go_upto_region 11 with (first | (refine wpList_load_mid rfl _ _ rfl _ _ rfl _ _ HRG3.out Tryz.underlying24 rfl (by kernel_rfl) ?_) | (go_at_call 9; refine HCK.out.mono ?_; rintro e w5 ⟨rfl, hb5⟩) | (go_at_call 28; refine (HOF.out _ (HG3.out.below hb5)).mono ?_; rintro e w6 ⟨rfl, hb6⟩) | (go_at_call 62; refine (HRF.out _ ((HRD3.out.below hb5).below hb6)).mono ?_; rintro e w7 ⟨rfl, hr7, hb7⟩))
      have hB := (Bx.of (p := p) hb5).trans ((Bx.of hb6).trans hb7)
      have hX2' : w2.heap.size < W2.heap.size := cell_block (HRG3.out 0 _ rfl)
      have HRD := hide hr7
      have HBX := hide (HBX3.out.trans hB)
      have HTH := hide (there_bx HTH3.out hB (by omega))
      have HE := hide (err_any p v _ _ w7 HRD.out)
      rw [show erN s5.op s5.pt s5.c = ft s5.op s5.pt s5.c from if_neg hrc] at HE
      unfold ft at HE
      have HRX := HR2
      clear HRD3 HBX3 HTH3 HRG3 HW3 hb5 hb6 hr7 hb7 hB HR HR2 HCK HOF HRF
      go_wp2_with (first | (go_at_call 64; refine HE.out.mono ?_; rintro e w9 ⟨rfl, hw9⟩; rw [hw9]; clear hw9 w9) | (refine wpList_store_mid rfl _ _ _ rfl w.heap.size 0 (cellsR Rc.zero none none none none 0 0 0 0).toArray rfl rfl HTH.out (by kernel_rfl) (cellsR_one _ _ _ _ _ _ _ _ _) ?_))
      have hRp : w.heap.size ≠ p := by omega
      exact bodyPost_ret (v := .agg (cellsR Rc.zero none none none none 0 0 0 0).toArray) (results_mid Tryz.results21 _ _ w.heap.size _ _ rfl (World.rangeAt_setCells_same _ _ _ _ HTH.out) Tryz.underlying24 rfl (by kernel_rfl)) rfl ⟨_, rfl, by rw [HRX.out]; exact (isR_zero _ _), by rw [HRX.out]; exact rdG_many hRp _ _ HRD.out, Bx.many (Nat.le_refl _) _ _ HBX.out⟩
  · rw [show knd k = false from decide_eq_false hk] at HS
    have HR := hide (read_kind HQ.out hk)
    have HRX := HR
    go_enter Tryz.func21, Tryz.ntmps21
    go_upto_region 1 with fail
    generalize w.alloc (.cells #[.int .i64 0, .int .i64 0, .int .i64 0, .int .i64 0, .int .i64 0, .int .i64 0, .int .i64 0, .int .i64 0, .int .i64 0, .bool false, .string ⟨#[]⟩, .string ⟨#[]⟩, .string ⟨#[]⟩, .string ⟨#[]⟩, .slice none 0 0, .slice none 0 0, .slice none 0 0, .slice none 0 0] 24) = X0 at HTH HG HC HB0 ⊢
    go_wp2_with (first | (go_at_call 61; refine HC.out.mono ?_; rintro e w1 ⟨rfl, hr1, hb1⟩; replace HTH := hide (there_bx HTH.out hb1 (by omega)); replace HB0 := hide (HB0.out.trans hb1); have HC2 := hide (refuse_gs p v s1 ⟨#[107, 105, 110, 100]⟩ 5 w1 (by decide) hr1); clear hr1 hb1) | (go_at_call 30; refine (HS.out _).mono ?_; rintro e w9 ⟨rfl, hw9⟩; rw [hw9]; clear hw9 w9) | (go_at_call 62; refine HC2.out.mono ?_; rintro e w2 ⟨rfl, hr2, hb2⟩; replace HTH := hide (there_bx HTH.out hb2 (by omega)); have HBX := hide (HB0.out.trans hb2); have HRD := hide hr2; clear hr2 hb2) | (refine wpList_store_mid rfl _ _ _ rfl w.heap.size 0 (cellsR Rc.zero none none none none 0 0 0 0).toArray rfl rfl HTH.out (by kernel_rfl) (cellsR_one _ _ _ _ _ _ _ _ _) ?_))
    have hRp : w.heap.size ≠ p := by omega
    exact bodyPost_ret (v := .agg (cellsR Rc.zero none none none none 0 0 0 0).toArray) (results_mid Tryz.results21 _ _ w.heap.size _ _ rfl (World.rangeAt_setCells_same _ _ _ _ HTH.out) Tryz.underlying24 rfl (by kernel_rfl)) rfl ⟨_, rfl, by rw [HRX.out]; exact (isR_zero _ _), by rw [HRX.out]; exact rdG_many hRp _ _ HRD.out, Bx.many (Nat.le_refl _) _ _ HBX.out⟩
end Go.Proofs.YthoeajiojdfgdaaGreatDoor
