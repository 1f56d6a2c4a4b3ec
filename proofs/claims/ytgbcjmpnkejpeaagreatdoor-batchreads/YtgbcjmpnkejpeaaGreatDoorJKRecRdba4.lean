/-
  THE RECORD THAT A READER READS NEXT (record.Read): the walk.
  fault.Path AND fault.Under, slices.Contains AND slices.Index at texts, at every error that a law makes. Conditions: errors.errorType holds the handle of the type error, and no more than a thousand steps.
  slices.Index AND slices.Contains at texts, fault.Under, and castellanref01.Texts: what is found among texts, and whether two lists of texts are the same. Conditions: the slices' cells hold the texts, and no more than a thousand of them.
  A RECORD NO LONGER THAN IS WAITED FOR (castellanref05.Short). No condition.
-/
import Derived.Test.YtgbcjmpnkejpeaaGreatDoorJKRecPutba4
import Derived.Test.YtgbcjmpnkejpeaaGreatDoorJKIsca4
import Derived.Deep.QuietTactic
import Derived.BigQuiet
import Derived.WalkSmall
import Derived.Test.YtgbcjmpnkejpeaaGreatDoorJKRecVa2
import Derived.Deep.DeepCutAuto
namespace Go.Proofs.YtgbcjmpnkejpeaaGreatDoor
open Go.RowKit

theorem read_kind {l : List Int} {s : Gs} {s1 : Gs} {k : Int} (hq : gN 63 l s = (s1, k)) (hk : ¬ (1 ≤ k ∧ k ≤ 12)) : readG l s = (refS ⟨#[107, 105, 110, 100]⟩ 5 s1, Rc.zero) := by
  unfold readG refS
  rw [hq]
  simp only
  rw [if_neg hk]
theorem read_body {l : List Int} {s : Gs} {s1 s4 : Gs} {k : Int} {x : Rc} (hq : gN 63 l s = (s1, k)) (hk : 1 ≤ k ∧ k ≤ 12) (hb : bodyG l k s1 = (s4, x)) : readG l s = if s4.c = 0 then (if (chk x).2.2 = 0 then (s4, x) else (⟨(chk x).2.2, ⟨#[114, 101, 99, 111, 114, 100]⟩, s4.pt⟩, Rc.zero)) else (s4, Rc.zero) := by
  unfold readG
  rw [hq]
  simp only
  rw [if_pos hk, hb]
set_option maxRecDepth 100000 in
set_option maxHeartbeats 16000000 in
theorem cread_any (p : Nat) (v : Value) (l : List Int) (s : Gs) (w : World) (hrd : RdG w p v s) (hv : Slx p bc w v l) (hl : l.length ≤ 100000) (hby : Byt l) (hs : s.pt ≤ l.length) (hg : Hnd w) (hpz : p ≠ 0) :
    Calls Tryz.prog 12 #[.pointer (some ⟨p, 0, none⟩)] w fun e w' => ∃ vx, e = .returned vx ∧ IsR (fun b => w.heap.size ≤ b) w' vx (readG l s).2 ∧ RdG w' p v (readG l s).1 ∧ Bx p w w' := by
  have HBY := hide hby
  have hp : p < w.heap.size := hrd.lt
  have hbl : Below w.heap.size w (w.alloc (.cells #[.int .i64 0, .int .i64 0, .int .i64 0, .int .i64 0, .int .i64 0, .int .i64 0, .int .i64 0, .int .i64 0, .int .i64 0, .bool false, .string ⟨#[]⟩, .string ⟨#[]⟩, .string ⟨#[]⟩, .string ⟨#[]⟩, .slice none 0 0, .slice none 0 0, .slice none 0 0, .slice none 0 0] 35)) := (Below.refl _ _).alloc (Nat.le_refl _) _
  have HTH := hide (there_new w)
  have HG := hide (hg.below hbl)
  have HC := hide (rint_gs p v l 63 s _ (hrd.below hbl) (hv.below hbl) hl hby hs (by decide) (by decide))
  have hpt := gN_pt (m := 63) (s := s) hby hs
  have HB0 := hide (Bx.of (p := p) hbl)
  have HV := hide hv
  have HGW := hide hg
  rcases hq : gN 63 l s with ⟨s1, k⟩
  rw [hq] at HC hpt
  simp only at HC hpt
  have HS := hide (fun W => subj_any k W)
  have HQ := hide hq
  clear hbl hrd hv hby hs hg hq
  by_cases hk : 1 ≤ k ∧ k ≤ 12
  · rw [show knd k = true from decide_eq_true hk] at HS
    rcases hb : bodyG l k s1 with ⟨s4, x⟩
    have HR := hide (read_body HQ.out hk hb)
    have HTX : Hid (TxR x) := hide (by have := body_tx (k := k) (s := s1) HBY.out; rwa [hb] at this)
    have HXK : Hid ({ x.k0 with k := k } = x) := hide (by have := body_k l k s1; rw [hb] at this; cases x; simp only [Rc.k0] at this ⊢; rw [this])
    go_enter Tryz.func12, Tryz.ntmps12
    go_upto_region 1 with fail
    generalize w.alloc (.cells #[.int .i64 0, .int .i64 0, .int .i64 0, .int .i64 0, .int .i64 0, .int .i64 0, .int .i64 0, .int .i64 0, .int .i64 0, .bool false, .string ⟨#[]⟩, .string ⟨#[]⟩, .string ⟨#[]⟩, .string ⟨#[]⟩, .slice none 0 0, .slice none 0 0, .slice none 0 0, .slice none 0 0] 35) = X0 at HTH HG HC HB0 ⊢
    go_upto_region 6 with (first | (go_at_call 46; refine HC.out.mono ?_; rintro e w1 ⟨rfl, hr1, hb1⟩) | (go_at_call 47; refine (HS.out _).mono ?_; rintro e w9 ⟨rfl, hw9⟩; rw [hw9]; clear hw9 w9))
    replace HTH := hide (there_bx HTH.out hb1 (by omega))
    replace HG := hide (hb1.handle hpz HG.out)
    replace HB0 := hide (HB0.out.trans hb1)
    have HF := hide (fields_any p v l s1 k w1 hr1 (HV.out.bx HB0.out) hl HBY.out hpt hk)
    rw [hb] at HF
    simp only at HF
    have hz1 : w.heap.size ≤ w1.heap.size := HB0.out.size
    have hw1 : w.heap.size < w1.heap.size := by
      obtain ⟨y, hy⟩ := Option.isSome_iff_exists.1 (HTH.out 0 (by decide)).1
      exact cell_block hy
    clear hr1 hb1 hb HC hk
    clear X0
    go_upto_region 7 with (first | (go_at_call 49; refine HF.out.mono ?_; rintro e w2 ⟨vx, rfl, hx2, hr2, hb2⟩; obtain ⟨a14, a15, a16, a17, c14, c15, c16, c17, rfl, hw2⟩ := hx2; have HT2 := hide (there_bx HTH.out hb2 (by omega)); have HN2 := hide (there_new w2)) | (refine wpList_store_mid rfl _ _ _ rfl w2.heap.size 0 (cellsR x.k0 a14 a15 a16 a17 c14 c15 c16 c17).toArray rfl rfl HN2.out (by kernel_rfl) (cellsR_one _ _ _ _ _ _ _ _ _) ?_))
    have hX2 := Nat.lt_of_lt_of_le hw1 hb2.size
    have hz2 : w1.heap.size ≤ w2.heap.size := hb2.size
    obtain ⟨W1, hW1⟩ : ∃ W1, W1 = (w2.alloc (.cells #[.int .i64 0, .int .i64 0, .int .i64 0, .int .i64 0, .int .i64 0, .int .i64 0, .int .i64 0, .int .i64 0, .int .i64 0, .bool false, .string ⟨#[]⟩, .string ⟨#[]⟩, .string ⟨#[]⟩, .string ⟨#[]⟩, .slice none 0 0, .slice none 0 0, .slice none 0 0, .slice none 0 0] 35)).setCells w2.heap.size 0 (cellsR x.k0 a14 a15 a16 a17 c14 c15 c16 c17) := ⟨_, rfl⟩
    obtain ⟨W2, hW2⟩ : ∃ W2, W2 = W1.setCell ⟨w2.heap.size, 0, none⟩ (.int .i64 k) := ⟨_, rfl⟩
    obtain ⟨⟨g0, f0⟩, hr3, hb3, hw3, ht3, hrg3, hx3⟩ := laid (k := k) (R := w.heap.size) rfl hr2 (HB0.out.trans hb2) hp hw2 HT2.out hX2 hW1 hW2
    rw [HXK.out] at hw3 hrg3
    have HRD3 := hide hr3
    have HBX3 := hide hb3
    have HW3 := hide hw3
    have HTH3 := hide ht3
    have HRG3 := hide hrg3
    have HG3 := hide (hb3.handle hpz (show Hnd w from HGW.out))
    have HW2 := hide hW2
    show Code.wp _ _ _ _ _
    rw [← hW1]
    clear hr2 hb2 hw2 HT2 HN2 hr3 hb3 hw3 ht3 hrg3 hW1 hW2 HF HTH HG HB0 HS
    go_upto_region 8 with fail
    rw [← HW2.out]
    have HCK := hide (ccheck_any x _ W2 ⟨a14, a15, a16, a17, c14, c15, c16, c17, rfl, HW3.out⟩ HTX.out)
    clear HW2 g0 f0 HTX HXK hx3
    clear W1
    by_cases hc : (chk x).2.2 = 0
    · rw [show erN (chk x).1 (chk x).2.1 (chk x).2.2 = .nilIface from if_pos hc] at HCK
      have HR2 : Hid (readG l s = if s4.c = 0 then (s4, x) else (s4, Rc.zero)) := hide (by rw [HR.out, if_pos hc])
      go_upto_region 11 with (first | (refine wpList_load_mid rfl _ _ rfl _ _ rfl _ _ HRG3.out Tryz.underlying35 rfl (by kernel_rfl) ?_) | (go_at_call 40; refine HCK.out.mono ?_; rintro e w5 ⟨rfl, hb5⟩))
      have hX2' : w2.heap.size < W2.heap.size := cell_block (HRG3.out 0 _ rfl)
      have HRD := hide (HRD3.out.below hb5)
      have HBX := hide (HBX3.out.call hb5)
      have HTH := hide (there_bx HTH3.out (Bx.of (p := p) hb5) (by omega))
      have HRG := hide (range_below HRG3.out hb5)
      have HWS := hide (HW3.out.below hb5)
      clear HRD3 HBX3 HTH3 HRG3 HW3 hb5 HR HCK
      by_cases h4 : s4.c = 0
      · have HRX := hide (HR2.out.trans (if_pos h4))
        have HE := hide (err_any p v _ _ w5 HRD.out)
        rw [show erN s4.op s4.pt s4.c = .nilIface from if_pos h4] at HE
        go_wp2_with (first | (go_at_call 35; refine HE.out.mono ?_; rintro e w9 ⟨rfl, hw9⟩; rw [hw9]; clear hw9 w9) | (refine wpList_load_mid rfl _ _ rfl _ _ rfl _ _ HRG.out Tryz.underlying35 rfl (by kernel_rfl) ?_) | (refine wpList_store_mid rfl _ _ _ rfl w.heap.size 0 (cellsR x a14 a15 a16 a17 c14 c15 c16 c17).toArray rfl rfl HTH.out (by kernel_rfl) (cellsR_one _ _ _ _ _ _ _ _ _) ?_))
        have hRp : w.heap.size ≠ p := by omega
        exact bodyPost_ret (v := .agg (cellsR x a14 a15 a16 a17 c14 c15 c16 c17).toArray) (results_mid Tryz.results12 _ _ w.heap.size _ _ rfl (World.rangeAt_setCells_same _ _ _ _ HTH.out) Tryz.underlying35 rfl (by kernel_rfl)) rfl ⟨_, rfl, by rw [HRX.out]; exact (⟨a14, a15, a16, a17, c14, c15, c16, c17, rfl, HWS.out.h14.imp (fun b _ q => by omega) (fun b i _ q => cell_many (by omega) _ _), HWS.out.h15.imp (fun b _ q => by omega) (fun b i _ q => cell_many (by omega) _ _), HWS.out.h16.imp (fun b _ q => by omega) (fun b i _ q => cell_many (by omega) _ _), HWS.out.h17.imp (fun b _ q => by omega) (fun b i _ q => cell_many (by omega) _ _)⟩), by rw [HRX.out]; exact rdG_many hRp _ _ HRD.out, Bx.many (Nat.le_refl _) _ _ HBX.out⟩
      · have HRX := hide (HR2.out.trans (if_neg h4))
        have HE := hide (err_any p v _ _ w5 HRD.out)
        rw [show erN s4.op s4.pt s4.c = ft s4.op s4.pt s4.c from if_neg h4] at HE
        unfold ft at HE
        go_wp2_with (first | (go_at_call 35; refine HE.out.mono ?_; rintro e w9 ⟨rfl, hw9⟩; rw [hw9]; clear hw9 w9) | (refine wpList_store_mid rfl _ _ _ rfl w.heap.size 0 (cellsR Rc.zero none none none none 0 0 0 0).toArray rfl rfl HTH.out (by kernel_rfl) (cellsR_one _ _ _ _ _ _ _ _ _) ?_))
        have hRp : w.heap.size ≠ p := by omega
        exact bodyPost_ret (v := .agg (cellsR Rc.zero none none none none 0 0 0 0).toArray) (results_mid Tryz.results12 _ _ w.heap.size _ _ rfl (World.rangeAt_setCells_same _ _ _ _ HTH.out) Tryz.underlying35 rfl (by kernel_rfl)) rfl ⟨_, rfl, by rw [HRX.out]; exact (isR_zero _ _), by rw [HRX.out]; exact rdG_many hRp _ _ HRD.out, Bx.many (Nat.le_refl _) _ _ HBX.out⟩
    · rw [show erN (chk x).1 (chk x).2.1 (chk x).2.2 = ft (chk x).1 (chk x).2.1 (chk x).2.2 from if_neg hc] at HCK
      have HR2 : Hid (readG l s = (refS ⟨#[114, 101, 99, 111, 114, 100]⟩ (chk x).2.2 s4, Rc.zero)) := hide (by rw [HR.out, refS, if_neg hc]; split <;> rfl)
      have hrc : (refS ⟨#[114, 101, 99, 111, 114, 100]⟩ (chk x).2.2 s4).c ≠ 0 := by
        unfold refS
        split
        · exact hc
        · assumption
      have HRF := hide (fun W (h : RdG W p v s4) => refuse_gs p v s4 ⟨#[114, 101, 99, 111, 114, 100]⟩ (chk x).2.2 W hc h)
      generalize refS ⟨#[114, 101, 99, 111, 114, 100]⟩ (chk x).2.2 s4 = s5 at *
      generalize chk x = TT at *
      have HOF := hide (fun W (h : Hnd W) => of_ev (some ([(TT.1, TT.2.1)], TT.2.2)) W h)
      rw [show ofV (some ([(TT.1, TT.2.1)], TT.2.2)) = TT.2.2 from rfl] at HOF
      change Hid (∀ W, Hnd W → Calls Tryz.prog 34 #[ft TT.1 TT.2.1 TT.2.2] W fun e w' => e = .returned (.int .i64 TT.2.2) ∧ Below W.heap.size W w') at HOF
      unfold ft at HOF HCK
      go_upto_region 11 with (first | (refine wpList_load_mid rfl _ _ rfl _ _ rfl _ _ HRG3.out Tryz.underlying35 rfl (by kernel_rfl) ?_) | (go_at_call 40; refine HCK.out.mono ?_; rintro e w5 ⟨rfl, hb5⟩) | (go_at_call 34; refine (HOF.out _ (HG3.out.below hb5)).mono ?_; rintro e w6 ⟨rfl, hb6⟩) | (go_at_call 48; refine (HRF.out _ ((HRD3.out.below hb5).below hb6)).mono ?_; rintro e w7 ⟨rfl, hr7, hb7⟩))
      have hB := (Bx.of (p := p) hb5).trans ((Bx.of hb6).trans hb7)
      have hX2' : w2.heap.size < W2.heap.size := cell_block (HRG3.out 0 _ rfl)
      have HRD := hide hr7
      have HBX := hide (HBX3.out.trans hB)
      have HTH := hide (there_bx HTH3.out hB (by omega))
      have HE := hide (err_any p v _ _ w7 HRD.out)
      rw [show erN s5.op s5.pt s5.c = ft s5.op s5.pt s5.c from if_neg hrc] at HE
      unfold ft at HE
      have HRX := HR2
      clear HRD3 HBX3 HTH3 HRG3 HW3 hb5 hb6 hr7 hb7 hB HR HR2 HCK HOF HRF
      go_wp2_with (first | (go_at_call 35; refine HE.out.mono ?_; rintro e w9 ⟨rfl, hw9⟩; rw [hw9]; clear hw9 w9) | (refine wpList_store_mid rfl _ _ _ rfl w.heap.size 0 (cellsR Rc.zero none none none none 0 0 0 0).toArray rfl rfl HTH.out (by kernel_rfl) (cellsR_one _ _ _ _ _ _ _ _ _) ?_))
      have hRp : w.heap.size ≠ p := by omega
      exact bodyPost_ret (v := .agg (cellsR Rc.zero none none none none 0 0 0 0).toArray) (results_mid Tryz.results12 _ _ w.heap.size _ _ rfl (World.rangeAt_setCells_same _ _ _ _ HTH.out) Tryz.underlying35 rfl (by kernel_rfl)) rfl ⟨_, rfl, by rw [HRX.out]; exact (isR_zero _ _), by rw [HRX.out]; exact rdG_many hRp _ _ HRD.out, Bx.many (Nat.le_refl _) _ _ HBX.out⟩
  · rw [show knd k = false from decide_eq_false hk] at HS
    have HR := hide (read_kind HQ.out hk)
    have HRX := HR
    go_enter Tryz.func12, Tryz.ntmps12
    go_upto_region 1 with fail
    generalize w.alloc (.cells #[.int .i64 0, .int .i64 0, .int .i64 0, .int .i64 0, .int .i64 0, .int .i64 0, .int .i64 0, .int .i64 0, .int .i64 0, .bool false, .string ⟨#[]⟩, .string ⟨#[]⟩, .string ⟨#[]⟩, .string ⟨#[]⟩, .slice none 0 0, .slice none 0 0, .slice none 0 0, .slice none 0 0] 35) = X0 at HTH HG HC HB0 ⊢
    go_wp2_with (first | (go_at_call 46; refine HC.out.mono ?_; rintro e w1 ⟨rfl, hr1, hb1⟩; replace HTH := hide (there_bx HTH.out hb1 (by omega)); replace HB0 := hide (HB0.out.trans hb1); have HC2 := hide (refuse_gs p v s1 ⟨#[107, 105, 110, 100]⟩ 5 w1 (by decide) hr1); clear hr1 hb1) | (go_at_call 47; refine (HS.out _).mono ?_; rintro e w9 ⟨rfl, hw9⟩; rw [hw9]; clear hw9 w9) | (go_at_call 48; refine HC2.out.mono ?_; rintro e w2 ⟨rfl, hr2, hb2⟩; replace HTH := hide (there_bx HTH.out hb2 (by omega)); have HBX := hide (HB0.out.trans hb2); have HRD := hide hr2; clear hr2 hb2) | (refine wpList_store_mid rfl _ _ _ rfl w.heap.size 0 (cellsR Rc.zero none none none none 0 0 0 0).toArray rfl rfl HTH.out (by kernel_rfl) (cellsR_one _ _ _ _ _ _ _ _ _) ?_))
    have hRp : w.heap.size ≠ p := by omega
    exact bodyPost_ret (v := .agg (cellsR Rc.zero none none none none 0 0 0 0).toArray) (results_mid Tryz.results12 _ _ w.heap.size _ _ rfl (World.rangeAt_setCells_same _ _ _ _ HTH.out) Tryz.underlying35 rfl (by kernel_rfl)) rfl ⟨_, rfl, by rw [HRX.out]; exact (isR_zero _ _), by rw [HRX.out]; exact rdG_many hRp _ _ HRD.out, Bx.many (Nat.le_refl _) _ _ HBX.out⟩
end Go.Proofs.YtgbcjmpnkejpeaaGreatDoor
namespace Go.Proofs.YtgbcjmpnkejpeaaGreatDoor
open Go.RowKit Go.Extern.Stop Go.Stop Go.Extern

theorem info9 : (Tryz.prog.info? 9).map (fun i => (i.zero, i.size, i.bytes)) = some (some (.string ByteArray.empty), 1, 16) := by kernel_rfl

/-- What was being done at each step, as cells. -/
def sv (l : List (ByteArray × Int)) : List Value := l.map fun s => Value.string s.1
theorem sv_snoc (l : List (ByteArray × Int)) (k : Nat) (hk : k < l.length) : sv (l.take (k + 1)) = sv (l.take k) ++ [.string l[k].1] := by
  rw [List.take_succ_eq_append_getElem hk]
  simp only [sv, List.map_append, List.map_cons, List.map_nil]

theorem path_step {w wr w1 : World} {k : Nat} {l : List (ByteArray × Int)} {v v' : Value} {o o' : Obj} (hk : k < l.length) (hs : w.heap.size ≤ wr.heap.size) (hb : Below w.heap.size w wr)
    (hown : wr.ownsRow w.heap.size 9 1 v k (sv (l.take k)))
    (hown' : w1.ownsRow w.heap.size 9 1 v' (k + 1) ((sv (l.take k)) ++ [.string l[k].1])) (hgrow : ((wr.alloc o).alloc o').grownBy w1 v.ownBlock) :
    w1.ownsRow w.heap.size 9 1 v' (k + 1) (sv (l.take (k + 1))) ∧ Below w.heap.size w w1 ∧ w.heap.size ≤ w1.heap.size := by
  have hB : Below w.heap.size w w1 := (((hb.alloc hs o).alloc (by simp; omega) o').grown hgrow (by simp; omega) (fun j hj => (hown.lt j hj).1))
  exact ⟨by rw [sv_snoc l k hk]; exact hown', hB, hB.size⟩

theorem path_nil (w : World) (hg : Hnd w) : Calls Tryz.prog 105 #[.nilIface] w fun e w' => ∃ v, e = .returned v ∧ w'.ownsRow w.heap.size 9 1 v 0 [] ∧ Below w.heap.size w w' := by
  have HC := hide (outF_nil w hg)
  clear hg
  go_enter Tryz.func105, Tryz.ntmps105
  go_wp2
  refine wp_loop_rounds 1 ?_
  rw [rounds_succ]
  go_wp2_with (first | (go_at_call 103; refine (HC.out).mono ?_; rintro e w' ⟨rfl, hb⟩; have hz := hb.size))
  go_ret
  exact ⟨_, rfl, World.ownsRow_nil _ _ _ _, hb.alloc hz _⟩

set_option maxRecDepth 100000 in
set_option maxHeartbeats 4000000 in
theorem path_chn (l : List (ByteArray × Int)) (c : Int) (w : World) (hg : Hnd w) (hl : l.length ≤ 1000) :
    Calls Tryz.prog 105 #[chn l (bse c)] w fun e w' => ∃ v, e = .returned v ∧ w'.ownsRow w.heap.size 9 1 v l.length (sv l) ∧ Below w.heap.size w w' := by
  obtain ⟨i0, hi, hz0, hz1, hz2⟩ := info_parts info9
  have HG := hide hg
  clear hg
  go_enter Tryz.func105, Tryz.ntmps105
  go_wp2
  go_loopw [0, 3] (fun e v wr => ∃ k : Nat, k ≤ l.length ∧ e = chn (l.drop k) (bse c) ∧ wr.ownsRow w.heap.size 9 1 v k (sv (l.take k)) ∧ Below w.heap.size w wr ∧ w.heap.size ≤ wr.heap.size) (fun e _ _ => SizeOf.sizeOf e)
  case atStart => exact ⟨0, Nat.zero_le _, rfl, World.ownsRow_nil _ _ _ _, Below.refl _ _, Nat.le_refl _⟩
  case round =>
    obtain ⟨k, hk, he, hown, hb, hs⟩ := hrel
    have HW := hide (HG.out.below hb)
    by_cases hlt : k < l.length
    · rw [List.drop_eq_getElem_cons hlt] at he
      simp only [chn] at he
      obtain ⟨ty, v, hv⟩ := chn_form (l.drop (k + 1)) c
      rw [hv] at he
      subst he
      have HV := hide hv
      clear hv
      generalize hsk : l[k] = sk at *
      have HS := hide hsk
      clear hsk
      have HC := hide (outF_hit sk.1 sk.2 ty v wr HW.out)
      go_wp2_with (first
        | (go_at_call 103; refine (HC.out).mono ?_; rintro e w' ⟨rfl, hb'⟩; have hz := hb'.size; have hown2 := owns_below hown hb')
        | (at_builtin; refine wpList_append_own _ rfl _ _ 152 rfl w.heap.size 9 i0 (.string ByteArray.empty) 1 16 Tryz.underlying152 hi hz0 hz1 hz2 rfl (by decide) _ _ _ rfl ((hown2.alloc _).alloc _) ⟨w'.heap.size + 1, 0, none⟩ 1 1 [.string sk.1] rfl rfl ?c1 ?c2 ?c3 ?c4 ?c5 ?_))
      case c1 =>
        intro j u hj
        match j, hj with
        | 0, hj => simp at hj; subst hj; simp [Addr.add, go_sem]
      case c2 => intro u hu; simp at hu; subst hu; rfl
      case c3 => unfold maxLen; omega
      case c4 => omega
      case c5 => simp; omega
      · intro v' w1 hown' hgrow _
        have R := path_step (l := l) hlt (Nat.le_trans hs hz) (hb.trans (hb'.mono hs)) hown2 (by rw [HS.out]; exact hown') hgrow
        have cF : w1.cell? ⟨w'.heap.size, 2, none⟩ = some (.iface ty v) := hgrow.cell (by simp [go_sem]) (fun h => Nat.lt_irrefl _ (hown2.lt _ h.symm).2)
        clear hown' hgrow hown hown2 hb' hz HC
        go_wp2
        go_roundw
        case rel => exact ⟨k + 1, by omega, HV.out.symm, R.1, R.2.1, R.2.2⟩
        case measure => exact size_inner _ _ _
    · obtain rfl : k = l.length := by omega
      rw [List.take_length] at hown
      have HC := hide (out_miss (some ([], c)) rfl wr HW.out)
      simp only [ev, chn] at HC
      rw [List.drop_length] at he
      simp only [chn] at he
      subst he
      clear hlt
      go_wp2_with (first | (go_at_call 103; refine (HC.out).mono ?_; rintro e w' ⟨rfl, hb'⟩; have hz := hb'.size))
      go_ret
      exact ⟨_, rfl, (owns_below hown hb').alloc _, (hb.trans (hb'.mono hs)).alloc (Nat.le_trans hs hz) _⟩

theorem path_ev (x : Option (List (ByteArray × Int) × Int)) (w : World) (hg : Hnd w) (hl : (stV x).length ≤ 1000) :
    Calls Tryz.prog 105 #[ev x] w fun e w' => ∃ v, e = .returned v ∧ w'.ownsRow w.heap.size 9 1 v (stV x).length (sv (stV x)) ∧ Below w.heap.size w w' := by
  rcases x with _ | ⟨l, c⟩
  · exact path_nil w hg
  · exact path_chn l c w hg hl
end Go.Proofs.YtgbcjmpnkejpeaaGreatDoor
namespace Go.Proofs.YtgbcjmpnkejpeaaGreatDoor
open Go.RowKit Go.Extern.Stop Go.Stop Go.Extern

/-- The slice v holds the texts ss. -/
def Strs (W : World) (v : Value) (ss : List ByteArray) : Prop :=
  (∃ ao cap, ss = [] ∧ v = .slice ao 0 cap) ∨
  (∃ b o cap, v = .slice (some ⟨b, o, none⟩) ss.length cap ∧ ss.length ≤ cap ∧ ∀ i (h : i < ss.length), W.cell? ⟨b, o + i, none⟩ = some (.string ss[i]))
theorem Strs.below {w w' : World} {v : Value} {ss : List ByteArray} (h : Strs w v ss) (hb : Below w.heap.size w w') : Strs w' v ss := by
  rcases h with h | ⟨b, o, cap, h1, h2, h3⟩
  · exact .inl h
  · refine .inr ⟨b, o, cap, h1, h2, fun i hi => ?_⟩
    rw [hb.cell (p := ⟨b, o + i, none⟩) (block_of_cell (h3 i hi))]
    exact h3 i hi
theorem strs_of_owns {w : World} {base : Nat} {v : Value} {l : List (ByteArray × Int)} (h : w.ownsRow base 9 1 v l.length (sv l)) : Strs w v (l.map (·.1)) := by
  obtain ⟨h1, h2⟩ := h
  rcases h2 with ⟨rfl, hn⟩ | ⟨g, cap, cur, rfl, a2, a3, a4, a5, a6, a7⟩
  · exact .inl ⟨_, _, by rw [List.length_eq_zero_iff] at hn; rw [hn]; rfl, rfl⟩
  · refine .inr ⟨g, 0, cap, by simp, by simpa using a4, fun i hi => ?_⟩
    have hi' : i < l.length := by simpa using hi
    have e1 : (cur.toList.take (l.length * 1))[i]? = (sv l)[i]? := by rw [a7]
    rw [List.getElem?_take_of_lt (by omega)] at e1
    have e2 : (sv l)[i]? = some (.string (l.map (·.1))[i]) := by simp [sv, List.getElem?_eq_getElem hi']
    rw [e2] at e1
    simp only [World.cell?, a3]
    simpa using e1

/-- Is s one of these? -/
def hasB (ss : List ByteArray) (s : ByteArray) : Bool := ss.any fun t => s.toList == t.toList
theorem has_no {ss : List ByteArray} {s : ByteArray} (h : ∀ j (hj : j < ss.length), (s.toList == ss[j].toList) = false) : hasB ss s = false := by
  simp only [hasB, List.any_eq_false]
  intro t ht
  obtain ⟨j, hj, rfl⟩ := List.getElem_of_mem ht
  simp [h j hj]
theorem has_yes {ss : List ByteArray} {s : ByteArray} {j : Nat} (hj : j < ss.length) (h : (s.toList == ss[j].toList) = true) : hasB ss s = true := by
  simp only [hasB, List.any_eq_true]
  exact ⟨_, List.getElem_mem hj, h⟩

set_option maxHeartbeats 4000000 in
theorem index_any (v : Value) (ss : List ByteArray) (s : ByteArray) (w : World) (hv : Strs w v ss) (hl : ss.length ≤ 1000) :
    Calls Tryz.prog 129 #[v, .string s] w fun e w' => (∃ n : Int, e = .returned (.int .i64 n) ∧ ((hasB ss s = true ∧ 0 ≤ n) ∨ (hasB ss s = false ∧ n = -1))) ∧ w' = w := by
  rcases hv with ⟨ao, cap, rfl, rfl⟩ | ⟨b, o, cap, rfl, h2, h3⟩
  · go_enter Tryz.func129, Tryz.ntmps129
    go_wp2
    refine wp_loop_rounds 1 ?_
    rw [rounds_succ]
    go_wp2
    go_ret
    exact ⟨⟨_, rfl, .inr ⟨rfl, rfl⟩⟩, rfl⟩
  · have H3 := hide h3
    clear h3
    go_enter Tryz.func129, Tryz.ntmps129
    go_wp2
    go_loop [8] (fun i => ∃ k : Nat, k ≤ ss.length ∧ i = .int .i64 k ∧ ∀ j (hj : j < ss.length), j < k → (s.toList == ss[j].toList) = false) (fun i => ss.length - (intOf i).toNat)
    case atStart => exact ⟨0, Nat.zero_le _, rfl, fun j _ h => absurd h (Nat.not_lt_zero _)⟩
    case round =>
      obtain ⟨k, hk, rfl, hno⟩ := hrel
      have HN := hide hno
      clear hno
      by_cases hlt : k < ss.length
      · have hc := H3.out k hlt
        generalize hsk : ss[k] = sk at *
        have HS := hide hsk
        clear hsk
        go_wp2
        · have hy : (s.toList == sk.toList) = true := by assumption
          go_ret
          exact ⟨⟨_, rfl, .inl ⟨has_yes hlt (by rw [HS.out]; exact hy), by omega⟩⟩, rfl⟩
        · have hn : (s.toList == sk.toList) = false := by assumption
          refine ⟨⟨k + 1, by omega, by go_num, fun j hj h => ?_⟩, by simp [intOf]; omega⟩
          rcases Nat.lt_or_eq_of_le (Nat.le_of_lt_succ h) with h' | rfl
          · exact HN.out j hj h'
          · rw [HS.out]; exact hn
      · go_wp2
        go_ret
        exact ⟨⟨_, rfl, .inr ⟨has_no fun j hj => HN.out j hj (by omega), rfl⟩⟩, rfl⟩

theorem contains_any (v : Value) (ss : List ByteArray) (s : ByteArray) (w : World) (hv : Strs w v ss) (hl : ss.length ≤ 1000) :
    Calls Tryz.prog 104 #[v, .string s] w fun e w' => e = .returned (.bool (hasB ss s)) ∧ w' = w := by
  have HC := hide (index_any v ss s w hv hl)
  clear hv hl
  go_enter Tryz.func104, Tryz.ntmps104
  go_wp2_with fail
  refine (HC.out).mono ?_
  rintro e w' ⟨⟨n, rfl, ⟨hy, hn⟩ | ⟨hy, rfl⟩⟩, rfl⟩
  · have HY := hide hy
    clear hy
    go_wp2
    go_ret
    exact ⟨by rw [HY.out]; rfl, rfl⟩
  · have HY := hide hy
    clear hy
    go_wp2
    go_ret
    exact ⟨by rw [HY.out]; rfl, rfl⟩

theorem under_ev (x : Option (List (ByteArray × Int) × Int)) (s : ByteArray) (w : World) (hg : Hnd w) (hl : (stV x).length ≤ 1000) :
    Calls Tryz.prog 60 #[ev x, .string s] w fun e w' => e = .returned (.bool (hasB ((stV x).map (·.1)) s)) ∧ Below w.heap.size w w' := by
  have HC := hide (path_ev x w hg hl)
  have HL := hide hl
  clear hg hl
  go_enter Tryz.func60, Tryz.ntmps60
  go_wp2_with fail
  refine (HC.out).mono ?_
  rintro e w' ⟨v, rfl, hown, hb⟩
  have HC2 := hide (contains_any v ((stV x).map (·.1)) s w' (strs_of_owns hown) (by simpa using HL.out))
  clear hown HC
  go_wp2_with fail
  refine (HC2.out).mono ?_
  rintro e w' ⟨rfl, rfl⟩
  go_wp2
  go_ret
  exact ⟨rfl, hb⟩

end Go.Proofs.YtgbcjmpnkejpeaaGreatDoor
namespace Go.Proofs.YtgbcjmpnkejpeaaGreatDoor
open Go.RowKit

end Go.Proofs.YtgbcjmpnkejpeaaGreatDoor
