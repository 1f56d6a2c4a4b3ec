/-
  THE BATCH THAT THE DOCUMENT'S CURSOR READS NEXT (castellanref06.Next): what the mathematics says. Conditions: the bytes' cells hold them, each is a byte, no more than four thousand; they are older than the cursor.
  WHETHER AN ERROR IS SUCH A ONE (castellanlaw07.wrong): it is, where it tells what is wrong. Condition: errors.errorType is laid.
-/
import Derived.Test.YtjjpfajbljbelaaGreatDoorJKBatEqa4
namespace Go.Proofs.YtjjpfajbljbelaaGreatDoor
open Go.RowKit
theorem wpList_build_one {ops : Array Oper} {rest : List Oper} {o : Oper} {a : Act} {w : World} {Q : Exit → Act → World → Prop} (hgd : o.guard = none) (x : Operand) (ho : o.op = .buildSlice 46 1 #[(0, x)]) (q : Rp) (hx : a.eval x = .agg (cel q).toArray)
  (h : wpList Tryz.prog ops Q rest (a.put o.dst (.slice (some ⟨w.heap.size, 0, none⟩) 1 1)) (w.alloc (.cells (cel q).toArray 45))) : wpList Tryz.prog ops Q (o :: rest) a w := by
 refine wpList_plain hgd fun K hK => ?_
 have hb := build_one q w
 unfold Oper.wp
 simp only [execOp, ho, List.map_toArray, List.map_cons, List.map_nil, hx]
 simp [hb, Result.andThen]
 exact hK _ _ h
theorem gN_nonneg {m : Int} {l : List Int} {s s' : Gs} {x : Int} (hb : Byt l) (h : gN m l s = (s', x)) : 0 ≤ x := by
 unfold gN at h
 split at h
 ·obtain ⟨_, e⟩ := Prod.mk.inj h
  rw [← e]
  exact (numS_range (l.drop s.pt) m (fun x hx => hb x (List.mem_of_mem_drop hx))).1
 ·obtain ⟨_, e⟩ := Prod.mk.inj h
  rw [← e]
  exact Int.le_refl _
set_option maxRecDepth 100000 in
set_option maxHeartbeats 32000000 in
theorem rnext_go (p : Nat) (v : Value) (l : List Int) (s s1 s2 s3 s4 : Gs) (x1 x2 x3 : Int) (BB : Bool) (w0 w : World) (hrd : CuG w p v s) (hv : Sl bc w0 v l) (hW : Below w0.heap.size w0 w) (hp0 : w0.heap.size ≤ p) (hl : l.length ≤ 4000) (hby : Byt l) (hs : s.pt ≤ l.length)
  (HQ1 : Hid (gN 1073741824 l s = (s1, x1))) (HQ2 : Hid (gN 1073741824 l s1 = (s2, x2))) (HQ3 : Hid (gN 64 l s2 = (s3, x3))) (HBB : Hid (BB = (decide (s3.c = 0) && (decide (x1 < 1) || decide (x3 < 1))))) (HS4 : Hid (s4 = if BB then refS ⟨#[98, 97, 116, 99, 104]⟩ 2 s3 else s3)) (h1 : 0 ≤ x1) (h3 : 0 ≤ x3 ∧ x3 ≤ 64) :
  Calls Tryz.prog 25 #[.pointer (some ⟨p, 0, none⟩)] w fun e w' => ∃ vx, e = .returned vx ∧ IsB (fun k => w.heap.size ≤ k) (fun k => w.heap.size ≤ k) w' vx (nextG l s).2 ∧ CuG w' p v (nextG l s).1 ∧ Bx p w w' := by
 have hp : p < w.heap.size := cell_block hrd.c0
 have HN := hide (nx_new hp)
 have hb1 : Below w.heap.size w (w.alloc (.cells #[.int .i64 0, .int .i64 0, .slice none 0 0] 48)) := (Below.refl _ _).alloc (Nat.le_refl _) _
 have hb0 : Below w.heap.size w ((w.alloc (.cells #[.int .i64 0, .int .i64 0, .slice none 0 0] 48)).alloc (.cells #[.int .i64 0, .int .i64 0, .slice none 0 0] 48)) := hb1.alloc (by simp) _
 have HR := hide (hrd.below hb0)
 have c1 : (w.alloc (.cells #[.int .i64 0, .int .i64 0, .slice none 0 0] 48)).cell? ⟨p, 1, none⟩ = some (.int .i64 s.pt) := (hrd.below hb1).c1
 have HV := hide hv
 have HBY := hide hby
 have HW := hide hW
 have hpt1 : s1.pt ≤ l.length := by have := gN_pt (m := 1073741824) hby hs; rw [HQ1.out] at this; exact this
 have hpt2 : s2.pt ≤ l.length := by have := gN_pt (m := 1073741824) hby hpt1; rw [HQ2.out] at this; exact this
 have hpt3 : s3.pt ≤ l.length := by have := gN_pt (m := 64) hby hpt2; rw [HQ3.out] at this; exact this
 have hpt4 : s4.pt ≤ l.length := by rw [HS4.out]; split; (rw [refS_pt]; exact hpt3); (exact hpt3)
 have HOL : Hid (∀ W, Bx p w W → Below w0.heap.size w0 W) := hide (fun W h => below_bx hW h hp0 hW.size)
 have HI1 := hide (fun W (h : CuG W p v s) (hb : Bx p w W) => cuint_gs p v l 1073741824 s w0 W h HV.out (HOL.out W hb) hl hby hs (by decide) (by decide))
 have HI2 := hide (fun W (h : CuG W p v s1) (hb : Bx p w W) => cuint_gs p v l 1073741824 s1 w0 W h HV.out (HOL.out W hb) hl hby hpt1 (by decide) (by decide))
 have HI3 := hide (fun W (h : CuG W p v s2) (hb : Bx p w W) => cuint_gs p v l 64 s2 w0 W h HV.out (HOL.out W hb) hl hby hpt2 (by decide) (by decide))
 rw [HQ1.out] at HI1
 rw [HQ2.out] at HI2
 rw [HQ3.out] at HI3
 simp only at HI1 HI2 HI3
 have hpt5 := recs_pt hby hpt4 x3.toNat
 have HNG : Hid (nextG l s = if (recsG l x3.toNat s4).1.c = 0 then ((recsG l x3.toNat s4).1, ⟨x1, x2, (recsG l x3.toNat s4).2⟩) else ((recsG l x3.toNat s4).1, Bt.zero)) := hide (by
  have e4 : (if x1 = 0 ∨ x3 = 0 then refS ⟨#[98, 97, 116, 99, 104]⟩ 2 s3 else s3) = s4 := by
   rw [HS4.out, HBB.out]
   by_cases q : x1 = 0 ∨ x3 = 0
   ·rw [if_pos q]
    by_cases q2 : s3.c = 0
    ·rw [if_pos (by rw [decide_eq_true q2, Bool.true_and, Bool.or_eq_true, decide_eq_true_iff, decide_eq_true_iff]; omega)]
    ·rw [if_neg (by simp [q2])]
     unfold refS
     rw [if_neg q2]
   ·rw [if_neg q, if_neg (by rw [Bool.and_eq_true, Bool.or_eq_true, decide_eq_true_iff, decide_eq_true_iff, decide_eq_true_iff]; omega)]
  unfold nextG
  simp only
  rw [HQ1.out]
  simp only
  rw [HQ2.out]
  simp only
  rw [HQ3.out]
  simp only
  rw [e4, if_neg (show ¬ (16384 : Int) < ((recsG l x3.toNat s4).1.pt : Int) - (s.pt : Int) by omega)])
 generalize nextG l s = NG at HNG ⊢
 clear hrd hv hby hb0 hb1
 go_enter Tryz.func25, Tryz.ntmps25
 go_upto_region 3 with fail
 clear c1
 generalize (w.alloc (.cells #[.int .i64 0, .int .i64 0, .slice none 0 0] 48)).alloc (.cells #[.int .i64 0, .int .i64 0, .slice none 0 0] 48) = X0 at HN HR ⊢
 go_upto_region 4 with (first | (go_at_call 20; refine (HI1.out _ HR.out HN.out.bx).mono ?_; rintro e V1 ⟨rfl, hr1, hb1⟩; have HN1 := hide (HN.out.step hb1); have HR1 := hide hr1; clear hr1 hb1; have c5 := HN1.out.x0; have f5 := HN1.out.xf 0))
 have HN2 := hide (HN1.out.set0 x1)
 have HR2 : Hid (CuG (V1.setCell ⟨w.heap.size + 1, 0, none⟩ (.int .i64 x1)) p v s1) := hide (cuG_set HR1.out (by omega))
 generalize V1.setCell ⟨w.heap.size + 1, 0, none⟩ (.int .i64 x1) = X1 at HN2 HR2 ⊢
 clear HN HR HN1 HR1 c5 f5 HI1
 go_upto_region 5 with (first | (go_at_call 20; refine (HI2.out _ HR2.out HN2.out.bx).mono ?_; rintro e V2 ⟨rfl, hr1, hb1⟩; have HN3 := hide (HN2.out.step hb1); have HR3 := hide hr1; clear hr1 hb1; have c5 := HN3.out.x1; have f5 := HN3.out.xf 1))
 have HN4 := hide (HN3.out.set1 x2)
 have HR4 : Hid (CuG (V2.setCell ⟨w.heap.size + 1, 1, none⟩ (.int .i64 x2)) p v s2) := hide (cuG_set HR3.out (by omega))
 generalize V2.setCell ⟨w.heap.size + 1, 1, none⟩ (.int .i64 x2) = X2 at HN4 HR4 ⊢
 clear HN2 HR2 HN3 HR3 c5 f5 HI2
 go_upto_region 6 with (first | (go_at_call 20; refine (HI3.out _ HR4.out HN4.out.bx).mono ?_; rintro e V3 ⟨rfl, hr1, hb1⟩; have HN5 := hide (HN4.out.step hb1); have HR5 := hide hr1; clear hr1 hb1))
 clear HN4 HR4 HI3
 have c0 := HN5.out.x0
 have c2 := HR5.out.c2
 go_cut [36] (fun b W => b = .bool BB ∧ W = V3)
 case first =>
  by_cases g1 : s3.c = 0
  ·have g1b : (s3.c == 0) = true := by simp [g1]
   by_cases g2 : x1 < 1
   ·go_wp2_with fail
    go_meet
    exact ⟨by rw [HBB.out]; simp [g1, g2], rfl⟩
   ·by_cases g3 : x3 < 1
    ·go_wp2_with fail
     go_meet
     exact ⟨by rw [HBB.out]; simp [g1, g3], rfl⟩
    ·go_wp2_with fail
     go_meet
     exact ⟨by rw [HBB.out]; simp [g1, g2, g3], rfl⟩
  ·have g1b : (s3.c == 0) = false := by simp [g1]
   go_wp2_with fail
   go_meet
   exact ⟨by rw [HBB.out]; simp [g1], rfl⟩
 case rest =>
  obtain ⟨rfl, rfl⟩ := hcut
  clear c0 c2
  obtain ⟨Wq, rfl⟩ : ∃ x : World, x = wc := ⟨_, rfl⟩
  have HC := hide (curef_gs p v s3 ⟨#[98, 97, 116, 99, 104]⟩ 2 Wq (by decide) HR5.out)
  go_upto_if 36 with fail
  go_cut [] (fun W => Nx w p W x1 x2 (.slice none 0 0) [] ∧ CuG W p v s4)
  case first =>
   cases BB with
   | true =>
    go_wp2_with (first | (go_at_call 58; refine HC.out.mono ?_; rintro e w5 ⟨rfl, hr5, hb5⟩))
    go_meet
    rw [HS4.out]
    exact ⟨HN5.out.step hb5, hr5⟩
   | false =>
    go_wp2_with fail
    go_meet
    rw [HS4.out]
    exact ⟨HN5.out, HR5.out⟩
  case rest =>
   obtain ⟨hn0, hr0⟩ := hcut
   have HN := hide hn0
   have HR := hide hr0
   clear hn0 hr0 HC HN5 HR5
   obtain ⟨W1, rfl⟩ : ∃ x : World, x = wc := ⟨_, rfl⟩
   clear Wq
   obtain ⟨M, hM⟩ : ∃ M : Nat, x3 = (M : Int) := ⟨x3.toNat, by omega⟩
   subst hM
   rw [Int.toNat_natCast] at HNG hpt5
   go_wp2_with fail
   go_loopw [6] (fun i wr => ∃ (j : Nat) (u : Value) (ps : List Rp), j ≤ M ∧ i = .int .i64 (j : Int) ∧ Nx w p wr x1 x2 u ps ∧ CuG wr p v (recsG l j s4).1 ∧ rcl ps = (recsG l j s4).2) (fun i _ => M - (intOf i).toNat)
   case atStart => exact ⟨0, .slice none 0 0, [], Nat.zero_le _, rfl, HN.out, HR.out, rfl⟩
   case round =>
    obtain ⟨j, u, ps, hj, rfl, hn, hr, hps⟩ := hrel
    clear HN HR
    have HN := hide hn
    have HR := hide hr
    have HPS := hide hps
    clear hn hr hps
    obtain ⟨ao, cap, hu⟩ : ∃ ao cap, u = .slice ao ps.length cap := by
     rcases HN.out.own.2 with ⟨rfl, h0⟩ | ⟨g, cap, cur, rfl, _⟩
     ·exact ⟨none, 0, by rw [h0]⟩
     ·exact ⟨_, _, rfl⟩
    subst hu
    have hptj := recs_pt HBY.out hpt4 j
    by_cases hgo : j < M ∧ (recsG l j s4).1.c = 0
    ·obtain ⟨hlt, hcz⟩ := hgo
     have hltI : (j : Int) < (M : Int) := by omega
     have hlps : ps.length ≤ 64 := by rw [← rcl_len, HPS.out, recs_len]; omega
     have HSU := hide (recsG_succ l j s4)
     generalize recsG l j s4 = Qj at *
     obtain ⟨sj, rsj⟩ := Qj
     simp only at HR HPS HSU hptj hcz
     have c2 : wr.cell? ⟨p, 2, none⟩ = some (.int .i64 0) := by rw [← hcz]; exact HR.out.c2
     have HC := hide (rread_any p v l sj w0 wr HR.out HV.out (HOL.out wr HN.out.bx) hp0 hl HBY.out hptj)
     generalize readG l sj = RRR at *
     obtain ⟨s', r⟩ := RRR
     simp only at HC HSU
     go_upto_region 12 with (first | (go_at_call 59; refine HC.out.mono ?_; rintro e V1 ⟨vx, rfl, hx, hr1, hb1⟩; obtain ⟨q, hq1, rfl, hq2⟩ := isR_rp hx; have HTN := hide (there_new V1)) | (refine wpList_store_mid rfl _ _ _ rfl V1.heap.size 0 (cel q).toArray rfl rfl HTN.out (by kernel_rfl) (cel_all _) ?_))
     obtain ⟨V, hV⟩ : ∃ V, V = (V1.alloc (.cells #[.int .i64 0, .int .i64 0, .int .i64 0, .int .i64 0, .int .i64 0, .int .i64 0, .int .i64 0, .int .i64 0, .int .i64 0, .bool false, .string ⟨#[]⟩, .string ⟨#[]⟩, .string ⟨#[]⟩, .string ⟨#[]⟩, .slice none 0 0, .slice none 0 0, .slice none 0 0, .slice none 0 0] 45)).setCells V1.heap.size 0 (cel q) := ⟨_, rfl⟩
     obtain ⟨hbV, hrV, _⟩ := laidP V1 q hV
     show Code.wp _ _ _ _ _
     rw [← hV]
     have hob := HN.out.ob
     have hsz := HN.out.sz
     have HQR := hide hq1
     have HQW : Hid (RwP (fun k => w.heap.size + 2 ≤ k ∧ (Value.slice ao ps.length cap).ownBlock ≠ some k) V q) := hide ((hq2.below hbV).imp (fun k _ hk => ⟨by omega, fun e => by have := (hob k e).2; omega⟩) (fun _ _ _ _ => rfl))
     have HN1 := hide ((HN.out.step hb1).below hbV)
     have HR1 := hide (hr1.below hbV)
     have HRV := hide hrV
     clear hx hq1 hq2 hr1 hb1 hob hsz hV hbV hrV HN HR HC HTN c2
     have x2f := HN1.out.x2
     have hbl : Below V.heap.size V (V.alloc (.cells (cel q).toArray 45)) := (Below.refl _ _).alloc (Nat.le_refl _) _
     have HN2 := hide (HN1.out.below hbl)
     have HR2 := hide (HR1.out.below hbl)
     have HQ2 := hide (HQW.out.below hbl)
     have HNW := hide (range_news (range_new V (cel q) 45))
     clear hbl
     go_wp2_with (first | (refine wpList_load_mid rfl _ _ rfl _ _ rfl _ _ HRV.out Tryz.underlying45 rfl (by kernel_rfl) ?_) | (refine wpList_build_one rfl _ rfl q rfl ?_) | (at_builtin; refine wpList_append_rc _ rfl _ _ rfl (w.heap.size + 2) (.slice ao ps.length cap) ps.length (rcs ps) rfl HN2.out.own (by have := HN2.out.sz; omega) ⟨V.heap.size, 0, none⟩ 1 (cel q) rfl (cel_len q) HNW.out (cel_one q) (by omega) ?_; intro V5 u' ho hgr hub; have HNF := hide (HN2.out.app HQ2.out ho hgr hub); have hzV := HN2.out.sz; have c5 : V5.cell? ⟨w.heap.size + 1, 2, none⟩ = some (.slice ao ps.length cap) := (World.cell?_of_block (hgr.block (w.heap.size + 1) hzV (fun e => by have := (HN2.out.ob _ e.symm).1; omega))).trans HN2.out.x2; have f5 : V5.frozen? ⟨w.heap.size + 1, 2, none⟩ = false := (World.frozen?_of_block (hgr.block (w.heap.size + 1) hzV (fun e => by have := (HN2.out.ob _ e.symm).1; omega))).trans (HN2.out.xf 2); have HRF : Hid (CuG (V5.setCell ⟨w.heap.size + 1, 2, none⟩ u') p v s') := hide (cuG_set (by have hpl := HN2.out.hp; have hq : ∀ i, V5.cell? ⟨p, i, none⟩ = _ := fun i => World.cell?_of_block (hgr.block p (by omega) (fun e => by have := (HN2.out.ob _ e.symm).1; omega)); have hf : ∀ i, V5.frozen? ⟨p, i, none⟩ = _ := fun i => World.frozen?_of_block (hgr.block p (by omega) (fun e => by have := (HN2.out.ob _ e.symm).1; omega)); exact ⟨(hq 0).trans HR2.out.c0, (hq 1).trans HR2.out.c1, (hq 2).trans HR2.out.c2, (hq 3).trans HR2.out.c3, (hq 4).trans HR2.out.c4, fun i => (hf i).trans (HR2.out.fz i)⟩) (by omega)); obtain ⟨a6, c6, hu6⟩ : ∃ a6 c6, u' = .slice a6 (ps.length + 1) c6 := (by rcases ho.2 with ⟨_, h0⟩ | ⟨g, cap, cur, rfl, _⟩; (omega); (exact ⟨_, _, rfl⟩)); clear ho hgr hub HN2 HR2 HQ2 HNW; subst hu6))
     go_roundw
     case rel => exact ⟨j + 1, _, ps ++ [q], by omega, by go_num, HNF.out, by rw [HSU.out]; exact HRF.out, by rw [HSU.out]; simp only [rcl, List.map_append, List.map_cons, List.map_nil, HQR.out]; rw [← HPS.out]; rfl⟩
     case measure => simp [intOf]; omega
    ·have HFIN : Hid (NG = if (recsG l j s4).1.c = 0 then ((recsG l j s4).1, ⟨x1, x2, rcl ps⟩) else ((recsG l j s4).1, Bt.zero)) := hide (by
      by_cases hcz : (recsG l j s4).1.c = 0
      ·obtain rfl : j = M := by
        by_cases q : j < M
        ·exact absurd ⟨q, hcz⟩ hgo
        ·omega
       rw [HNG.out, HPS.out]
      ·have e : (recsG l M s4).1 = (recsG l j s4).1 := by
        have := recs_stop hcz (M - j)
        rwa [show j + (M - j) = M by omega] at this
       rw [HNG.out, e, if_neg hcz, if_neg hcz])
     generalize recsG l j s4 = Qj at *
     obtain ⟨sj, rsj⟩ := Qj
     simp only at HR HFIN hptj hgo
     have r0 := HN.out.r0
     have r1 := HN.out.r1
     have r2 := HN.out.r2
     have rf0 := HN.out.rf 0
     have rf1 := HN.out.rf 1
     have rf2 := HN.out.rf 2
     have c1 := HR.out.c1
     have hRp : w.heap.size ≠ p := by omega
     have hsI : ¬ (16384 : Int) < (sj.pt : Int) - (s.pt : Int) := by omega
     have hsw : IntKind.i64.wrap ((sj.pt : Int) - (s.pt : Int)) = (sj.pt : Int) - (s.pt : Int) := by rw [IntKind.wrap_i64]; omega
     clear HNG hpt5 HPS
     by_cases hcz : sj.c = 0
     ·have hjM : ¬ (j : Int) < (M : Int) := by
       intro q
       exact hgo ⟨by omega, hcz⟩
      have HNE : Hid (NG = (sj, ⟨x1, x2, rcl ps⟩)) := hide (by rw [HFIN.out, if_pos hcz])
      have c2 : wr.cell? ⟨p, 2, none⟩ = some (.int .i64 0) := by rw [← hcz]; exact HR.out.c2
      have y0 := HN.out.x0
      have y1 := HN.out.x1
      have y2 := HN.out.x2
      clear hgo HFIN
      go_wp2_with fail
      exact bodyPost_ret (v := .agg #[.int .i64 x1, .int .i64 x2, .slice ao ps.length cap]) (by simp [results, Tryz.results25, go_sem, r0, r1, r2]) rfl ⟨_, rfl, by rw [HNE.out]; exact HN.out.isB (fun k i hk => by iterate 3 rw [World.cell?_setCell_other _ _ _ _ (fun e => hk (congrArg Addr.block e).symm)]), by rw [HNE.out]; exact cuG_set (cuG_set (cuG_set HR.out hRp) hRp) hRp, ((HN.out.bx.fresh (Nat.le_refl _)).fresh (Nat.le_refl _)).fresh (Nat.le_refl _)⟩
     ·have HNE : Hid (NG = (sj, Bt.zero)) := hide (by rw [HFIN.out, if_neg hcz])
      have c2 := HR.out.c2
      have hcb : (sj.c == 0) = false := by simp [hcz]
      have hcn : (sj.c != 0) = true := by simp [hcz]
      clear hgo HFIN
      by_cases hjM : j < M
      ·have hjI : (j : Int) < (M : Int) := by omega
       go_wp2_with fail
       exact bodyPost_ret (v := .agg #[.int .i64 0, .int .i64 0, .slice none 0 0]) (by simp [results, Tryz.results25, go_sem, r0, r1, r2]) rfl ⟨_, rfl, by rw [HNE.out]; exact isB_zero _ _ _, by rw [HNE.out]; exact cuG_set (cuG_set (cuG_set HR.out hRp) hRp) hRp, ((HN.out.bx.fresh (Nat.le_refl _)).fresh (Nat.le_refl _)).fresh (Nat.le_refl _)⟩
      ·have hjI : ¬ (j : Int) < (M : Int) := by omega
       go_wp2_with fail
       exact bodyPost_ret (v := .agg #[.int .i64 0, .int .i64 0, .slice none 0 0]) (by simp [results, Tryz.results25, go_sem, r0, r1, r2]) rfl ⟨_, rfl, by rw [HNE.out]; exact isB_zero _ _ _, by rw [HNE.out]; exact cuG_set (cuG_set (cuG_set HR.out hRp) hRp) hRp, ((HN.out.bx.fresh (Nat.le_refl _)).fresh (Nat.le_refl _)).fresh (Nat.le_refl _)⟩
theorem rnext_any (p : Nat) (v : Value) (l : List Int) (s : Gs) (w0 w : World) (hrd : CuG w p v s) (hv : Sl bc w0 v l) (hW : Below w0.heap.size w0 w) (hp0 : w0.heap.size ≤ p) (hl : l.length ≤ 4000) (hby : Byt l) (hs : s.pt ≤ l.length) :
  Calls Tryz.prog 25 #[.pointer (some ⟨p, 0, none⟩)] w fun e w' => ∃ vx, e = .returned vx ∧ IsB (fun k => w.heap.size ≤ k) (fun k => w.heap.size ≤ k) w' vx (nextG l s).2 ∧ CuG w' p v (nextG l s).1 ∧ Bx p w w' := by
 rcases h1 : gN 1073741824 l s with ⟨s1, x1⟩
 rcases h2 : gN 1073741824 l s1 with ⟨s2, x2⟩
 rcases h3 : gN 64 l s2 with ⟨s3, x3⟩
 refine rnext_go p v l s s1 s2 s3 _ x1 x2 x3 _ w0 w hrd hv hW hp0 hl hby hs (hide h1) (hide h2) (hide h3) (hide rfl) (hide rfl) (gN_nonneg hby h1) ?_
 have h30 := gN_nonneg hby h3
 unfold gN at h3
 split at h3
 ·obtain ⟨_, e⟩ := Prod.mk.inj h3
  rw [← e]
  rcases hq : numS (l.drop s2.pt) 64 with ⟨c, k, n⟩
  by_cases hc : c = 0
  ·subst hc
   obtain ⟨_, _, e3, _, e5, _⟩ := numS_once (fun x hx => hby x (List.mem_of_mem_drop hx)) hq
   exact ⟨e3, e5⟩
  ·have := (numS_bad hq hc).2
   simp only
   omega
 ·obtain ⟨_, e⟩ := Prod.mk.inj h3
  rw [← e]
  omega
set_option maxRecDepth 100000
set_option maxHeartbeats 16000000
theorem four_in7 (w : World) (op : ByteArray) (pt c r : Int) {w0 : World} (h0 : w0 = w.alloc (.cells #[.string op, .int .i64 pt, .int .i64 c, .int .i64 r] 37)) {w1 : World} (h1 : Below w0.heap.size w0 w1) : ∀ W, Below (w.heap.size + 1) w1 W → (W.cell? ⟨w.heap.size, 0, none⟩ = some (.string op) ∧ W.cell? ⟨w.heap.size, 1, none⟩ = some (.int .i64 pt) ∧ W.cell? ⟨w.heap.size, 2, none⟩ = some (.int .i64 c) ∧ W.cell? ⟨w.heap.size, 3, none⟩ = some (.int .i64 r)) := fun W h => by
 have hz : w0.heap.size = w.heap.size + 1 := by rw [h0]; simp
 have hc : ∀ i, W.cell? ⟨w.heap.size, i, none⟩ = w0.cell? ⟨w.heap.size, i, none⟩ := fun i => (h.cell (p := ⟨w.heap.size, i, none⟩) (by show w.heap.size < _; omega)).trans (h1.cell (p := ⟨w.heap.size, i, none⟩) (by show w.heap.size < _; omega))
 subst h0
 exact ⟨by rw [hc]; simp, by rw [hc]; simp, by rw [hc]; simp, by rw [hc]; simp⟩
theorem mwrong_nil (op : ByteArray) (pt r : Int) (w : World) : Calls Tryz.prog 8 #[.nilIface, .agg #[.string op, .int .i64 pt, .int .i64 0, .int .i64 r]] w fun e w' => e = .returned (.bool true) ∧ Below w.heap.size w w' := by
 go_enter Tryz.func8, Tryz.ntmps8
 go_wp2_with fail
 go_ret
 exact ⟨rfl, (Below.refl _ _).alloc (Nat.le_refl _) _⟩
theorem mwrong_go (F : TypeId) (U : Value) (op : ByteArray) (pt c r : Int) (w : World) (hg : Hnd w)
  (HOF : Hid (∀ W, Hnd W → Calls Tryz.prog 31 #[.iface F U] W fun e w' => e = .returned (.int .i64 c) ∧ Below W.heap.size W w'))
  (HWE : Hid (∀ W, Hnd W → Calls Tryz.prog 30 #[.iface F U] W fun e w' => e = .returned (.tuple #[.int .i64 pt, .bool true]) ∧ Below W.heap.size W w'))
  (HUN : Hid (∀ W, Hnd W → Calls Tryz.prog 32 #[.iface F U, .string op] W fun e w' => e = .returned (.bool true) ∧ Below W.heap.size W w')) :
  Calls Tryz.prog 8 #[.iface F U, .agg #[.string op, .int .i64 pt, .int .i64 c, .int .i64 r]] w fun e w' => e = .returned (.bool true) ∧ Below w.heap.size w w' := by
 have G0 := hide hg
 have HA := hide ((Below.refl w.heap.size w).alloc (Nat.le_refl _) (.cells #[.string op, .int .i64 pt, .int .i64 c, .int .i64 r] 37))
 clear hg
 go_enter Tryz.func8, Tryz.ntmps8
 go_upto_region 4 with (first | (go_at_call 30; refine (HWE.out _ (G0.out.below HA.out)).mono ?_; rintro e w1 ⟨rfl, hb1⟩))
 have HB1 := hide (HA.out.trans (hb1.mono (by simp)))
 have hz1 : w.heap.size + 1 ≤ w1.heap.size := by have := hb1.size; simpa using this
 have hF := four_in7 w op pt c r rfl hb1
 have HS0 := hide (hs_drew hF hz1)
 have HF := hide hF
 have HGB : Hid (∀ W, Below (w.heap.size + 1) w1 W → Hnd W) := hide (fun W h => G0.out.below (HB1.out.trans (h.mono (Nat.le_succ _))))
 clear hF hb1
 refine wp_region_held_drew (S := fun W => (W.cell? ⟨w.heap.size, 0, none⟩ = some (.string op) ∧ W.cell? ⟨w.heap.size, 1, none⟩ = some (.int .i64 pt) ∧ W.cell? ⟨w.heap.size, 2, none⟩ = some (.int .i64 c) ∧ W.cell? ⟨w.heap.size, 3, none⟩ = some (.int .i64 r)) ∧ Below (w.heap.size + 1) w1 W ∧ w.heap.size + 1 ≤ W.heap.size) (by kernel_rfl) HS0.out (fun hHeld => ?_)
 refine tk 0 18 (.iface F U) rfl rfl hHeld ?_
 simp only [Act.put, zA, zB, zC]
 refine tk 2 20 (.pointer (some ⟨w.heap.size, 0, none⟩)) rfl rfl hHeld ?_
 simp only [Act.put, zA, zB, zC]
 refine tk 3 21 (.pointer (some ⟨w.heap.size, 2, none⟩)) rfl rfl hHeld ?_
 simp only [Act.put, zA, zB, zC]
 refine tk 4 22 (.int .i64 c) rfl rfl hHeld ?_
 simp only [Act.put, zA, zB, zC]
 refine wpAnyH_ready (rs := [1]) (by kernel_rfl) (by simp) ?_
 refine AllReadyH.cons (o := _) rfl (fun K hK => ?_) AllReadyH.nil
 go_simp
 go_at_call 31
 refine (HOF.out _ (HGB.out _ hHeld.2.1)).mono ?_
 rintro e w19 ⟨rfl, hb⟩
 go_wp2_with fail
 refine hK.out _ _ ?_ (fun hHeld1 => ?_)
 ·exact hs_call HF.out hb hHeld
 clear hK K hHeld
 have hHeld := hHeld1
 clear hHeld1
 clear hb
 refine tk 5 23 (.bool true) rfl rfl hHeld ?_
 simp only [Act.put, zA, zB, zC]
 refine tk 6 24 (.bool true) rfl rfl hHeld ?_
 simp only [Act.put, zA, zB, zC]
 refine tk 7 25 (.bool true) rfl rfl hHeld ?_
 simp only [Act.put, zA, zB, zC]
 refine tk 8 26 (.bool true) rfl rfl hHeld ?_
 simp only [Act.put, zA, zB, zC]
 refine tk 9 27 (.bool true) rfl rfl hHeld ?_
 simp only [Act.put, zA, zB, zC]
 refine tk 10 28 (.int .i64 pt) rfl rfl hHeld ?_
 simp only [Act.put, zA, zB, zC]
 refine tk 11 29 (.pointer (some ⟨w.heap.size, 0, none⟩)) rfl rfl hHeld ?_
 simp only [Act.put, zA, zB, zC]
 refine tk 12 30 (.pointer (some ⟨w.heap.size, 1, none⟩)) rfl rfl hHeld ?_
 simp only [Act.put, zA, zB, zC]
 refine tk 13 31 (.int .i64 pt) rfl rfl hHeld ?_
 simp only [Act.put, zA, zB, zC]
 refine tk 14 32 (.bool true) rfl rfl hHeld ?_
 simp only [Act.put, zA, zB, zC]
 refine tk 15 33 (.bool true) rfl rfl hHeld ?_
 simp only [Act.put, zA, zB, zC]
 refine tk 16 34 (.bool true) rfl rfl hHeld ?_
 simp only [Act.put, zA, zB, zC]
 refine tk 17 35 (.iface F U) rfl rfl hHeld ?_
 simp only [Act.put, zA, zB, zC]
 refine tk 18 36 (.pointer (some ⟨w.heap.size, 0, none⟩)) rfl rfl hHeld ?_
 simp only [Act.put, zA, zB, zC]
 refine tk 19 37 (.pointer (some ⟨w.heap.size, 0, none⟩)) rfl rfl hHeld ?_
 simp only [Act.put, zA, zB, zC]
 refine tk 20 38 (.string op) rfl rfl hHeld ?_
 simp only [Act.put, zA, zB, zC]
 refine wpAnyH_ready (rs := [21]) (by kernel_rfl) (by simp) ?_
 refine AllReadyH.cons (o := _) rfl (fun K hK => ?_) AllReadyH.nil
 go_simp
 go_at_call 32
 refine (HUN.out _ (HGB.out _ hHeld.2.1)).mono ?_
 rintro e w39 ⟨rfl, hb⟩
 go_wp2_with fail
 refine hK.out _ _ ?_ (fun hHeld1 => ?_)
 ·exact hs_call HF.out hb hHeld
 clear hK K hHeld
 have hHeld := hHeld1
 clear hHeld1
 clear hb
 refine tk 22 40 (.bool true) rfl rfl hHeld ?_
 simp only [Act.put, zA, zB, zC]
 refine tk 23 4 (.bool true) rfl rfl hHeld ?_
 simp only [Act.put, zA, zB, zC]
 refine wpAnyH_done (by kernel_rfl) ?_ _
 have HBF := hide (HB1.out.trans (hHeld.2.1.mono (Nat.le_succ _)))
 clear hHeld
 go_wp2_with fail
 go_ret
 exact ⟨rfl, HBF.out⟩
theorem mwrong_any (X : Option (List (ByteArray × Int) × Int)) (T : ByteArray × Int × Int) (r : Int) (w : World) (ht : Tells X T) (hg : Hnd w) : Calls Tryz.prog 8 #[ev X, .agg #[.string T.1, .int .i64 T.2.1, .int .i64 T.2.2, .int .i64 r]] w fun e w' => e = .returned (.bool true) ∧ Below w.heap.size w w' := by
 rcases X with _ | ⟨l, c⟩
 ·have h0 : T.2.2 = 0 := ht
  rw [h0]
  exact mwrong_nil T.1 T.2.1 r w
 ·obtain ⟨h1, _, h3, h4, h5, h6⟩ := ht
  have hl : (stV (some (l, c))).length ≤ 1000 := by show l.length ≤ 1000; omega
  have hof := fun W h => of_ev (some (l, c)) W h
  have hwe := fun W h => where_ev (some (l, c)) W h
  have hun := fun W h => under_ev (some (l, c)) T.1 W h hl
  rw [show ofV (some (l, c)) = T.2.2 from h1] at hof
  rw [show atV (stV (some (l, c))) = T.2.1 from h3, show inV (stV (some (l, c))) = true from h4] at hwe
  rw [show hasB ((stV (some (l, c))).map (·.1)) T.1 = true from h5] at hun
  obtain ⟨F, U, hFU⟩ := chn_form l c
  have e : ev (some (l, c)) = .iface F U := hFU
  rw [e] at hof hwe hun ⊢
  exact mwrong_go F U T.1 T.2.1 T.2.2 r w hg (hide hof) (hide hwe) (hide hun)
end Go.Proofs.YtjjpfajbljbelaaGreatDoor
