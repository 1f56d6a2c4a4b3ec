/-
  RecordReads' WALK: which records any bytes are, one behind the other, and what is wrong first, and where. Conditions: the bytes' cells hold them, each is a byte; errors.errorType is laid.
  THE BATCH THAT THE DOCUMENT'S CURSOR READS NEXT (castellanref06.Next): what the mathematics says. Conditions: the bytes' cells hold them, each is a byte, no more than four thousand; they are older than the cursor.
  THE BATCH THAT BYTES ARE, BY THE DOCUMENT (castellanref06.Read): what the mathematics says. Conditions: the bytes' cells hold them, each is a byte, no more than four thousand.
-/
import Derived.Test.YtgbcjmpnkejpeaaGreatDoorJKRecRrb
import Derived.Test.YtgbcjmpnkejpeaaGreatDoorJKBatCka3
import Derived.Test.YtgbcjmpnkejpeaaGreatDoorJKRecPba4
import Derived.Deep.RegionHeld3
import Derived.Deep.DeepCutAuto
import Derived.Test.YtgbcjmpnkejpeaaGreatDoorJKBatCla4
namespace Go.Proofs.YtgbcjmpnkejpeaaGreatDoor
open Go.RowKit

theorem cuG_bx {p q : Nat} {v : Value} {s : Gs} {W W' : World} (h : CuG W p v s) (hb : Bx q W W') (hq : p ≠ q) : CuG W' p v s :=
  have hl := cell_block h.c0
  ⟨(hb.cell hl hq).trans h.c0, (hb.cell hl hq).trans h.c1, (hb.cell hl hq).trans h.c2, (hb.cell hl hq).trans h.c3, (hb.cell hl hq).trans h.c4, fun i => (hb.frozen hl hq).trans (h.fz i)⟩
/-- A reader and a cursor over the same bytes, in the same state. -/
structure Two (w W : World) (p q : Nat) (v : Value) (l : List Int) (s : Gs) : Prop where
  rd : RdG W p v s
  cu : CuG W q v s
  pt : s.pt ≤ l.length
  be : Below w.heap.size w W
  hp : w.heap.size ≤ p
  hq : w.heap.size ≤ q
  ne : p ≠ q
  lq : q < W.heap.size
theorem Two.below {w W W' : World} {p q : Nat} {v : Value} {l : List Int} {s : Gs} (h : Two w W p q v l s) (hb : Below W.heap.size W W') : Two w W' p q v l s :=
  ⟨h.rd.below hb, h.cu.below hb, h.pt, h.be.trans (hb.mono h.be.size), h.hp, h.hq, h.ne, Nat.lt_of_lt_of_le h.lq hb.size⟩
end Go.Proofs.YtgbcjmpnkejpeaaGreatDoor
namespace Go.Proofs.YtgbcjmpnkejpeaaGreatDoor
open Go.RowKit

theorem wpList_build_one {ops : Array Oper} {rest : List Oper} {o : Oper} {a : Act} {w : World} {Q : Exit → Act → World → Prop} (hgd : o.guard = none) (x : Operand) (ho : o.op = .buildSlice 46 1 #[(0, x)]) (q : Rp) (hx : a.eval x = .agg (cel q).toArray)
    (h : wpList Tryz.prog ops Q rest (a.put o.dst (.slice (some ⟨w.heap.size, 0, none⟩) 1 1)) (w.alloc (.cells (cel q).toArray 35))) : wpList Tryz.prog ops Q (o :: rest) a w := by
  refine wpList_plain hgd fun K hK => ?_
  have hb := build_one q w
  unfold Oper.wp
  simp only [execOp, ho, List.map_toArray, List.map_cons, List.map_nil, hx]
  simp [hb, Result.andThen]
  exact hK _ _ h
theorem gN_nonneg {m : Int} {l : List Int} {s s' : Gs} {x : Int} (hb : Byt l) (h : gN m l s = (s', x)) : 0 ≤ x := by
  unfold gN at h
  split at h
  · obtain ⟨_, e⟩ := Prod.mk.inj h
    rw [← e]
    exact (numS_range (l.drop s.pt) m (fun x hx => hb x (List.mem_of_mem_drop hx))).1
  · obtain ⟨_, e⟩ := Prod.mk.inj h
    rw [← e]
    exact Int.le_refl _
set_option maxRecDepth 100000 in
set_option maxHeartbeats 32000000 in
theorem rnext_go (p : Nat) (v : Value) (l : List Int) (s s1 s2 s3 s4 : Gs) (x1 x2 x3 : Int) (BB : Bool) (w0 w : World) (hrd : CuG w p v s) (hv : Sl bc w0 v l) (hW : Below w0.heap.size w0 w) (hp0 : w0.heap.size ≤ p) (hl : l.length ≤ 4000) (hby : Byt l) (hs : s.pt ≤ l.length)
    (HQ1 : Hid (gN 1073741824 l s = (s1, x1))) (HQ2 : Hid (gN 1073741824 l s1 = (s2, x2))) (HQ3 : Hid (gN 64 l s2 = (s3, x3))) (HBB : Hid (BB = (decide (s3.c = 0) && (decide (x1 < 1) || decide (x3 < 1))))) (HS4 : Hid (s4 = if BB then refS ⟨#[98, 97, 116, 99, 104]⟩ 2 s3 else s3)) (h1 : 0 ≤ x1) (h3 : 0 ≤ x3 ∧ x3 ≤ 64) :
    Calls Tryz.prog 33 #[.pointer (some ⟨p, 0, none⟩)] w fun e w' => ∃ vx, e = .returned vx ∧ IsB (fun k => w.heap.size ≤ k) (fun k => w.heap.size ≤ k) w' vx (nextG l s).2 ∧ CuG w' p v (nextG l s).1 ∧ Bx p w w' := by
  have hp : p < w.heap.size := cell_block hrd.c0
  have HN := hide (nx_new hp)
  have hb1 : Below w.heap.size w (w.alloc (.cells #[.int .i64 0, .int .i64 0, .slice none 0 0] 48)) := (Below.refl _ _).alloc (Nat.le_refl _) _
  have hb0 : Below w.heap.size w ((w.alloc (.cells #[.int .i64 0, .int .i64 0, .slice none 0 0] 48)).alloc (.cells #[.int .i64 0, .int .i64 0, .slice none 0 0] 48)) := hb1.alloc (by simp) _
  have HR := hide (hrd.below hb0)
  have c1 : (w.alloc (.cells #[.int .i64 0, .int .i64 0, .slice none 0 0] 48)).cell? ⟨p, 1, none⟩ = some (.int .i64 s.pt) := (hrd.below hb1).c1
  have HV := hide hv
  have HBY := hide hby
  have HW := hide hW
  have hpt1 : s1.pt ≤ l.length := by have := gN_pt (m := 1073741824) hby hs; rw [HQ1.out] at this; exact this
  have hpt2 : s2.pt ≤ l.length := by have := gN_pt (m := 1073741824) hby hpt1; rw [HQ2.out] at this; exact this
  have hpt3 : s3.pt ≤ l.length := by have := gN_pt (m := 64) hby hpt2; rw [HQ3.out] at this; exact this
  have hpt4 : s4.pt ≤ l.length := by rw [HS4.out]; split; (rw [refS_pt]; exact hpt3); (exact hpt3)
  have HOL : Hid (∀ W, Bx p w W → Below w0.heap.size w0 W) := hide (fun W h => below_bx hW h hp0 hW.size)
  have HI1 := hide (fun W (h : CuG W p v s) (hb : Bx p w W) => cuint_gs p v l 1073741824 s w0 W h HV.out (HOL.out W hb) hl hby hs (by decide) (by decide))
  have HI2 := hide (fun W (h : CuG W p v s1) (hb : Bx p w W) => cuint_gs p v l 1073741824 s1 w0 W h HV.out (HOL.out W hb) hl hby hpt1 (by decide) (by decide))
  have HI3 := hide (fun W (h : CuG W p v s2) (hb : Bx p w W) => cuint_gs p v l 64 s2 w0 W h HV.out (HOL.out W hb) hl hby hpt2 (by decide) (by decide))
  rw [HQ1.out] at HI1
  rw [HQ2.out] at HI2
  rw [HQ3.out] at HI3
  simp only at HI1 HI2 HI3
  have hpt5 := recs_pt hby hpt4 x3.toNat
  have HNG : Hid (nextG l s = if (recsG l x3.toNat s4).1.c = 0 then ((recsG l x3.toNat s4).1, ⟨x1, x2, (recsG l x3.toNat s4).2⟩) else ((recsG l x3.toNat s4).1, Bt.zero)) := hide (by
    have e4 : (if x1 = 0 ∨ x3 = 0 then refS ⟨#[98, 97, 116, 99, 104]⟩ 2 s3 else s3) = s4 := by
      rw [HS4.out, HBB.out]
      by_cases q : x1 = 0 ∨ x3 = 0
      · rw [if_pos q]
        by_cases q2 : s3.c = 0
        · rw [if_pos (by rw [decide_eq_true q2, Bool.true_and, Bool.or_eq_true, decide_eq_true_iff, decide_eq_true_iff]; omega)]
        · rw [if_neg (by simp [q2])]
          unfold refS
          rw [if_neg q2]
      · rw [if_neg q, if_neg (by rw [Bool.and_eq_true, Bool.or_eq_true, decide_eq_true_iff, decide_eq_true_iff, decide_eq_true_iff]; omega)]
    unfold nextG
    simp only
    rw [HQ1.out]
    simp only
    rw [HQ2.out]
    simp only
    rw [HQ3.out]
    simp only
    rw [e4, if_neg (show ¬ (16384 : Int) < ((recsG l x3.toNat s4).1.pt : Int) - (s.pt : Int) by omega)])
  generalize nextG l s = NG at HNG ⊢
  clear hrd hv hby hb0 hb1
  go_enter Tryz.func33, Tryz.ntmps33
  go_upto_region 3 with fail
  clear c1
  generalize (w.alloc (.cells #[.int .i64 0, .int .i64 0, .slice none 0 0] 48)).alloc (.cells #[.int .i64 0, .int .i64 0, .slice none 0 0] 48) = X0 at HN HR ⊢
  go_upto_region 4 with (first | (go_at_call 50; refine (HI1.out _ HR.out HN.out.bx).mono ?_; rintro e V1 ⟨rfl, hr1, hb1⟩; have HN1 := hide (HN.out.step hb1); have HR1 := hide hr1; clear hr1 hb1; have c5 := HN1.out.x0; have f5 := HN1.out.xf 0))
  have HN2 := hide (HN1.out.set0 x1)
  have HR2 : Hid (CuG (V1.setCell ⟨w.heap.size + 1, 0, none⟩ (.int .i64 x1)) p v s1) := hide (cuG_set HR1.out (by omega))
  generalize V1.setCell ⟨w.heap.size + 1, 0, none⟩ (.int .i64 x1) = X1 at HN2 HR2 ⊢
  clear HN HR HN1 HR1 c5 f5 HI1
  go_upto_region 5 with (first | (go_at_call 50; refine (HI2.out _ HR2.out HN2.out.bx).mono ?_; rintro e V2 ⟨rfl, hr1, hb1⟩; have HN3 := hide (HN2.out.step hb1); have HR3 := hide hr1; clear hr1 hb1; have c5 := HN3.out.x1; have f5 := HN3.out.xf 1))
  have HN4 := hide (HN3.out.set1 x2)
  have HR4 : Hid (CuG (V2.setCell ⟨w.heap.size + 1, 1, none⟩ (.int .i64 x2)) p v s2) := hide (cuG_set HR3.out (by omega))
  generalize V2.setCell ⟨w.heap.size + 1, 1, none⟩ (.int .i64 x2) = X2 at HN4 HR4 ⊢
  clear HN2 HR2 HN3 HR3 c5 f5 HI2
  go_upto_region 6 with (first | (go_at_call 50; refine (HI3.out _ HR4.out HN4.out.bx).mono ?_; rintro e V3 ⟨rfl, hr1, hb1⟩; have HN5 := hide (HN4.out.step hb1); have HR5 := hide hr1; clear hr1 hb1))
  clear HN4 HR4 HI3
  have c0 := HN5.out.x0
  have c2 := HR5.out.c2
  go_cut [36] (fun b W => b = .bool BB ∧ W = V3)
  case first =>
    by_cases g1 : s3.c = 0
    · have g1b : (s3.c == 0) = true := by simp [g1]
      by_cases g2 : x1 < 1
      · go_wp2_with fail
        go_meet
        exact ⟨by rw [HBB.out]; simp [g1, g2], rfl⟩
      · by_cases g3 : x3 < 1
        · go_wp2_with fail
          go_meet
          exact ⟨by rw [HBB.out]; simp [g1, g3], rfl⟩
        · go_wp2_with fail
          go_meet
          exact ⟨by rw [HBB.out]; simp [g1, g2, g3], rfl⟩
    · have g1b : (s3.c == 0) = false := by simp [g1]
      go_wp2_with fail
      go_meet
      exact ⟨by rw [HBB.out]; simp [g1], rfl⟩
  case rest =>
    obtain ⟨rfl, rfl⟩ := hcut
    clear c0 c2
    obtain ⟨Wq, rfl⟩ : ∃ x : World, x = wc := ⟨_, rfl⟩
    have HC := hide (curef_gs p v s3 ⟨#[98, 97, 116, 99, 104]⟩ 2 Wq (by decide) HR5.out)
    go_upto_if 36 with fail
    go_cut [] (fun W => Nx w p W x1 x2 (.slice none 0 0) [] ∧ CuG W p v s4)
    case first =>
      cases BB with
      | true =>
        go_wp2_with (first | (go_at_call 51; refine HC.out.mono ?_; rintro e w5 ⟨rfl, hr5, hb5⟩))
        go_meet
        rw [HS4.out]
        exact ⟨HN5.out.step hb5, hr5⟩
      | false =>
        go_wp2_with fail
        go_meet
        rw [HS4.out]
        exact ⟨HN5.out, HR5.out⟩
    case rest =>
      obtain ⟨hn0, hr0⟩ := hcut
      have HN := hide hn0
      have HR := hide hr0
      clear hn0 hr0 HC HN5 HR5
      obtain ⟨W1, rfl⟩ : ∃ x : World, x = wc := ⟨_, rfl⟩
      clear Wq
      obtain ⟨M, hM⟩ : ∃ M : Nat, x3 = (M : Int) := ⟨x3.toNat, by omega⟩
      subst hM
      rw [Int.toNat_natCast] at HNG hpt5
      go_wp2_with fail
      go_loopw [6] (fun i wr => ∃ (j : Nat) (u : Value) (ps : List Rp), j ≤ M ∧ i = .int .i64 (j : Int) ∧ Nx w p wr x1 x2 u ps ∧ CuG wr p v (recsG l j s4).1 ∧ rcl ps = (recsG l j s4).2) (fun i _ => M - (intOf i).toNat)
      case atStart => exact ⟨0, .slice none 0 0, [], Nat.zero_le _, rfl, HN.out, HR.out, rfl⟩
      case round =>
        obtain ⟨j, u, ps, hj, rfl, hn, hr, hps⟩ := hrel
        clear HN HR
        have HN := hide hn
        have HR := hide hr
        have HPS := hide hps
        clear hn hr hps
        obtain ⟨ao, cap, hu⟩ : ∃ ao cap, u = .slice ao ps.length cap := by
          rcases HN.out.own.2 with ⟨rfl, h0⟩ | ⟨g, cap, cur, rfl, _⟩
          · exact ⟨none, 0, by rw [h0]⟩
          · exact ⟨_, _, rfl⟩
        subst hu
        have hptj := recs_pt HBY.out hpt4 j
        by_cases hgo : j < M ∧ (recsG l j s4).1.c = 0
        · obtain ⟨hlt, hcz⟩ := hgo
          have hltI : (j : Int) < (M : Int) := by omega
          have hlps : ps.length ≤ 64 := by rw [← rcl_len, HPS.out, recs_len]; omega
          have HSU := hide (recsG_succ l j s4)
          generalize recsG l j s4 = Qj at *
          obtain ⟨sj, rsj⟩ := Qj
          simp only at HR HPS HSU hptj hcz
          have c2 : wr.cell? ⟨p, 2, none⟩ = some (.int .i64 0) := by rw [← hcz]; exact HR.out.c2
          have HC := hide (rread_any p v l sj w0 wr HR.out HV.out (HOL.out wr HN.out.bx) hp0 hl HBY.out hptj)
          generalize readG l sj = RRR at *
          obtain ⟨s', r⟩ := RRR
          simp only at HC HSU
          go_upto_region 12 with (first | (go_at_call 13; refine HC.out.mono ?_; rintro e V1 ⟨vx, rfl, hx, hr1, hb1⟩; obtain ⟨q, hq1, rfl, hq2⟩ := isR_rp hx; have HTN := hide (there_new V1)) | (refine wpList_store_mid rfl _ _ _ rfl V1.heap.size 0 (cel q).toArray rfl rfl HTN.out (by kernel_rfl) (cel_all _) ?_))
          obtain ⟨V, hV⟩ : ∃ V, V = (V1.alloc (.cells #[.int .i64 0, .int .i64 0, .int .i64 0, .int .i64 0, .int .i64 0, .int .i64 0, .int .i64 0, .int .i64 0, .int .i64 0, .bool false, .string ⟨#[]⟩, .string ⟨#[]⟩, .string ⟨#[]⟩, .string ⟨#[]⟩, .slice none 0 0, .slice none 0 0, .slice none 0 0, .slice none 0 0] 35)).setCells V1.heap.size 0 (cel q) := ⟨_, rfl⟩
          obtain ⟨hbV, hrV, _⟩ := laidP V1 q hV
          show Code.wp _ _ _ _ _
          rw [← hV]
          have hob := HN.out.ob
          have hsz := HN.out.sz
          have HQR := hide hq1
          have HQW : Hid (RwP (fun k => w.heap.size + 2 ≤ k ∧ (Value.slice ao ps.length cap).ownBlock ≠ some k) V q) := hide ((hq2.below hbV).imp (fun k _ hk => ⟨by omega, fun e => by have := (hob k e).2; omega⟩) (fun _ _ _ _ => rfl))
          have HN1 := hide ((HN.out.step hb1).below hbV)
          have HR1 := hide (hr1.below hbV)
          have HRV := hide hrV
          clear hx hq1 hq2 hr1 hb1 hob hsz hV hbV hrV HN HR HC HTN c2
          have x2f := HN1.out.x2
          have hbl : Below V.heap.size V (V.alloc (.cells (cel q).toArray 35)) := (Below.refl _ _).alloc (Nat.le_refl _) _
          have HN2 := hide (HN1.out.below hbl)
          have HR2 := hide (HR1.out.below hbl)
          have HQ2 := hide (HQW.out.below hbl)
          have HNW := hide (range_news (range_new V (cel q) 35))
          clear hbl
          go_wp2_with (first | (refine wpList_load_mid rfl _ _ rfl _ _ rfl _ _ HRV.out Tryz.underlying35 rfl (by kernel_rfl) ?_) | (refine wpList_build_one rfl _ rfl q rfl ?_) | (at_builtin; refine wpList_append_rc _ rfl _ _ rfl (w.heap.size + 2) (.slice ao ps.length cap) ps.length (rcs ps) rfl HN2.out.own (by have := HN2.out.sz; omega) ⟨V.heap.size, 0, none⟩ 1 (cel q) rfl (cel_len q) HNW.out (cel_one q) (by omega) ?_; intro V5 u' ho hgr hub; have HNF := hide (HN2.out.app HQ2.out ho hgr hub); have hzV := HN2.out.sz; have c5 : V5.cell? ⟨w.heap.size + 1, 2, none⟩ = some (.slice ao ps.length cap) := (World.cell?_of_block (hgr.block (w.heap.size + 1) hzV (fun e => by have := (HN2.out.ob _ e.symm).1; omega))).trans HN2.out.x2; have f5 : V5.frozen? ⟨w.heap.size + 1, 2, none⟩ = false := (World.frozen?_of_block (hgr.block (w.heap.size + 1) hzV (fun e => by have := (HN2.out.ob _ e.symm).1; omega))).trans (HN2.out.xf 2); have HRF : Hid (CuG (V5.setCell ⟨w.heap.size + 1, 2, none⟩ u') p v s') := hide (cuG_set (by have hpl := HN2.out.hp; have hq : ∀ i, V5.cell? ⟨p, i, none⟩ = _ := fun i => World.cell?_of_block (hgr.block p (by omega) (fun e => by have := (HN2.out.ob _ e.symm).1; omega)); have hf : ∀ i, V5.frozen? ⟨p, i, none⟩ = _ := fun i => World.frozen?_of_block (hgr.block p (by omega) (fun e => by have := (HN2.out.ob _ e.symm).1; omega)); exact ⟨(hq 0).trans HR2.out.c0, (hq 1).trans HR2.out.c1, (hq 2).trans HR2.out.c2, (hq 3).trans HR2.out.c3, (hq 4).trans HR2.out.c4, fun i => (hf i).trans (HR2.out.fz i)⟩) (by omega)); obtain ⟨a6, c6, hu6⟩ : ∃ a6 c6, u' = .slice a6 (ps.length + 1) c6 := (by rcases ho.2 with ⟨_, h0⟩ | ⟨g, cap, cur, rfl, _⟩; (omega); (exact ⟨_, _, rfl⟩)); clear ho hgr hub HN2 HR2 HQ2 HNW; subst hu6))
          go_roundw
          case rel => exact ⟨j + 1, _, ps ++ [q], by omega, by go_num, HNF.out, by rw [HSU.out]; exact HRF.out, by rw [HSU.out]; simp only [rcl, List.map_append, List.map_cons, List.map_nil, HQR.out]; rw [← HPS.out]; rfl⟩
          case measure => simp [intOf]; omega
        · have HFIN : Hid (NG = if (recsG l j s4).1.c = 0 then ((recsG l j s4).1, ⟨x1, x2, rcl ps⟩) else ((recsG l j s4).1, Bt.zero)) := hide (by
            by_cases hcz : (recsG l j s4).1.c = 0
            · obtain rfl : j = M := by
                by_cases q : j < M
                · exact absurd ⟨q, hcz⟩ hgo
                · omega
              rw [HNG.out, HPS.out]
            · have e : (recsG l M s4).1 = (recsG l j s4).1 := by
                have := recs_stop hcz (M - j)
                rwa [show j + (M - j) = M by omega] at this
              rw [HNG.out, e, if_neg hcz, if_neg hcz])
          generalize recsG l j s4 = Qj at *
          obtain ⟨sj, rsj⟩ := Qj
          simp only at HR HFIN hptj hgo
          have r0 := HN.out.r0
          have r1 := HN.out.r1
          have r2 := HN.out.r2
          have rf0 := HN.out.rf 0
          have rf1 := HN.out.rf 1
          have rf2 := HN.out.rf 2
          have c1 := HR.out.c1
          have hRp : w.heap.size ≠ p := by omega
          have hsI : ¬ (16384 : Int) < (sj.pt : Int) - (s.pt : Int) := by omega
          have hsw : IntKind.i64.wrap ((sj.pt : Int) - (s.pt : Int)) = (sj.pt : Int) - (s.pt : Int) := by rw [IntKind.wrap_i64]; omega
          clear HNG hpt5 HPS
          by_cases hcz : sj.c = 0
          · have hjM : ¬ (j : Int) < (M : Int) := by
              intro q
              exact hgo ⟨by omega, hcz⟩
            have HNE : Hid (NG = (sj, ⟨x1, x2, rcl ps⟩)) := hide (by rw [HFIN.out, if_pos hcz])
            have c2 : wr.cell? ⟨p, 2, none⟩ = some (.int .i64 0) := by rw [← hcz]; exact HR.out.c2
            have y0 := HN.out.x0
            have y1 := HN.out.x1
            have y2 := HN.out.x2
            clear hgo HFIN
            go_wp2_with fail
            exact bodyPost_ret (v := .agg #[.int .i64 x1, .int .i64 x2, .slice ao ps.length cap]) (by simp [results, Tryz.results33, go_sem, r0, r1, r2]) rfl ⟨_, rfl, by rw [HNE.out]; exact HN.out.isB (fun k i hk => by iterate 3 rw [World.cell?_setCell_other _ _ _ _ (fun e => hk (congrArg Addr.block e).symm)]), by rw [HNE.out]; exact cuG_set (cuG_set (cuG_set HR.out hRp) hRp) hRp, ((HN.out.bx.fresh (Nat.le_refl _)).fresh (Nat.le_refl _)).fresh (Nat.le_refl _)⟩
          · have HNE : Hid (NG = (sj, Bt.zero)) := hide (by rw [HFIN.out, if_neg hcz])
            have c2 := HR.out.c2
            have hcb : (sj.c == 0) = false := by simp [hcz]
            have hcn : (sj.c != 0) = true := by simp [hcz]
            clear hgo HFIN
            by_cases hjM : j < M
            · have hjI : (j : Int) < (M : Int) := by omega
              go_wp2_with fail
              exact bodyPost_ret (v := .agg #[.int .i64 0, .int .i64 0, .slice none 0 0]) (by simp [results, Tryz.results33, go_sem, r0, r1, r2]) rfl ⟨_, rfl, by rw [HNE.out]; exact isB_zero _ _ _, by rw [HNE.out]; exact cuG_set (cuG_set (cuG_set HR.out hRp) hRp) hRp, ((HN.out.bx.fresh (Nat.le_refl _)).fresh (Nat.le_refl _)).fresh (Nat.le_refl _)⟩
            · have hjI : ¬ (j : Int) < (M : Int) := by omega
              go_wp2_with fail
              exact bodyPost_ret (v := .agg #[.int .i64 0, .int .i64 0, .slice none 0 0]) (by simp [results, Tryz.results33, go_sem, r0, r1, r2]) rfl ⟨_, rfl, by rw [HNE.out]; exact isB_zero _ _ _, by rw [HNE.out]; exact cuG_set (cuG_set (cuG_set HR.out hRp) hRp) hRp, ((HN.out.bx.fresh (Nat.le_refl _)).fresh (Nat.le_refl _)).fresh (Nat.le_refl _)⟩
/-- The batch that the document's cursor reads next. -/
theorem rnext_any (p : Nat) (v : Value) (l : List Int) (s : Gs) (w0 w : World) (hrd : CuG w p v s) (hv : Sl bc w0 v l) (hW : Below w0.heap.size w0 w) (hp0 : w0.heap.size ≤ p) (hl : l.length ≤ 4000) (hby : Byt l) (hs : s.pt ≤ l.length) :
    Calls Tryz.prog 33 #[.pointer (some ⟨p, 0, none⟩)] w fun e w' => ∃ vx, e = .returned vx ∧ IsB (fun k => w.heap.size ≤ k) (fun k => w.heap.size ≤ k) w' vx (nextG l s).2 ∧ CuG w' p v (nextG l s).1 ∧ Bx p w w' := by
  rcases h1 : gN 1073741824 l s with ⟨s1, x1⟩
  rcases h2 : gN 1073741824 l s1 with ⟨s2, x2⟩
  rcases h3 : gN 64 l s2 with ⟨s3, x3⟩
  refine rnext_go p v l s s1 s2 s3 _ x1 x2 x3 _ w0 w hrd hv hW hp0 hl hby hs (hide h1) (hide h2) (hide h3) (hide rfl) (hide rfl) (gN_nonneg hby h1) ?_
  have h30 := gN_nonneg hby h3
  unfold gN at h3
  split at h3
  · obtain ⟨_, e⟩ := Prod.mk.inj h3
    rw [← e]
    rcases hq : numS (l.drop s2.pt) 64 with ⟨c, k, n⟩
    by_cases hc : c = 0
    · subst hc
      obtain ⟨_, _, e3, _, e5, _⟩ := numS_once (fun x hx => hby x (List.mem_of_mem_drop hx)) hq
      exact ⟨e3, e5⟩
    · have := (numS_bad hq hc).2
      simp only
      omega
  · obtain ⟨_, e⟩ := Prod.mk.inj h3
    rw [← e]
    omega
end Go.Proofs.YtgbcjmpnkejpeaaGreatDoor
namespace Go.Proofs.YtgbcjmpnkejpeaaGreatDoor
open Go.RowKit

/-- The three new blocks of a call of Read. -/
theorem seven_in (w : World) (ao : Option Addr) (cap : Nat) (l : List Int) {X : World} (hX : X = (((w.alloc (.cells #[.int .i64 0, .int .i64 0, .slice none 0 0] 48)).alloc (.cells #[.int .i64 0, .int .i64 0, .string ⟨#[]⟩, .int .i64 0] 29)).alloc (.cells #[.slice ao l.length cap, .int .i64 0, .int .i64 0, .string ⟨#[]⟩, .int .i64 0] 31))) : Below w.heap.size w X ∧ X.heap.size = w.heap.size + 3 ∧ CuG X (w.heap.size + 2) (.slice ao l.length cap) (okS 0) ∧ ∀ W, Below (w.heap.size + 2) X W → ((W.cell? ⟨w.heap.size, 0, none⟩ = some (.int .i64 0) ∧ W.cell? ⟨w.heap.size, 1, none⟩ = some (.int .i64 0) ∧ W.cell? ⟨w.heap.size, 2, none⟩ = some (.slice none 0 0)) ∧ (W.cell? ⟨w.heap.size + 1, 0, none⟩ = some (.int .i64 0) ∧ W.cell? ⟨w.heap.size + 1, 1, none⟩ = some (.int .i64 0) ∧ W.cell? ⟨w.heap.size + 1, 2, none⟩ = some (.string ⟨#[]⟩) ∧ W.cell? ⟨w.heap.size + 1, 3, none⟩ = some (.int .i64 0))) ∧ (∀ i, W.frozen? ⟨w.heap.size, i, none⟩ = false) ∧ (∀ i, W.frozen? ⟨w.heap.size + 1, i, none⟩ = false) := by
  refine ⟨by rw [hX]; exact (((Below.refl _ _).alloc (Nat.le_refl _) _).alloc (by simp) _).alloc (by simp; omega) _, by rw [hX]; simp, ?_, fun W h => ?_⟩
  · have hz : ((w.alloc (.cells #[.int .i64 0, .int .i64 0, .slice none 0 0] 48)).alloc (.cells #[.int .i64 0, .int .i64 0, .string ⟨#[]⟩, .int .i64 0] 29)).heap.size = w.heap.size + 2 := by simp
    rw [hX, ← hz]
    generalize (w.alloc (.cells #[.int .i64 0, .int .i64 0, .slice none 0 0] 48)).alloc (.cells #[.int .i64 0, .int .i64 0, .string ⟨#[]⟩, .int .i64 0] 29) = Z
    exact ⟨by simp, by simp [okS], by simp [okS], by simp [okS], by simp [okS, whS], fun i => World.frozen?_alloc_at _ _ _ _ (by simp)⟩
  · have h1 : ∀ i, W.cell? ⟨w.heap.size, i, none⟩ = X.cell? ⟨w.heap.size, i, none⟩ := fun i => h.cell (p := ⟨w.heap.size, i, none⟩) (by show w.heap.size < _; omega)
    have h2 : ∀ i, W.cell? ⟨w.heap.size + 1, i, none⟩ = X.cell? ⟨w.heap.size + 1, i, none⟩ := fun i => h.cell (p := ⟨w.heap.size + 1, i, none⟩) (by show w.heap.size + 1 < _; omega)
    have f1 : ∀ i, W.frozen? ⟨w.heap.size, i, none⟩ = X.frozen? ⟨w.heap.size, i, none⟩ := fun i => h.frozen (p := ⟨w.heap.size, i, none⟩) (by show w.heap.size < _; omega)
    have f2 : ∀ i, W.frozen? ⟨w.heap.size + 1, i, none⟩ = X.frozen? ⟨w.heap.size + 1, i, none⟩ := fun i => h.frozen (p := ⟨w.heap.size + 1, i, none⟩) (by show w.heap.size + 1 < _; omega)
    have gA : Below (w.heap.size + 1) (w.alloc (.cells #[.int .i64 0, .int .i64 0, .slice none 0 0] 48)) X := by rw [hX]; exact ((Below.refl _ _).alloc (by simp) _).alloc (by simp) _
    have gB : Below (w.heap.size + 2) ((w.alloc (.cells #[.int .i64 0, .int .i64 0, .slice none 0 0] 48)).alloc (.cells #[.int .i64 0, .int .i64 0, .string ⟨#[]⟩, .int .i64 0] 29)) X := by rw [hX]; exact (Below.refl _ _).alloc (by simp) _
    have h1' : ∀ i, X.cell? ⟨w.heap.size, i, none⟩ = (w.alloc (.cells #[.int .i64 0, .int .i64 0, .slice none 0 0] 48)).cell? ⟨w.heap.size, i, none⟩ := fun i => gA.cell (p := ⟨w.heap.size, i, none⟩) (by show w.heap.size < _; omega)
    have f1' : ∀ i, X.frozen? ⟨w.heap.size, i, none⟩ = (w.alloc (.cells #[.int .i64 0, .int .i64 0, .slice none 0 0] 48)).frozen? ⟨w.heap.size, i, none⟩ := fun i => gA.frozen (p := ⟨w.heap.size, i, none⟩) (by show w.heap.size < _; omega)
    have h2' : ∀ i, X.cell? ⟨w.heap.size + 1, i, none⟩ = ((w.alloc (.cells #[.int .i64 0, .int .i64 0, .slice none 0 0] 48)).alloc (.cells #[.int .i64 0, .int .i64 0, .string ⟨#[]⟩, .int .i64 0] 29)).cell? ⟨w.heap.size + 1, i, none⟩ := fun i => gB.cell (p := ⟨w.heap.size + 1, i, none⟩) (by show w.heap.size + 1 < _; omega)
    have f2' : ∀ i, X.frozen? ⟨w.heap.size + 1, i, none⟩ = ((w.alloc (.cells #[.int .i64 0, .int .i64 0, .slice none 0 0] 48)).alloc (.cells #[.int .i64 0, .int .i64 0, .string ⟨#[]⟩, .int .i64 0] 29)).frozen? ⟨w.heap.size + 1, i, none⟩ := fun i => gB.frozen (p := ⟨w.heap.size + 1, i, none⟩) (by show w.heap.size + 1 < _; omega)
    exact ⟨⟨⟨by rw [h1, h1']; simp, by rw [h1, h1']; simp, by rw [h1, h1']; simp⟩, by rw [h2, h2']; simp, by rw [h2, h2']; simp, by rw [h2, h2']; simp, by rw [h2, h2']; simp⟩, fun i => by rw [f1, f1']; simp, fun i => by rw [f2, f2']; simp⟩
/-- Seven cells of two blocks, written. -/
theorem seven_set {W : World} {R Q : Nat} (hne : R ≠ Q) {x y z a b c d x' y' z' a' b' c' d' : Value} (h0 : W.cell? ⟨R, 0, none⟩ = some x') (h1 : W.cell? ⟨R, 1, none⟩ = some y') (h2 : W.cell? ⟨R, 2, none⟩ = some z') (k0 : W.cell? ⟨Q, 0, none⟩ = some a') (k1 : W.cell? ⟨Q, 1, none⟩ = some b') (k2 : W.cell? ⟨Q, 2, none⟩ = some c') (k3 : W.cell? ⟨Q, 3, none⟩ = some d')
    {W' : World} (hW : W' = ((((((W.setCell ⟨R, 0, none⟩ x).setCell ⟨R, 1, none⟩ y).setCell ⟨R, 2, none⟩ z).setCell ⟨Q, 0, none⟩ a).setCell ⟨Q, 1, none⟩ b).setCell ⟨Q, 2, none⟩ c).setCell ⟨Q, 3, none⟩ d) :
    (W'.cell? ⟨R, 0, none⟩ = some x ∧ W'.cell? ⟨R, 1, none⟩ = some y ∧ W'.cell? ⟨R, 2, none⟩ = some z) ∧ (W'.cell? ⟨Q, 0, none⟩ = some a ∧ W'.cell? ⟨Q, 1, none⟩ = some b ∧ W'.cell? ⟨Q, 2, none⟩ = some c ∧ W'.cell? ⟨Q, 3, none⟩ = some d) ∧ ∀ k i, k ≠ R → k ≠ Q → W'.cell? ⟨k, i, none⟩ = W.cell? ⟨k, i, none⟩ := by
  subst hW
  have o : ∀ (v : World) (g i j : Nat) (s : Value), ¬ i = j → (v.setCell ⟨g, i, none⟩ s).cell? ⟨g, j, none⟩ = v.cell? ⟨g, j, none⟩ := fun v g i j s h => World.cell?_setCell_other _ _ _ _ (fun q => h (congrArg Addr.off q))
  have p : ∀ (v : World) (g k i j : Nat) (s : Value), ¬ g = k → (v.setCell ⟨g, i, none⟩ s).cell? ⟨k, j, none⟩ = v.cell? ⟨k, j, none⟩ := fun v g k i j s h => World.cell?_setCell_other _ _ _ _ (fun q => h (congrArg Addr.block q))
  have hne' : ¬ Q = R := fun e => hne e.symm
  refine ⟨⟨?_, ?_, ?_⟩, ⟨?_, ?_, ?_, ?_⟩, fun k i hR hQ => ?_⟩
  · rw [p _ _ _ _ _ _ hne', p _ _ _ _ _ _ hne', p _ _ _ _ _ _ hne', p _ _ _ _ _ _ hne', o _ _ _ _ _ (by decide), o _ _ _ _ _ (by decide)]
    exact World.cell?_setCell_same _ _ _ h0
  · rw [p _ _ _ _ _ _ hne', p _ _ _ _ _ _ hne', p _ _ _ _ _ _ hne', p _ _ _ _ _ _ hne', o _ _ _ _ _ (by decide)]
    exact World.cell?_setCell_same _ _ _ (u := y') (by rw [o _ _ _ _ _ (by decide)]; exact h1)
  · rw [p _ _ _ _ _ _ hne', p _ _ _ _ _ _ hne', p _ _ _ _ _ _ hne', p _ _ _ _ _ _ hne']
    exact World.cell?_setCell_same _ _ _ (u := z') (by rw [o _ _ _ _ _ (by decide), o _ _ _ _ _ (by decide)]; exact h2)
  · rw [o _ _ _ _ _ (by decide), o _ _ _ _ _ (by decide), o _ _ _ _ _ (by decide)]
    exact World.cell?_setCell_same _ _ _ (u := a') (by rw [p _ _ _ _ _ _ hne, p _ _ _ _ _ _ hne, p _ _ _ _ _ _ hne]; exact k0)
  · rw [o _ _ _ _ _ (by decide), o _ _ _ _ _ (by decide)]
    exact World.cell?_setCell_same _ _ _ (u := b') (by rw [o _ _ _ _ _ (by decide), p _ _ _ _ _ _ hne, p _ _ _ _ _ _ hne, p _ _ _ _ _ _ hne]; exact k1)
  · rw [o _ _ _ _ _ (by decide)]
    exact World.cell?_setCell_same _ _ _ (u := c') (by rw [o _ _ _ _ _ (by decide), o _ _ _ _ _ (by decide), p _ _ _ _ _ _ hne, p _ _ _ _ _ _ hne, p _ _ _ _ _ _ hne]; exact k2)
  · exact World.cell?_setCell_same _ _ _ (u := d') (by rw [o _ _ _ _ _ (by decide), o _ _ _ _ _ (by decide), o _ _ _ _ _ (by decide), p _ _ _ _ _ _ hne, p _ _ _ _ _ _ hne, p _ _ _ _ _ _ hne]; exact k3)
  · rw [p _ _ _ _ _ _ (Ne.symm hQ), p _ _ _ _ _ _ (Ne.symm hQ), p _ _ _ _ _ _ (Ne.symm hQ), p _ _ _ _ _ _ (Ne.symm hQ), p _ _ _ _ _ _ (Ne.symm hR), p _ _ _ _ _ _ (Ne.symm hR), p _ _ _ _ _ _ (Ne.symm hR)]
set_option maxRecDepth 100000 in
set_option maxHeartbeats 32000000 in
theorem rbread_go (ao : Option Addr) (cap : Nat) (l : List Int) (w : World) (hv : Sl bc w (.slice ao l.length cap) l) (hl : l.length ≤ 4000) (hby : Byt l) :
    Calls Tryz.prog 31 #[.slice ao l.length cap] w fun e w' => ∃ vx, e = .returned (.tuple #[vx, .agg #[.int .i64 (readB l).1.pt, .int .i64 (readB l).1.c, .string (readB l).1.op, .int .i64 (whS (readB l).1)]]) ∧ IsB (fun k => w.heap.size ≤ k) (fun k => w.heap.size ≤ k) w' vx (readB l).2 ∧ Below w.heap.size w w' := by
  obtain ⟨hb0, hs0, hc0, hk0⟩ := seven_in w ao cap l (X := (((w.alloc (.cells #[.int .i64 0, .int .i64 0, .slice none 0 0] 48)).alloc (.cells #[.int .i64 0, .int .i64 0, .string ⟨#[]⟩, .int .i64 0] 29)).alloc (.cells #[.slice ao l.length cap, .int .i64 0, .int .i64 0, .string ⟨#[]⟩, .int .i64 0] 31))) rfl
  have HB0 := hide hb0
  have HS0 := hide hs0
  have HC0 := hide hc0
  have HK := hide hk0
  have HV := hide hv
  have HBY := hide hby
  have HRB : Hid (readB l = (endS l (nextG l (okS 0)).1, if (endS l (nextG l (okS 0)).1).c = 0 then (nextG l (okS 0)).2 else Bt.zero)) := hide rfl
  generalize readB l = RB at HRB ⊢
  clear hb0 hs0 hc0 hk0 hv hby
  go_enter Tryz.func31, Tryz.ntmps31
  go_upto_region 2 with fail
  generalize (((w.alloc (.cells #[.int .i64 0, .int .i64 0, .slice none 0 0] 48)).alloc (.cells #[.int .i64 0, .int .i64 0, .string ⟨#[]⟩, .int .i64 0] 29)).alloc (.cells #[.slice ao l.length cap, .int .i64 0, .int .i64 0, .string ⟨#[]⟩, .int .i64 0] 31)) = X at HB0 HS0 HC0 HK ⊢
  have hzX : w.heap.size + 2 < X.heap.size := by rw [HS0.out]; omega
  have HN := hide (rnext_any (w.heap.size + 2) (.slice ao l.length cap) l (okS 0) w X HC0.out HV.out HB0.out (by omega) hl HBY.out (Nat.zero_le _))
  generalize nextG l (okS 0) = NG at *
  obtain ⟨sn, x⟩ := NG
  simp only at HN HRB
  go_upto_region 3 with (first | (go_at_call 33; refine HN.out.mono ?_; rintro e W2 ⟨vx, rfl, hx2, hr2, hb2⟩; obtain ⟨u, ps, rfl, hl2, hps⟩ := hx2; obtain ⟨a2, c2, rfl⟩ := hl2.form))
  obtain ⟨Y, hY⟩ : ∃ Y, Y = W2.alloc (.cells #[.int .i64 x.t, .int .i64 x.b, .slice a2 ps.length c2] 48) := ⟨_, rfl⟩
  have hbY : Below W2.heap.size W2 Y := by rw [hY]; exact (Below.refl _ _).alloc (Nat.le_refl _) _
  have y0 : Y.cell? ⟨W2.heap.size, 0, none⟩ = some (.int .i64 x.t) := by rw [hY]; simp
  have y1 : Y.cell? ⟨W2.heap.size, 1, none⟩ = some (.int .i64 x.b) := by rw [hY]; simp
  have y2 : Y.cell? ⟨W2.heap.size, 2, none⟩ = some (.slice a2 ps.length c2) := by rw [hY]; simp
  have hyl : W2.heap.size < Y.heap.size := cell_block y0
  have hz2 : X.heap.size ≤ W2.heap.size := hb2.size
  show Code.wp _ _ _ _ _
  rw [← hY]
  have HBYY := hide (hb2.call hbY)
  have HE := hide (cuend_gs (w.heap.size + 2) (.slice ao l.length cap) l sn w Y (hr2.below hbY) HV.out)
  rw [show (if sn.pt < l.length then refS ⟨#[101, 110, 100]⟩ 5 sn else sn) = endS l sn from rfl] at HE
  have HLY := hide (hl2.below hbY)
  have HPS := hide hps
  have HYY := hide (And.intro y0 (And.intro y1 y2))
  generalize endS l sn = sE at *
  clear hr2 hb2 hl2 hps hY hbY y0 y1 y2 HN HC0
  generalize W2.heap.size = D at *
  go_upto_region 4 with (first | (go_at_call 15; refine HE.out.mono ?_; rintro e W3 ⟨rfl, hr3, hb3⟩))
  have hne : D ≠ w.heap.size + 2 := by omega
  have y0 : W3.cell? ⟨D, 0, none⟩ = some (.int .i64 x.t) := (hb3.cell hyl hne).trans HYY.out.1
  have y1 : W3.cell? ⟨D, 1, none⟩ = some (.int .i64 x.b) := (hb3.cell hyl hne).trans HYY.out.2.1
  have y2 : W3.cell? ⟨D, 2, none⟩ = some (.slice a2 ps.length c2) := (hb3.cell hyl hne).trans HYY.out.2.2
  have HBX := hide (HBYY.out.trans hb3)
  have HB3 : Hid (Below (w.heap.size + 2) X W3) := hide (HBX.out.below (by omega))
  have HBF : Hid (Below w.heap.size w W3) := hide (HB0.out.trans (HB3.out.mono (by omega)))
  have HL3 : Hid (Rl (fun k => X.heap.size ≤ k) (fun k => X.heap.size ≤ k) W3 (.slice a2 ps.length c2) ps) := hide (HLY.out.imp (fun _ _ q => q) (fun _ _ q => q) (fun b i hl hk => hb3.cell hl (by omega)))
  obtain ⟨⟨⟨r0, r1, r2⟩, t0, t1, t2, t3⟩, rf, tf⟩ := HK.out W3 HB3.out
  obtain ⟨_, e1, e2, e3, e4, _⟩ := hr3
  have rf0 := rf 0
  have rf1 := rf 1
  have rf2 := rf 2
  have tf0 := tf 0
  have tf1 := tf 1
  have tf2 := tf 2
  have tf3 := tf 3
  clear hb3 HE HK HYY HLY HBYY HBX rf tf
  by_cases hc : sE.c = 0
  · have HRE : Hid (RB = (sE, x)) := hide (by rw [HRB.out, if_pos hc])
    rw [hc] at e2
    go_upto_region 6 with fail
    refine wp_region_held_drew (S := fun _ => True) (by kernel_rfl) trivial (fun hHeld => ?_)
    refine wpAnyH_take (i := 1) (oi := _) (v := .pointer (some ⟨w.heap.size + 2, 0, none⟩)) rfl (by kernel_rfl) (by kernel_rfl) (by kernel_rfl) (fun _ _ _ h => h) (Or.inl ⟨by rfl, by intro w hSw; go_simp⟩) hHeld ?_
    change wpAnyH _ _ _ _ _ _ _ (Act.put _ (some 25) _) _
    simp only [Act.put, List.setIfInBounds_toArray, List.set_cons_zero, List.set_cons_succ]
    refine wpAnyH_take (i := 2) (oi := _) (v := .pointer (some ⟨w.heap.size + 2, 0, none⟩)) rfl (by kernel_rfl) (by kernel_rfl) (by kernel_rfl) (fun _ _ _ h => h) (Or.inl ⟨by rfl, by intro w hSw; go_simp⟩) hHeld ?_
    change wpAnyH _ _ _ _ _ _ _ (Act.put _ (some 26) _) _
    simp only [Act.put, List.setIfInBounds_toArray, List.set_cons_zero, List.set_cons_succ]
    refine wpAnyH_take (i := 3) (oi := _) (v := .pointer (some ⟨w.heap.size + 2, 1, none⟩)) rfl (by kernel_rfl) (by kernel_rfl) (by kernel_rfl) (fun _ _ _ h => h) (Or.inl ⟨by rfl, by intro w hSw; go_simp⟩) hHeld ?_
    change wpAnyH _ _ _ _ _ _ _ (Act.put _ (some 27) _) _
    simp only [Act.put, List.setIfInBounds_toArray, List.set_cons_zero, List.set_cons_succ]
    refine wpAnyH_ready (rs := [0, 4]) (by kernel_rfl) (by simp) ?_
    refine AllReadyH.cons (o := _) rfl (fun K hK => ?_) (AllReadyH.cons (o := _) rfl (fun K hK => ?_) AllReadyH.nil)
    · go_simp
      refine hK.out _ _ ?_ (fun hHeld1 => ?_)
      · exact trivial
      clear hK K hHeld
      have hHeld := hHeld1
      clear hHeld1
      refine wpAnyH_ready (rs := [4, 5]) (by kernel_rfl) (by simp) ?_
      refine AllReadyH.cons (o := _) rfl (fun K hK => ?_) (AllReadyH.cons (o := _) rfl (fun K hK => ?_) AllReadyH.nil)
      · go_simp
        refine hK.out _ _ ?_ (fun hHeld1 => ?_)
        · exact trivial
        clear hK K hHeld
        have hHeld := hHeld1
        clear hHeld1
        refine wpAnyH_ready (rs := [5]) (by kernel_rfl) (by simp) ?_
        refine AllReadyH.cons (o := _) rfl (fun K hK => ?_) AllReadyH.nil
        go_simp
        refine hK.out _ _ ?_ (fun hHeld1 => ?_)
        · exact trivial
        clear hK K hHeld
        have hHeld := hHeld1
        clear hHeld1
        refine wpAnyH_ready (rs := [6]) (by kernel_rfl) (by simp) ?_
        refine AllReadyH.cons (o := _) rfl (fun K hK => ?_) AllReadyH.nil
        go_simp
        refine hK.out _ _ ?_ (fun hHeld1 => ?_)
        · exact trivial
        clear hK K hHeld
        have hHeld := hHeld1
        clear hHeld1
        refine wpAnyH_done (by kernel_rfl) ?_ _
        clear hHeld
        have HBW : Hid (Below w.heap.size w (((((((W3.setCell ⟨w.heap.size, 0, none⟩ (.int .i64 x.t)).setCell ⟨w.heap.size, 1, none⟩ (.int .i64 x.b)).setCell ⟨w.heap.size, 2, none⟩ (.slice a2 ps.length c2)).setCell ⟨w.heap.size + 1, 0, none⟩ (.int .i64 sE.pt)).setCell ⟨w.heap.size + 1, 1, none⟩ (.int .i64 0)).setCell ⟨w.heap.size + 1, 2, none⟩ (.string sE.op)).setCell ⟨w.heap.size + 1, 3, none⟩ (.int .i64 (whS sE)))) := hide (((((((HBF.out).setCell (by exact Nat.le_refl _) _).setCell (by exact Nat.le_refl _) _).setCell (by exact Nat.le_refl _) _).setCell (by exact Nat.le_succ _) _).setCell (by exact Nat.le_succ _) _).setCell (by exact Nat.le_succ _) _ |>.setCell (by exact Nat.le_succ _) _)
        obtain ⟨WF, hWF⟩ : ∃ WF, WF = ((((((W3.setCell ⟨w.heap.size, 0, none⟩ (.int .i64 x.t)).setCell ⟨w.heap.size, 1, none⟩ (.int .i64 x.b)).setCell ⟨w.heap.size, 2, none⟩ (.slice a2 ps.length c2)).setCell ⟨w.heap.size + 1, 0, none⟩ (.int .i64 sE.pt)).setCell ⟨w.heap.size + 1, 1, none⟩ (.int .i64 0)).setCell ⟨w.heap.size + 1, 2, none⟩ (.string sE.op)).setCell ⟨w.heap.size + 1, 3, none⟩ (.int .i64 (whS sE)) := ⟨_, rfl⟩
        obtain ⟨⟨q0, q1, q2⟩, ⟨z0, z1, z2, z3⟩, hoth⟩ := seven_set (R := w.heap.size) (Q := w.heap.size + 1) (by omega) (W := W3) r0 r1 r2 t0 t1 t2 t3 hWF
        rw [← hWF] at HBW
        rw [← hWF]
        have HBW2 : Hid (Below w.heap.size w WF.drew) := hide (HBW.out.trans ((Below.refl _ _).drew))
        have HOTH : Hid (∀ k i, k ≠ w.heap.size → k ≠ w.heap.size + 1 → WF.drew.cell? ⟨k, i, none⟩ = W3.cell? ⟨k, i, none⟩) := hide hoth
        replace q0 : WF.drew.cell? ⟨w.heap.size, 0, none⟩ = _ := q0
        replace q1 : WF.drew.cell? ⟨w.heap.size, 1, none⟩ = _ := q1
        replace q2 : WF.drew.cell? ⟨w.heap.size, 2, none⟩ = _ := q2
        replace z0 : WF.drew.cell? ⟨w.heap.size + 1, 0, none⟩ = _ := z0
        replace z1 : WF.drew.cell? ⟨w.heap.size + 1, 1, none⟩ = _ := z1
        replace z2 : WF.drew.cell? ⟨w.heap.size + 1, 2, none⟩ = _ := z2
        replace z3 : WF.drew.cell? ⟨w.heap.size + 1, 3, none⟩ = _ := z3
        clear hWF HBW
        generalize WF.drew = WD at *
        clear hoth r0 r1 r2 t0 t1 t2 t3 rf0 rf1 rf2 tf0 tf1 tf2 tf3 y0 y1 y2 e1 e2 e3 e4
        go_wp2_with fail
        exact bodyPost_ret (v := .tuple #[.agg #[.int .i64 x.t, .int .i64 x.b, .slice a2 ps.length c2], .agg #[.int .i64 sE.pt, .int .i64 0, .string sE.op, .int .i64 (whS sE)]]) (by simp [results, Tryz.results31, go_sem, q0, q1, q2, z0, z1, z2, z3]) rfl ⟨_, by rw [HRE.out, hc], by rw [HRE.out]; exact ⟨_, ps, rfl, HL3.out.imp (fun k _ q => by omega) (fun k _ q => by omega) (fun b i _ hk => HOTH.out b i (by omega) (by omega)), HPS.out⟩, HBW2.out⟩
      · go_simp
        refine hK.out _ _ ?_ (fun hHeld1 => ?_)
        · exact trivial
        clear hK K hHeld
        have hHeld := hHeld1
        clear hHeld1
        refine wpAnyH_ready (rs := [4]) (by kernel_rfl) (by simp) ?_
        refine AllReadyH.cons (o := _) rfl (fun K hK => ?_) AllReadyH.nil
        go_simp
        refine hK.out _ _ ?_ (fun hHeld1 => ?_)
        · exact trivial
        clear hK K hHeld
        have hHeld := hHeld1
        clear hHeld1
        refine wpAnyH_ready (rs := [6]) (by kernel_rfl) (by simp) ?_
        refine AllReadyH.cons (o := _) rfl (fun K hK => ?_) AllReadyH.nil
        go_simp
        refine hK.out _ _ ?_ (fun hHeld1 => ?_)
        · exact trivial
        clear hK K hHeld
        have hHeld := hHeld1
        clear hHeld1
        refine wpAnyH_done (by kernel_rfl) ?_ _
        clear hHeld
        have HBW : Hid (Below w.heap.size w (((((((W3.setCell ⟨w.heap.size, 0, none⟩ (.int .i64 x.t)).setCell ⟨w.heap.size, 1, none⟩ (.int .i64 x.b)).setCell ⟨w.heap.size, 2, none⟩ (.slice a2 ps.length c2)).setCell ⟨w.heap.size + 1, 0, none⟩ (.int .i64 sE.pt)).setCell ⟨w.heap.size + 1, 1, none⟩ (.int .i64 0)).setCell ⟨w.heap.size + 1, 2, none⟩ (.string sE.op)).setCell ⟨w.heap.size + 1, 3, none⟩ (.int .i64 (whS sE)))) := hide (((((((HBF.out).setCell (by exact Nat.le_refl _) _).setCell (by exact Nat.le_refl _) _).setCell (by exact Nat.le_refl _) _).setCell (by exact Nat.le_succ _) _).setCell (by exact Nat.le_succ _) _).setCell (by exact Nat.le_succ _) _ |>.setCell (by exact Nat.le_succ _) _)
        obtain ⟨WF, hWF⟩ : ∃ WF, WF = ((((((W3.setCell ⟨w.heap.size, 0, none⟩ (.int .i64 x.t)).setCell ⟨w.heap.size, 1, none⟩ (.int .i64 x.b)).setCell ⟨w.heap.size, 2, none⟩ (.slice a2 ps.length c2)).setCell ⟨w.heap.size + 1, 0, none⟩ (.int .i64 sE.pt)).setCell ⟨w.heap.size + 1, 1, none⟩ (.int .i64 0)).setCell ⟨w.heap.size + 1, 2, none⟩ (.string sE.op)).setCell ⟨w.heap.size + 1, 3, none⟩ (.int .i64 (whS sE)) := ⟨_, rfl⟩
        obtain ⟨⟨q0, q1, q2⟩, ⟨z0, z1, z2, z3⟩, hoth⟩ := seven_set (R := w.heap.size) (Q := w.heap.size + 1) (by omega) (W := W3) r0 r1 r2 t0 t1 t2 t3 hWF
        rw [← hWF] at HBW
        rw [← hWF]
        have HBW2 : Hid (Below w.heap.size w WF.drew) := hide (HBW.out.trans ((Below.refl _ _).drew))
        have HOTH : Hid (∀ k i, k ≠ w.heap.size → k ≠ w.heap.size + 1 → WF.drew.cell? ⟨k, i, none⟩ = W3.cell? ⟨k, i, none⟩) := hide hoth
        replace q0 : WF.drew.cell? ⟨w.heap.size, 0, none⟩ = _ := q0
        replace q1 : WF.drew.cell? ⟨w.heap.size, 1, none⟩ = _ := q1
        replace q2 : WF.drew.cell? ⟨w.heap.size, 2, none⟩ = _ := q2
        replace z0 : WF.drew.cell? ⟨w.heap.size + 1, 0, none⟩ = _ := z0
        replace z1 : WF.drew.cell? ⟨w.heap.size + 1, 1, none⟩ = _ := z1
        replace z2 : WF.drew.cell? ⟨w.heap.size + 1, 2, none⟩ = _ := z2
        replace z3 : WF.drew.cell? ⟨w.heap.size + 1, 3, none⟩ = _ := z3
        clear hWF HBW
        generalize WF.drew = WD at *
        clear hoth r0 r1 r2 t0 t1 t2 t3 rf0 rf1 rf2 tf0 tf1 tf2 tf3 y0 y1 y2 e1 e2 e3 e4
        go_wp2_with fail
        exact bodyPost_ret (v := .tuple #[.agg #[.int .i64 x.t, .int .i64 x.b, .slice a2 ps.length c2], .agg #[.int .i64 sE.pt, .int .i64 0, .string sE.op, .int .i64 (whS sE)]]) (by simp [results, Tryz.results31, go_sem, q0, q1, q2, z0, z1, z2, z3]) rfl ⟨_, by rw [HRE.out, hc], by rw [HRE.out]; exact ⟨_, ps, rfl, HL3.out.imp (fun k _ q => by omega) (fun k _ q => by omega) (fun b i _ hk => HOTH.out b i (by omega) (by omega)), HPS.out⟩, HBW2.out⟩
    · go_simp
      refine hK.out _ _ ?_ (fun hHeld1 => ?_)
      · exact trivial
      clear hK K hHeld
      have hHeld := hHeld1
      clear hHeld1
      refine wpAnyH_ready (rs := [0]) (by kernel_rfl) (by simp) ?_
      refine AllReadyH.cons (o := _) rfl (fun K hK => ?_) AllReadyH.nil
      go_simp
      refine hK.out _ _ ?_ (fun hHeld1 => ?_)
      · exact trivial
      clear hK K hHeld
      have hHeld := hHeld1
      clear hHeld1
      refine wpAnyH_ready (rs := [5]) (by kernel_rfl) (by simp) ?_
      refine AllReadyH.cons (o := _) rfl (fun K hK => ?_) AllReadyH.nil
      go_simp
      refine hK.out _ _ ?_ (fun hHeld1 => ?_)
      · exact trivial
      clear hK K hHeld
      have hHeld := hHeld1
      clear hHeld1
      refine wpAnyH_ready (rs := [6]) (by kernel_rfl) (by simp) ?_
      refine AllReadyH.cons (o := _) rfl (fun K hK => ?_) AllReadyH.nil
      go_simp
      refine hK.out _ _ ?_ (fun hHeld1 => ?_)
      · exact trivial
      clear hK K hHeld
      have hHeld := hHeld1
      clear hHeld1
      refine wpAnyH_done (by kernel_rfl) ?_ _
      clear hHeld
      have HBW : Hid (Below w.heap.size w (((((((W3.setCell ⟨w.heap.size, 0, none⟩ (.int .i64 x.t)).setCell ⟨w.heap.size, 1, none⟩ (.int .i64 x.b)).setCell ⟨w.heap.size, 2, none⟩ (.slice a2 ps.length c2)).setCell ⟨w.heap.size + 1, 0, none⟩ (.int .i64 sE.pt)).setCell ⟨w.heap.size + 1, 1, none⟩ (.int .i64 0)).setCell ⟨w.heap.size + 1, 2, none⟩ (.string sE.op)).setCell ⟨w.heap.size + 1, 3, none⟩ (.int .i64 (whS sE)))) := hide (((((((HBF.out).setCell (by exact Nat.le_refl _) _).setCell (by exact Nat.le_refl _) _).setCell (by exact Nat.le_refl _) _).setCell (by exact Nat.le_succ _) _).setCell (by exact Nat.le_succ _) _).setCell (by exact Nat.le_succ _) _ |>.setCell (by exact Nat.le_succ _) _)
      obtain ⟨WF, hWF⟩ : ∃ WF, WF = ((((((W3.setCell ⟨w.heap.size, 0, none⟩ (.int .i64 x.t)).setCell ⟨w.heap.size, 1, none⟩ (.int .i64 x.b)).setCell ⟨w.heap.size, 2, none⟩ (.slice a2 ps.length c2)).setCell ⟨w.heap.size + 1, 0, none⟩ (.int .i64 sE.pt)).setCell ⟨w.heap.size + 1, 1, none⟩ (.int .i64 0)).setCell ⟨w.heap.size + 1, 2, none⟩ (.string sE.op)).setCell ⟨w.heap.size + 1, 3, none⟩ (.int .i64 (whS sE)) := ⟨_, rfl⟩
      obtain ⟨⟨q0, q1, q2⟩, ⟨z0, z1, z2, z3⟩, hoth⟩ := seven_set (R := w.heap.size) (Q := w.heap.size + 1) (by omega) (W := W3) r0 r1 r2 t0 t1 t2 t3 hWF
      rw [← hWF] at HBW
      rw [← hWF]
      have HBW2 : Hid (Below w.heap.size w WF.drew) := hide (HBW.out.trans ((Below.refl _ _).drew))
      have HOTH : Hid (∀ k i, k ≠ w.heap.size → k ≠ w.heap.size + 1 → WF.drew.cell? ⟨k, i, none⟩ = W3.cell? ⟨k, i, none⟩) := hide hoth
      replace q0 : WF.drew.cell? ⟨w.heap.size, 0, none⟩ = _ := q0
      replace q1 : WF.drew.cell? ⟨w.heap.size, 1, none⟩ = _ := q1
      replace q2 : WF.drew.cell? ⟨w.heap.size, 2, none⟩ = _ := q2
      replace z0 : WF.drew.cell? ⟨w.heap.size + 1, 0, none⟩ = _ := z0
      replace z1 : WF.drew.cell? ⟨w.heap.size + 1, 1, none⟩ = _ := z1
      replace z2 : WF.drew.cell? ⟨w.heap.size + 1, 2, none⟩ = _ := z2
      replace z3 : WF.drew.cell? ⟨w.heap.size + 1, 3, none⟩ = _ := z3
      clear hWF HBW
      generalize WF.drew = WD at *
      clear hoth r0 r1 r2 t0 t1 t2 t3 rf0 rf1 rf2 tf0 tf1 tf2 tf3 y0 y1 y2 e1 e2 e3 e4
      go_wp2_with fail
      exact bodyPost_ret (v := .tuple #[.agg #[.int .i64 x.t, .int .i64 x.b, .slice a2 ps.length c2], .agg #[.int .i64 sE.pt, .int .i64 0, .string sE.op, .int .i64 (whS sE)]]) (by simp [results, Tryz.results31, go_sem, q0, q1, q2, z0, z1, z2, z3]) rfl ⟨_, by rw [HRE.out, hc], by rw [HRE.out]; exact ⟨_, ps, rfl, HL3.out.imp (fun k _ q => by omega) (fun k _ q => by omega) (fun b i _ hk => HOTH.out b i (by omega) (by omega)), HPS.out⟩, HBW2.out⟩
  · have HRE : Hid (RB = (sE, Bt.zero)) := hide (by rw [HRB.out, if_neg hc])
    have hcb : (sE.c != 0) = true := by simp [hc]
    go_upto_region 5 with fail
    refine wp_region_held_drew (S := fun _ => True) (by kernel_rfl) trivial (fun hHeld => ?_)
    refine wpAnyH_take (i := 1) (oi := _) (v := .pointer (some ⟨w.heap.size + 2, 0, none⟩)) rfl (by kernel_rfl) (by kernel_rfl) (by kernel_rfl) (fun _ _ _ h => h) (Or.inl ⟨by rfl, by intro w hSw; go_simp⟩) hHeld ?_
    change wpAnyH _ _ _ _ _ _ _ (Act.put _ (some 20) _) _
    simp only [Act.put, List.setIfInBounds_toArray, List.set_cons_zero, List.set_cons_succ]
    refine wpAnyH_take (i := 2) (oi := _) (v := .pointer (some ⟨w.heap.size + 2, 0, none⟩)) rfl (by kernel_rfl) (by kernel_rfl) (by kernel_rfl) (fun _ _ _ h => h) (Or.inl ⟨by rfl, by intro w hSw; go_simp⟩) hHeld ?_
    change wpAnyH _ _ _ _ _ _ _ (Act.put _ (some 21) _) _
    simp only [Act.put, List.setIfInBounds_toArray, List.set_cons_zero, List.set_cons_succ]
    refine wpAnyH_take (i := 3) (oi := _) (v := .pointer (some ⟨w.heap.size + 2, 1, none⟩)) rfl (by kernel_rfl) (by kernel_rfl) (by kernel_rfl) (fun _ _ _ h => h) (Or.inl ⟨by rfl, by intro w hSw; go_simp⟩) hHeld ?_
    change wpAnyH _ _ _ _ _ _ _ (Act.put _ (some 22) _) _
    simp only [Act.put, List.setIfInBounds_toArray, List.set_cons_zero, List.set_cons_succ]
    refine wpAnyH_take (i := 0) (oi := _) (v := .agg #[.int .i64 0, .int .i64 0, .slice none 0 0]) rfl (by kernel_rfl) (by kernel_rfl) (by kernel_rfl) (fun _ _ _ h => h) (Or.inl ⟨by rfl, by intro w hSw; go_simp⟩) hHeld ?_
    change wpAnyH _ _ _ _ _ _ _ (Act.put _ (some 19) _) _
    simp only [Act.put, List.setIfInBounds_toArray, List.set_cons_zero, List.set_cons_succ]
    refine wpAnyH_ready (rs := [4, 5]) (by kernel_rfl) (by simp) ?_
    refine AllReadyH.cons (o := _) rfl (fun K hK => ?_) (AllReadyH.cons (o := _) rfl (fun K hK => ?_) AllReadyH.nil)
    · go_simp
      refine hK.out _ _ ?_ (fun hHeld1 => ?_)
      · exact trivial
      clear hK K hHeld
      have hHeld := hHeld1
      clear hHeld1
      refine wpAnyH_ready (rs := [5]) (by kernel_rfl) (by simp) ?_
      refine AllReadyH.cons (o := _) rfl (fun K hK => ?_) AllReadyH.nil
      go_simp
      refine hK.out _ _ ?_ (fun hHeld1 => ?_)
      · exact trivial
      clear hK K hHeld
      have hHeld := hHeld1
      clear hHeld1
      refine wpAnyH_ready (rs := [6]) (by kernel_rfl) (by simp) ?_
      refine AllReadyH.cons (o := _) rfl (fun K hK => ?_) AllReadyH.nil
      go_simp
      refine hK.out _ _ ?_ (fun hHeld1 => ?_)
      · exact trivial
      clear hK K hHeld
      have hHeld := hHeld1
      clear hHeld1
      refine wpAnyH_done (by kernel_rfl) ?_ _
      clear hHeld
      have HBW : Hid (Below w.heap.size w (((((((W3.setCell ⟨w.heap.size, 0, none⟩ (.int .i64 0)).setCell ⟨w.heap.size, 1, none⟩ (.int .i64 0)).setCell ⟨w.heap.size, 2, none⟩ (.slice none 0 0)).setCell ⟨w.heap.size + 1, 0, none⟩ (.int .i64 sE.pt)).setCell ⟨w.heap.size + 1, 1, none⟩ (.int .i64 sE.c)).setCell ⟨w.heap.size + 1, 2, none⟩ (.string sE.op)).setCell ⟨w.heap.size + 1, 3, none⟩ (.int .i64 (whS sE)))) := hide (((((((HBF.out).setCell (by exact Nat.le_refl _) _).setCell (by exact Nat.le_refl _) _).setCell (by exact Nat.le_refl _) _).setCell (by exact Nat.le_succ _) _).setCell (by exact Nat.le_succ _) _).setCell (by exact Nat.le_succ _) _ |>.setCell (by exact Nat.le_succ _) _)
      obtain ⟨WF, hWF⟩ : ∃ WF, WF = ((((((W3.setCell ⟨w.heap.size, 0, none⟩ (.int .i64 0)).setCell ⟨w.heap.size, 1, none⟩ (.int .i64 0)).setCell ⟨w.heap.size, 2, none⟩ (.slice none 0 0)).setCell ⟨w.heap.size + 1, 0, none⟩ (.int .i64 sE.pt)).setCell ⟨w.heap.size + 1, 1, none⟩ (.int .i64 sE.c)).setCell ⟨w.heap.size + 1, 2, none⟩ (.string sE.op)).setCell ⟨w.heap.size + 1, 3, none⟩ (.int .i64 (whS sE)) := ⟨_, rfl⟩
      obtain ⟨⟨q0, q1, q2⟩, ⟨z0, z1, z2, z3⟩, hoth⟩ := seven_set (R := w.heap.size) (Q := w.heap.size + 1) (by omega) (W := W3) r0 r1 r2 t0 t1 t2 t3 hWF
      rw [← hWF] at HBW
      rw [← hWF]
      have HBW2 : Hid (Below w.heap.size w WF.drew) := hide (HBW.out.trans ((Below.refl _ _).drew))
      have HOTH : Hid (∀ k i, k ≠ w.heap.size → k ≠ w.heap.size + 1 → WF.drew.cell? ⟨k, i, none⟩ = W3.cell? ⟨k, i, none⟩) := hide hoth
      replace q0 : WF.drew.cell? ⟨w.heap.size, 0, none⟩ = _ := q0
      replace q1 : WF.drew.cell? ⟨w.heap.size, 1, none⟩ = _ := q1
      replace q2 : WF.drew.cell? ⟨w.heap.size, 2, none⟩ = _ := q2
      replace z0 : WF.drew.cell? ⟨w.heap.size + 1, 0, none⟩ = _ := z0
      replace z1 : WF.drew.cell? ⟨w.heap.size + 1, 1, none⟩ = _ := z1
      replace z2 : WF.drew.cell? ⟨w.heap.size + 1, 2, none⟩ = _ := z2
      replace z3 : WF.drew.cell? ⟨w.heap.size + 1, 3, none⟩ = _ := z3
      clear hWF HBW
      generalize WF.drew = WD at *
      clear hoth r0 r1 r2 t0 t1 t2 t3 rf0 rf1 rf2 tf0 tf1 tf2 tf3 y0 y1 y2 e1 e2 e3 e4
      go_wp2_with fail
      exact bodyPost_ret (v := .tuple #[.agg #[.int .i64 0, .int .i64 0, .slice none 0 0], .agg #[.int .i64 sE.pt, .int .i64 sE.c, .string sE.op, .int .i64 (whS sE)]]) (by simp [results, Tryz.results31, go_sem, q0, q1, q2, z0, z1, z2, z3]) rfl ⟨_, by rw [HRE.out], by rw [HRE.out]; exact isB_zero _ _ _, HBW2.out⟩
    · go_simp
      refine hK.out _ _ ?_ (fun hHeld1 => ?_)
      · exact trivial
      clear hK K hHeld
      have hHeld := hHeld1
      clear hHeld1
      refine wpAnyH_ready (rs := [4]) (by kernel_rfl) (by simp) ?_
      refine AllReadyH.cons (o := _) rfl (fun K hK => ?_) AllReadyH.nil
      go_simp
      refine hK.out _ _ ?_ (fun hHeld1 => ?_)
      · exact trivial
      clear hK K hHeld
      have hHeld := hHeld1
      clear hHeld1
      refine wpAnyH_ready (rs := [6]) (by kernel_rfl) (by simp) ?_
      refine AllReadyH.cons (o := _) rfl (fun K hK => ?_) AllReadyH.nil
      go_simp
      refine hK.out _ _ ?_ (fun hHeld1 => ?_)
      · exact trivial
      clear hK K hHeld
      have hHeld := hHeld1
      clear hHeld1
      refine wpAnyH_done (by kernel_rfl) ?_ _
      clear hHeld
      have HBW : Hid (Below w.heap.size w (((((((W3.setCell ⟨w.heap.size, 0, none⟩ (.int .i64 0)).setCell ⟨w.heap.size, 1, none⟩ (.int .i64 0)).setCell ⟨w.heap.size, 2, none⟩ (.slice none 0 0)).setCell ⟨w.heap.size + 1, 0, none⟩ (.int .i64 sE.pt)).setCell ⟨w.heap.size + 1, 1, none⟩ (.int .i64 sE.c)).setCell ⟨w.heap.size + 1, 2, none⟩ (.string sE.op)).setCell ⟨w.heap.size + 1, 3, none⟩ (.int .i64 (whS sE)))) := hide (((((((HBF.out).setCell (by exact Nat.le_refl _) _).setCell (by exact Nat.le_refl _) _).setCell (by exact Nat.le_refl _) _).setCell (by exact Nat.le_succ _) _).setCell (by exact Nat.le_succ _) _).setCell (by exact Nat.le_succ _) _ |>.setCell (by exact Nat.le_succ _) _)
      obtain ⟨WF, hWF⟩ : ∃ WF, WF = ((((((W3.setCell ⟨w.heap.size, 0, none⟩ (.int .i64 0)).setCell ⟨w.heap.size, 1, none⟩ (.int .i64 0)).setCell ⟨w.heap.size, 2, none⟩ (.slice none 0 0)).setCell ⟨w.heap.size + 1, 0, none⟩ (.int .i64 sE.pt)).setCell ⟨w.heap.size + 1, 1, none⟩ (.int .i64 sE.c)).setCell ⟨w.heap.size + 1, 2, none⟩ (.string sE.op)).setCell ⟨w.heap.size + 1, 3, none⟩ (.int .i64 (whS sE)) := ⟨_, rfl⟩
      obtain ⟨⟨q0, q1, q2⟩, ⟨z0, z1, z2, z3⟩, hoth⟩ := seven_set (R := w.heap.size) (Q := w.heap.size + 1) (by omega) (W := W3) r0 r1 r2 t0 t1 t2 t3 hWF
      rw [← hWF] at HBW
      rw [← hWF]
      have HBW2 : Hid (Below w.heap.size w WF.drew) := hide (HBW.out.trans ((Below.refl _ _).drew))
      have HOTH : Hid (∀ k i, k ≠ w.heap.size → k ≠ w.heap.size + 1 → WF.drew.cell? ⟨k, i, none⟩ = W3.cell? ⟨k, i, none⟩) := hide hoth
      replace q0 : WF.drew.cell? ⟨w.heap.size, 0, none⟩ = _ := q0
      replace q1 : WF.drew.cell? ⟨w.heap.size, 1, none⟩ = _ := q1
      replace q2 : WF.drew.cell? ⟨w.heap.size, 2, none⟩ = _ := q2
      replace z0 : WF.drew.cell? ⟨w.heap.size + 1, 0, none⟩ = _ := z0
      replace z1 : WF.drew.cell? ⟨w.heap.size + 1, 1, none⟩ = _ := z1
      replace z2 : WF.drew.cell? ⟨w.heap.size + 1, 2, none⟩ = _ := z2
      replace z3 : WF.drew.cell? ⟨w.heap.size + 1, 3, none⟩ = _ := z3
      clear hWF HBW
      generalize WF.drew = WD at *
      clear hoth r0 r1 r2 t0 t1 t2 t3 rf0 rf1 rf2 tf0 tf1 tf2 tf3 y0 y1 y2 e1 e2 e3 e4
      go_wp2_with fail
      exact bodyPost_ret (v := .tuple #[.agg #[.int .i64 0, .int .i64 0, .slice none 0 0], .agg #[.int .i64 sE.pt, .int .i64 sE.c, .string sE.op, .int .i64 (whS sE)]]) (by simp [results, Tryz.results31, go_sem, q0, q1, q2, z0, z1, z2, z3]) rfl ⟨_, by rw [HRE.out], by rw [HRE.out]; exact isB_zero _ _ _, HBW2.out⟩
end Go.Proofs.YtgbcjmpnkejpeaaGreatDoor
