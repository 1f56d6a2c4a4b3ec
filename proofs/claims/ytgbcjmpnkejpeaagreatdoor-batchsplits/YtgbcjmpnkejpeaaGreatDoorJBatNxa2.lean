/-
  THE BATCH THAT A READER READS NEXT (batch.Next): what the mathematics says. Conditions: the bytes' cells hold them, each is a byte, no more than a hundred thousand, they don't lie in the reader; errors.errorType is laid.
  THE BATCH THAT BYTES ARE (batch.Read): what the mathematics says. Conditions: the bytes' cells hold them, each is a byte, no more than a hundred thousand; errors.errorType is laid.
-/
import Derived.Test.YtgbcjmpnkejpeaaGreatDoorJBatCla3
import Derived.Test.YtgbcjmpnkejpeaaGreatDoorJRecFlda3
import Derived.Test.YtgbcjmpnkejpeaaGreatDoorJRecEna2
namespace Go.Proofs.YtgbcjmpnkejpeaaGreatDoor
open Go.RowKit

theorem Nx.isB {w W : World} {p : Nat} {t b : Int} {u : Value} {ps : List Rp} (h : Nx w p W t b u ps) {W' : World} (hc : ∀ k i, k ≠ w.heap.size → W'.cell? ⟨k, i, none⟩ = W.cell? ⟨k, i, none⟩) : IsB (fun k => w.heap.size ≤ k) (fun k => w.heap.size ≤ k) W' (.agg #[.int .i64 t, .int .i64 b, u]) ⟨t, b, rcl ps⟩ := by
  refine ⟨u, ps, rfl, ⟨?_, fun q hq => (h.rw q hq).imp (fun k _ hk => by have := hk.1; omega) (fun k i _ hk => hc k i (by have := hk.1; omega))⟩, rfl⟩
  by_cases h0 : 0 < ps.length
  · obtain ⟨g, cap, rfl, e1, e2, e3, e4, _⟩ := owns_range h.own h0
    exact .inr ⟨g, 0, cap, rfl, e2, by omega, h0, range_imp e4 (fun i _ => hc g i (by omega))⟩
  · have e : ps = [] := List.length_eq_zero_iff.1 (by omega)
    subst e
    rcases h.own.2 with ⟨rfl, _⟩ | ⟨g, cap, cur, rfl, _⟩ <;> exact .inl ⟨_, _, rfl, rfl⟩
set_option maxRecDepth 100000 in
set_option maxHeartbeats 32000000 in
theorem next_go (p : Nat) (v : Value) (l : List Int) (s s1 s2 s3 s4 : Gs) (x1 x2 x3 : Int) (BB : Bool) (w : World) (hrd : RdG w p v s) (hv : Slx p bc w v l) (hl : l.length ≤ 100000) (hby : Byt l) (hs : s.pt ≤ l.length) (hg : Hnd w) (hpz : p ≠ 0)
    (HQ1 : Hid (gN 1073741824 l s = (s1, x1))) (HQ2 : Hid (gN 1073741824 l s1 = (s2, x2))) (HQ3 : Hid (gN 64 l s2 = (s3, x3))) (HBB : Hid (BB = (decide (x1 = 0) || decide (x3 = 0)))) (HS4 : Hid (s4 = if BB then refS ⟨#[98, 97, 116, 99, 104]⟩ 2 s3 else s3)) (h3 : 0 ≤ x3 ∧ x3 ≤ 64) :
    Calls Tryz.prog 32 #[.pointer (some ⟨p, 0, none⟩)] w fun e w' => ∃ vx, e = .returned vx ∧ IsB (fun k => w.heap.size ≤ k) (fun k => w.heap.size ≤ k) w' vx (nextG l s).2 ∧ RdG w' p v (nextG l s).1 ∧ Bx p w w' := by
  have hp : p < w.heap.size := hrd.lt
  have HN := hide (nx_new hp)
  have hb0 : Below w.heap.size w ((w.alloc (.cells #[.int .i64 0, .int .i64 0, .slice none 0 0] 48)).alloc (.cells #[.int .i64 0, .int .i64 0, .slice none 0 0] 48)) := ((Below.refl _ _).alloc (Nat.le_refl _) _).alloc (by simp) _
  have HR := hide (hrd.below hb0)
  have HV := hide hv
  have HBY := hide hby
  have HG := hide hg
  have hpt1 : s1.pt ≤ l.length := by have := gN_pt (m := 1073741824) hby hs; rw [HQ1.out] at this; exact this
  have hpt2 : s2.pt ≤ l.length := by have := gN_pt (m := 1073741824) hby hpt1; rw [HQ2.out] at this; exact this
  have hpt3 : s3.pt ≤ l.length := by have := gN_pt (m := 64) hby hpt2; rw [HQ3.out] at this; exact this
  have hpt4 : s4.pt ≤ l.length := by rw [HS4.out]; split; (rw [refS_pt]; exact hpt3); (exact hpt3)
  have HI1 := hide (fun W (h : RdG W p v s) (hb : Bx p w W) => rint_gs p v l 1073741824 s W h (HV.out.bx hb) hl hby hs (by decide) (by decide))
  have HI2 := hide (fun W (h : RdG W p v s1) (hb : Bx p w W) => rint_gs p v l 1073741824 s1 W h (HV.out.bx hb) hl hby hpt1 (by decide) (by decide))
  have HI3 := hide (fun W (h : RdG W p v s2) (hb : Bx p w W) => rint_gs p v l 64 s2 W h (HV.out.bx hb) hl hby hpt2 (by decide) (by decide))
  rw [HQ1.out] at HI1
  rw [HQ2.out] at HI2
  rw [HQ3.out] at HI3
  simp only at HI1 HI2 HI3
  have HNG : Hid (nextG l s = if (if (16384 : Int) < ((recsG l x3.toNat s4).1.pt : Int) - (s.pt : Int) then refS ⟨#[98, 97, 116, 99, 104]⟩ 6 (recsG l x3.toNat s4).1 else (recsG l x3.toNat s4).1).c = 0 then ((if (16384 : Int) < ((recsG l x3.toNat s4).1.pt : Int) - (s.pt : Int) then refS ⟨#[98, 97, 116, 99, 104]⟩ 6 (recsG l x3.toNat s4).1 else (recsG l x3.toNat s4).1), ⟨x1, x2, (recsG l x3.toNat s4).2⟩) else ((if (16384 : Int) < ((recsG l x3.toNat s4).1.pt : Int) - (s.pt : Int) then refS ⟨#[98, 97, 116, 99, 104]⟩ 6 (recsG l x3.toNat s4).1 else (recsG l x3.toNat s4).1), Bt.zero)) := hide (by
    have e4 : (if x1 = 0 ∨ x3 = 0 then refS ⟨#[98, 97, 116, 99, 104]⟩ 2 s3 else s3) = s4 := by
      rw [HS4.out, HBB.out]
      by_cases q : x1 = 0 ∨ x3 = 0
      · rw [if_pos q, if_pos (by simpa using q)]
      · rw [if_neg q, if_neg (by simpa using q)]
    unfold nextG
    simp only
    rw [HQ1.out]
    simp only
    rw [HQ2.out]
    simp only
    rw [HQ3.out]
    simp only
    rw [e4])
  generalize nextG l s = NG at HNG ⊢
  clear hrd hv hby hg hb0
  go_enter Tryz.func32, Tryz.ntmps32
  go_upto_region 2 with fail
  generalize (w.alloc (.cells #[.int .i64 0, .int .i64 0, .slice none 0 0] 48)).alloc (.cells #[.int .i64 0, .int .i64 0, .slice none 0 0] 48) = X0 at HN HR ⊢
  have HA := hide (at_any p v _ _ X0 HR.out)
  go_upto_region 3 with (first | (go_at_call 14; refine HA.out.mono ?_; rintro e w9 ⟨rfl, hw9⟩; rw [hw9]; clear hw9 w9))
  clear HA
  go_upto_region 4 with (first | (go_at_call 46; refine (HI1.out _ HR.out HN.out.bx).mono ?_; rintro e V1 ⟨rfl, hr1, hb1⟩; have HN1 := hide (HN.out.step hb1); have HR1 := hide hr1; clear hr1 hb1; have c5 := HN1.out.x0; have f5 := HN1.out.xf 0))
  have HN2 := hide (HN1.out.set0 x1)
  have HR2 : Hid (RdG (V1.setCell ⟨w.heap.size + 1, 0, none⟩ (.int .i64 x1)) p v s1) := hide (rdG_set HR1.out (by omega))
  generalize V1.setCell ⟨w.heap.size + 1, 0, none⟩ (.int .i64 x1) = X1 at HN2 HR2 ⊢
  clear HN HR HN1 HR1 c5 f5 HI1
  go_upto_region 5 with (first | (go_at_call 46; refine (HI2.out _ HR2.out HN2.out.bx).mono ?_; rintro e V2 ⟨rfl, hr1, hb1⟩; have HN3 := hide (HN2.out.step hb1); have HR3 := hide hr1; clear hr1 hb1; have c5 := HN3.out.x1; have f5 := HN3.out.xf 1))
  have HN4 := hide (HN3.out.set1 x2)
  have HR4 : Hid (RdG (V2.setCell ⟨w.heap.size + 1, 1, none⟩ (.int .i64 x2)) p v s2) := hide (rdG_set HR3.out (by omega))
  generalize V2.setCell ⟨w.heap.size + 1, 1, none⟩ (.int .i64 x2) = X2 at HN4 HR4 ⊢
  clear HN2 HR2 HN3 HR3 c5 f5 HI2
  go_upto_region 6 with (first | (go_at_call 46; refine (HI3.out _ HR4.out HN4.out.bx).mono ?_; rintro e V3 ⟨rfl, hr1, hb1⟩; have HN5 := hide (HN4.out.step hb1); have HR5 := hide hr1; clear hr1 hb1))
  clear HN4 HR4 HI3
  have c0 := HN5.out.x0
  go_cut [22] (fun b W => b = .bool BB ∧ W = V3)
  case first =>
    by_cases h1 : x1 = 0
    · have h1b : (x1 == 0) = true := by simp [h1]
      go_wp2_with fail
      go_meet
      exact ⟨by rw [HBB.out]; simp [h1], rfl⟩
    · have h1b : (x1 == 0) = false := by simp [h1]
      by_cases h2 : x3 = 0
      · have h2b : (x3 == 0) = true := by simp [h2]
        go_wp2_with fail
        go_meet
        exact ⟨by rw [HBB.out]; simp [h2], rfl⟩
      · have h2b : (x3 == 0) = false := by simp [h2]
        go_wp2_with fail
        go_meet
        exact ⟨by rw [HBB.out]; simp [h1, h2], rfl⟩
  case rest =>
    obtain ⟨rfl, rfl⟩ := hcut
    clear c0
    obtain ⟨Wq, rfl⟩ : ∃ x : World, x = wc := ⟨_, rfl⟩
    have HC := hide (refuse_gs p v s3 ⟨#[98, 97, 116, 99, 104]⟩ 2 Wq (by decide) HR5.out)
    go_upto_if 22 with fail
    go_cut [] (fun W => Nx w p W x1 x2 (.slice none 0 0) [] ∧ RdG W p v s4)
    case first =>
      cases BB with
      | true =>
        go_wp2_with (first | (go_at_call 48; refine HC.out.mono ?_; rintro e w5 ⟨rfl, hr5, hb5⟩))
        go_meet
        rw [HS4.out]
        exact ⟨HN5.out.step hb5, hr5⟩
      | false =>
        go_wp2_with fail
        go_meet
        rw [HS4.out]
        exact ⟨HN5.out, HR5.out⟩
    case rest =>
      obtain ⟨hn0, hr0⟩ := hcut
      have HN := hide hn0
      have HR := hide hr0
      clear hn0 hr0 HC HN5 HR5
      obtain ⟨W1, rfl⟩ : ∃ x : World, x = wc := ⟨_, rfl⟩
      clear Wq
      obtain ⟨M, hM⟩ : ∃ M : Nat, x3 = (M : Int) := ⟨x3.toNat, by omega⟩
      subst hM
      rw [Int.toNat_natCast] at HNG
      go_wp2_with fail
      go_loopw [26] (fun i wr => ∃ (j : Nat) (u : Value) (ps : List Rp), j ≤ M ∧ i = .int .i64 (j : Int) ∧ Nx w p wr x1 x2 u ps ∧ RdG wr p v (recsG l j s4).1 ∧ rcl ps = (recsG l j s4).2) (fun i _ => M - (intOf i).toNat)
      case atStart => exact ⟨0, .slice none 0 0, [], Nat.zero_le _, rfl, HN.out, HR.out, rfl⟩
      case round =>
        obtain ⟨j, u, ps, hj, rfl, hn, hr, hps⟩ := hrel
        clear HN HR
        have HN := hide hn
        have HR := hide hr
        have HPS := hide hps
        clear hn hr hps
        by_cases hlt : j < M
        · have hltI : (j : Int) < (M : Int) := by omega
          have hptj := recs_pt HBY.out hpt4 j
          have hlps : ps.length ≤ 64 := by rw [← rcl_len, HPS.out, recs_len]; omega
          have HSU := hide (recsG_succ l j s4)
          generalize recsG l j s4 = Qj at *
          obtain ⟨sj, rsj⟩ := Qj
          simp only at HR HPS HSU hptj
          have HC := hide (fun W (h : RdG W p v sj) (hb : Bx p w W) => cread_any p v l sj W h (HV.out.bx hb) hl HBY.out hptj (hb.handle hpz HG.out) hpz)
          generalize readG l sj = RR at *
          obtain ⟨s', r⟩ := RR
          simp only at HC HSU
          obtain ⟨ao, cap, hu⟩ : ∃ ao cap, u = .slice ao ps.length cap := by
            rcases HN.out.own.2 with ⟨rfl, h0⟩ | ⟨g, cap, cur, rfl, _⟩
            · exact ⟨none, 0, by rw [h0]⟩
            · exact ⟨_, _, rfl⟩
          subst hu
          go_upto_region 10 with fail
          refine wp_region_held_drew (S := fun _ => True) (by kernel_rfl) trivial (fun hHeld => ?_)
          have HN0 := hide (HN.out.below ((Below.refl _ _).drew))
          have HR0 := hide (HR.out.below ((Below.refl _ _).drew))
          generalize wr.drew = W0 at HN0 HR0 ⊢
          clear HN HR
          refine wpAnyH_take (i := 0) (oi := _) (v := .pointer (some ⟨w.heap.size + 1, 2, none⟩)) rfl (by kernel_rfl) (by kernel_rfl) (by kernel_rfl) (fun _ _ _ h => h) (Or.inl ⟨by rfl, by intro w hSw; go_simp⟩) hHeld ?_
          change wpAnyH _ _ _ _ _ _ _ (Act.put _ (some 28) _) _
          simp only [Act.put, List.setIfInBounds_toArray, List.set_cons_zero, List.set_cons_succ]
          refine wpAnyH_take (i := 2) (oi := _) (v := .pointer (some ⟨p, 0, none⟩)) rfl (by kernel_rfl) (by kernel_rfl) (by kernel_rfl) (fun _ _ _ h => h) (Or.inl ⟨by rfl, by intro w hSw; go_simp⟩) hHeld ?_
          change wpAnyH _ _ _ _ _ _ _ (Act.put _ (some 30) _) _
          simp only [Act.put, List.setIfInBounds_toArray, List.set_cons_zero, List.set_cons_succ]
          refine wpAnyH_ready (rs := [1, 3]) (by kernel_rfl) (by simp) ?_
          refine AllReadyH.cons (o := _) rfl (fun K hK => ?_) (AllReadyH.cons (o := _) rfl (fun K hK => ?_) AllReadyH.nil)
          · have i2 := HN0.out.x2
            go_simp
            clear i2
            refine hK.out _ _ ?_ (fun hHeld1 => ?_)
            · exact trivial
            clear hK K hHeld
            have hHeld := hHeld1
            clear hHeld1
            refine wpAnyH_ready (rs := [3]) (by kernel_rfl) (by simp) ?_
            refine AllReadyH.cons (o := _) rfl (fun K hK => ?_) AllReadyH.nil
            go_simp
            go_at_call 12
            refine (HC.out _ HR0.out HN0.out.bx).mono ?_
            rintro e V1 ⟨vx, rfl, hx, hr, hb⟩
            go_wp2_with fail
            refine hK.out _ _ ?_ (fun hHeld1 => ?_)
            · exact trivial
            clear hK K hHeld
            have hHeld := hHeld1
            clear hHeld1
            obtain ⟨q, hq1, rfl, hq2⟩ := isR_rp hx
            have HQR := hide hq1
            have hob := HN0.out.ob
            have hsz := HN0.out.sz
            have HQW : Hid (RwP (fun k => w.heap.size + 2 ≤ k ∧ (Value.slice ao ps.length cap).ownBlock ≠ some k) V1 q) := hide (hq2.imp (fun k _ hk => ⟨by omega, fun e => by have := (hob k e).2; omega⟩) (fun _ _ _ _ => rfl))
            have HR1 := hide hr
            have HN1 := hide (HN0.out.step hb)
            clear hx hq1 hq2 hr hb hob hsz HR0 HN0
            refine wpAnyH_ready (rs := [4]) (by kernel_rfl) (by simp) ?_
            refine AllReadyH.cons (o := _) rfl (fun K hK => ?_) AllReadyH.nil
            refine step_build_rc rfl _ rfl q rfl ?_
            show K (Act.put _ (some 32) _) _
            simp only [Act.put, List.setIfInBounds_toArray, List.set_cons_zero, List.set_cons_succ]
            refine hK.out _ _ ?_ (fun hHeld1 => ?_)
            · exact trivial
            clear hK K hHeld
            have hHeld := hHeld1
            clear hHeld1
            have hbl : Below V1.heap.size V1 (V1.alloc (.cells (cel q).toArray 35)) := (Below.refl _ _).alloc (Nat.le_refl _) _
            have HN2 := hide (HN1.out.below hbl)
            have HR2 := hide (HR1.out.below hbl)
            have HQ2 := hide (HQW.out.below hbl)
            have HNW := hide (range_news (range_new V1 (cel q) 35))
            generalize V1.alloc (.cells (cel q).toArray 35) = U2 at HN2 HR2 HQ2 HNW ⊢
            generalize V1.heap.size = D at HNW ⊢
            clear hbl HN1 HR1 HQW
            refine wpAnyH_ready (rs := [5]) (by kernel_rfl) (by simp) ?_
            refine AllReadyH.cons (o := _) rfl (fun K hK => ?_) AllReadyH.nil
            refine step_append_rc rfl _ _ rfl (w.heap.size + 2) (.slice ao ps.length cap) ps.length (rcs ps) rfl HN2.out.own (by have := HN2.out.sz; omega) ⟨D, 0, none⟩ 1 (cel q) rfl (cel_len q) HNW.out (cel_one q) (by omega) ?_
            intro V3 u' ho hgr hub
            have HNF := hide (HN2.out.app HQ2.out ho hgr hub)
            have hzV := HN2.out.sz
            have c5 : V3.cell? ⟨w.heap.size + 1, 2, none⟩ = some (.slice ao ps.length cap) := (World.cell?_of_block (hgr.block (w.heap.size + 1) hzV (fun e => by have := (HN2.out.ob _ e.symm).1; omega))).trans HN2.out.x2
            have f5 : V3.frozen? ⟨w.heap.size + 1, 2, none⟩ = false := (World.frozen?_of_block (hgr.block (w.heap.size + 1) hzV (fun e => by have := (HN2.out.ob _ e.symm).1; omega))).trans (HN2.out.xf 2)
            have HRF : Hid (RdG (V3.setCell ⟨w.heap.size + 1, 2, none⟩ u') p v s') := hide (rdG_set (by have hpl := HN2.out.hp; have hq : ∀ i, V3.cell? ⟨p, i, none⟩ = _ := fun i => World.cell?_of_block (hgr.block p (by omega) (fun e => by have := (HN2.out.ob _ e.symm).1; omega)); have hf : ∀ i, V3.frozen? ⟨p, i, none⟩ = _ := fun i => World.frozen?_of_block (hgr.block p (by omega) (fun e => by have := (HN2.out.ob _ e.symm).1; omega)); exact ⟨(hq 0).trans HR2.out.c0, (hq 1).trans HR2.out.c1, (hq 2).trans HR2.out.c2, fun i => (hf i).trans (HR2.out.fz i)⟩) (by omega))
            obtain ⟨a6, c6, hu6⟩ : ∃ a6 c6, u' = .slice a6 (ps.length + 1) c6 := by
              rcases ho.2 with ⟨_, h0⟩ | ⟨g, cap, cur, rfl, _⟩
              · omega
              · exact ⟨_, _, rfl⟩
            clear ho hgr hub HN2 HR2 HQ2 HNW
            subst hu6
            show K (Act.put _ (some 33) _) _
            simp only [Act.put, List.setIfInBounds_toArray, List.set_cons_zero, List.set_cons_succ]
            refine hK.out _ _ ?_ (fun hHeld1 => ?_)
            · exact trivial
            clear hK K hHeld
            have hHeld := hHeld1
            clear hHeld1
            refine wpAnyH_take (i := 6) (oi := _) (v := .pointer (some ⟨w.heap.size + 1, 2, none⟩)) rfl (by kernel_rfl) (by kernel_rfl) (by kernel_rfl) (fun _ _ _ h => h) (Or.inl ⟨by rfl, by intro w hSw; go_simp⟩) hHeld ?_
            change wpAnyH _ _ _ _ _ _ _ (Act.put _ (some 34) _) _
            simp only [Act.put, List.setIfInBounds_toArray, List.set_cons_zero, List.set_cons_succ]
            refine wpAnyH_ready (rs := [7]) (by kernel_rfl) (by simp) ?_
            refine AllReadyH.cons (o := _) rfl (fun K hK => ?_) AllReadyH.nil
            go_simp
            clear c5 f5
            refine hK.out _ _ ?_ (fun hHeld1 => ?_)
            · exact trivial
            clear hK K hHeld
            have hHeld := hHeld1
            clear hHeld1
            refine wpAnyH_done (by kernel_rfl) ?_ _
            go_wp2_with fail
            go_roundw
            case rel => exact ⟨j + 1, _, ps ++ [q], by omega, by go_num, HNF.out, by rw [HSU.out]; exact HRF.out, by rw [HSU.out]; simp only [rcl, List.map_append, List.map_cons, List.map_nil, HQR.out]; rw [← HPS.out]; rfl⟩
            case measure => simp [intOf]; omega
          · go_simp
            go_at_call 12
            refine (HC.out _ HR0.out HN0.out.bx).mono ?_
            rintro e V1 ⟨vx, rfl, hx, hr, hb⟩
            go_wp2_with fail
            refine hK.out _ _ ?_ (fun hHeld1 => ?_)
            · exact trivial
            clear hK K hHeld
            have hHeld := hHeld1
            clear hHeld1
            obtain ⟨q, hq1, rfl, hq2⟩ := isR_rp hx
            have HQR := hide hq1
            have hob := HN0.out.ob
            have hsz := HN0.out.sz
            have HQW : Hid (RwP (fun k => w.heap.size + 2 ≤ k ∧ (Value.slice ao ps.length cap).ownBlock ≠ some k) V1 q) := hide (hq2.imp (fun k _ hk => ⟨by omega, fun e => by have := (hob k e).2; omega⟩) (fun _ _ _ _ => rfl))
            have HR1 := hide hr
            have HN1 := hide (HN0.out.step hb)
            clear hx hq1 hq2 hr hb hob hsz HR0 HN0
            refine wpAnyH_ready (rs := [1, 4]) (by kernel_rfl) (by simp) ?_
            refine AllReadyH.cons (o := _) rfl (fun K hK => ?_) (AllReadyH.cons (o := _) rfl (fun K hK => ?_) AllReadyH.nil)
            · have i2 := HN1.out.x2
              go_simp
              clear i2
              refine hK.out _ _ ?_ (fun hHeld1 => ?_)
              · exact trivial
              clear hK K hHeld
              have hHeld := hHeld1
              clear hHeld1
              refine wpAnyH_ready (rs := [4]) (by kernel_rfl) (by simp) ?_
              refine AllReadyH.cons (o := _) rfl (fun K hK => ?_) AllReadyH.nil
              refine step_build_rc rfl _ rfl q rfl ?_
              show K (Act.put _ (some 32) _) _
              simp only [Act.put, List.setIfInBounds_toArray, List.set_cons_zero, List.set_cons_succ]
              refine hK.out _ _ ?_ (fun hHeld1 => ?_)
              · exact trivial
              clear hK K hHeld
              have hHeld := hHeld1
              clear hHeld1
              have hbl : Below V1.heap.size V1 (V1.alloc (.cells (cel q).toArray 35)) := (Below.refl _ _).alloc (Nat.le_refl _) _
              have HN2 := hide (HN1.out.below hbl)
              have HR2 := hide (HR1.out.below hbl)
              have HQ2 := hide (HQW.out.below hbl)
              have HNW := hide (range_news (range_new V1 (cel q) 35))
              generalize V1.alloc (.cells (cel q).toArray 35) = U2 at HN2 HR2 HQ2 HNW ⊢
              generalize V1.heap.size = D at HNW ⊢
              clear hbl HN1 HR1 HQW
              refine wpAnyH_ready (rs := [5]) (by kernel_rfl) (by simp) ?_
              refine AllReadyH.cons (o := _) rfl (fun K hK => ?_) AllReadyH.nil
              refine step_append_rc rfl _ _ rfl (w.heap.size + 2) (.slice ao ps.length cap) ps.length (rcs ps) rfl HN2.out.own (by have := HN2.out.sz; omega) ⟨D, 0, none⟩ 1 (cel q) rfl (cel_len q) HNW.out (cel_one q) (by omega) ?_
              intro V3 u' ho hgr hub
              have HNF := hide (HN2.out.app HQ2.out ho hgr hub)
              have hzV := HN2.out.sz
              have c5 : V3.cell? ⟨w.heap.size + 1, 2, none⟩ = some (.slice ao ps.length cap) := (World.cell?_of_block (hgr.block (w.heap.size + 1) hzV (fun e => by have := (HN2.out.ob _ e.symm).1; omega))).trans HN2.out.x2
              have f5 : V3.frozen? ⟨w.heap.size + 1, 2, none⟩ = false := (World.frozen?_of_block (hgr.block (w.heap.size + 1) hzV (fun e => by have := (HN2.out.ob _ e.symm).1; omega))).trans (HN2.out.xf 2)
              have HRF : Hid (RdG (V3.setCell ⟨w.heap.size + 1, 2, none⟩ u') p v s') := hide (rdG_set (by have hpl := HN2.out.hp; have hq : ∀ i, V3.cell? ⟨p, i, none⟩ = _ := fun i => World.cell?_of_block (hgr.block p (by omega) (fun e => by have := (HN2.out.ob _ e.symm).1; omega)); have hf : ∀ i, V3.frozen? ⟨p, i, none⟩ = _ := fun i => World.frozen?_of_block (hgr.block p (by omega) (fun e => by have := (HN2.out.ob _ e.symm).1; omega)); exact ⟨(hq 0).trans HR2.out.c0, (hq 1).trans HR2.out.c1, (hq 2).trans HR2.out.c2, fun i => (hf i).trans (HR2.out.fz i)⟩) (by omega))
              obtain ⟨a6, c6, hu6⟩ : ∃ a6 c6, u' = .slice a6 (ps.length + 1) c6 := by
                rcases ho.2 with ⟨_, h0⟩ | ⟨g, cap, cur, rfl, _⟩
                · omega
                · exact ⟨_, _, rfl⟩
              clear ho hgr hub HN2 HR2 HQ2 HNW
              subst hu6
              show K (Act.put _ (some 33) _) _
              simp only [Act.put, List.setIfInBounds_toArray, List.set_cons_zero, List.set_cons_succ]
              refine hK.out _ _ ?_ (fun hHeld1 => ?_)
              · exact trivial
              clear hK K hHeld
              have hHeld := hHeld1
              clear hHeld1
              refine wpAnyH_take (i := 6) (oi := _) (v := .pointer (some ⟨w.heap.size + 1, 2, none⟩)) rfl (by kernel_rfl) (by kernel_rfl) (by kernel_rfl) (fun _ _ _ h => h) (Or.inl ⟨by rfl, by intro w hSw; go_simp⟩) hHeld ?_
              change wpAnyH _ _ _ _ _ _ _ (Act.put _ (some 34) _) _
              simp only [Act.put, List.setIfInBounds_toArray, List.set_cons_zero, List.set_cons_succ]
              refine wpAnyH_ready (rs := [7]) (by kernel_rfl) (by simp) ?_
              refine AllReadyH.cons (o := _) rfl (fun K hK => ?_) AllReadyH.nil
              go_simp
              clear c5 f5
              refine hK.out _ _ ?_ (fun hHeld1 => ?_)
              · exact trivial
              clear hK K hHeld
              have hHeld := hHeld1
              clear hHeld1
              refine wpAnyH_done (by kernel_rfl) ?_ _
              go_wp2_with fail
              go_roundw
              case rel => exact ⟨j + 1, _, ps ++ [q], by omega, by go_num, HNF.out, by rw [HSU.out]; exact HRF.out, by rw [HSU.out]; simp only [rcl, List.map_append, List.map_cons, List.map_nil, HQR.out]; rw [← HPS.out]; rfl⟩
              case measure => simp [intOf]; omega
            · refine step_build_rc rfl _ rfl q rfl ?_
              show K (Act.put _ (some 32) _) _
              simp only [Act.put, List.setIfInBounds_toArray, List.set_cons_zero, List.set_cons_succ]
              refine hK.out _ _ ?_ (fun hHeld1 => ?_)
              · exact trivial
              clear hK K hHeld
              have hHeld := hHeld1
              clear hHeld1
              have hbl : Below V1.heap.size V1 (V1.alloc (.cells (cel q).toArray 35)) := (Below.refl _ _).alloc (Nat.le_refl _) _
              have HN2 := hide (HN1.out.below hbl)
              have HR2 := hide (HR1.out.below hbl)
              have HQ2 := hide (HQW.out.below hbl)
              have HNW := hide (range_news (range_new V1 (cel q) 35))
              generalize V1.alloc (.cells (cel q).toArray 35) = U2 at HN2 HR2 HQ2 HNW ⊢
              generalize V1.heap.size = D at HNW ⊢
              clear hbl HN1 HR1 HQW
              refine wpAnyH_ready (rs := [1]) (by kernel_rfl) (by simp) ?_
              refine AllReadyH.cons (o := _) rfl (fun K hK => ?_) AllReadyH.nil
              have i2 := HN2.out.x2
              go_simp
              clear i2
              refine hK.out _ _ ?_ (fun hHeld1 => ?_)
              · exact trivial
              clear hK K hHeld
              have hHeld := hHeld1
              clear hHeld1
              refine wpAnyH_ready (rs := [5]) (by kernel_rfl) (by simp) ?_
              refine AllReadyH.cons (o := _) rfl (fun K hK => ?_) AllReadyH.nil
              refine step_append_rc rfl _ _ rfl (w.heap.size + 2) (.slice ao ps.length cap) ps.length (rcs ps) rfl HN2.out.own (by have := HN2.out.sz; omega) ⟨D, 0, none⟩ 1 (cel q) rfl (cel_len q) HNW.out (cel_one q) (by omega) ?_
              intro V3 u' ho hgr hub
              have HNF := hide (HN2.out.app HQ2.out ho hgr hub)
              have hzV := HN2.out.sz
              have c5 : V3.cell? ⟨w.heap.size + 1, 2, none⟩ = some (.slice ao ps.length cap) := (World.cell?_of_block (hgr.block (w.heap.size + 1) hzV (fun e => by have := (HN2.out.ob _ e.symm).1; omega))).trans HN2.out.x2
              have f5 : V3.frozen? ⟨w.heap.size + 1, 2, none⟩ = false := (World.frozen?_of_block (hgr.block (w.heap.size + 1) hzV (fun e => by have := (HN2.out.ob _ e.symm).1; omega))).trans (HN2.out.xf 2)
              have HRF : Hid (RdG (V3.setCell ⟨w.heap.size + 1, 2, none⟩ u') p v s') := hide (rdG_set (by have hpl := HN2.out.hp; have hq : ∀ i, V3.cell? ⟨p, i, none⟩ = _ := fun i => World.cell?_of_block (hgr.block p (by omega) (fun e => by have := (HN2.out.ob _ e.symm).1; omega)); have hf : ∀ i, V3.frozen? ⟨p, i, none⟩ = _ := fun i => World.frozen?_of_block (hgr.block p (by omega) (fun e => by have := (HN2.out.ob _ e.symm).1; omega)); exact ⟨(hq 0).trans HR2.out.c0, (hq 1).trans HR2.out.c1, (hq 2).trans HR2.out.c2, fun i => (hf i).trans (HR2.out.fz i)⟩) (by omega))
              obtain ⟨a6, c6, hu6⟩ : ∃ a6 c6, u' = .slice a6 (ps.length + 1) c6 := by
                rcases ho.2 with ⟨_, h0⟩ | ⟨g, cap, cur, rfl, _⟩
                · omega
                · exact ⟨_, _, rfl⟩
              clear ho hgr hub HN2 HR2 HQ2 HNW
              subst hu6
              show K (Act.put _ (some 33) _) _
              simp only [Act.put, List.setIfInBounds_toArray, List.set_cons_zero, List.set_cons_succ]
              refine hK.out _ _ ?_ (fun hHeld1 => ?_)
              · exact trivial
              clear hK K hHeld
              have hHeld := hHeld1
              clear hHeld1
              refine wpAnyH_take (i := 6) (oi := _) (v := .pointer (some ⟨w.heap.size + 1, 2, none⟩)) rfl (by kernel_rfl) (by kernel_rfl) (by kernel_rfl) (fun _ _ _ h => h) (Or.inl ⟨by rfl, by intro w hSw; go_simp⟩) hHeld ?_
              change wpAnyH _ _ _ _ _ _ _ (Act.put _ (some 34) _) _
              simp only [Act.put, List.setIfInBounds_toArray, List.set_cons_zero, List.set_cons_succ]
              refine wpAnyH_ready (rs := [7]) (by kernel_rfl) (by simp) ?_
              refine AllReadyH.cons (o := _) rfl (fun K hK => ?_) AllReadyH.nil
              go_simp
              clear c5 f5
              refine hK.out _ _ ?_ (fun hHeld1 => ?_)
              · exact trivial
              clear hK K hHeld
              have hHeld := hHeld1
              clear hHeld1
              refine wpAnyH_done (by kernel_rfl) ?_ _
              go_wp2_with fail
              go_roundw
              case rel => exact ⟨j + 1, _, ps ++ [q], by omega, by go_num, HNF.out, by rw [HSU.out]; exact HRF.out, by rw [HSU.out]; simp only [rcl, List.map_append, List.map_cons, List.map_nil, HQR.out]; rw [← HPS.out]; rfl⟩
              case measure => simp [intOf]; omega
        · obtain rfl : j = M := by omega
          have hptj := recs_pt HBY.out hpt4 j
          generalize recsG l j s4 = Qj at *
          obtain ⟨sj, rsj⟩ := Qj
          simp only at HR HPS HNG hptj
          subst rsj
          have HA := hide (at_any p v _ _ wr HR.out)
          have HRR := hide (fun W (h : RdG W p v sj) => refuse_gs p v sj ⟨#[98, 97, 116, 99, 104]⟩ 6 W (by decide) h)
          clear hlt
          have hsI : ((sj.pt : Int) - (s.pt : Int)) ≤ 100000 := by omega
          have r0 := HN.out.r0
          have r1 := HN.out.r1
          have r2 := HN.out.r2
          have rf0 := HN.out.rf 0
          have rf1 := HN.out.rf 1
          have rf2 := HN.out.rf 2
          have hRp : w.heap.size ≠ p := by omega
          by_cases hbig : (16384 : Int) < (sj.pt : Int) - (s.pt : Int)
          · have hrb := refS_bad ⟨#[98, 97, 116, 99, 104]⟩ (c := 6) sj (by decide)
            have HNE : Hid (NG = (refS ⟨#[98, 97, 116, 99, 104]⟩ 6 sj, Bt.zero)) := hide (by rw [HNG.out, if_pos hbig, if_neg hrb])
            generalize refS ⟨#[98, 97, 116, 99, 104]⟩ 6 sj = s5 at *
            have HEE := hide (fun W (h : RdG W p v s5) => err_any p v _ _ W h)
            rw [show erN s5.op s5.pt s5.c = ft s5.op s5.pt s5.c from if_neg hrb] at HEE
            unfold ft at HEE
            clear r0 r1 r2 rf0 rf1 rf2
            go_wp2_with (first | (go_at_call 14; refine HA.out.mono ?_; rintro e w9 ⟨rfl, hw9⟩; rw [hw9]; clear hw9 w9) | (go_at_call 48; refine (HRR.out _ HR.out).mono ?_; rintro e V5 ⟨rfl, hr5, hb5⟩; have HN5 := hide (HN.out.step hb5); have HR5 := hide hr5; clear hr5 hb5; have r0 := HN5.out.r0; have r1 := HN5.out.r1; have r2 := HN5.out.r2; have rf0 := HN5.out.rf 0; have rf1 := HN5.out.rf 1; have rf2 := HN5.out.rf 2) | (go_at_call 35; refine (HEE.out _ HR5.out).mono ?_; rintro e w9 ⟨rfl, hw9⟩; rw [hw9]; clear hw9 w9))
            exact bodyPost_ret (v := .agg #[.int .i64 0, .int .i64 0, .slice none 0 0]) (by simp [results, Tryz.results32, go_sem, r0, r1, r2]) rfl ⟨_, rfl, by rw [HNE.out]; exact isB_zero _ _ _, by rw [HNE.out]; exact rdG_set (rdG_set (rdG_set HR5.out hRp) hRp) hRp, ((HN5.out.bx.fresh (Nat.le_refl _)).fresh (Nat.le_refl _)).fresh (Nat.le_refl _)⟩
          · have HNE2 : Hid (NG = if sj.c = 0 then (sj, ⟨x1, x2, rcl ps⟩) else (sj, Bt.zero)) := hide (by rw [HNG.out, if_neg hbig])
            have HEE := hide (err_any p v _ _ wr HR.out)
            by_cases hc : sj.c = 0
            · have HNE : Hid (NG = (sj, ⟨x1, x2, rcl ps⟩)) := hide (by rw [HNE2.out, if_pos hc])
              rw [show erN sj.op sj.pt sj.c = .nilIface from if_pos hc] at HEE
              have y0 := HN.out.x0
              have y1 := HN.out.x1
              have y2 := HN.out.x2
              obtain ⟨ao, cap, hu⟩ : ∃ ao cap, u = .slice ao ps.length cap := by
                rcases HN.out.own.2 with ⟨rfl, h0⟩ | ⟨g, cap, cur, rfl, _⟩
                · exact ⟨none, 0, by rw [h0]⟩
                · exact ⟨_, _, rfl⟩
              subst hu
              go_wp2_with (first | (go_at_call 14; refine HA.out.mono ?_; rintro e w9 ⟨rfl, hw9⟩; rw [hw9]; clear hw9 w9) | (go_at_call 35; refine HEE.out.mono ?_; rintro e w9 ⟨rfl, hw9⟩; rw [hw9]; clear hw9 w9))
              exact bodyPost_ret (v := .agg #[.int .i64 x1, .int .i64 x2, .slice ao ps.length cap]) (by simp [results, Tryz.results32, go_sem, r0, r1, r2]) rfl ⟨_, rfl, by rw [HNE.out]; exact HN.out.isB (fun k i hk => by iterate 3 rw [World.cell?_setCell_other _ _ _ _ (fun e => hk (congrArg Addr.block e).symm)]), by rw [HNE.out]; exact rdG_set (rdG_set (rdG_set HR.out hRp) hRp) hRp, ((HN.out.bx.fresh (Nat.le_refl _)).fresh (Nat.le_refl _)).fresh (Nat.le_refl _)⟩
            · have HNE : Hid (NG = (sj, Bt.zero)) := hide (by rw [HNE2.out, if_neg hc])
              rw [show erN sj.op sj.pt sj.c = ft sj.op sj.pt sj.c from if_neg hc] at HEE
              unfold ft at HEE
              go_wp2_with (first | (go_at_call 14; refine HA.out.mono ?_; rintro e w9 ⟨rfl, hw9⟩; rw [hw9]; clear hw9 w9) | (go_at_call 35; refine HEE.out.mono ?_; rintro e w9 ⟨rfl, hw9⟩; rw [hw9]; clear hw9 w9))
              exact bodyPost_ret (v := .agg #[.int .i64 0, .int .i64 0, .slice none 0 0]) (by simp [results, Tryz.results32, go_sem, r0, r1, r2]) rfl ⟨_, rfl, by rw [HNE.out]; exact isB_zero _ _ _, by rw [HNE.out]; exact rdG_set (rdG_set (rdG_set HR.out hRp) hRp) hRp, ((HN.out.bx.fresh (Nat.le_refl _)).fresh (Nat.le_refl _)).fresh (Nat.le_refl _)⟩
/-- The batch that a reader reads next. -/
theorem next_any (p : Nat) (v : Value) (l : List Int) (s : Gs) (w : World) (hrd : RdG w p v s) (hv : Slx p bc w v l) (hl : l.length ≤ 100000) (hby : Byt l) (hs : s.pt ≤ l.length) (hg : Hnd w) (hpz : p ≠ 0) :
    Calls Tryz.prog 32 #[.pointer (some ⟨p, 0, none⟩)] w fun e w' => ∃ vx, e = .returned vx ∧ IsB (fun k => w.heap.size ≤ k) (fun k => w.heap.size ≤ k) w' vx (nextG l s).2 ∧ RdG w' p v (nextG l s).1 ∧ Bx p w w' := by
  rcases h1 : gN 1073741824 l s with ⟨s1, x1⟩
  rcases h2 : gN 1073741824 l s1 with ⟨s2, x2⟩
  rcases h3 : gN 64 l s2 with ⟨s3, x3⟩
  refine next_go p v l s s1 s2 s3 _ x1 x2 x3 _ w hrd hv hl hby hs hg hpz (hide h1) (hide h2) (hide h3) (hide rfl) (hide rfl) ?_
  unfold gN at h3
  split at h3
  · obtain ⟨_, e⟩ := Prod.mk.inj h3
    rw [← e]
    rcases hq : numS (l.drop s2.pt) 64 with ⟨c, k, n⟩
    by_cases hc : c = 0
    · subst hc
      obtain ⟨_, _, e3, _, e5, _⟩ := numS_once (fun x hx => hby x (List.mem_of_mem_drop hx)) hq
      exact ⟨e3, e5⟩
    · have := (numS_bad hq hc).2
      simp only
      omega
  · obtain ⟨_, e⟩ := Prod.mk.inj h3
    rw [← e]
    omega
end Go.Proofs.YtgbcjmpnkejpeaaGreatDoor
namespace Go.Proofs.YtgbcjmpnkejpeaaGreatDoor
open Go.RowKit

/-- What is wrong with bytes as a batch, and the batch. -/
def readB (l : List Int) : Gs × Bt := (endS l (nextG l (okS 0)).1, if (endS l (nextG l (okS 0)).1).c = 0 then (nextG l (okS 0)).2 else Bt.zero)
theorem endS_c {l : List Int} {s : Gs} (h : (endS l s).c = 0) : s.c = 0 ∧ l.length ≤ s.pt ∧ endS l s = s := by
  unfold endS at h ⊢
  by_cases hp : s.pt < l.length
  · rw [if_pos hp] at h; exact absurd h (refS_bad _ _ (by decide))
  · rw [if_neg hp] at h ⊢; exact ⟨h, by omega, rfl⟩
theorem readB_zero {l : List Int} (h : (readB l).1.c ≠ 0) : (readB l).2 = Bt.zero := if_neg h
/-- A batch that is written is read as what it was. -/
theorem readB_back (x : Bt) (h : (bw x).c = 0) (hm : (bytL x).length ≤ 16384) : readB (bytL x) = (okS (bytL x).length, x) := by
  have hb := next_back x h hm [] []
  rw [List.append_nil, List.nil_append, List.length_nil, Nat.zero_add] at hb
  have he : endS (bytL x) (okS (bytL x).length) = okS (bytL x).length := by
    unfold endS
    rw [if_neg (show ¬ (okS (bytL x).length).pt < (bytL x).length from Nat.lt_irrefl _)]
  unfold readB
  rw [hb]
  simp only
  rw [he, if_pos (show (okS (bytL x).length).c = 0 from rfl)]
/-- Bytes that are read as a batch are those that it is written as. -/
theorem readB_once (l : List Int) (hby : Byt l) (h : (readB l).1.c = 0) : (bw (readB l).2).c = 0 ∧ bytL (readB l).2 = l ∧ l.length ≤ 16384 := by
  have h' : (endS l (nextG l (okS 0)).1).c = 0 := h
  obtain ⟨h1, h2, h3⟩ := endS_c h'
  have e : (readB l).2 = (nextG l (okS 0)).2 := if_pos h'
  rw [e]
  obtain ⟨k1, b, k2, k3, k4, k5, k6⟩ := next_once l hby 0 (Nat.zero_le _) h1
  have e2 : (nextG l (okS 0)).1.pt = b := by rw [k2]; rfl
  rw [e2] at h2
  obtain rfl : b = l.length := by omega
  rw [List.drop_zero, List.drop_length, List.append_nil] at k6
  exact ⟨k1, k6.symm, by omega⟩
set_option maxRecDepth 100000 in
set_option maxHeartbeats 16000000 in
theorem bread_any (v : Value) (l : List Int) (w : World) (hv : Sl bc w v l) (hl : l.length ≤ 100000) (hby : Byt l) (hg : Hnd w) :
    Calls Tryz.prog 30 #[v] w fun e w' => ∃ vx, e = .returned (.tuple #[vx, erN (readB l).1.op (readB l).1.pt (readB l).1.c]) ∧ IsB (fun k => w.heap.size ≤ k) (fun k => w.heap.size ≤ k) w' vx (readB l).2 ∧ Below w.heap.size w w' := by
  obtain ⟨ao, cap, rfl⟩ := hv.form
  have hpos : 0 < w.heap.size := cell_block hg
  have hb0 : Below w.heap.size w (w.alloc (.cells #[.int .i64 0, .int .i64 0, .slice none 0 0] 48)) := (Below.refl _ _).alloc (Nat.le_refl _) _
  have hs0 : (w.alloc (.cells #[.int .i64 0, .int .i64 0, .slice none 0 0] 48)).heap.size = w.heap.size + 1 := by simp
  have HK : Hid (∀ W, Below (w.heap.size + 1) (w.alloc (.cells #[.int .i64 0, .int .i64 0, .slice none 0 0] 48)) W → (W.cell? ⟨w.heap.size, 0, none⟩ = some (.int .i64 0) ∧ W.cell? ⟨w.heap.size, 1, none⟩ = some (.int .i64 0) ∧ W.cell? ⟨w.heap.size, 2, none⟩ = some (.slice none 0 0)) ∧ ∀ i, W.frozen? ⟨w.heap.size, i, none⟩ = false) := hide (fun W h => by
    have hc : ∀ i, W.cell? ⟨w.heap.size, i, none⟩ = _ := fun i => h.cell (p := ⟨w.heap.size, i, none⟩) (by show w.heap.size < _; omega)
    have hf : ∀ i, W.frozen? ⟨w.heap.size, i, none⟩ = _ := fun i => h.frozen (p := ⟨w.heap.size, i, none⟩) (by show w.heap.size < _; omega)
    exact ⟨⟨by rw [hc]; simp, by rw [hc]; simp, by rw [hc]; simp⟩, fun i => by rw [hf]; exact World.frozen?_alloc_at _ _ _ _ (by simp)⟩)
  have HRD := hide (read_any ao l.length cap (w.alloc (.cells #[.int .i64 0, .int .i64 0, .slice none 0 0] 48)))
  have HV := hide (hv.below hb0)
  have HG := hide (hg.below hb0)
  have HB0 := hide hb0
  have HS0 := hide hs0
  have HBY := hide hby
  have HRB : Hid (readB l = (endS l (nextG l (okS 0)).1, if (endS l (nextG l (okS 0)).1).c = 0 then (nextG l (okS 0)).2 else Bt.zero)) := hide rfl
  generalize readB l = RB at HRB ⊢
  clear hv hg hb0 hs0 hby
  go_enter Tryz.func30, Tryz.ntmps30
  go_upto_region 1 with fail
  generalize w.alloc (.cells #[.int .i64 0, .int .i64 0, .slice none 0 0] 48) = X0 at HK HRD HV HG HB0 HS0 ⊢
  go_upto_region 2 with (first | (go_at_call 10; refine HRD.out.mono ?_; rintro e W1 ⟨rfl, hr1, hb1⟩))
  have hz0 : w.heap.size + 1 ≤ X0.heap.size := by rw [HS0.out]; exact Nat.le_refl _
  have hlt1 : X0.heap.size < W1.heap.size := hr1.lt
  have HN := hide (next_any X0.heap.size (.slice ao l.length cap) l (okS 0) W1 hr1 ((HV.out.out (Nat.le_refl _)).below hb1) hl HBY.out (Nat.zero_le _) (HG.out.below hb1) (by show X0.heap.size ≠ 0; omega))
  have HB1 : Hid (Below (w.heap.size + 1) X0 W1) := hide (hb1.mono (by omega))
  generalize nextG l (okS 0) = NG at *
  obtain ⟨sn, x⟩ := NG
  simp only at HN HRB
  clear hr1 hb1 HRD HV HG HBY HS0
  go_upto_region 3 with (first | (go_at_call 32; refine HN.out.mono ?_; rintro e W2 ⟨vx, rfl, hx2, hr2, hb2⟩; obtain ⟨u, ps, rfl, hl2, hps⟩ := hx2; obtain ⟨a2, c2, rfl⟩ := hl2.form))
  have HB2 : Hid (Below (w.heap.size + 1) X0 W2) := hide (below_bx HB1.out hb2 (by omega) (by omega))
  have hz2 : W1.heap.size ≤ W2.heap.size := hb2.size
  obtain ⟨Y, hY⟩ : ∃ Y, Y = W2.alloc (.cells #[.int .i64 x.t, .int .i64 x.b, .slice a2 ps.length c2] 48) := ⟨_, rfl⟩
  have hbY : Below W2.heap.size W2 Y := by rw [hY]; exact (Below.refl _ _).alloc (Nat.le_refl _) _
  have y0 : Y.cell? ⟨W2.heap.size, 0, none⟩ = some (.int .i64 x.t) := by rw [hY]; simp
  have y1 : Y.cell? ⟨W2.heap.size, 1, none⟩ = some (.int .i64 x.b) := by rw [hY]; simp
  have y2 : Y.cell? ⟨W2.heap.size, 2, none⟩ = some (.slice a2 ps.length c2) := by rw [hY]; simp
  have hyl : W2.heap.size < Y.heap.size := cell_block y0
  rw [← hY]
  have HBY : Hid (Below (w.heap.size + 1) X0 Y) := hide (HB2.out.trans (hbY.mono (by omega)))
  have HE := hide (rend_gs X0.heap.size ao cap l sn Y (hr2.below hbY))
  have HLY := hide (hl2.below hbY)
  have HPS := hide hps
  have HYY := hide (And.intro y0 (And.intro y1 y2))
  have hD : X0.heap.size < W2.heap.size := by omega
  generalize endS l sn = sE at *
  clear hr2 hb2 hl2 hps hY hbY y0 y1 y2 HN HB1 HB2
  generalize W2.heap.size = D at *
  go_upto_region 4 with (first | (go_at_call 17; refine HE.out.mono ?_; rintro e W3 ⟨rfl, hr3, hb3⟩))
  have HB3 : Hid (Below (w.heap.size + 1) X0 W3) := hide (below_bx HBY.out hb3 (by omega) (by have := HBY.out.size; omega))
  obtain ⟨⟨r0, r1, r2⟩, rf⟩ := HK.out W3 HB3.out
  have rf0 := rf 0
  have rf1 := rf 1
  have rf2 := rf 2
  have y0 : W3.cell? ⟨D, 0, none⟩ = some (.int .i64 x.t) := (hb3.cell hyl (by omega)).trans HYY.out.1
  have y1 : W3.cell? ⟨D, 1, none⟩ = some (.int .i64 x.b) := (hb3.cell hyl (by omega)).trans HYY.out.2.1
  have y2 : W3.cell? ⟨D, 2, none⟩ = some (.slice a2 ps.length c2) := (hb3.cell hyl (by omega)).trans HYY.out.2.2
  have HL3 : Hid (Rl (fun k => W1.heap.size ≤ k) (fun k => W1.heap.size ≤ k) W3 (.slice a2 ps.length c2) ps) := hide (HLY.out.imp (fun _ _ q => q) (fun _ _ q => q) (fun b i hl hk => hb3.cell hl (by omega)))
  have HBF : Hid (Below w.heap.size w W3) := hide (HB0.out.trans (HB3.out.mono (Nat.le_succ _)))
  clear hr3 hb3 HE HK HYY HLY HBY rf
  by_cases hc : sE.c = 0
  · have e1 : RB = (sE, x) := by rw [HRB.out, if_pos hc]
    have HRE := hide e1
    rw [show erN sE.op sE.pt sE.c = .nilIface from if_pos hc]
    go_wp2_with fail
    exact bodyPost_ret (v := .tuple #[.agg #[.int .i64 x.t, .int .i64 x.b, .slice a2 ps.length c2], .nilIface]) (by simp [results, Tryz.results30, go_sem, r0, r1, r2]) rfl ⟨_, by rw [HRE.out, show erN sE.op sE.pt sE.c = .nilIface from if_pos hc], by rw [HRE.out]; exact ⟨_, ps, rfl, HL3.out.imp (fun k _ q => by omega) (fun k _ q => by omega) (fun b i _ hk => by iterate 3 rw [World.cell?_setCell_other _ _ _ _ (fun e => by have := congrArg Addr.block e; simp at this; omega)]), HPS.out⟩, ((HBF.out.setCell (by exact Nat.le_refl _) _).setCell (by exact Nat.le_refl _) _).setCell (by exact Nat.le_refl _) _⟩
  · have e1 : RB = (sE, Bt.zero) := by rw [HRB.out, if_neg hc]
    have HRE := hide e1
    rw [show erN sE.op sE.pt sE.c = ft sE.op sE.pt sE.c from if_neg hc]
    unfold ft
    go_wp2_with fail
    exact bodyPost_ret (v := .tuple #[.agg #[.int .i64 0, .int .i64 0, .slice none 0 0], ft sE.op sE.pt sE.c]) (by simp [results, Tryz.results30, go_sem, r0, r1, r2, ft]) rfl ⟨_, by rw [HRE.out, show erN sE.op sE.pt sE.c = ft sE.op sE.pt sE.c from if_neg hc], by rw [HRE.out]; exact isB_zero _ _ _, ((HBF.out.setCell (by exact Nat.le_refl _) _).setCell (by exact Nat.le_refl _) _).setCell (by exact Nat.le_refl _) _⟩
end Go.Proofs.YtgbcjmpnkejpeaaGreatDoor
