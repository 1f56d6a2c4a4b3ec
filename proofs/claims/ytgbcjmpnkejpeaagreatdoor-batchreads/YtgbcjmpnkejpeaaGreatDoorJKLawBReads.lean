/-
  BatchReads' WALK: which batch any bytes are, and what is wrong first, and where. Conditions: the bytes' cells hold them, each is a byte; errors.errorType is laid.
-/
import Derived.Test.YtgbcjmpnkejpeaaGreatDoorJKRecRla3
import Derived.Test.YtgbcjmpnkejpeaaGreatDoorJKBatWk
import Derived.Test.YtgbcjmpnkejpeaaGreatDoorJKBatWra3
import Derived.Test.YtgbcjmpnkejpeaaGreatDoorJKLawBBack
namespace Go.Proofs.YtgbcjmpnkejpeaaGreatDoor
open Go.RowKit

theorem of_er (op : ByteArray) (a c : Int) (w : World) (hg : Hnd w) : Calls Tryz.prog 34 #[erN op a c] w fun e w' => e = .returned (.int .i64 c) ∧ Below w.heap.size w w' := by
  by_cases hc : c = 0
  · subst hc
    exact of_ev none w hg
  · rw [show erN op a c = ft op a c from if_neg hc]
    exact of_ev (some ([(op, a)], c)) w hg
theorem recs_ln (l : List Int) (s : Gs) : ∀ n, ∀ r ∈ (recsG l n s).2, LnR r
  | 0 => fun r hr => by simp [recsG] at hr
  | n + 1 => fun r hr => by
    rw [recsG_succ] at hr
    rcases List.mem_append.1 hr with q | q
    · exact recs_ln l s n r q
    · simp at q; subst q; exact read_ln l _
theorem gN_le {m : Int} {l : List Int} {s s' : Gs} {x : Int} (hm : 0 ≤ m) (hb : Byt l) (h : gN m l s = (s', x)) : x ≤ m := by
  unfold gN at h
  split at h
  · obtain ⟨_, e⟩ := Prod.mk.inj h
    rw [← e]
    rcases hq : numS (l.drop s.pt) m with ⟨c, k, n⟩
    by_cases hc : c = 0
    · subst hc
      obtain ⟨_, _, _, _, e5, _⟩ := numS_once (fun x hx => hb x (List.mem_of_mem_drop hx)) hq
      exact e5
    · have := (numS_bad hq hc).2
      simp only
      omega
  · obtain ⟨_, e⟩ := Prod.mk.inj h
    rw [← e]
    exact hm
theorem next_ln (l : List Int) (hby : Byt l) (s : Gs) : (∀ r ∈ (nextG l s).2.rs, LnR r) ∧ (nextG l s).2.rs.length ≤ 100000 := by
  by_cases h : (nextG l s).1.c = 0
  · have hx3 : (gN 64 l (gN 1073741824 l (gN 1073741824 l s).1).1).2 ≤ 64 := gN_le (s := (gN 1073741824 l (gN 1073741824 l s).1).1) (s' := (gN 64 l (gN 1073741824 l (gN 1073741824 l s).1).1).1) (by decide) hby rfl
    have key : ∀ (S : Gs) (n : Nat) (T : Gs) (x1 x2 : Int), n ≤ 64 → (∀ r ∈ (if T.c = 0 then (T, Bt.mk x1 x2 (recsG l n S).2) else (T, Bt.zero)).2.rs, LnR r) ∧ (if T.c = 0 then (T, Bt.mk x1 x2 (recsG l n S).2) else (T, Bt.zero)).2.rs.length ≤ 100000 := fun S n T x1 x2 hn => by
      split
      · exact ⟨recs_ln l S n, by show (recsG l n S).2.length ≤ _; rw [recs_len]; omega⟩
      · exact ⟨fun r hr => by simp [Bt.zero] at hr, by simp [Bt.zero]⟩
    unfold nextG
    simp only
    exact key _ _ _ _ _ (by omega)
  · rw [next_zero h]; exact ⟨fun r hr => by simp [Bt.zero] at hr, by simp [Bt.zero]⟩
theorem isB_bx {q : Nat} {v : Value} {x : Bt} {ok : Nat → Prop} {W W' : World} (h : IsB ok ok W v x) (hb : Bx q W W') (hq : ¬ ok q) : IsB ok ok W' v x :=
  h.imp (fun _ _ k => k) (fun _ _ k => k) (fun b i hl hk => hb.cell hl (fun e => hq (by rcases hk with k | k <;> exact e ▸ k)))
theorem two_in (W : World) (x : Bt) (ao : Option Addr) (n cap : Nat) (s : Gs) {Y : World} (hY : Y = (W.alloc (.cells #[.int .i64 x.t, .int .i64 x.b, .slice ao n cap] 48)).alloc (.cells #[.int .i64 s.pt, .int .i64 s.c, .string s.op, .int .i64 (whS s)] 29)) : Below W.heap.size W Y ∧ ∀ V, Below Y.heap.size Y V → (V.cell? ⟨W.heap.size, 0, none⟩ = some (.int .i64 x.t) ∧ V.cell? ⟨W.heap.size, 1, none⟩ = some (.int .i64 x.b) ∧ V.cell? ⟨W.heap.size, 2, none⟩ = some (.slice ao n cap)) ∧ (V.cell? ⟨W.heap.size + 1, 1, none⟩ = some (.int .i64 s.c) ∧ V.cell? ⟨W.heap.size + 1, 2, none⟩ = some (.string s.op) ∧ V.cell? ⟨W.heap.size + 1, 3, none⟩ = some (.int .i64 (whS s))) := by
  have hz : Y.heap.size = W.heap.size + 2 := by rw [hY]; simp
  refine ⟨by rw [hY]; exact ((Below.refl _ _).alloc (Nat.le_refl _) _).alloc (by simp) _, fun V h => ?_⟩
  have h1 : ∀ i, V.cell? ⟨W.heap.size, i, none⟩ = Y.cell? ⟨W.heap.size, i, none⟩ := fun i => h.cell (p := ⟨W.heap.size, i, none⟩) (by show W.heap.size < _; omega)
  have h2 : ∀ i, V.cell? ⟨W.heap.size + 1, i, none⟩ = Y.cell? ⟨W.heap.size + 1, i, none⟩ := fun i => h.cell (p := ⟨W.heap.size + 1, i, none⟩) (by show W.heap.size + 1 < _; omega)
  have gA : Below (W.heap.size + 1) (W.alloc (.cells #[.int .i64 x.t, .int .i64 x.b, .slice ao n cap] 48)) Y := by rw [hY]; exact (Below.refl _ _).alloc (by simp) _
  have h1' : ∀ i, Y.cell? ⟨W.heap.size, i, none⟩ = (W.alloc (.cells #[.int .i64 x.t, .int .i64 x.b, .slice ao n cap] 48)).cell? ⟨W.heap.size, i, none⟩ := fun i => gA.cell (p := ⟨W.heap.size, i, none⟩) (by show W.heap.size < _; omega)
  exact ⟨⟨by rw [h1, h1']; simp, by rw [h1, h1']; simp, by rw [h1, h1']; simp⟩, by rw [h2, hY]; simp, by rw [h2, hY]; simp, by rw [h2, hY]; simp⟩
theorem bwrong_gs (s : Gs) (w : World) (hg : Hnd w) : Calls Tryz.prog 20 #[erN s.op s.pt s.c, .agg #[.string s.op, .int .i64 (whS s), .int .i64 s.c, .int .i64 (-1)]] w fun e w' => e = .returned (.bool true) ∧ Below w.heap.size w w' := by
  by_cases hc : s.c = 0
  · rw [hc]
    exact bwrong_nil s.op (whS s) (-1) w
  · have := bwrong_ft s.op s.pt s.c (-1) w (by decide) hg
    rw [show whS s = (s.pt : Int) from if_neg hc, show erN s.op s.pt s.c = ft s.op s.pt s.c from if_neg hc]
    exact this
set_option maxRecDepth 100000 in
set_option maxHeartbeats 4000000 in
theorem breads_long (ao : Option Addr) (cap L : Nat) (w : World) (hl : 1500 < L) (hg : Hnd w) : Calls Tryz.prog 6 #[.slice ao L cap] w fun e w' => e = .returned (.bool true) ∧ Below w.heap.size w w' := by
  have hlI : (1500 : Int) < (L : Int) := by omega
  have HW := hide (bworks_any w hg)
  clear hg
  go_enter Tryz.func6, Tryz.ntmps6
  go_wp2_with (first | (go_at_call 19; refine HW.out.mono ?_; rintro e w1 ⟨rfl, hb1⟩))
  go_ret
  exact ⟨rfl, hb1⟩
set_option maxRecDepth 100000 in
set_option maxHeartbeats 64000000 in
theorem breads_go (ao : Option Addr) (cap : Nat) (l : List Int) (w : World) (hv : Sl bc w (.slice ao l.length cap) l) (hby : Byt l) (hl : l.length ≤ 1500) (hg : Hnd w) : Calls Tryz.prog 6 #[.slice ao l.length cap] w fun e w' => e = .returned (.bool true) ∧ Below w.heap.size w w' := by
  have hpos : 0 < w.heap.size := cell_block hg
  have HV := hide hv
  have HBY := hide hby
  have HG := hide hg
  have HWK := hide (fun W (h : Below w.heap.size w W) => bworks_any W (HG.out.below h))
  have hlI : ¬ (1500 : Int) < (l.length : Int) := by omega
  have HRA := hide (bread_any (.slice ao l.length cap) l w hv (by omega) hby hg)
  have HRB := hide (fun W (h : Below w.heap.size w W) => rbread_go ao cap l W (HV.out.below h) (by omega) HBY.out)
  have HLN := hide (read_lnB l hby)
  have hn64 := read_nB l hby
  generalize readB l = RB at *
  obtain ⟨sE, x⟩ := RB
  simp only at HRA HRB HLN hn64
  clear hv hby hg
  go_enter Tryz.func6, Tryz.ntmps6
  go_upto_region 4 with (first | (go_at_call 30; refine HRA.out.mono ?_; rintro e W1 ⟨vx, rfl, hx1, hb1⟩; obtain ⟨a1, c1, ps1, rfl, hl1, hp1⟩ := isB_form hx1; clear hx1))
  obtain ⟨Y1, hY1⟩ : ∃ Y, Y = W1.alloc (.cells #[.int .i64 x.t, .int .i64 x.b, .slice a1 x.rs.length c1] 48) := ⟨_, rfl⟩
  obtain ⟨hbY1, hTY1⟩ := box_in W1 x a1 _ c1 hY1
  show Code.wp _ _ _ _ _
  rw [← hY1]
  have HB1 := hide (hb1.trans (hbY1.mono hb1.size))
  have HT1 := hide hTY1
  have HI1 : Hid (∀ W, Below Y1.heap.size Y1 W → IsB (fun _ => True) (fun _ => True) W (.agg #[.int .i64 x.t, .int .i64 x.b, .slice a1 x.rs.length c1]) x) := hide (fun W h => ⟨_, ps1, rfl, ((hl1.below hbY1).below h).any, hp1⟩)
  clear hY1 hb1 hbY1 hTY1 hl1 hp1 HRA
  generalize W1.heap.size = d1 at *
  go_upto_region 5 with (first | (go_at_call 31; refine (HRB.out Y1 HB1.out).mono ?_; rintro e W2 ⟨vy, rfl, hx2, hb2⟩; obtain ⟨a2, c2, ps2, rfl, hl2, hp2⟩ := isB_form hx2; clear hx2))
  obtain ⟨Y2, hY2⟩ : ∃ Y, Y = (W2.alloc (.cells #[.int .i64 x.t, .int .i64 x.b, .slice a2 x.rs.length c2] 48)).alloc (.cells #[.int .i64 sE.pt, .int .i64 sE.c, .string sE.op, .int .i64 (whS sE)] 29) := ⟨_, rfl⟩
  obtain ⟨hbY2, hTY2⟩ := two_in W2 x a2 _ c2 sE hY2
  show Code.wp _ _ _ _ _
  rw [← hY2]
  have HX2 := hide (hb2.trans (hbY2.mono hb2.size))
  have HB2 := hide (HB1.out.trans (HX2.out.mono HB1.out.size))
  have hposY : 0 < Y2.heap.size := Nat.lt_of_lt_of_le hpos HB2.out.size
  have HT2 := hide hTY2
  have HI2 : Hid (∀ W, Below Y2.heap.size Y2 W → IsB (fun _ => True) (fun _ => True) W (.agg #[.int .i64 x.t, .int .i64 x.b, .slice a2 x.rs.length c2]) x) := hide (fun W h => ⟨_, ps2, rfl, ((hl2.below hbY2).below h).any, hp2⟩)
  have HVY := hide (HV.out.below HB2.out)
  have HGY := hide (HG.out.below HB2.out)
  clear hY2 hb2 hbY2 hTY2 hl2 hp2 HRB
  generalize W2.heap.size = d2 at *
  clear W2
  have HRD := hide (read_any ao l.length cap Y2)
  go_upto_region 9 with (first | (go_at_call 10; refine HRD.out.mono ?_; rintro e W3 ⟨rfl, hr3, hb3⟩))
  have H2 : Hid (Two Y2 (W3.alloc (.cells #[.slice ao l.length cap, .int .i64 0, .int .i64 0, .string ⟨#[]⟩, .int .i64 0] 31)) Y2.heap.size W3.heap.size (.slice ao l.length cap) l (okS 0)) := hide (by
    have hba : Below W3.heap.size W3 (W3.alloc (.cells #[.slice ao l.length cap, .int .i64 0, .int .i64 0, .string ⟨#[]⟩, .int .i64 0] 31)) := (Below.refl _ _).alloc (Nat.le_refl _) _
    have hlt : Y2.heap.size < W3.heap.size := hr3.lt
    exact ⟨RdG.below (s := okS 0) hr3 hba, ⟨by simp, by simp [okS], by simp [okS], by simp [okS], by simp [okS, whS], fun i => World.frozen?_alloc_at _ _ _ _ (by simp)⟩, Nat.zero_le _, hb3.trans (hba.mono hb3.size), Nat.le_refl _, by omega, by omega, by simp⟩)
  clear hr3 hb3 HRD
  generalize W3.alloc (.cells #[.slice ao l.length cap, .int .i64 0, .int .i64 0, .string ⟨#[]⟩, .int .i64 0] 31) = X at H2 ⊢
  generalize W3.heap.size = q at H2 ⊢
  clear W3
  go_wp2_with fail
  go_loopw [9] (fun i wr => ∃ (j : Nat) (s : Gs), j ≤ 3 ∧ i = .int .i64 (j : Int) ∧ Two Y2 wr Y2.heap.size q (.slice ao l.length cap) l s) (fun i _ => 3 - (intOf i).toNat)
  case atStart => exact ⟨0, okS 0, Nat.zero_le _, rfl, H2.out⟩
  case round =>
    obtain ⟨j, s, hj, rfl, h2⟩ := hrel
    clear H2
    have H2 := hide h2
    clear h2
    by_cases hlt : j < 3
    · have hltI : (j : Int) < 3 := by omega
      have HPT := hide (next_pt (s := s) HBY.out H2.out.pt)
      have HNL := hide (next_ln l HBY.out s)
      have HC1 := hide (fun W (h : RdG W Y2.heap.size (.slice ao l.length cap) s) (hb : Below Y2.heap.size Y2 W) (hpt : s.pt ≤ l.length) => next_any Y2.heap.size (.slice ao l.length cap) l s W h ((HVY.out.out (Nat.le_refl _)).below hb) (by omega) HBY.out hpt (HGY.out.below hb) (by show Y2.heap.size ≠ 0; omega))
      have HC2 := hide (fun W (h : CuG W q (.slice ao l.length cap) s) (hb : Below Y2.heap.size Y2 W) => rnext_any q (.slice ao l.length cap) l s Y2 W h HVY.out hb H2.out.hq (by omega) HBY.out H2.out.pt)
      generalize nextG l s = RR at *
      obtain ⟨s2, z⟩ := RR
      simp only at HPT HNL HC1 HC2
      go_upto_region 12 with fail
      go_cut [61] (fun b W => b = .bool false ∧ Two Y2 W Y2.heap.size q (.slice ao l.length cap) l s2)
      case first =>
        refine wp_region_held_drew (S := fun _ => True) (by kernel_rfl) trivial (fun hHeld => ?_)
        have H0 := hide (H2.out.below ((Below.refl _ _).drew))
        generalize wr.drew = W0 at H0 ⊢
        refine wpAnyH_take (i := 0) (oi := _) (v := .pointer (some ⟨Y2.heap.size, 0, none⟩)) rfl (by kernel_rfl) (by kernel_rfl) (by kernel_rfl) (fun _ _ _ h => h) (Or.inl ⟨by rfl, by intro w hSw; go_simp⟩) hHeld ?_
        change wpAnyH _ _ _ _ _ _ _ (Act.put _ (some 35) _) _
        simp only [Act.put, List.setIfInBounds_toArray, List.set_cons_zero, List.set_cons_succ]
        refine wpAnyH_take (i := 2) (oi := _) (v := .pointer (some ⟨q, 0, none⟩)) rfl (by kernel_rfl) (by kernel_rfl) (by kernel_rfl) (fun _ _ _ h => h) (Or.inl ⟨by rfl, by intro w hSw; go_simp⟩) hHeld ?_
        change wpAnyH _ _ _ _ _ _ _ (Act.put _ (some 37) _) _
        simp only [Act.put, List.setIfInBounds_toArray, List.set_cons_zero, List.set_cons_succ]
        refine wpAnyH_ready (rs := [1]) (by kernel_rfl) (by simp) ?_
        refine AllReadyH.cons (o := _) rfl (fun K hK => ?_) AllReadyH.nil
        go_simp
        go_at_call 32
        refine (HC1.out _ H0.out.rd H0.out.be H0.out.pt).mono ?_
        rintro e w1 ⟨vx, rfl, hx, hr, hb⟩
        go_wp2_with fail
        refine hK.out _ _ ?_ (fun hHeld1 => ?_)
        · exact trivial
        clear hK K hHeld
        have hHeld := hHeld1
        clear hHeld1
        have HX := hide hx
        have H1r := hide hr
        have H1b := hide hb
        clear hx hr hb
        have hne := H0.out.ne
        have hlq := H0.out.lq
        refine wpAnyH_ready (rs := [3]) (by kernel_rfl) (by simp) ?_
        refine AllReadyH.cons (o := _) rfl (fun K hK => ?_) AllReadyH.nil
        go_simp
        go_at_call 33
        refine (HC2.out w1 (cuG_bx H0.out.cu H1b.out (Ne.symm hne)) (below_bx H0.out.be H1b.out (Nat.le_refl _) H0.out.be.size)).mono ?_
        rintro e w2 ⟨vy, rfl, hy, hr, hb⟩
        go_wp2_with fail
        refine hK.out _ _ ?_ (fun hHeld1 => ?_)
        · exact trivial
        clear hK K hHeld
        have hHeld := hHeld1
        clear hHeld1
        have H3 := hide (show Two Y2 w2 Y2.heap.size q (.slice ao l.length cap) l s2 from ⟨rdG_bx H1r.out hb hne, hr, HPT.out, below_bx (below_bx H0.out.be H1b.out (Nat.le_refl _) H0.out.be.size) hb H0.out.hq (Nat.le_trans H0.out.be.size H1b.out.size), H0.out.hp, H0.out.hq, hne, Nat.lt_of_lt_of_le hlq (Nat.le_trans H1b.out.size hb.size)⟩)
        replace HX := hide (isB_bx HX.out hb (by omega))
        have HY := hide hy
        clear hy hr hb H1r H1b H0
        have HSM := hide (rbsame_any z z vx vy _ HX.out HY.out HNL.out.2 HNL.out.1)
        rw [sameBt_self] at HSM
        refine wpAnyH_ready (rs := [4]) (by kernel_rfl) (by simp) ?_
        refine AllReadyH.cons (o := _) rfl (fun K hK => ?_) AllReadyH.nil
        go_simp
        go_at_call 24
        refine (HSM.out).mono ?_
        rintro e w4 ⟨rfl, hb4⟩
        go_wp2_with fail
        refine hK.out _ _ ?_ (fun hHeld1 => ?_)
        · exact trivial
        clear hK K hHeld
        have hHeld := hHeld1
        clear hHeld1
        have H4 := hide (H3.out.below hb4)
        clear hb4 H3 HSM HX HY HC1 HC2
        refine wpAnyH_take (i := 5) (oi := _) (v := .bool false) rfl (by kernel_rfl) (by kernel_rfl) (by kernel_rfl) (fun _ _ _ h => h) (Or.inl ⟨by rfl, by intro w hSw; go_simp⟩) hHeld ?_
        change wpAnyH _ _ _ _ _ _ _ (Act.put _ (some 40) _) _
        simp only [Act.put, List.setIfInBounds_toArray, List.set_cons_zero, List.set_cons_succ]
        refine wpAnyH_take (i := 6) (oi := _) (v := .bool false) rfl (by kernel_rfl) (by kernel_rfl) (by kernel_rfl) (fun _ _ _ h => h) (Or.inl ⟨by rfl, by intro w hSw; go_simp⟩) hHeld ?_
        change wpAnyH _ _ _ _ _ _ _ (Act.put _ (some 41) _) _
        simp only [Act.put, List.setIfInBounds_toArray, List.set_cons_zero, List.set_cons_succ]
        refine wpAnyH_take (i := 7) (oi := _) (v := .pointer (some ⟨Y2.heap.size, 0, none⟩)) rfl (by kernel_rfl) (by kernel_rfl) (by kernel_rfl) (fun _ _ _ h => h) (Or.inl ⟨by rfl, by intro w hSw; go_simp⟩) hHeld ?_
        change wpAnyH _ _ _ _ _ _ _ (Act.put _ (some 42) _) _
        simp only [Act.put, List.setIfInBounds_toArray, List.set_cons_zero, List.set_cons_succ]
        refine wpAnyH_take (i := 9) (oi := _) (v := .pointer (some ⟨q, 0, none⟩)) rfl (by kernel_rfl) (by kernel_rfl) (by kernel_rfl) (fun _ _ _ h => h) (Or.inl ⟨by rfl, by intro w hSw; go_simp⟩) hHeld ?_
        change wpAnyH _ _ _ _ _ _ _ (Act.put _ (some 44) _) _
        simp only [Act.put, List.setIfInBounds_toArray, List.set_cons_zero, List.set_cons_succ]
        refine wpAnyH_take (i := 10) (oi := _) (v := .pointer (some ⟨q, 0, none⟩)) rfl (by kernel_rfl) (by kernel_rfl) (by kernel_rfl) (fun _ _ _ h => h) (Or.inl ⟨by rfl, by intro w hSw; go_simp⟩) hHeld ?_
        change wpAnyH _ _ _ _ _ _ _ (Act.put _ (some 45) _) _
        simp only [Act.put, List.setIfInBounds_toArray, List.set_cons_zero, List.set_cons_succ]
        refine wpAnyH_take (i := 11) (oi := _) (v := .pointer (some ⟨q, 1, none⟩)) rfl (by kernel_rfl) (by kernel_rfl) (by kernel_rfl) (fun _ _ _ h => h) (Or.inl ⟨by rfl, by intro w hSw; go_simp⟩) hHeld ?_
        change wpAnyH _ _ _ _ _ _ _ (Act.put _ (some 46) _) _
        simp only [Act.put, List.setIfInBounds_toArray, List.set_cons_zero, List.set_cons_succ]
        refine wpAnyH_take (i := 12) (oi := _) (v := .pointer (some ⟨q, 1, none⟩)) rfl (by kernel_rfl) (by kernel_rfl) (by kernel_rfl) (fun _ _ _ h => h) (Or.inl ⟨by rfl, by intro w hSw; go_simp⟩) hHeld ?_
        change wpAnyH _ _ _ _ _ _ _ (Act.put _ (some 47) _) _
        simp only [Act.put, List.setIfInBounds_toArray, List.set_cons_zero, List.set_cons_succ]
        refine wpAnyH_ready (rs := [8, 13]) (by kernel_rfl) (by simp) ?_
        refine AllReadyH.cons (o := _) rfl (fun K hK => ?_) (AllReadyH.cons (o := _) rfl (fun K hK => ?_) AllReadyH.nil)
        · go_simp
          go_at_call 14
          refine (at_any _ _ _ _ _ H4.out.rd).mono ?_
          rintro e w5 ⟨rfl, hw5⟩
          go_wp2_with fail
          refine hK.out _ _ ?_ (fun hHeld1 => ?_)
          · exact trivial
          clear hK K hHeld
          have hHeld := hHeld1
          clear hHeld1
          clear hw5
          refine wpAnyH_ready (rs := [13]) (by kernel_rfl) (by simp) ?_
          refine AllReadyH.cons (o := _) rfl (fun K hK => ?_) AllReadyH.nil
          have i1 := H4.out.cu.c1
          go_simp
          clear i1
          refine hK.out _ _ ?_ (fun hHeld1 => ?_)
          · exact trivial
          clear hK K hHeld
          have hHeld := hHeld1
          clear hHeld1
          refine wpAnyH_take (i := 14) (oi := _) (v := .bool false) rfl (by kernel_rfl) (by kernel_rfl) (by kernel_rfl) (fun _ _ _ h => h) (Or.inl ⟨by rfl, by intro w hSw; go_simp⟩) hHeld ?_
          change wpAnyH _ _ _ _ _ _ _ (Act.put _ (some 49) _) _
          simp only [Act.put, List.setIfInBounds_toArray, List.set_cons_zero, List.set_cons_succ]
          refine wpAnyH_take (i := 15) (oi := _) (v := .bool false) rfl (by kernel_rfl) (by kernel_rfl) (by kernel_rfl) (fun _ _ _ h => h) (Or.inl ⟨by rfl, by intro w hSw; go_simp⟩) hHeld ?_
          change wpAnyH _ _ _ _ _ _ _ (Act.put _ (some 50) _) _
          simp only [Act.put, List.setIfInBounds_toArray, List.set_cons_zero, List.set_cons_succ]
          refine wpAnyH_take (i := 16) (oi := _) (v := .bool false) rfl (by kernel_rfl) (by kernel_rfl) (by kernel_rfl) (fun _ _ _ h => h) (Or.inl ⟨by rfl, by intro w hSw; go_simp⟩) hHeld ?_
          change wpAnyH _ _ _ _ _ _ _ (Act.put _ (some 51) _) _
          simp only [Act.put, List.setIfInBounds_toArray, List.set_cons_zero, List.set_cons_succ]
          refine wpAnyH_take (i := 17) (oi := _) (v := .pointer (some ⟨Y2.heap.size, 0, none⟩)) rfl (by kernel_rfl) (by kernel_rfl) (by kernel_rfl) (fun _ _ _ h => h) (Or.inl ⟨by rfl, by intro w hSw; go_simp⟩) hHeld ?_
          change wpAnyH _ _ _ _ _ _ _ (Act.put _ (some 52) _) _
          simp only [Act.put, List.setIfInBounds_toArray, List.set_cons_zero, List.set_cons_succ]
          refine wpAnyH_take (i := 20) (oi := _) (v := .pointer (some ⟨q, 0, none⟩)) rfl (by kernel_rfl) (by kernel_rfl) (by kernel_rfl) (fun _ _ _ h => h) (Or.inl ⟨by rfl, by intro w hSw; go_simp⟩) hHeld ?_
          change wpAnyH _ _ _ _ _ _ _ (Act.put _ (some 55) _) _
          simp only [Act.put, List.setIfInBounds_toArray, List.set_cons_zero, List.set_cons_succ]
          refine wpAnyH_take (i := 21) (oi := _) (v := .pointer (some ⟨q, 0, none⟩)) rfl (by kernel_rfl) (by kernel_rfl) (by kernel_rfl) (fun _ _ _ h => h) (Or.inl ⟨by rfl, by intro w hSw; go_simp⟩) hHeld ?_
          change wpAnyH _ _ _ _ _ _ _ (Act.put _ (some 56) _) _
          simp only [Act.put, List.setIfInBounds_toArray, List.set_cons_zero, List.set_cons_succ]
          refine wpAnyH_take (i := 22) (oi := _) (v := .pointer (some ⟨q, 1, none⟩)) rfl (by kernel_rfl) (by kernel_rfl) (by kernel_rfl) (fun _ _ _ h => h) (Or.inl ⟨by rfl, by intro w hSw; go_simp⟩) hHeld ?_
          change wpAnyH _ _ _ _ _ _ _ (Act.put _ (some 57) _) _
          simp only [Act.put, List.setIfInBounds_toArray, List.set_cons_zero, List.set_cons_succ]
          refine wpAnyH_take (i := 23) (oi := _) (v := .pointer (some ⟨q, 2, none⟩)) rfl (by kernel_rfl) (by kernel_rfl) (by kernel_rfl) (fun _ _ _ h => h) (Or.inl ⟨by rfl, by intro w hSw; go_simp⟩) hHeld ?_
          change wpAnyH _ _ _ _ _ _ _ (Act.put _ (some 58) _) _
          simp only [Act.put, List.setIfInBounds_toArray, List.set_cons_zero, List.set_cons_succ]
          refine wpAnyH_ready (rs := [18, 24]) (by kernel_rfl) (by simp) ?_
          refine AllReadyH.cons (o := _) rfl (fun K hK => ?_) (AllReadyH.cons (o := _) rfl (fun K hK => ?_) AllReadyH.nil)
          · go_simp
            go_at_call 35
            refine (err_any _ _ _ _ _ H4.out.rd).mono ?_
            rintro e w6 ⟨rfl, hw6⟩
            go_wp2_with fail
            refine hK.out _ _ ?_ (fun hHeld1 => ?_)
            · exact trivial
            clear hK K hHeld
            have hHeld := hHeld1
            clear hHeld1
            clear hw6
            refine wpAnyH_ready (rs := [19, 24]) (by kernel_rfl) (by simp) ?_
            refine AllReadyH.cons (o := _) rfl (fun K hK => ?_) (AllReadyH.cons (o := _) rfl (fun K hK => ?_) AllReadyH.nil)
            · go_simp
              go_at_call 34
              refine (of_er _ _ _ _ (HGY.out.below H4.out.be)).mono ?_
              rintro e w7 ⟨rfl, hb7⟩
              go_wp2_with fail
              refine hK.out _ _ ?_ (fun hHeld1 => ?_)
              · exact trivial
              clear hK K hHeld
              have hHeld := hHeld1
              clear hHeld1
              have H5 := hide (H4.out.below hb7)
              clear hb7
              refine wpAnyH_ready (rs := [24]) (by kernel_rfl) (by simp) ?_
              refine AllReadyH.cons (o := _) rfl (fun K hK => ?_) AllReadyH.nil
              have i2 := H5.out.cu.c2
              go_simp
              clear i2
              refine hK.out _ _ ?_ (fun hHeld1 => ?_)
              · exact trivial
              clear hK K hHeld
              have hHeld := hHeld1
              clear hHeld1
              refine wpAnyH_take (i := 25) (oi := _) (v := .bool false) rfl (by kernel_rfl) (by kernel_rfl) (by kernel_rfl) (fun _ _ _ h => h) (Or.inl ⟨by rfl, by intro w hSw; go_simp⟩) hHeld ?_
              change wpAnyH _ _ _ _ _ _ _ (Act.put _ (some 60) _) _
              simp only [Act.put, List.setIfInBounds_toArray, List.set_cons_zero, List.set_cons_succ]
              refine wpAnyH_take (i := 26) (oi := _) (v := .bool false) rfl (by kernel_rfl) (by kernel_rfl) (by kernel_rfl) (fun _ _ _ h => h) (Or.inl ⟨by rfl, by intro w hSw; go_simp⟩) hHeld ?_
              change wpAnyH _ _ _ _ _ _ _ (Act.put _ (some 61) _) _
              simp only [Act.put, List.setIfInBounds_toArray, List.set_cons_zero, List.set_cons_succ]
              refine wpAnyH_done (by kernel_rfl) ?_ _
              clear hHeld
              go_wp2_with fail
              go_meet
              exact ⟨rfl, H5.out⟩
            · have i2 := H4.out.cu.c2
              go_simp
              clear i2
              refine hK.out _ _ ?_ (fun hHeld1 => ?_)
              · exact trivial
              clear hK K hHeld
              have hHeld := hHeld1
              clear hHeld1
              refine wpAnyH_ready (rs := [19]) (by kernel_rfl) (by simp) ?_
              refine AllReadyH.cons (o := _) rfl (fun K hK => ?_) AllReadyH.nil
              go_simp
              go_at_call 34
              refine (of_er _ _ _ _ (HGY.out.below H4.out.be)).mono ?_
              rintro e w7 ⟨rfl, hb7⟩
              go_wp2_with fail
              refine hK.out _ _ ?_ (fun hHeld1 => ?_)
              · exact trivial
              clear hK K hHeld
              have hHeld := hHeld1
              clear hHeld1
              have H5 := hide (H4.out.below hb7)
              clear hb7
              refine wpAnyH_take (i := 25) (oi := _) (v := .bool false) rfl (by kernel_rfl) (by kernel_rfl) (by kernel_rfl) (fun _ _ _ h => h) (Or.inl ⟨by rfl, by intro w hSw; go_simp⟩) hHeld ?_
              change wpAnyH _ _ _ _ _ _ _ (Act.put _ (some 60) _) _
              simp only [Act.put, List.setIfInBounds_toArray, List.set_cons_zero, List.set_cons_succ]
              refine wpAnyH_take (i := 26) (oi := _) (v := .bool false) rfl (by kernel_rfl) (by kernel_rfl) (by kernel_rfl) (fun _ _ _ h => h) (Or.inl ⟨by rfl, by intro w hSw; go_simp⟩) hHeld ?_
              change wpAnyH _ _ _ _ _ _ _ (Act.put _ (some 61) _) _
              simp only [Act.put, List.setIfInBounds_toArray, List.set_cons_zero, List.set_cons_succ]
              refine wpAnyH_done (by kernel_rfl) ?_ _
              clear hHeld
              go_wp2_with fail
              go_meet
              exact ⟨rfl, H5.out⟩
          · have i2 := H4.out.cu.c2
            go_simp
            clear i2
            refine hK.out _ _ ?_ (fun hHeld1 => ?_)
            · exact trivial
            clear hK K hHeld
            have hHeld := hHeld1
            clear hHeld1
            refine wpAnyH_ready (rs := [18]) (by kernel_rfl) (by simp) ?_
            refine AllReadyH.cons (o := _) rfl (fun K hK => ?_) AllReadyH.nil
            go_simp
            go_at_call 35
            refine (err_any _ _ _ _ _ H4.out.rd).mono ?_
            rintro e w6 ⟨rfl, hw6⟩
            go_wp2_with fail
            refine hK.out _ _ ?_ (fun hHeld1 => ?_)
            · exact trivial
            clear hK K hHeld
            have hHeld := hHeld1
            clear hHeld1
            clear hw6
            refine wpAnyH_ready (rs := [19]) (by kernel_rfl) (by simp) ?_
            refine AllReadyH.cons (o := _) rfl (fun K hK => ?_) AllReadyH.nil
            go_simp
            go_at_call 34
            refine (of_er _ _ _ _ (HGY.out.below H4.out.be)).mono ?_
            rintro e w7 ⟨rfl, hb7⟩
            go_wp2_with fail
            refine hK.out _ _ ?_ (fun hHeld1 => ?_)
            · exact trivial
            clear hK K hHeld
            have hHeld := hHeld1
            clear hHeld1
            have H5 := hide (H4.out.below hb7)
            clear hb7
            refine wpAnyH_take (i := 25) (oi := _) (v := .bool false) rfl (by kernel_rfl) (by kernel_rfl) (by kernel_rfl) (fun _ _ _ h => h) (Or.inl ⟨by rfl, by intro w hSw; go_simp⟩) hHeld ?_
            change wpAnyH _ _ _ _ _ _ _ (Act.put _ (some 60) _) _
            simp only [Act.put, List.setIfInBounds_toArray, List.set_cons_zero, List.set_cons_succ]
            refine wpAnyH_take (i := 26) (oi := _) (v := .bool false) rfl (by kernel_rfl) (by kernel_rfl) (by kernel_rfl) (fun _ _ _ h => h) (Or.inl ⟨by rfl, by intro w hSw; go_simp⟩) hHeld ?_
            change wpAnyH _ _ _ _ _ _ _ (Act.put _ (some 61) _) _
            simp only [Act.put, List.setIfInBounds_toArray, List.set_cons_zero, List.set_cons_succ]
            refine wpAnyH_done (by kernel_rfl) ?_ _
            clear hHeld
            go_wp2_with fail
            go_meet
            exact ⟨rfl, H5.out⟩
        · have i1 := H4.out.cu.c1
          go_simp
          clear i1
          refine hK.out _ _ ?_ (fun hHeld1 => ?_)
          · exact trivial
          clear hK K hHeld
          have hHeld := hHeld1
          clear hHeld1
          refine wpAnyH_ready (rs := [8]) (by kernel_rfl) (by simp) ?_
          refine AllReadyH.cons (o := _) rfl (fun K hK => ?_) AllReadyH.nil
          go_simp
          go_at_call 14
          refine (at_any _ _ _ _ _ H4.out.rd).mono ?_
          rintro e w5 ⟨rfl, hw5⟩
          go_wp2_with fail
          refine hK.out _ _ ?_ (fun hHeld1 => ?_)
          · exact trivial
          clear hK K hHeld
          have hHeld := hHeld1
          clear hHeld1
          clear hw5
          refine wpAnyH_take (i := 14) (oi := _) (v := .bool false) rfl (by kernel_rfl) (by kernel_rfl) (by kernel_rfl) (fun _ _ _ h => h) (Or.inl ⟨by rfl, by intro w hSw; go_simp⟩) hHeld ?_
          change wpAnyH _ _ _ _ _ _ _ (Act.put _ (some 49) _) _
          simp only [Act.put, List.setIfInBounds_toArray, List.set_cons_zero, List.set_cons_succ]
          refine wpAnyH_take (i := 15) (oi := _) (v := .bool false) rfl (by kernel_rfl) (by kernel_rfl) (by kernel_rfl) (fun _ _ _ h => h) (Or.inl ⟨by rfl, by intro w hSw; go_simp⟩) hHeld ?_
          change wpAnyH _ _ _ _ _ _ _ (Act.put _ (some 50) _) _
          simp only [Act.put, List.setIfInBounds_toArray, List.set_cons_zero, List.set_cons_succ]
          refine wpAnyH_take (i := 16) (oi := _) (v := .bool false) rfl (by kernel_rfl) (by kernel_rfl) (by kernel_rfl) (fun _ _ _ h => h) (Or.inl ⟨by rfl, by intro w hSw; go_simp⟩) hHeld ?_
          change wpAnyH _ _ _ _ _ _ _ (Act.put _ (some 51) _) _
          simp only [Act.put, List.setIfInBounds_toArray, List.set_cons_zero, List.set_cons_succ]
          refine wpAnyH_take (i := 17) (oi := _) (v := .pointer (some ⟨Y2.heap.size, 0, none⟩)) rfl (by kernel_rfl) (by kernel_rfl) (by kernel_rfl) (fun _ _ _ h => h) (Or.inl ⟨by rfl, by intro w hSw; go_simp⟩) hHeld ?_
          change wpAnyH _ _ _ _ _ _ _ (Act.put _ (some 52) _) _
          simp only [Act.put, List.setIfInBounds_toArray, List.set_cons_zero, List.set_cons_succ]
          refine wpAnyH_take (i := 20) (oi := _) (v := .pointer (some ⟨q, 0, none⟩)) rfl (by kernel_rfl) (by kernel_rfl) (by kernel_rfl) (fun _ _ _ h => h) (Or.inl ⟨by rfl, by intro w hSw; go_simp⟩) hHeld ?_
          change wpAnyH _ _ _ _ _ _ _ (Act.put _ (some 55) _) _
          simp only [Act.put, List.setIfInBounds_toArray, List.set_cons_zero, List.set_cons_succ]
          refine wpAnyH_take (i := 21) (oi := _) (v := .pointer (some ⟨q, 0, none⟩)) rfl (by kernel_rfl) (by kernel_rfl) (by kernel_rfl) (fun _ _ _ h => h) (Or.inl ⟨by rfl, by intro w hSw; go_simp⟩) hHeld ?_
          change wpAnyH _ _ _ _ _ _ _ (Act.put _ (some 56) _) _
          simp only [Act.put, List.setIfInBounds_toArray, List.set_cons_zero, List.set_cons_succ]
          refine wpAnyH_take (i := 22) (oi := _) (v := .pointer (some ⟨q, 1, none⟩)) rfl (by kernel_rfl) (by kernel_rfl) (by kernel_rfl) (fun _ _ _ h => h) (Or.inl ⟨by rfl, by intro w hSw; go_simp⟩) hHeld ?_
          change wpAnyH _ _ _ _ _ _ _ (Act.put _ (some 57) _) _
          simp only [Act.put, List.setIfInBounds_toArray, List.set_cons_zero, List.set_cons_succ]
          refine wpAnyH_take (i := 23) (oi := _) (v := .pointer (some ⟨q, 2, none⟩)) rfl (by kernel_rfl) (by kernel_rfl) (by kernel_rfl) (fun _ _ _ h => h) (Or.inl ⟨by rfl, by intro w hSw; go_simp⟩) hHeld ?_
          change wpAnyH _ _ _ _ _ _ _ (Act.put _ (some 58) _) _
          simp only [Act.put, List.setIfInBounds_toArray, List.set_cons_zero, List.set_cons_succ]
          refine wpAnyH_ready (rs := [18, 24]) (by kernel_rfl) (by simp) ?_
          refine AllReadyH.cons (o := _) rfl (fun K hK => ?_) (AllReadyH.cons (o := _) rfl (fun K hK => ?_) AllReadyH.nil)
          · go_simp
            go_at_call 35
            refine (err_any _ _ _ _ _ H4.out.rd).mono ?_
            rintro e w6 ⟨rfl, hw6⟩
            go_wp2_with fail
            refine hK.out _ _ ?_ (fun hHeld1 => ?_)
            · exact trivial
            clear hK K hHeld
            have hHeld := hHeld1
            clear hHeld1
            clear hw6
            refine wpAnyH_ready (rs := [19, 24]) (by kernel_rfl) (by simp) ?_
            refine AllReadyH.cons (o := _) rfl (fun K hK => ?_) (AllReadyH.cons (o := _) rfl (fun K hK => ?_) AllReadyH.nil)
            · go_simp
              go_at_call 34
              refine (of_er _ _ _ _ (HGY.out.below H4.out.be)).mono ?_
              rintro e w7 ⟨rfl, hb7⟩
              go_wp2_with fail
              refine hK.out _ _ ?_ (fun hHeld1 => ?_)
              · exact trivial
              clear hK K hHeld
              have hHeld := hHeld1
              clear hHeld1
              have H5 := hide (H4.out.below hb7)
              clear hb7
              refine wpAnyH_ready (rs := [24]) (by kernel_rfl) (by simp) ?_
              refine AllReadyH.cons (o := _) rfl (fun K hK => ?_) AllReadyH.nil
              have i2 := H5.out.cu.c2
              go_simp
              clear i2
              refine hK.out _ _ ?_ (fun hHeld1 => ?_)
              · exact trivial
              clear hK K hHeld
              have hHeld := hHeld1
              clear hHeld1
              refine wpAnyH_take (i := 25) (oi := _) (v := .bool false) rfl (by kernel_rfl) (by kernel_rfl) (by kernel_rfl) (fun _ _ _ h => h) (Or.inl ⟨by rfl, by intro w hSw; go_simp⟩) hHeld ?_
              change wpAnyH _ _ _ _ _ _ _ (Act.put _ (some 60) _) _
              simp only [Act.put, List.setIfInBounds_toArray, List.set_cons_zero, List.set_cons_succ]
              refine wpAnyH_take (i := 26) (oi := _) (v := .bool false) rfl (by kernel_rfl) (by kernel_rfl) (by kernel_rfl) (fun _ _ _ h => h) (Or.inl ⟨by rfl, by intro w hSw; go_simp⟩) hHeld ?_
              change wpAnyH _ _ _ _ _ _ _ (Act.put _ (some 61) _) _
              simp only [Act.put, List.setIfInBounds_toArray, List.set_cons_zero, List.set_cons_succ]
              refine wpAnyH_done (by kernel_rfl) ?_ _
              clear hHeld
              go_wp2_with fail
              go_meet
              exact ⟨rfl, H5.out⟩
            · have i2 := H4.out.cu.c2
              go_simp
              clear i2
              refine hK.out _ _ ?_ (fun hHeld1 => ?_)
              · exact trivial
              clear hK K hHeld
              have hHeld := hHeld1
              clear hHeld1
              refine wpAnyH_ready (rs := [19]) (by kernel_rfl) (by simp) ?_
              refine AllReadyH.cons (o := _) rfl (fun K hK => ?_) AllReadyH.nil
              go_simp
              go_at_call 34
              refine (of_er _ _ _ _ (HGY.out.below H4.out.be)).mono ?_
              rintro e w7 ⟨rfl, hb7⟩
              go_wp2_with fail
              refine hK.out _ _ ?_ (fun hHeld1 => ?_)
              · exact trivial
              clear hK K hHeld
              have hHeld := hHeld1
              clear hHeld1
              have H5 := hide (H4.out.below hb7)
              clear hb7
              refine wpAnyH_take (i := 25) (oi := _) (v := .bool false) rfl (by kernel_rfl) (by kernel_rfl) (by kernel_rfl) (fun _ _ _ h => h) (Or.inl ⟨by rfl, by intro w hSw; go_simp⟩) hHeld ?_
              change wpAnyH _ _ _ _ _ _ _ (Act.put _ (some 60) _) _
              simp only [Act.put, List.setIfInBounds_toArray, List.set_cons_zero, List.set_cons_succ]
              refine wpAnyH_take (i := 26) (oi := _) (v := .bool false) rfl (by kernel_rfl) (by kernel_rfl) (by kernel_rfl) (fun _ _ _ h => h) (Or.inl ⟨by rfl, by intro w hSw; go_simp⟩) hHeld ?_
              change wpAnyH _ _ _ _ _ _ _ (Act.put _ (some 61) _) _
              simp only [Act.put, List.setIfInBounds_toArray, List.set_cons_zero, List.set_cons_succ]
              refine wpAnyH_done (by kernel_rfl) ?_ _
              clear hHeld
              go_wp2_with fail
              go_meet
              exact ⟨rfl, H5.out⟩
          · have i2 := H4.out.cu.c2
            go_simp
            clear i2
            refine hK.out _ _ ?_ (fun hHeld1 => ?_)
            · exact trivial
            clear hK K hHeld
            have hHeld := hHeld1
            clear hHeld1
            refine wpAnyH_ready (rs := [18]) (by kernel_rfl) (by simp) ?_
            refine AllReadyH.cons (o := _) rfl (fun K hK => ?_) AllReadyH.nil
            go_simp
            go_at_call 35
            refine (err_any _ _ _ _ _ H4.out.rd).mono ?_
            rintro e w6 ⟨rfl, hw6⟩
            go_wp2_with fail
            refine hK.out _ _ ?_ (fun hHeld1 => ?_)
            · exact trivial
            clear hK K hHeld
            have hHeld := hHeld1
            clear hHeld1
            clear hw6
            refine wpAnyH_ready (rs := [19]) (by kernel_rfl) (by simp) ?_
            refine AllReadyH.cons (o := _) rfl (fun K hK => ?_) AllReadyH.nil
            go_simp
            go_at_call 34
            refine (of_er _ _ _ _ (HGY.out.below H4.out.be)).mono ?_
            rintro e w7 ⟨rfl, hb7⟩
            go_wp2_with fail
            refine hK.out _ _ ?_ (fun hHeld1 => ?_)
            · exact trivial
            clear hK K hHeld
            have hHeld := hHeld1
            clear hHeld1
            have H5 := hide (H4.out.below hb7)
            clear hb7
            refine wpAnyH_take (i := 25) (oi := _) (v := .bool false) rfl (by kernel_rfl) (by kernel_rfl) (by kernel_rfl) (fun _ _ _ h => h) (Or.inl ⟨by rfl, by intro w hSw; go_simp⟩) hHeld ?_
            change wpAnyH _ _ _ _ _ _ _ (Act.put _ (some 60) _) _
            simp only [Act.put, List.setIfInBounds_toArray, List.set_cons_zero, List.set_cons_succ]
            refine wpAnyH_take (i := 26) (oi := _) (v := .bool false) rfl (by kernel_rfl) (by kernel_rfl) (by kernel_rfl) (fun _ _ _ h => h) (Or.inl ⟨by rfl, by intro w hSw; go_simp⟩) hHeld ?_
            change wpAnyH _ _ _ _ _ _ _ (Act.put _ (some 61) _) _
            simp only [Act.put, List.setIfInBounds_toArray, List.set_cons_zero, List.set_cons_succ]
            refine wpAnyH_done (by kernel_rfl) ?_ _
            clear hHeld
            go_wp2_with fail
            go_meet
            exact ⟨rfl, H5.out⟩
      case rest =>
        obtain ⟨rfl, h4⟩ := hcut
        have H4 := hide h4
        clear h4 H2 HC1 HC2 HNL HPT
        go_wp2_with fail
        go_roundw
        case rel => exact ⟨j + 1, s2, by omega, by go_num, H4.out⟩
        case measure => simp [intOf]; omega
    · have hge : ¬ (j : Int) < 3 := by omega
      have HBE := hide H2.out.be
      have HXE := hide (HX2.out.trans (HBE.out.mono HX2.out.size))
      have HBW := hide (HB2.out.trans (HBE.out.mono HB2.out.size))
      have HSM := hide (rbsame_any x x _ _ wr (HI1.out wr HXE.out) (HI2.out wr HBE.out) (by omega) HLN.out)
      rw [sameBt_self] at HSM
      obtain ⟨i0, i1, i2⟩ := HT1.out wr HXE.out
      obtain ⟨⟨y0, y1, y2⟩, _⟩ := HT2.out wr HBE.out
      have HTS : Hid (∀ W, Below wr.heap.size wr W → (W.cell? ⟨d2 + 1, 1, none⟩ = some (.int .i64 sE.c) ∧ W.cell? ⟨d2 + 1, 2, none⟩ = some (.string sE.op) ∧ W.cell? ⟨d2 + 1, 3, none⟩ = some (.int .i64 (whS sE)))) := hide (fun W h => (HT2.out W (HBE.out.trans (h.mono HBE.out.size))).2)
      have HWR := hide (fun W (h : Hnd W) => bwrong_gs sE W h)
      clear H2 HT1 HT2 HI1 HI2 HLN HXE HX2
      go_wp2_with (first | (go_at_call 24; refine HSM.out.mono ?_; rintro e V1 ⟨rfl, hb1⟩; have HV1 := hide hb1; have HW1 := hide (HBW.out.trans (hb1.mono HBW.out.size)); clear hb1; obtain ⟨z1, z2, z3⟩ := HTS.out V1 HV1.out) | (go_at_call 20; refine (HWR.out V1 (HG.out.below HW1.out)).mono ?_; rintro e V2 ⟨rfl, hb2⟩; have HW2 := hide (HW1.out.trans (hb2.mono HW1.out.size)); clear hb2) | (go_at_call 19; refine (HWK.out V2 HW2.out).mono ?_; rintro e V3 ⟨rfl, hb3⟩; have HW3 := hide (HW2.out.trans (hb3.mono HW2.out.size)); clear hb3))
      go_ret
      exact ⟨rfl, HW3.out⟩
/-- BatchReads answers true. -/
theorem breads_law (v : Value) (l : List Int) (w : World) (hv : Sl bc w v l) (hby : Byt l) (hg : Hnd w) : Calls Tryz.prog 6 #[v] w fun e w' => e = .returned (.bool true) ∧ Below w.heap.size w w' := by
  obtain ⟨ao, cap, rfl⟩ := hv.form
  by_cases hl : l.length ≤ 1500
  · exact breads_go ao cap l w hv hby hl hg
  · exact breads_long ao cap l.length w (by omega) hg
end Go.Proofs.YtgbcjmpnkejpeaaGreatDoor
