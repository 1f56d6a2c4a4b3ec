/-
  A STORE, AND A CHAIN IN IT, BEHIND ACTS (castellanlaw09.played): some chain whose records are as they should be. Conditions: the acts lie in memory, and are light.
-/
import Derived.Test.YtmgfcgknajehaaaChPd
namespace Go.Proofs.Ytmgfcgknajehaaa
open Go.RowKit

theorem append_limZ (c cap : Nat) (ao : Option Addr) (w : World) : Calls Try.prog 12 #[.pointer (some ⟨c, 0, none⟩), .slice ao 0 cap] w fun e w' => e = .returned (.tuple #[.int .i64 0, .iface 101 (.agg #[.string opRecord, .int .i64 0, .iface 64 (.int .i64 6)])]) ∧ w' = w := append_lim c 0 cap ao w (.inl rfl)
theorem opn3 : Opn (Dst.tk ⟨4000, [], []⟩) 3 0 [] 3 0 := .stop (show recS [] 3 0 = none by decide +kernel)
/-- A chain is opened where it is known what it is. -/
theorem open_ps {d bS bT : Nat} {u : Value} {s : Dst} {nx y : Int} {L : List Lk} (w : World) (h : Dq w d bS bT u s) (hO : Opn s.tk 3 0 L nx y) (hw : s.wt < 30000) : Calls Try.prog 11 #[.pointer (some ⟨d, 0, none⟩), .int .i64 3, .int .i64 3] w fun e w' => ∃ c vl qs, e = .returned (.tuple #[.pointer (some ⟨c, 0, none⟩), vl, .nilIface]) ∧ Chn w' c d bS bT u s 3 nx (max y (hiS 3 s.cs) + 1) ∧ Lw w' (c + 1) vl qs ∧ lkO qs = L ∧ w.heap.size ≤ c ∧ Below w.heap.size w w' := open_at w h hO rfl (by decide) (by decide) (by decide) hw
/-- What played answers. -/
def PlayP (w w' : World) (e : Ending) : Prop := ∃ c d bS bT u s nx sp L fm, e = .returned (.tuple #[.pointer (some ⟨d, 0, none⟩), .pointer (some ⟨c, 0, none⟩)]) ∧ Chn w' c d bS bT u s 3 nx sp ∧ Ps 105 s nx sp L fm ∧ Nc w w' c d bS bT u ∧ L.length ≤ 40
theorem Dx.rg9 {d bS bT : Nat} {u u' : Value} {w w' : World} {g o : Nat} {cs : List Value} (h : Dx d bS bT u w w' u') (hg : ¬ Own d bS bT u g) (hb : w.rangeAt g o cs) : w'.rangeAt g o cs := range_ba hb h.ba hg
theorem Iw.cutL {W : World} {B n : Nat} {g cap : Nat} {xs : List Int} (h : Iw W B (.slice (some ⟨g, 0, none⟩) n cap) xs) (hn : n = xs.length) {k : Nat} (hk : k ≤ n) : Iw W B (.slice (some ⟨g, 0, none⟩) k cap) (xs.take k) := by
  subst hn
  exact h.cut hk
theorem lw_at0 {W : World} {B : Nat} {v : Value} {qs : List Lc} (h : Lw W B v qs) {k : Nat} (hk : k < qs.length) : ∃ g cap, v = .slice (some ⟨g, 0, none⟩) qs.length cap ∧ g < W.heap.size ∧ W.cell? ⟨g, k * 2, none⟩ = some (.int .i64 (qs[k]).1) := by
  rcases h.own.2 with ⟨_, h0⟩ | ⟨g, cap, cur, e, a2, a3, a4, a5, a6, a7⟩
  · omega
  · have h1 := lm_get lkc 2 (fun _ => rfl) qs k hk 0 _ rfl
    refine ⟨g, cap, e, (Array.getElem?_eq_some_iff.1 a3).1, ?_⟩
    have hl : (qs.flatMap lkc).length = qs.length * 2 := h.own.1
    rw [← a7, List.getElem?_take_of_lt (by omega)] at h1
    simp only [World.cell?, a3]
    simpa using h1
theorem lkO_fst (qs : List Lc) : (lkO qs).map (·.1) = qs.map (·.1) := by simp [lkO]
theorem Iw.mono {W : World} {B C : Nat} {v : Value} {xs : List Int} (h : Iw W B v xs) (hc : C ≤ B) : Iw W C v xs :=
  ⟨h.1, h.2.imp id (fun ⟨g, cap, cur, a1, a2, a3⟩ => ⟨g, cap, cur, a1, Nat.le_trans hc a2, a3⟩)⟩
theorem Nc.opened {w W W' : World} {c c' d bS bT : Nat} {u : Value} (h : Nc w W c d bS bT u) (hb : Below W.heap.size W W') (hc : W.heap.size ≤ c') : Nc w W' c' d bS bT u := ⟨(h.call hb).be, fun k hk => hk.elim (fun e => h.ow k (.inl e)) (fun e => by rw [e]; exact Nat.le_trans h.be.size hc)⟩
set_option maxRecDepth 100000 in
set_option maxHeartbeats 16000000 in
theorem played_any (v : Value) (ps : List Ap) (w : World) (hv : Al w v ps) (hli : liC ps = true) : Calls Try.prog 9 #[v] w fun e w' => PlayP w w' e := by
  obtain ⟨⟨ao, cap, rfl, hrow⟩, hps⟩ := hv
  have HROW := hide hrow
  have HPS := hide hps
  have HLI := hide hli
  have hlen : ps.length ≤ 40 := (liC_is hli).1
  have HNR : Hid (Num 4000) := hide ⟨by decide, by decide⟩
  clear hrow hps hli
  go_enter Try.func9, Try.ntmps9
  go_upto_region 2 with (first | (go_at_call 19; refine (q_new2 4000 w _ HNR.out (Below.refl _ _)).mono ?_; rintro e w1 ⟨d, bS, bT, rfl, hq1, hn1, _⟩; have HQ1 := hide hq1; have HB1 := hide hn1; clear hq1 hn1))
  go_upto_region 5 with (first | (go_at_call 11; refine (open_ps (s := ⟨4000, [], []⟩) w1 HQ1.out opn3 (by decide)).mono ?_; rintro e w2 ⟨c0, vl, qs, rfl, hc, hl, _, hcw, hb⟩; obtain ⟨la, lk, rfl⟩ := hl.form; have HP0 : Hid (Pd w w2 c0 d bS bT (.slice none 0 0) (.slice none 0 0) ⟨4000, [], []⟩ 3 1 [] 0 (mB ps 0) []) := hide ⟨hc, ⟨(HB1.out.call hb).be, fun k hk => hk.elim (fun e => HB1.out.ow k e) (fun e => by rw [e]; exact Nat.le_trans HB1.out.be.size hcw)⟩, ps_new.mono (by simp [mB, sumB]) (by simp [mB, sumB]), iw_nil _ _, fun k e => by cases e⟩; clear hc hl hcw hb))
  clear HQ1 HB1
  go_upto_region 7 with fail
  go_loopw [6, 8, 9, 10] (fun cv fv st i W => ∃ (k c : Nat) (u : Value) (s : Dst) (nx sp : Int) (L : List Lk) (fm : Nat), k ≤ ps.length ∧ i = .int .i64 k ∧ cv = .pointer (some ⟨c, 0, none⟩) ∧ fv = .nilIface ∧ Pd w W c d bS bT u st s nx sp L fm (mB ps k) (L.map (·.1)) ∧ L.length ≤ k) (fun _ _ _ i _ => ps.length - (iv i).toNat)
  case atStart => exact ⟨0, c0, _, _, _, _, _, _, Nat.zero_le _, rfl, rfl, rfl, HP0.out, Nat.le_refl _⟩
  case round =>
    obtain ⟨k, c, u, s, nx, sp, L, fm, hk, rfl, rfl, rfl, hpd, hll0⟩ := hrel
    have HLL := hide hll0
    clear hll0
    have HPD := hide hpd
    clear hpd HP0
    by_cases hlt : k < ps.length
    · obtain ⟨rb, ro, rfl, hrg⟩ := HROW.out (by omega)
      have hre := range_belW (Al.at hrg hlt) HPD.out.nc.be
      have HRL : Hid (rb < w.heap.size) := hide (cell_block (hrg 0 _ (acs_get ps 0 (by omega) 0 _ rfl)))
      have HAP := hide (HPS.out _ (List.getElem_mem hlt))
      have HM : Hid (mB ps k + blks ((ps[k]).1.by_.length : Int) ≤ mB ps (k + 1)) := hide (mB_step hlt)
      have HM1 : Hid (mB ps k + 1 ≤ mB ps (k + 1)) := hide (mB_one hlt)
      have HM2 : Hid (mB ps (k + 1) ≤ 105) := hide (mB_le HLI.out hlt)
      have hbl : (ps[k]).1.by_.length ≤ 3000 := by have h1 := sumB_step hlt; have h2 := sumB_le ps (k + 1); have h3 := (liC_is HLI.out).2.1; omega
      clear hrg
      generalize ps[k] = p at hre HAP HM hbl
      generalize mB ps k = M at HPD HM HM1
      generalize HMN : mB ps (k + 1) = N at HM HM1 HM2
      have HNN := hide HMN
      clear HMN
      obtain ⟨⟨kd, bl, by_, ks, cut⟩, vb, vk⟩ := p
      obtain ⟨ab, cb, e1⟩ := HAP.out.1.form
      obtain ⟨ak, ck, e2⟩ := HAP.out.2.2.form
      simp only at e1 e2
      subst e1
      subst e2
      simp only at hbl
      have d0 : wr.cell? ⟨rb, ro + k * 5, none⟩ = some (.int .i64 kd) := hre 0 _ rfl
      have d1 := hre 1 _ rfl
      have d2 := hre 2 _ rfl
      simp only at d1 d2
      have HRE := hide hre
      clear hre
      obtain ⟨sa, sk, hst⟩ := HPD.out.iw.form
      rw [List.length_map] at hst
      subst hst
      have hltI : (k : Int) < (ps.length : Int) := by omega
      have HB : Hid ((s.wt : Int) ≤ 210 ∧ (3 ≤ nx ∧ nx ≤ 108) ∧ (1 ≤ sp ∧ sp ≤ 106) ∧ (s.tk.length : Int) ≤ M ∧ s.room = 4000 ∧ (0 ≤ M ∧ M + 1 ≤ 105)) := hide (by have i1 := HPD.out.ps.wt; have i2 := HPD.out.ps.pos; have i3 := HPD.out.ps.n1; have i4 := HPD.out.ps.s1; have i5 := HPD.out.ps.tk; have i6 := HPD.out.ps.rm; have i7 := HM1.out; have i8 := HM2.out; refine ⟨by omega, ⟨by omega, by omega⟩, ⟨by omega, by omega⟩, i5, i6, by omega, by omega⟩)
      rcases (show kd = 0 ∨ kd = 1 ∨ kd = 2 ∨ kd = 5 ∨ (kd ≠ 0 ∧ kd ≠ 1 ∧ kd ≠ 2 ∧ kd ≠ 5) by omega) with rfl | rfl | rfl | rfl | ⟨hk0, hk1, hk2, hk5⟩
      · by_cases hz : by_.length = 0
        · rw [hz] at d2
          go_wp2_with (first | (go_at_call 12; refine (append_limZ c _ _ _).mono ?_; rintro e w9 ⟨rfl, hw9⟩; rw [hw9]; clear hw9 w9))
          exact ⟨⟨k + 1, c, _, _, _, _, _, _, by omega, by go_num, rfl, rfl, by have i := HPD.out.mono (M' := N) (by have := HM1.out; omega) (by have := HM2.out; omega); rw [← HNN.out] at i; exact i, by have := HLL.out; omega⟩, by simp [iv]; omega⟩
        · have hb0 : 0 < by_.length := by omega
          obtain ⟨n, hn⟩ : ∃ n : Nat, blks (by_.length : Int) = (n : Int) := ⟨(blks (by_.length : Int)).toNat, by have := blks_pos (by_.length : Int); omega⟩
          have HN := hide hn
          have HNB : Hid (M + (n : Int) ≤ N ∧ (n : Int) + M ≤ 105) := hide (by have i1 := HM.out; have i2 := HM2.out; simp only at i1; rw [hn] at i1; exact ⟨i1, by omega⟩)
          clear hn
          go_upto_region 13 with (first | (go_at_call 12; (refine (append_ok _ _ by_ n _ HPD.out.ch ⟨hb0, by omega⟩ HN.out (by have := HB.out.1; omega) ⟨by have := HB.out.2.1; omega, by have := HB.out.2.1; omega⟩ (fun W' u' hx => HAP.out.1.below (HPD.out.nc.dx hx).be) HAP.out.2.1 ⟨by have := HB.out.2.2.1; omega, by have := HB.out.2.2.1; omega⟩ (by rw [HB.out.2.2.2.2.1]; have i1 := HB.out.2.2.2.1; have i2 := HNB.out; omega) (by have i1 := HB.out.2.1; have i2 := HNB.out; have i3 := HB.out.2.2.2.2.2.1; omega)).mono ?_; rintro e w3 ⟨u3, rfl, hc, hx⟩; have HP3 := hide ((HPD.out.cx hc hx (ps_app HPD.out.ps HAP.out.2.1 hb0 (by omega) HN.out (by have := HNB.out; omega) hc.q.ok)).mono (M' := N) HNB.out.1 (by have := HM2.out; omega)); clear hc hx)))
          have hal : Below w3.heap.size w3 (w3.alloc (.cells #[.int .i64 nx] 3)) := al_c w3 _
          go_wp2_with (first | (at_builtin; refine wpList_appIz _ rfl _ _ rfl w.heap.size _ (L.map (fun x : Lk => x.1)) rfl (HP3.out.iw.below hal) (Nat.le_trans HP3.out.nc.be.size hal.size) ⟨w3.heap.size, 0, none⟩ 1 nx rfl (by rw [Addr.add]; exact World.cell?_alloc_at _ _ _ _ rfl) (by rw [List.length_map]; have := HLL.out; omega) ?_; intro v4 W4 hi4 hg4 ho4; have HP4 := hide ((HP3.out.below hal).grow hi4 hg4 ho4); clear hi4 hg4 ho4))
          exact ⟨⟨k + 1, c, _, _, _, _, _, _, by omega, by go_num, rfl, rfl, by have i := HP4.out; rw [← HNN.out] at i; rw [List.map_append]; exact i, by rw [List.length_append]; have := HLL.out; simp; omega⟩, by simp [iv]; omega⟩
      · go_wp2_with (first | (go_at_call 10; refine (syncC_any _ HPD.out.ch (by have := HB.out.1; omega)).mono ?_; rintro e w3 ⟨rfl, hc, hx⟩; have HP3 := hide ((HPD.out.cx hc (Cx.of hx) (ps_sync HPD.out.ps)).mono (M' := N) (by have := HM1.out; omega) (by have := HM2.out; omega)); clear hc hx))
        exact ⟨⟨k + 1, c, _, _, _, _, _, _, by omega, by go_num, rfl, rfl, by have i := HP3.out; rw [← HNN.out] at i; exact i, by have := HLL.out; omega⟩, by simp [iv]; omega⟩
      · go_upto_region 18 with (first | (go_at_call 30; refine (back_any _ _ _).mono ?_; rintro e w9 ⟨⟨z, rfl⟩, hw9⟩; rw [hw9]; clear hw9 w9))
        by_cases hz : 0 ≤ z ∧ z < (L.length : Int)
        · obtain ⟨j, hj⟩ : ∃ j : Nat, z = (j : Int) := ⟨z.toNat, by omega⟩
          subst hj
          obtain ⟨_, hz2⟩ := hz
          have hjL : j < L.length := by omega
          have hj2 : j < (L.map (·.1)).length := by rw [List.length_map]; exact hjL
          obtain ⟨g, kk, e3, hle, hcell⟩ := HPD.out.iw.at hj2
          rw [List.length_map] at e3 hle
          rw [Nat.zero_add] at hcell
          have hel : (L.map (·.1))[j] = (L[j]).1 := List.getElem_map _
          rw [hel] at hcell
          obtain ⟨rfl, rfl⟩ : sa = some ⟨g, 0, none⟩ ∧ sk = kk := by cases e3; exact ⟨rfl, rfl⟩
          clear e3
          have HCU := hide (fun (w' : World) (u' : Value) (hc : Chn w' c d bS bT u' (cutS s (L[j]).1 sp nx) 3 ((L[j]).1 + 1) (sp + 1)) => ps_cut HPD.out.ps hjL (by have := HB.out.2.2.2.2.2; omega) hc.q.ok)
          have HCL : Hid (3 ≤ (L[j]).1 ∧ (L[j]).1 < nx) := hide (by obtain ⟨i1, i2, i3, i4⟩ := pl_cut HPD.out.ps.pl HPD.out.ch.q.ok (by have := HB.out.2.2.1; omega) hjL; exact ⟨i1, i2⟩)
          have hjI : (j : Int) < (L.length : Int) := hz2
          generalize (L[j]).1 = a at hcell HCU HCL
          go_wp2_with (first | (go_at_call 15; refine (cut_ok a _ HPD.out.ch (by decide) HCL.out.1 HCL.out.2 (by have := HB.out.2.1; omega) (.inr (by rw [HB.out.2.2.2.2.1]; have i1 := HB.out.2.2.2.1; have i2 := HB.out.2.2.2.2.2; omega)) (by have := HB.out.1; omega) ⟨by have := HB.out.2.2.1; omega, by have := HB.out.2.2.1; omega⟩).mono ?_; rintro e w3 ⟨u3, rfl, hc, hx⟩; have HP3 := hide ((HPD.out.cx hc hx (HCU.out _ _ hc).2).mono (M' := N) HM1.out (by have := HM2.out; omega)); clear hc hx))
          exact ⟨⟨k + 1, c, _, _, _, _, _, _, by omega, by go_num, rfl, rfl, by have i := HP3.out.row (HP3.out.iw.cutL (List.length_map _).symm (k := j) (by omega)) rfl; rw [← HNN.out] at i; rw [List.map_take]; exact i, by rw [List.length_take]; have := HLL.out; omega⟩, by simp [iv]; omega⟩
        · have hd : z < 0 ∨ (0 ≤ z ∧ (L.length : Int) ≤ z) := by omega
          rcases hd with hd | ⟨hd, hd2⟩
          all_goals
            go_wp2_with fail
            exact ⟨⟨k + 1, c, _, _, _, _, _, _, by omega, by go_num, rfl, rfl, by have i := HPD.out.mono (M' := N) (by have := HM1.out; omega) (by have := HM2.out; omega); rw [← HNN.out] at i; exact i, by have := HLL.out; omega⟩, by simp [iv]; omega⟩
      · have HRG := HRE
        have HRO : Hid (¬ Own d bS bT u rb) := hide (fun q => by have h1 := HPD.out.nc.ow _ (.inl q); have h2 := HRL.out; omega)
        obtain ⟨kk, x, y, hO, hf1, hf2, hps⟩ := ps_crash HPD.out.ps ks cut
        have HO := hide hO
        have HPS2 := hide (hps.mono (N := N) (by have := HM1.out; omega) (by have := HM2.out; omega))
        have HWT : Hid ((crS s ks cut).wt < 30000) := hide (by have i1 := crS_wt HPD.out.ch.q.ok ks cut; have i2 := HB.out.1; omega)
        have HL2 : Hid ((L.take kk).length ≤ k) := hide (by rw [List.length_take]; have := HLL.out; omega)
        clear hO hf1 hf2 hps
        generalize L.take kk = L2 at HO HPS2 HL2
        go_upto_region 22 with fail
        clear d0 d1 d2
        have hdw : Below wr.heap.size wr wr.drew := (Below.refl _ _).drew
        refine wp_region_held_drew (S := fun W => W.rangeAt rb (ro + k * 5) (acl (⟨5, bl, by_, ks, cut⟩, .slice ab by_.length cb, .slice ak ks.length ck))) (by kernel_rfl) (range_belW HRG.out hdw) (fun hHeld => ?_)
        have HP2 := hide (HPD.out.below hdw)
        generalize wr.drew = W2 at HP2 hHeld ⊢
        clear hdw HPD
        refine wpAnyH_take (i := 0) (oi := _) (v := .pointer (some ⟨d, 0, none⟩)) rfl (by kernel_rfl) (by kernel_rfl) (by kernel_rfl) (fun _ _ _ h => h) (Or.inl ⟨by rfl, by intro w hSw; go_simp⟩) hHeld ?_
        change wpAnyH _ _ _ _ _ _ _ (Act.put _ (some 102) _) _
        simp only [Act.put, List.setIfInBounds_toArray, List.set_cons_zero, List.set_cons_succ]
        refine wpAnyH_take (i := 1) (oi := _) (v := .slice (some ⟨rb, ro, none⟩) ps.length cap) rfl (by kernel_rfl) (by kernel_rfl) (by kernel_rfl) (fun _ _ _ h => h) (Or.inl ⟨by rfl, by intro w hSw; go_simp⟩) hHeld ?_
        change wpAnyH _ _ _ _ _ _ _ (Act.put _ (some 103) _) _
        simp only [Act.put, List.setIfInBounds_toArray, List.set_cons_zero, List.set_cons_succ]
        refine wpAnyH_take (i := 2) (oi := _) (v := .int .i64 (k : Int)) rfl (by kernel_rfl) (by kernel_rfl) (by kernel_rfl) (fun _ _ _ h => h) (Or.inl ⟨by rfl, by intro w hSw; go_simp⟩) hHeld ?_
        change wpAnyH _ _ _ _ _ _ _ (Act.put _ (some 104) _) _
        simp only [Act.put, List.setIfInBounds_toArray, List.set_cons_zero, List.set_cons_succ]
        refine wpAnyH_take (i := 3) (oi := _) (v := .pointer (some ⟨rb, ro + k * 5, none⟩)) rfl (by kernel_rfl) (by kernel_rfl) (by kernel_rfl) (fun _ _ _ h => h) (Or.inl ⟨by rfl, by intro w hSw; go_simp⟩) hHeld ?_
        change wpAnyH _ _ _ _ _ _ _ (Act.put _ (some 105) _) _
        simp only [Act.put, List.setIfInBounds_toArray, List.set_cons_zero, List.set_cons_succ]
        refine wpAnyH_take (i := 4) (oi := _) (v := .pointer (some ⟨rb, ro + k * 5 + 3, none⟩)) rfl (by kernel_rfl) (by kernel_rfl) (by kernel_rfl) (fun _ _ _ h => h) (Or.inl ⟨by rfl, by intro w hSw; go_simp⟩) hHeld ?_
        change wpAnyH _ _ _ _ _ _ _ (Act.put _ (some 106) _) _
        simp only [Act.put, List.setIfInBounds_toArray, List.set_cons_zero, List.set_cons_succ]
        refine wpAnyH_take (i := 5) (oi := _) (v := .slice ak ks.length ck) rfl (by kernel_rfl) (by kernel_rfl) (by kernel_rfl) (fun _ _ _ h => h) (Or.inl ⟨by rfl, by intro w hSw; have h3 := hSw 3 _ rfl; simp only at h3; go_simp⟩) hHeld ?_
        change wpAnyH _ _ _ _ _ _ _ (Act.put _ (some 107) _) _
        simp only [Act.put, List.setIfInBounds_toArray, List.set_cons_zero, List.set_cons_succ]
        refine wpAnyH_take (i := 6) (oi := _) (v := .slice (some ⟨rb, ro, none⟩) ps.length cap) rfl (by kernel_rfl) (by kernel_rfl) (by kernel_rfl) (fun _ _ _ h => h) (Or.inl ⟨by rfl, by intro w hSw; go_simp⟩) hHeld ?_
        change wpAnyH _ _ _ _ _ _ _ (Act.put _ (some 108) _) _
        simp only [Act.put, List.setIfInBounds_toArray, List.set_cons_zero, List.set_cons_succ]
        refine wpAnyH_take (i := 7) (oi := _) (v := .int .i64 (k : Int)) rfl (by kernel_rfl) (by kernel_rfl) (by kernel_rfl) (fun _ _ _ h => h) (Or.inl ⟨by rfl, by intro w hSw; go_simp⟩) hHeld ?_
        change wpAnyH _ _ _ _ _ _ _ (Act.put _ (some 109) _) _
        simp only [Act.put, List.setIfInBounds_toArray, List.set_cons_zero, List.set_cons_succ]
        refine wpAnyH_take (i := 8) (oi := _) (v := .pointer (some ⟨rb, ro + k * 5, none⟩)) rfl (by kernel_rfl) (by kernel_rfl) (by kernel_rfl) (fun _ _ _ h => h) (Or.inl ⟨by rfl, by intro w hSw; go_simp⟩) hHeld ?_
        change wpAnyH _ _ _ _ _ _ _ (Act.put _ (some 110) _) _
        simp only [Act.put, List.setIfInBounds_toArray, List.set_cons_zero, List.set_cons_succ]
        refine wpAnyH_take (i := 9) (oi := _) (v := .pointer (some ⟨rb, ro + k * 5 + 4, none⟩)) rfl (by kernel_rfl) (by kernel_rfl) (by kernel_rfl) (fun _ _ _ h => h) (Or.inl ⟨by rfl, by intro w hSw; go_simp⟩) hHeld ?_
        change wpAnyH _ _ _ _ _ _ _ (Act.put _ (some 111) _) _
        simp only [Act.put, List.setIfInBounds_toArray, List.set_cons_zero, List.set_cons_succ]
        refine wpAnyH_take (i := 10) (oi := _) (v := .int .i64 cut) rfl (by kernel_rfl) (by kernel_rfl) (by kernel_rfl) (fun _ _ _ h => h) (Or.inl ⟨by rfl, by intro w hSw; have h4 := hSw 4 _ rfl; simp only at h4; go_simp⟩) hHeld ?_
        change wpAnyH _ _ _ _ _ _ _ (Act.put _ (some 112) _) _
        simp only [Act.put, List.setIfInBounds_toArray, List.set_cons_zero, List.set_cons_succ]
        refine wpAnyH_ready (rs := [11]) (by kernel_rfl) (by simp) ?_
        refine AllReadyH.cons (o := _) rfl (fun K hK => ?_) AllReadyH.nil
        go_simp
        go_at_call 13
        refine (q_crash _ ks cut _ HP2.out.ch.q (HAP.out.2.2.below HP2.out.nc.be) (by have := HB.out.1; omega)).mono ?_
        rintro e w3 ⟨rfl, hq, hx⟩
        have HQ3 := hide hq
        have HN3 := hide (HP2.out.nc.dx hx)
        have HX3 : Hid (W2.heap.size ≤ w3.heap.size) := hide hx.ba.size
        go_wp2_with fail
        refine hK.out _ _ (hx.rg9 HRO.out hHeld) (fun hHeld1 => ?_)
        clear hK K hHeld
        have hHeld := hHeld1
        clear hHeld1
        clear hq hx
        refine wpAnyH_done (by kernel_rfl) ?_ _
        clear hHeld
        go_upto_region 25 with (first | (go_at_call 11; refine (open_ps w3 HQ3.out HO.out HWT.out).mono ?_; rintro e w4 ⟨c2, vl, qs, rfl, hc, hl, ho, hcw, hb⟩; have HL4 := hide hl; have HO4 := hide ho; have HC4 := hide hc; have HN4 : Hid (Nc w w4 c2 d bS bT (.slice none 0 0)) := hide (HN3.out.opened hb hcw); clear hc hl ho hcw hb))
        obtain ⟨va, vk, rfl⟩ := HL4.out.form
        have HQL : Hid (qs.length ≤ 1000) := hide (by have i1 := congrArg List.length HO4.out; have i2 := HL2.out; simp [lkO] at i1; omega)
        clear HQ3 HN3 HP2 HRE HRG
        go_upto_region 27 with fail
        go_loopw [9, 15] (fun st i W => ∃ j : Nat, j ≤ qs.length ∧ i = .int .i64 j ∧ Below w4.heap.size w4 W ∧ Iw W w4.heap.size st ((qs.map (·.1)).take j)) (fun _ i _ => qs.length - (iv i).toNat)
        case atStart => exact ⟨0, Nat.zero_le _, rfl, Below.refl _ _, iw_nil _ _⟩
        case round =>
          obtain ⟨j, hj, rfl, hbw, hiw⟩ := hrel
          have HBW := hide hbw
          have HIW := hide hiw
          have hql := HQL.out
          clear hbw hiw
          by_cases hjl : j < qs.length
          · obtain ⟨g, kq, e3, hgl, hcell⟩ := lw_at0 HL4.out hjl
            obtain ⟨rfl, rfl⟩ : va = some ⟨g, 0, none⟩ ∧ vk = kq := by cases e3; exact ⟨rfl, rfl⟩
            clear e3
            have hce : wr.cell? ⟨g, j * 2, none⟩ = _ := (HBW.out.cell (p := ⟨g, j * 2, none⟩) hgl).trans hcell
            clear hcell
            have hjI : (j : Int) < (qs.length : Int) := by omega
            obtain ⟨sa2, sk2, hst2⟩ := HIW.out.form
            rw [List.length_take, List.length_map, Nat.min_eq_left (by omega)] at hst2
            subst hst2
            have HTK : Hid ((qs.map (·.1)).take (j + 1) = (qs.map (·.1)).take j ++ [(qs[j]).1]) := hide (by rw [List.take_succ_eq_append_getElem (by rw [List.length_map]; exact hjl), List.getElem_map])
            generalize (qs[j]).1 = z at hce HTK
            have hal : Below wr.heap.size wr (wr.alloc (.cells #[.int .i64 z] 3)) := al_c wr _
            go_wp2_with (first | (at_builtin; (refine wpList_appIz _ rfl _ _ rfl w4.heap.size _ ((qs.map (fun x : Lc => x.1)).take j) rfl (HIW.out.below hal) (Nat.le_trans HBW.out.size hal.size) ⟨wr.heap.size, 0, none⟩ 1 z rfl (by rw [Addr.add]; exact World.cell?_alloc_at _ _ _ _ rfl) (by rw [List.length_take]; omega) ?_; intro v4 W4 hi4 hg4 ho4; have HP4 : Hid (Below w4.heap.size w4 W4 ∧ Iw W4 w4.heap.size v4 ((qs.map (·.1)).take (j + 1))) := hide ⟨below_gr (bt HBW.out hal) hg4 (fun k e => (HIW.out.lt k e).1) (Nat.le_trans HBW.out.size hal.size), by rw [HTK.out]; exact hi4⟩; clear hi4 hg4 ho4)))
            exact ⟨⟨j + 1, by omega, by go_num, HP4.out.1, HP4.out.2⟩, by simp [iv]; omega⟩
          · have hjI : ¬ (j : Int) < (qs.length : Int) := by omega
            go_wp2_with fail
            exact ⟨⟨k + 1, c2, _, _, _, _, _, _, by omega, by go_num, rfl, rfl, ⟨HC4.out.below HBW.out, HN4.out.call HBW.out, by rw [HNN.out]; exact HPS2.out, by have i := HIW.out.mono (C := w.heap.size) HN4.out.be.size; rw [List.take_of_length_le (by rw [List.length_map]; omega), ← lkO_fst, HO4.out] at i; exact i, fun q e e2 => by have i1 := (HIW.out.lt q e).1; have i2 := HC4.out.lt e2; omega⟩, by have := HL2.out; omega⟩, by simp [iv]; omega⟩
      · have f0 : (kd == 0) = false := by simp [hk0]
        have f1 : (kd == 1) = false := by simp [hk1]
        have f2 : (kd == 2) = false := by simp [hk2]
        have f5 : (kd == 5) = false := by simp [hk5]
        go_wp2_with fail
        exact ⟨⟨k + 1, c, _, _, _, _, _, _, by omega, by go_num, rfl, rfl, by have i := HPD.out.mono (M' := N) (by have := HM1.out; omega) (by have := HM2.out; omega); rw [← HNN.out] at i; exact i, by have := HLL.out; omega⟩, by simp [iv]; omega⟩
    · have hnl : ¬ (k : Int) < (ps.length : Int) := by omega
      obtain rfl : k = ps.length := by omega
      go_wp2_with fail
      go_ret2
      exact ⟨c, d, bS, bT, u, s, nx, sp, L, fm, rfl, HPD.out.ch, HPD.out.ps.mono (mB_le HLI.out (Nat.le_refl _)) (by decide), HPD.out.nc, by have := HLL.out; omega⟩
end Go.Proofs.Ytmgfcgknajehaaa
