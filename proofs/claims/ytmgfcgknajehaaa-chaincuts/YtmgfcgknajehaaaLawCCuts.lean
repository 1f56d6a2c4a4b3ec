/-
  WHAT IS CUT, WHERE A RECORD BEGINS, IS GONE FOR GOOD (ChainCuts): behind any crash there are the records ahead of the cut, and what was appended behind it. True for any acts, record and crash. Condition: the acts lie in memory, no slice longer than memory can be.
-/
import Derived.Test.YtmgfcgknajehaaaChHd
import Derived.Test.YtmgfcgknajehaaaSameB
namespace Go.Proofs.Ytmgfcgknajehaaa
open Go.RowKit

theorem sl12 (W : World) (t : TypeId) : Sl bc (W.alloc (.cells #[.int .u8 1, .int .u8 2] t)) (.slice (some ⟨W.heap.size, 0, none⟩) 2 2) [1, 2] := .inr ⟨W.heap.size, 0, 2, rfl, Nat.le_refl _, fun i hi => by
  rw [Nat.zero_add, World.cell?_alloc_at _ _ _ _ rfl]
  match i, hi with
  | 0, _ => rfl
  | 1, _ => rfl⟩
theorem byt12 : Byt [1, 2] := fun x hx => by simp at hx; omega
theorem cut_two {L : List Lk} {k kk : Nat} {e : Lk} (h1 : k ≤ kk) (hk : k < L.length) : ((L.take k ++ [e]).take kk).take k = L.take k := by
  rw [List.take_take, Nat.min_eq_left h1, List.take_append_of_le_length (by rw [List.length_take]; omega), List.take_take, Nat.min_self]
theorem cut_len {L : List Lk} {k kk : Nat} {e : Lk} (hk : k < L.length) (h2 : kk ≤ k + 1) : ((L.take k ++ [e]).take kk).length = kk := by
  rw [List.length_take, List.length_append, List.length_take]
  simp
  omega
theorem cut_at {L : List Lk} {k : Nat} {e : Lk} (hk : k < L.length) : ((L.take k ++ [e]).take (k + 1))[k]? = some e := by
  rw [List.getElem?_take_of_lt (by omega), List.getElem?_append_right (by rw [List.length_take]; omega), List.length_take, show k - min k L.length = 0 by omega]
  rfl
set_option maxRecDepth 100000 in
set_option maxHeartbeats 16000000 in
theorem ccuts_law (v0 v2 : Value) (ps : List Ap) (ks : List Int) (wh cut : Int) (w : World) (hv : Al w v0 ps) (hz : ∀ p ∈ ps, p.1.by_.length ≤ 1152921504606846976) (hk : Sl ic w v2 ks) (hs : 0 ≤ wh ∧ wh ≤ 255) : Calls Try.prog 4 #[v0, .int .u8 wh, v2, .int .i64 cut] w fun e w' => e = .returned (.bool true) ∧ Below w.heap.size w w' := by
  have HV := hide hv
  have HZ := hide hz
  have HK := hide hk
  obtain ⟨⟨ao, cap, rfl, _⟩, _⟩ := hv
  obtain ⟨ko, kc, rfl⟩ := hk.form
  obtain ⟨hs0, hs1⟩ := hs
  clear hz hk
  go_enter Try.func4, Try.ntmps4
  by_cases hli : liC ps = true
  · have HLI := hide hli
    clear hli
    by_cases h60 : ks.length ≤ 60
    · have h60I : ¬ (60 : Int) < (ks.length : Int) := by omega
      go_upto_region 4 with (first | (go_at_call 7; refine (lightC_any _ ps _ HV.out HZ.out).mono ?_; rintro e w9 ⟨rfl, hw9⟩; rw [hw9, HLI.out]; clear hw9 w9) | (go_at_call 9; refine (played_any _ ps _ HV.out HLI.out).mono ?_; rintro e w1 ⟨c, d, bS, bT, u0, s0, nx0, sp0, L, fm0, rfl, hc, hp, hn, hl⟩; have HC1 := hide hc; have HP1 := hide hp; have HN1 := hide hn; have HL40 := hide hl; clear hc hp hn hl))
      go_upto_region 7 with (first | (go_at_call 10; refine (syncC_any _ HC1.out (by have := HP1.out.wt; omega)).mono ?_; rintro e w2 ⟨rfl, hc, hx⟩; have HC2 := hide hc; have HN2 := hide (HN1.out.dx hx); have HP2 := hide (ps_sync HP1.out); clear hc hx))
      clear HC1 HN1 HP1
      obtain ⟨y0, hO⟩ := ps_found HP2.out rfl
      have HO2 := hide hO
      have HW2 : Hid ((syS s0).wt < 30000) := hide (by have := HP2.out.wt; omega)
      clear hO
      generalize syS s0 = s1 at HC2 HP2 HO2 HW2
      go_upto_region 10 with (first | (go_at_call 11; refine (open_hd (c0 := c) w w2 HC2.out.q HO2.out HW2.out HC2.out.x.lt HN2.out.be.size).mono ?_; rintro e w3 ⟨cx, hv0, qs, rfl, _, hh, _, hq, hcw, hb⟩; have HC3 := hide (HC2.out.below hb); have HN3 := hide (HN2.out.call hb); have HD3 := hide hh; have HEQ := hide hq; clear hh hq hcw hb))
      clear HC2 HN2 HO2 HW2
      obtain ⟨ha, hc, rfl⟩ := HD3.out.lw.form
      have HLQ : Hid (qs.length = L.length) := hide (by rw [← HEQ.out, lkO_len])
      by_cases hz : qs.length = 0
      · rw [hz]
        go_wp2_with (first | (go_at_call 8; refine (cworks_any _).mono ?_; rintro e w12 ⟨rfl, hb12⟩; have HB12 := hide (bt HN3.out.be hb12); clear hb12))
        go_ret
        exact ⟨rfl, HB12.out⟩
      · have hzI : ((qs.length : Int) == 0) = false := beq_eq_false_iff_ne.2 (by omega)
        have hzJ : ¬ (qs.length : Int) = 0 := by omega
        obtain ⟨k, hkm, hkl⟩ : ∃ k : Nat, wh % (qs.length : Int) = (k : Int) ∧ k < qs.length := ⟨(wh % (qs.length : Int)).toNat, by have := Int.emod_nonneg wh hzJ; omega, by have h1 := Int.emod_nonneg wh hzJ; have h2 := Int.emod_lt_of_pos wh (show (0 : Int) < (qs.length : Int) by omega); omega⟩
        have hkt : wh.tmod (qs.length : Int) = (k : Int) := by rw [Int.tmod_eq_emod_of_nonneg hs0]; exact hkm
        go_upto_region 13 with fail
        clear hkt hkm
        have hkL : k < L.length := by rw [← HLQ.out]; exact hkl
        obtain ⟨g, kq, e3, hgl, hcell⟩ := lw_at0 HD3.out.lw hkl
        obtain ⟨rfl, rfl⟩ : ha = some ⟨g, 0, none⟩ ∧ hc = kq := by cases e3; exact ⟨rfl, rfl⟩
        clear e3
        have hel : (qs[k]).1 = (L[k]).1 := by have i := congrArg (fun l => l[k]?) HEQ.out; simp only [lkO, List.getElem?_map, List.getElem?_eq_getElem hkl, List.getElem?_eq_getElem hkL, Option.map_some] at i; exact congrArg Prod.fst (Option.some.inj i)
        rw [hel] at hcell
        clear hel
        have HB : Hid ((s1.wt : Int) ≤ 210 ∧ (3 ≤ nx0 ∧ nx0 ≤ 108) ∧ (1 ≤ sp0 ∧ sp0 ≤ 106) ∧ (s1.tk.length : Int) ≤ 105 ∧ s1.room = 4000) := hide (by have i1 := HP2.out.wt; have i2 := HP2.out.pos; have i3 := HP2.out.n1; have i4 := HP2.out.s1; have i5 := HP2.out.tk; have i6 := HP2.out.rm; exact ⟨by omega, by omega, by omega, i5, i6⟩)
        have HCU := hide (fun (w' : World) (u' : Value) (hc : Chn w' c d bS bT u' (cutS s1 (L[k]).1 sp0 nx0) 3 ((L[k]).1 + 1) (sp0 + 1)) => (ps_cut HP2.out hkL (by omega) hc.q.ok).2)
        have HCL : Hid (3 ≤ (L[k]).1 ∧ (L[k]).1 < nx0) := hide (by obtain ⟨i1, i2, i3, i4⟩ := pl_cut HP2.out.pl HC3.out.q.ok (by have := HB.out.2.2.1; omega) hkL; exact ⟨i1, i2⟩)
        generalize (L[k]).1 = a at hcell HCU HCL
        have hkI : (k : Int) < (qs.length : Int) := by omega
        go_upto_region 15 with (first | (go_at_call 15; refine (cut_ok a _ HC3.out (by decide) HCL.out.1 HCL.out.2 (by have := HB.out.2.1; omega) (.inr (by rw [HB.out.2.2.2.2]; have i1 := HB.out.2.2.2.1; omega)) (by have := HB.out.1; omega) ⟨by have := HB.out.2.2.1; omega, by have := HB.out.2.2.1; omega⟩).mono ?_; rintro e w4 ⟨u4, rfl, hc, hx⟩; have HC4 := hide hc; have HN4 := hide (HN3.out.step hx); have HD4 := hide (HD3.out.cx hx); have HP4 := hide (HCU.out _ _ hc); clear hc hx))
        clear HC3 HN3 HD3 HP2 HCU hcell
        generalize cutS s1 a sp0 nx0 = s4 at HC4 HP4
        have HB4 : Hid ((s4.wt : Int) ≤ 212 ∧ (3 ≤ a + 1 ∧ a + 1 ≤ 109) ∧ (1 ≤ sp0 + 1 ∧ sp0 + 1 ≤ 107) ∧ (s4.tk.length : Int) ≤ 106 ∧ s4.room = 4000) := hide (by have i1 := HP4.out.wt; have i2 := HP4.out.pos; have i3 := HP4.out.n1; have i4 := HP4.out.s1; have i5 := HP4.out.tk; have i6 := HP4.out.rm; exact ⟨by omega, by omega, by omega, by omega, i6⟩)
        have hal : Below w4.heap.size w4 (w4.alloc (.cells #[.int .u8 1, .int .u8 2] 5)) := al_c w4 _
        go_upto_region 18 with (first | (go_at_call 12; refine (append_ok _ _ [1, 2] 1 _ (HC4.out.below hal) (by decide) (by decide) (by have := HB4.out; omega) (by have := HB4.out; omega) (sl_dx (sl12 w4 _) (fun e => by have := HC4.out.q.dk.lt e; omega)) byt12 (by have := HB4.out; omega) (by have i1 := HB4.out; rw [i1.2.2.2.2]; omega) (by have := HB4.out; omega)).mono ?_; rintro e w5 ⟨u5, rfl, hc, hx⟩; have HC5 := hide hc; have HN5 := hide ((HN4.out.call hal).step hx); have HD5 := hide ((HD4.out.below hal).cx hx); have HP5 := hide (ps_app HP4.out byt12 (by decide) (by decide) (by decide) (by omega) hc.q.ok); clear hc hx))
        clear HC4 HN4 HD4 HP4 hal
        generalize pS s4 (a + 1) (sp0 + 1) [1, 2] 1 = s5 at HC5 HP5
        obtain ⟨kk, x, y, hO, hf1, hf2, hps⟩ := ps_crash HP5.out ks cut
        have HO := hide hO
        have HWT : Hid ((crS s5 ks cut).wt < 30000) := hide (by have i1 := crS_wt HC5.out.q.ok ks cut; have i2 := HP5.out.wt; omega)
        clear hO hps
        have hf3 : kk = k ∨ kk = k + 1 := by rw [List.length_append, List.length_take] at hf2; simp at hf2; omega
        have hf4 : kk ≤ k + 1 := by omega
        clear hf2
        go_upto_region 19 with (first | (go_at_call 13; refine (q_crash _ ks cut _ HC5.out.q (HK.out.below HN5.out.be) (by have := HP5.out.wt; omega)).mono ?_; rintro e w6 ⟨rfl, hq, hx⟩; have HQ6 := hide hq; have HN6 := hide (HN5.out.dx hx); have HD6 := hide (HD5.out.cx (Cx.of hx)); have HC6 : Hid (c < w6.heap.size) := hide (Nat.lt_of_lt_of_le HC5.out.x.lt hx.ba.size); clear hq hx))
        clear HC5 HN5 HD5 HP5
        generalize crS s5 ks cut = s6 at HO HWT HQ6
        go_upto_region 20 with (first | (go_at_call 11; refine (open_hd (c0 := c) w w6 HQ6.out HO.out HWT.out HC6.out HN6.out.be.size).mono ?_; rintro e w7 ⟨c2, gv, gs, rfl, hc, _, hh, hq, hcw, hb⟩; have HC7 := hide hc; have HG7 := hide hh; have HD7 := hide (HD6.out.other hb hcw); have HGQ := hide hq; have HN7 := hide (HN6.out.opened hb hcw); clear hc hh hq hcw hb))
        clear HQ6 HN6 HD6 HO HWT HC6
        have HGL : Hid (gs.length = kk) := hide (by rw [← lkO_len, HGQ.out, cut_len hkL hf4])
        obtain ⟨ga, gk, hgf⟩ := HG7.out.lw.form
        rw [HGL.out] at hgf
        subst hgf
        have hkc : k ≤ hc := by rcases HD7.out.lw.two with ⟨e1, _⟩ | ⟨_, _, e1, i2, _⟩ <;> cases e1; omega
        have hgk : kk ≤ gk ∧ (k = 0 ∨ ga ≠ none) := by rcases HG7.out.lw.two with ⟨e1, e2⟩ | ⟨_, _, e1, i2, _⟩; cases e1; exact ⟨by rw [← HGL.out, e2]; simp, .inl (by have := HGL.out; rw [e2] at this; simp at this; omega)⟩; cases e1; rw [HGL.out] at i2; exact ⟨i2, .inr (by simp)⟩
        have HSM : Hid (∀ W, Below w7.heap.size w7 W → Calls Try.prog 14 #[.slice ga k gk, .slice (some ⟨g, 0, none⟩) k hc] W fun e w' => e = .returned (.bool true) ∧ Below W.heap.size W w') := hide (fun W hW => lsame_any _ _ (gs.take k) (qs.take k) W ((HG7.out.lrd.take (by rw [HGL.out]; exact hf1)).below hW) ((HD7.out.lrd.take (by omega)).below hW) (by rw [lkO_take, lkO_take, HEQ.out, HGQ.out, cut_two hf1 hkL]) (by rw [List.length_take]; have h1 := HLQ.out; have h2 := HL40.out; omega))
        rcases HG7.out.lw.two with ⟨e1, e2⟩ | ⟨g2, gcap, e1, hle1, hmx1⟩
        · subst e2
          obtain ⟨rfl, rfl⟩ : ga = none ∧ gk = 0 := by cases e1; exact ⟨rfl, rfl⟩
          obtain rfl : kk = 0 := by have := HGL.out; simp at this; omega
          obtain rfl : k = 0 := by omega
          clear e1 hf3 hf4 hgk hf1
          have hdw : Below w7.heap.size w7 w7.drew := (Below.refl _ _).drew
          refine wp_region_held_drew (S := fun _ => True) (by kernel_rfl) trivial (fun hHeld => ?_)
          have HG8 := hide (HG7.out.below hdw)
          have HN8 := hide (HN7.out.call hdw)
          generalize hW8 : w7.drew = w8 at HG8 HN8 hHeld ⊢
          have HBW : Hid (Below w7.heap.size w7 w8) := hide (by rw [← hW8]; exact hdw)
          clear hdw hW8 HG7 HN7 HD7 HC7
          refine wpAnyH_take (i := 0) (oi := _) (v := .nilIface) rfl (by kernel_rfl) (by kernel_rfl) (by kernel_rfl) (fun _ _ _ h => h) (Or.inl ⟨by rfl, by intro w hSw; go_simp⟩) hHeld ?_
          change wpAnyH _ _ _ _ _ _ _ (Act.put _ (some 85) _) _
          simp only [Act.put, List.setIfInBounds_toArray, List.set_cons_zero, List.set_cons_succ]
          refine wpAnyH_take (i := 1) (oi := _) (v := .bool false) rfl (by kernel_rfl) (by kernel_rfl) (by kernel_rfl) (fun _ _ _ h => h) (Or.inl ⟨by rfl, by intro w hSw; go_simp⟩) hHeld ?_
          change wpAnyH _ _ _ _ _ _ _ (Act.put _ (some 86) _) _
          simp only [Act.put, List.setIfInBounds_toArray, List.set_cons_zero, List.set_cons_succ]
          refine wpAnyH_take (i := 2) (oi := _) (v := .bool false) rfl (by kernel_rfl) (by kernel_rfl) (by kernel_rfl) (fun _ _ _ h => h) (Or.inl ⟨by rfl, by intro w hSw; go_simp⟩) hHeld ?_
          change wpAnyH _ _ _ _ _ _ _ (Act.put _ (some 87) _) _
          simp only [Act.put, List.setIfInBounds_toArray, List.set_cons_zero, List.set_cons_succ]
          refine wpAnyH_take (i := 3) (oi := _) (v := .slice none ((0 : Nat)) 0) rfl (by kernel_rfl) (by kernel_rfl) (by kernel_rfl) (fun _ _ _ h => h) (Or.inl ⟨by rfl, by intro w hSw; go_simp⟩) hHeld ?_
          change wpAnyH _ _ _ _ _ _ _ (Act.put _ (some 88) _) _
          simp only [Act.put, List.setIfInBounds_toArray, List.set_cons_zero, List.set_cons_succ]
          refine wpAnyH_take (i := 4) (oi := _) (v := .int .i64 (((0 : Nat)) : Int)) rfl (by kernel_rfl) (by kernel_rfl) (by kernel_rfl) (fun _ _ _ h => h) (Or.inl ⟨by rfl, by intro w hSw; go_simp⟩) hHeld ?_
          change wpAnyH _ _ _ _ _ _ _ (Act.put _ (some 89) _) _
          simp only [Act.put, List.setIfInBounds_toArray, List.set_cons_zero, List.set_cons_succ]
          refine wpAnyH_take (i := 5) (oi := _) (v := .int .i64 (((0 : Nat)) : Int)) rfl (by kernel_rfl) (by kernel_rfl) (by kernel_rfl) (fun _ _ _ h => h) (Or.inl ⟨by rfl, by intro w hSw; go_simp⟩) hHeld ?_
          change wpAnyH _ _ _ _ _ _ _ (Act.put _ (some 90) _) _
          simp only [Act.put, List.setIfInBounds_toArray, List.set_cons_zero, List.set_cons_succ]
          refine wpAnyH_take (i := 6) (oi := _) (v := .bool false) rfl (by kernel_rfl) (by kernel_rfl) (by kernel_rfl) (fun _ _ _ h => h) (Or.inl ⟨by rfl, by intro w hSw; go_simp⟩) hHeld ?_
          change wpAnyH _ _ _ _ _ _ _ (Act.put _ (some 91) _) _
          simp only [Act.put, List.setIfInBounds_toArray, List.set_cons_zero, List.set_cons_succ]
          refine wpAnyH_take (i := 7) (oi := _) (v := .bool false) rfl (by kernel_rfl) (by kernel_rfl) (by kernel_rfl) (fun _ _ _ h => h) (Or.inl ⟨by rfl, by intro w hSw; go_simp⟩) hHeld ?_
          change wpAnyH _ _ _ _ _ _ _ (Act.put _ (some 92) _) _
          simp only [Act.put, List.setIfInBounds_toArray, List.set_cons_zero, List.set_cons_succ]
          refine wpAnyH_take (i := 8) (oi := _) (v := .bool false) rfl (by kernel_rfl) (by kernel_rfl) (by kernel_rfl) (fun _ _ _ h => h) (Or.inl ⟨by rfl, by intro w hSw; go_simp⟩) hHeld ?_
          change wpAnyH _ _ _ _ _ _ _ (Act.put _ (some 93) _) _
          simp only [Act.put, List.setIfInBounds_toArray, List.set_cons_zero, List.set_cons_succ]
          refine wpAnyH_take (i := 9) (oi := _) (v := .slice none ((0 : Nat)) 0) rfl (by kernel_rfl) (by kernel_rfl) (by kernel_rfl) (fun _ _ _ h => h) (Or.inl ⟨by rfl, by intro w hSw; go_simp⟩) hHeld ?_
          change wpAnyH _ _ _ _ _ _ _ (Act.put _ (some 94) _) _
          simp only [Act.put, List.setIfInBounds_toArray, List.set_cons_zero, List.set_cons_succ]
          refine wpAnyH_take (i := 10) (oi := _) (v := .int .i64 (((0 : Nat)) : Int)) rfl (by kernel_rfl) (by kernel_rfl) (by kernel_rfl) (fun _ _ _ h => h) (Or.inl ⟨by rfl, by intro w hSw; go_simp⟩) hHeld ?_
          change wpAnyH _ _ _ _ _ _ _ (Act.put _ (some 95) _) _
          simp only [Act.put, List.setIfInBounds_toArray, List.set_cons_zero, List.set_cons_succ]
          refine wpAnyH_take (i := 11) (oi := _) (v := .slice none ((0 : Nat)) 0) rfl (by kernel_rfl) (by kernel_rfl) (by kernel_rfl) (fun _ _ _ h => h) (Or.inl ⟨by rfl, by intro w hSw; go_simp⟩) hHeld ?_
          change wpAnyH _ _ _ _ _ _ _ (Act.put _ (some 96) _) _
          simp only [Act.put, List.setIfInBounds_toArray, List.set_cons_zero, List.set_cons_succ]
          refine wpAnyH_take (i := 12) (oi := _) (v := .slice (some ⟨g, 0, none⟩) qs.length hc) rfl (by kernel_rfl) (by kernel_rfl) (by kernel_rfl) (fun _ _ _ h => h) (Or.inl ⟨by rfl, by intro w hSw; go_simp⟩) hHeld ?_
          change wpAnyH _ _ _ _ _ _ _ (Act.put _ (some 97) _) _
          simp only [Act.put, List.setIfInBounds_toArray, List.set_cons_zero, List.set_cons_succ]
          refine wpAnyH_take (i := 13) (oi := _) (v := .int .i64 (((0 : Nat)) : Int)) rfl (by kernel_rfl) (by kernel_rfl) (by kernel_rfl) (fun _ _ _ h => h) (Or.inl ⟨by rfl, by intro w hSw; go_simp⟩) hHeld ?_
          change wpAnyH _ _ _ _ _ _ _ (Act.put _ (some 98) _) _
          simp only [Act.put, List.setIfInBounds_toArray, List.set_cons_zero, List.set_cons_succ]
          refine wpAnyH_take (i := 14) (oi := _) (v := .slice (some ⟨g, 0, none⟩) ((0 : Nat)) hc) rfl (by kernel_rfl) (by kernel_rfl) (by kernel_rfl) (fun _ _ _ h => h) (Or.inl ⟨by rfl, by intro w hSw; go_simp⟩) hHeld ?_
          change wpAnyH _ _ _ _ _ _ _ (Act.put _ (some 99) _) _
          simp only [Act.put, List.setIfInBounds_toArray, List.set_cons_zero, List.set_cons_succ]
          refine wpAnyH_ready (rs := [15]) (by kernel_rfl) (by simp) ?_
          refine AllReadyH.cons (o := _) rfl (fun K hK => ?_) AllReadyH.nil
          go_simp
          go_at_call 14
          refine (HSM.out _ HBW.out).mono ?_
          rintro e w9 ⟨rfl, hb9⟩
          go_wp2_with fail
          refine hK.out _ _ trivial (fun hHeld1 => ?_)
          clear hK K hHeld
          have hHeld := hHeld1
          clear hHeld1
          have HG9 := hide (HG8.out.below hb9)
          have HN9 := hide (HN8.out.call hb9)
          clear hb9 HG8 HN8 HSM HBW
          refine wpAnyH_take (i := 16) (oi := _) (v := .bool false) rfl (by kernel_rfl) (by kernel_rfl) (by kernel_rfl) (fun _ _ _ h => h) (Or.inl ⟨by rfl, by intro w hSw; go_simp⟩) hHeld ?_
          change wpAnyH _ _ _ _ _ _ _ (Act.put _ (some 101) _) _
          simp only [Act.put, List.setIfInBounds_toArray, List.set_cons_zero, List.set_cons_succ]
          refine wpAnyH_take (i := 17) (oi := _) (v := .bool false) rfl (by kernel_rfl) (by kernel_rfl) (by kernel_rfl) (fun _ _ _ h => h) (Or.inl ⟨by rfl, by intro w hSw; go_simp⟩) hHeld ?_
          change wpAnyH _ _ _ _ _ _ _ (Act.put _ (some 102) _) _
          simp only [Act.put, List.setIfInBounds_toArray, List.set_cons_zero, List.set_cons_succ]
          refine wpAnyH_done (by kernel_rfl) ?_ _
          clear hHeld
          go_wp2_with (first | (go_at_call 8; refine (cworks_any _).mono ?_; rintro e w12 ⟨rfl, hb12⟩; have HB12 := hide (bt HN9.out.be hb12); clear hb12))
          go_ret
          exact ⟨rfl, HB12.out⟩
        · obtain ⟨rfl, rfl⟩ : ga = some ⟨g2, 0, none⟩ ∧ gk = gcap := by cases e1; exact ⟨rfl, rfl⟩
          clear e1
          obtain ⟨hgk1, _⟩ := hgk
          have hkg : k ≤ gk := by omega
          have hkgI : (k : Int) ≤ (gk : Int) := by omega
          have hkcI : (k : Int) ≤ (hc : Int) := by omega
          rcases hf3 with rfl | rfl
          · have hlt0 : ¬ (kk : Int) < (kk : Int) := by omega
            have hdw : Below w7.heap.size w7 w7.drew := (Below.refl _ _).drew
            refine wp_region_held_drew (S := fun _ => True) (by kernel_rfl) trivial (fun hHeld => ?_)
            have HG8 := hide (HG7.out.below hdw)
            have HN8 := hide (HN7.out.call hdw)
            generalize hW8 : w7.drew = w8 at HG8 HN8 hHeld ⊢
            have HBW : Hid (Below w7.heap.size w7 w8) := hide (by rw [← hW8]; exact hdw)
            clear hdw hW8 HG7 HN7 HD7 HC7
            refine wpAnyH_take (i := 0) (oi := _) (v := .nilIface) rfl (by kernel_rfl) (by kernel_rfl) (by kernel_rfl) (fun _ _ _ h => h) (Or.inl ⟨by rfl, by intro w hSw; go_simp⟩) hHeld ?_
            change wpAnyH _ _ _ _ _ _ _ (Act.put _ (some 85) _) _
            simp only [Act.put, List.setIfInBounds_toArray, List.set_cons_zero, List.set_cons_succ]
            refine wpAnyH_take (i := 1) (oi := _) (v := .bool false) rfl (by kernel_rfl) (by kernel_rfl) (by kernel_rfl) (fun _ _ _ h => h) (Or.inl ⟨by rfl, by intro w hSw; go_simp⟩) hHeld ?_
            change wpAnyH _ _ _ _ _ _ _ (Act.put _ (some 86) _) _
            simp only [Act.put, List.setIfInBounds_toArray, List.set_cons_zero, List.set_cons_succ]
            refine wpAnyH_take (i := 2) (oi := _) (v := .bool false) rfl (by kernel_rfl) (by kernel_rfl) (by kernel_rfl) (fun _ _ _ h => h) (Or.inl ⟨by rfl, by intro w hSw; go_simp⟩) hHeld ?_
            change wpAnyH _ _ _ _ _ _ _ (Act.put _ (some 87) _) _
            simp only [Act.put, List.setIfInBounds_toArray, List.set_cons_zero, List.set_cons_succ]
            refine wpAnyH_take (i := 3) (oi := _) (v := .slice (some ⟨g2, 0, none⟩) kk gk) rfl (by kernel_rfl) (by kernel_rfl) (by kernel_rfl) (fun _ _ _ h => h) (Or.inl ⟨by rfl, by intro w hSw; go_simp⟩) hHeld ?_
            change wpAnyH _ _ _ _ _ _ _ (Act.put _ (some 88) _) _
            simp only [Act.put, List.setIfInBounds_toArray, List.set_cons_zero, List.set_cons_succ]
            refine wpAnyH_take (i := 4) (oi := _) (v := .int .i64 (kk : Int)) rfl (by kernel_rfl) (by kernel_rfl) (by kernel_rfl) (fun _ _ _ h => h) (Or.inl ⟨by rfl, by intro w hSw; go_simp⟩) hHeld ?_
            change wpAnyH _ _ _ _ _ _ _ (Act.put _ (some 89) _) _
            simp only [Act.put, List.setIfInBounds_toArray, List.set_cons_zero, List.set_cons_succ]
            refine wpAnyH_take (i := 5) (oi := _) (v := .int .i64 (kk : Int)) rfl (by kernel_rfl) (by kernel_rfl) (by kernel_rfl) (fun _ _ _ h => h) (Or.inl ⟨by rfl, by intro w hSw; go_simp⟩) hHeld ?_
            change wpAnyH _ _ _ _ _ _ _ (Act.put _ (some 90) _) _
            simp only [Act.put, List.setIfInBounds_toArray, List.set_cons_zero, List.set_cons_succ]
            refine wpAnyH_take (i := 6) (oi := _) (v := .bool false) rfl (by kernel_rfl) (by kernel_rfl) (by kernel_rfl) (fun _ _ _ h => h) (Or.inl ⟨by rfl, by intro w hSw; go_simp⟩) hHeld ?_
            change wpAnyH _ _ _ _ _ _ _ (Act.put _ (some 91) _) _
            simp only [Act.put, List.setIfInBounds_toArray, List.set_cons_zero, List.set_cons_succ]
            refine wpAnyH_take (i := 7) (oi := _) (v := .bool false) rfl (by kernel_rfl) (by kernel_rfl) (by kernel_rfl) (fun _ _ _ h => h) (Or.inl ⟨by rfl, by intro w hSw; go_simp⟩) hHeld ?_
            change wpAnyH _ _ _ _ _ _ _ (Act.put _ (some 92) _) _
            simp only [Act.put, List.setIfInBounds_toArray, List.set_cons_zero, List.set_cons_succ]
            refine wpAnyH_take (i := 8) (oi := _) (v := .bool false) rfl (by kernel_rfl) (by kernel_rfl) (by kernel_rfl) (fun _ _ _ h => h) (Or.inl ⟨by rfl, by intro w hSw; go_simp⟩) hHeld ?_
            change wpAnyH _ _ _ _ _ _ _ (Act.put _ (some 93) _) _
            simp only [Act.put, List.setIfInBounds_toArray, List.set_cons_zero, List.set_cons_succ]
            refine wpAnyH_take (i := 9) (oi := _) (v := .slice (some ⟨g2, 0, none⟩) kk gk) rfl (by kernel_rfl) (by kernel_rfl) (by kernel_rfl) (fun _ _ _ h => h) (Or.inl ⟨by rfl, by intro w hSw; go_simp⟩) hHeld ?_
            change wpAnyH _ _ _ _ _ _ _ (Act.put _ (some 94) _) _
            simp only [Act.put, List.setIfInBounds_toArray, List.set_cons_zero, List.set_cons_succ]
            refine wpAnyH_take (i := 10) (oi := _) (v := .int .i64 (kk : Int)) rfl (by kernel_rfl) (by kernel_rfl) (by kernel_rfl) (fun _ _ _ h => h) (Or.inl ⟨by rfl, by intro w hSw; go_simp⟩) hHeld ?_
            change wpAnyH _ _ _ _ _ _ _ (Act.put _ (some 95) _) _
            simp only [Act.put, List.setIfInBounds_toArray, List.set_cons_zero, List.set_cons_succ]
            refine wpAnyH_take (i := 11) (oi := _) (v := .slice (some ⟨g2, 0, none⟩) kk gk) rfl (by kernel_rfl) (by kernel_rfl) (by kernel_rfl) (fun _ _ _ h => h) (Or.inl ⟨by rfl, by intro w hSw; go_simp⟩) hHeld ?_
            change wpAnyH _ _ _ _ _ _ _ (Act.put _ (some 96) _) _
            simp only [Act.put, List.setIfInBounds_toArray, List.set_cons_zero, List.set_cons_succ]
            refine wpAnyH_take (i := 12) (oi := _) (v := .slice (some ⟨g, 0, none⟩) qs.length hc) rfl (by kernel_rfl) (by kernel_rfl) (by kernel_rfl) (fun _ _ _ h => h) (Or.inl ⟨by rfl, by intro w hSw; go_simp⟩) hHeld ?_
            change wpAnyH _ _ _ _ _ _ _ (Act.put _ (some 97) _) _
            simp only [Act.put, List.setIfInBounds_toArray, List.set_cons_zero, List.set_cons_succ]
            refine wpAnyH_take (i := 13) (oi := _) (v := .int .i64 (kk : Int)) rfl (by kernel_rfl) (by kernel_rfl) (by kernel_rfl) (fun _ _ _ h => h) (Or.inl ⟨by rfl, by intro w hSw; go_simp⟩) hHeld ?_
            change wpAnyH _ _ _ _ _ _ _ (Act.put _ (some 98) _) _
            simp only [Act.put, List.setIfInBounds_toArray, List.set_cons_zero, List.set_cons_succ]
            refine wpAnyH_take (i := 14) (oi := _) (v := .slice (some ⟨g, 0, none⟩) kk hc) rfl (by kernel_rfl) (by kernel_rfl) (by kernel_rfl) (fun _ _ _ h => h) (Or.inl ⟨by rfl, by intro w hSw; go_simp⟩) hHeld ?_
            change wpAnyH _ _ _ _ _ _ _ (Act.put _ (some 99) _) _
            simp only [Act.put, List.setIfInBounds_toArray, List.set_cons_zero, List.set_cons_succ]
            refine wpAnyH_ready (rs := [15]) (by kernel_rfl) (by simp) ?_
            refine AllReadyH.cons (o := _) rfl (fun K hK => ?_) AllReadyH.nil
            go_simp
            go_at_call 14
            refine (HSM.out _ HBW.out).mono ?_
            rintro e w9 ⟨rfl, hb9⟩
            go_wp2_with fail
            refine hK.out _ _ trivial (fun hHeld1 => ?_)
            clear hK K hHeld
            have hHeld := hHeld1
            clear hHeld1
            have HG9 := hide (HG8.out.below hb9)
            have HN9 := hide (HN8.out.call hb9)
            clear hb9 HG8 HN8 HSM HBW
            refine wpAnyH_take (i := 16) (oi := _) (v := .bool false) rfl (by kernel_rfl) (by kernel_rfl) (by kernel_rfl) (fun _ _ _ h => h) (Or.inl ⟨by rfl, by intro w hSw; go_simp⟩) hHeld ?_
            change wpAnyH _ _ _ _ _ _ _ (Act.put _ (some 101) _) _
            simp only [Act.put, List.setIfInBounds_toArray, List.set_cons_zero, List.set_cons_succ]
            refine wpAnyH_take (i := 17) (oi := _) (v := .bool false) rfl (by kernel_rfl) (by kernel_rfl) (by kernel_rfl) (fun _ _ _ h => h) (Or.inl ⟨by rfl, by intro w hSw; go_simp⟩) hHeld ?_
            change wpAnyH _ _ _ _ _ _ _ (Act.put _ (some 102) _) _
            simp only [Act.put, List.setIfInBounds_toArray, List.set_cons_zero, List.set_cons_succ]
            refine wpAnyH_done (by kernel_rfl) ?_ _
            clear hHeld
            go_wp2_with (first | (go_at_call 8; refine (cworks_any _).mono ?_; rintro e w12 ⟨rfl, hb12⟩; have HB12 := hide (bt HN9.out.be hb12); clear hb12))
            go_ret
            exact ⟨rfl, HB12.out⟩
          · have hlt0 : ¬ (k : Int) + 1 < (k : Int) := by omega
            have hdw : Below w7.heap.size w7 w7.drew := (Below.refl _ _).drew
            refine wp_region_held_drew (S := fun _ => True) (by kernel_rfl) trivial (fun hHeld => ?_)
            have HG8 := hide (HG7.out.below hdw)
            have HN8 := hide (HN7.out.call hdw)
            generalize hW8 : w7.drew = w8 at HG8 HN8 hHeld ⊢
            have HBW : Hid (Below w7.heap.size w7 w8) := hide (by rw [← hW8]; exact hdw)
            clear hdw hW8 HG7 HN7 HD7 HC7
            refine wpAnyH_take (i := 0) (oi := _) (v := .nilIface) rfl (by kernel_rfl) (by kernel_rfl) (by kernel_rfl) (fun _ _ _ h => h) (Or.inl ⟨by rfl, by intro w hSw; go_simp⟩) hHeld ?_
            change wpAnyH _ _ _ _ _ _ _ (Act.put _ (some 85) _) _
            simp only [Act.put, List.setIfInBounds_toArray, List.set_cons_zero, List.set_cons_succ]
            refine wpAnyH_take (i := 1) (oi := _) (v := .bool false) rfl (by kernel_rfl) (by kernel_rfl) (by kernel_rfl) (fun _ _ _ h => h) (Or.inl ⟨by rfl, by intro w hSw; go_simp⟩) hHeld ?_
            change wpAnyH _ _ _ _ _ _ _ (Act.put _ (some 86) _) _
            simp only [Act.put, List.setIfInBounds_toArray, List.set_cons_zero, List.set_cons_succ]
            refine wpAnyH_take (i := 2) (oi := _) (v := .bool false) rfl (by kernel_rfl) (by kernel_rfl) (by kernel_rfl) (fun _ _ _ h => h) (Or.inl ⟨by rfl, by intro w hSw; go_simp⟩) hHeld ?_
            change wpAnyH _ _ _ _ _ _ _ (Act.put _ (some 87) _) _
            simp only [Act.put, List.setIfInBounds_toArray, List.set_cons_zero, List.set_cons_succ]
            refine wpAnyH_take (i := 3) (oi := _) (v := .slice (some ⟨g2, 0, none⟩) (k + 1) gk) rfl (by kernel_rfl) (by kernel_rfl) (by kernel_rfl) (fun _ _ _ h => h) (Or.inl ⟨by rfl, by intro w hSw; go_simp⟩) hHeld ?_
            change wpAnyH _ _ _ _ _ _ _ (Act.put _ (some 88) _) _
            simp only [Act.put, List.setIfInBounds_toArray, List.set_cons_zero, List.set_cons_succ]
            refine wpAnyH_take (i := 4) (oi := _) (v := .int .i64 ((k : Int) + 1)) rfl (by kernel_rfl) (by kernel_rfl) (by kernel_rfl) (fun _ _ _ h => h) (Or.inl ⟨by rfl, by intro w hSw; go_simp⟩) hHeld ?_
            change wpAnyH _ _ _ _ _ _ _ (Act.put _ (some 89) _) _
            simp only [Act.put, List.setIfInBounds_toArray, List.set_cons_zero, List.set_cons_succ]
            refine wpAnyH_take (i := 5) (oi := _) (v := .int .i64 (k : Int)) rfl (by kernel_rfl) (by kernel_rfl) (by kernel_rfl) (fun _ _ _ h => h) (Or.inl ⟨by rfl, by intro w hSw; go_simp⟩) hHeld ?_
            change wpAnyH _ _ _ _ _ _ _ (Act.put _ (some 90) _) _
            simp only [Act.put, List.setIfInBounds_toArray, List.set_cons_zero, List.set_cons_succ]
            refine wpAnyH_take (i := 6) (oi := _) (v := .bool false) rfl (by kernel_rfl) (by kernel_rfl) (by kernel_rfl) (fun _ _ _ h => h) (Or.inl ⟨by rfl, by intro w hSw; go_simp⟩) hHeld ?_
            change wpAnyH _ _ _ _ _ _ _ (Act.put _ (some 91) _) _
            simp only [Act.put, List.setIfInBounds_toArray, List.set_cons_zero, List.set_cons_succ]
            refine wpAnyH_take (i := 7) (oi := _) (v := .bool false) rfl (by kernel_rfl) (by kernel_rfl) (by kernel_rfl) (fun _ _ _ h => h) (Or.inl ⟨by rfl, by intro w hSw; go_simp⟩) hHeld ?_
            change wpAnyH _ _ _ _ _ _ _ (Act.put _ (some 92) _) _
            simp only [Act.put, List.setIfInBounds_toArray, List.set_cons_zero, List.set_cons_succ]
            refine wpAnyH_take (i := 8) (oi := _) (v := .bool false) rfl (by kernel_rfl) (by kernel_rfl) (by kernel_rfl) (fun _ _ _ h => h) (Or.inl ⟨by rfl, by intro w hSw; go_simp⟩) hHeld ?_
            change wpAnyH _ _ _ _ _ _ _ (Act.put _ (some 93) _) _
            simp only [Act.put, List.setIfInBounds_toArray, List.set_cons_zero, List.set_cons_succ]
            refine wpAnyH_take (i := 9) (oi := _) (v := .slice (some ⟨g2, 0, none⟩) (k + 1) gk) rfl (by kernel_rfl) (by kernel_rfl) (by kernel_rfl) (fun _ _ _ h => h) (Or.inl ⟨by rfl, by intro w hSw; go_simp⟩) hHeld ?_
            change wpAnyH _ _ _ _ _ _ _ (Act.put _ (some 94) _) _
            simp only [Act.put, List.setIfInBounds_toArray, List.set_cons_zero, List.set_cons_succ]
            refine wpAnyH_take (i := 10) (oi := _) (v := .int .i64 (k : Int)) rfl (by kernel_rfl) (by kernel_rfl) (by kernel_rfl) (fun _ _ _ h => h) (Or.inl ⟨by rfl, by intro w hSw; go_simp⟩) hHeld ?_
            change wpAnyH _ _ _ _ _ _ _ (Act.put _ (some 95) _) _
            simp only [Act.put, List.setIfInBounds_toArray, List.set_cons_zero, List.set_cons_succ]
            refine wpAnyH_take (i := 11) (oi := _) (v := .slice (some ⟨g2, 0, none⟩) k gk) rfl (by kernel_rfl) (by kernel_rfl) (by kernel_rfl) (fun _ _ _ h => h) (Or.inl ⟨by rfl, by intro w hSw; go_simp⟩) hHeld ?_
            change wpAnyH _ _ _ _ _ _ _ (Act.put _ (some 96) _) _
            simp only [Act.put, List.setIfInBounds_toArray, List.set_cons_zero, List.set_cons_succ]
            refine wpAnyH_take (i := 12) (oi := _) (v := .slice (some ⟨g, 0, none⟩) qs.length hc) rfl (by kernel_rfl) (by kernel_rfl) (by kernel_rfl) (fun _ _ _ h => h) (Or.inl ⟨by rfl, by intro w hSw; go_simp⟩) hHeld ?_
            change wpAnyH _ _ _ _ _ _ _ (Act.put _ (some 97) _) _
            simp only [Act.put, List.setIfInBounds_toArray, List.set_cons_zero, List.set_cons_succ]
            refine wpAnyH_take (i := 13) (oi := _) (v := .int .i64 (k : Int)) rfl (by kernel_rfl) (by kernel_rfl) (by kernel_rfl) (fun _ _ _ h => h) (Or.inl ⟨by rfl, by intro w hSw; go_simp⟩) hHeld ?_
            change wpAnyH _ _ _ _ _ _ _ (Act.put _ (some 98) _) _
            simp only [Act.put, List.setIfInBounds_toArray, List.set_cons_zero, List.set_cons_succ]
            refine wpAnyH_take (i := 14) (oi := _) (v := .slice (some ⟨g, 0, none⟩) k hc) rfl (by kernel_rfl) (by kernel_rfl) (by kernel_rfl) (fun _ _ _ h => h) (Or.inl ⟨by rfl, by intro w hSw; go_simp⟩) hHeld ?_
            change wpAnyH _ _ _ _ _ _ _ (Act.put _ (some 99) _) _
            simp only [Act.put, List.setIfInBounds_toArray, List.set_cons_zero, List.set_cons_succ]
            refine wpAnyH_ready (rs := [15]) (by kernel_rfl) (by simp) ?_
            refine AllReadyH.cons (o := _) rfl (fun K hK => ?_) AllReadyH.nil
            go_simp
            go_at_call 14
            refine (HSM.out _ HBW.out).mono ?_
            rintro e w9 ⟨rfl, hb9⟩
            go_wp2_with fail
            refine hK.out _ _ trivial (fun hHeld1 => ?_)
            clear hK K hHeld
            have hHeld := hHeld1
            clear hHeld1
            have HG9 := hide (HG8.out.below hb9)
            have HN9 := hide (HN8.out.call hb9)
            clear hb9 HG8 HN8 HSM HBW
            refine wpAnyH_take (i := 16) (oi := _) (v := .bool false) rfl (by kernel_rfl) (by kernel_rfl) (by kernel_rfl) (fun _ _ _ h => h) (Or.inl ⟨by rfl, by intro w hSw; go_simp⟩) hHeld ?_
            change wpAnyH _ _ _ _ _ _ _ (Act.put _ (some 101) _) _
            simp only [Act.put, List.setIfInBounds_toArray, List.set_cons_zero, List.set_cons_succ]
            refine wpAnyH_take (i := 17) (oi := _) (v := .bool false) rfl (by kernel_rfl) (by kernel_rfl) (by kernel_rfl) (fun _ _ _ h => h) (Or.inl ⟨by rfl, by intro w hSw; go_simp⟩) hHeld ?_
            change wpAnyH _ _ _ _ _ _ _ (Act.put _ (some 102) _) _
            simp only [Act.put, List.setIfInBounds_toArray, List.set_cons_zero, List.set_cons_succ]
            refine wpAnyH_done (by kernel_rfl) ?_ _
            clear hHeld
            have hgl9 : k < gs.length := by rw [HGL.out]; omega
            obtain ⟨g3, kq3, e4, hgl3, hcl3⟩ := lw_at0 HG9.out.lw hgl9
            obtain ⟨g4, kq4, e5, _, hgl4, hcl4⟩ := lw_at HG9.out.lw hgl9
            rw [HGL.out] at e4 e5
            obtain rfl : g2 = g3 := by cases e4; rfl
            obtain rfl : g2 = g4 := by cases e5; rfl
            clear e4 e5
            have hge : (gs[k]).1 = a + 1 ∧ (gs[k]).2.2 = [1, 2] := by have i := congrArg (fun l => l[k]?) HGQ.out; simp only [cut_at hkL, lkO, List.getElem?_map, List.getElem?_eq_getElem hgl9, Option.map_some] at i; exact ⟨congrArg Prod.fst (Option.some.inj i), congrArg Prod.snd (Option.some.inj i)⟩
            have HGM := hide (HG9.out.me _ (List.getElem_mem hgl9)).1.sl
            rw [hge.2] at HGM
            rw [hge.1] at hcl3
            obtain ⟨ba, bk, hbf⟩ := HGM.out.form
            rw [hbf] at hcl4 HGM
            clear hge hbf
            have hkb : (k : Int) ≤ 40 := by have h1 := HL40.out; omega
            clear hf1 hf4 hlt0 hkgI hkcI hkg hkI hkL hkl hgl9 hgl3 hgl4 hkc hgk1 hle1 hmx1 hzI hzJ hz
            have hki : (k : Int) < (k : Int) + 1 := by omega
            have hq1 : ((k : Int) + 1 == (k : Int)) = false := beq_eq_false_iff_ne.2 (by omega)
            have hq2 : ((k : Int) + 1 == (k : Int) + 1) = true := by simp
            have hq3 : (a + 1 == a + 1) = true := by simp
            have hk0 : (0 : Int) ≤ (k : Int) := by omega
            have hal9 : Below w9.heap.size w9 (w9.alloc (.cells #[.int .u8 1, .int .u8 2] 5)) := al_c w9 _
            go_wp2_with (first | (go_at_call 16; refine (same_bytes _ _ [1, 2] _ (HGM.out.below hal9) (sl12 w9 _) (by decide)).mono ?_; rintro e w10 ⟨rfl, hb10⟩; have HB10 := hide hb10; clear hb10) | (go_at_call 8; refine (cworks_any _).mono ?_; rintro e w12 ⟨rfl, hb12⟩; have HB12 := hide (bt (bt (HN9.out.call hal9).be HB10.out) hb12); clear hb12))
            go_ret
            exact ⟨rfl, HB12.out⟩
    · have h60I : (60 : Int) < (ks.length : Int) := by omega
      go_wp2_with (first | (go_at_call 7; refine (lightC_any _ ps _ HV.out HZ.out).mono ?_; rintro e w9 ⟨rfl, hw9⟩; rw [hw9, HLI.out]; clear hw9 w9) | (go_at_call 8; refine (cworks_any _).mono ?_; rintro e w12 ⟨rfl, hb12⟩; have HB12 := hide hb12; clear hb12))
      go_ret
      exact ⟨rfl, HB12.out⟩
  · have HLI : Hid (liC ps = false) := hide (by simpa using hli)
    clear hli
    go_wp2_with (first | (go_at_call 7; refine (lightC_any _ ps _ HV.out HZ.out).mono ?_; rintro e w9 ⟨rfl, hw9⟩; rw [hw9, HLI.out]; clear hw9 w9) | (go_at_call 8; refine (cworks_any _).mono ?_; rintro e w12 ⟨rfl, hb12⟩; have HB12 := hide hb12; clear hb12))
    go_ret
    exact ⟨rfl, HB12.out⟩
end Go.Proofs.Ytmgfcgknajehaaa
