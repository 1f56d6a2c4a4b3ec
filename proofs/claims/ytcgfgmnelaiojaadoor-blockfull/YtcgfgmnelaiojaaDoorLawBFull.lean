/-
  BlockFull, WALKED: it answers true. Conditions: numbers of eight and sixteen bits; the handle of errors is laid.
-/
import Derived.Test.YtcgfgmnelaiojaaDoorBlkN
namespace Go.Proofs.YtcgfgmnelaiojaaDoor
open Go.RowKit

section
variable {d bS bT : Nat} {u : Value} {s : Dst}
theorem Nb.zero {w W : World} (h : Nb w W d bS bT u) (hh : Hnd w) : ¬ Own d bS bT u 0 := fun q => by
  have h1 : 0 < w.heap.size := cell_block hh
  have h2 := h.ow _ q
  omega
theorem wrE_two {a : Int} {s : Dst} (ha : Num a) : wrE s a [] = none ∨ (wrE s a [] = some ([(opBlock, a)], 7) ∧ wrS s a [] = s ∧ s.room ≤ (s.tk.length : Int)) := by
  unfold wrE wrS
  rw [if_pos (show 0 ≤ a ∧ a ≤ 1073741824 from ha), if_pos (show ([] : List Int).length ≤ 64 by decide)]
  split
  · exact .inl rfl
  · rename_i hn
    refine .inr ⟨rfl, ?_, ?_⟩
    · rw [if_pos (show 0 ≤ a ∧ a ≤ 1073741824 from ha), if_pos (show ([] : List Int).length ≤ 64 by decide)]
    · by_cases q : (s.tk.length : Int) < s.room
      · exact absurd (.inr q) hn
      · omega
theorem ces_at {W : World} {B : Nat} {a0 : Option Addr} {n c : Nat} {ps : List Ce} (h : Cw W B (.slice a0 n c) ps) {k : Nat} (hk : k < ps.length) : ∃ cb, a0 = some ⟨cb, 0, none⟩ ∧ B ≤ cb ∧ cb < W.heap.size ∧ W.cell? ⟨cb, k * 2, none⟩ = some (.int .i64 ps[k].1) := by
  rcases h.own.2 with ⟨_, h0⟩ | ⟨g, cap, cur, e, a2, a3, a4, a5, a6, a7⟩
  · omega
  · cases e
    refine ⟨g, rfl, a2, (Array.getElem?_eq_some_iff.1 a3).1, ?_⟩
    have hget : ∀ (ps : List Ce) (k : Nat) (hk : k < ps.length), (ces ps)[k * 2]? = some (.int .i64 ps[k].1) := by
      intro ps
      induction ps with
      | nil => intro k hk; simp at hk
      | cons q r ih =>
        intro k hk
        cases k with
        | zero => rfl
        | succ j =>
          show (cec q ++ ces r)[(j + 1) * 2]? = _
          rw [List.getElem?_append_right (by simp only [cec, List.length_cons, List.length_nil]; omega), show (j + 1) * 2 - (cec q).length = j * 2 by simp only [cec, List.length_cons, List.length_nil]; omega]
          exact ih j (by simpa using hk)
    have h1 := hget ps k hk
    rw [← a7, List.getElem?_take_of_lt (by omega)] at h1
    simp only [World.cell?, a3]
    simpa using h1
theorem range_dx {u' : Value} {w w' : World} {g i : Nat} {x : Value} (h : Dx d bS bT u w w' u') (hg : ¬ Own d bS bT u g) (hc : w.cell? ⟨g, i, none⟩ = some x) : w'.cell? ⟨g, i, none⟩ = some x := (h.cell (cell_block hc) hg i).trans hc
end
theorem u8_ofB {n : Int} (h : (Lit.int .u8 n).wf = true) : 0 ≤ n ∧ n ≤ 255 := by
  simp only [Lit.wf, Bool.and_eq_true, decide_eq_true_eq, show IntKind.u8.min = 0 by decide, show IntKind.u8.max = 255 by decide] at h
  exact h
theorem u16_ofD {n : Int} (h : (Lit.int .u16 n).wf = true) : 0 ≤ n ∧ n ≤ 65535 := by
  simp only [Lit.wf, Bool.and_eq_true, decide_eq_true_eq, show IntKind.u16.min = 0 by decide, show IntKind.u16.max = 65535 by decide] at h
  exact h
/-! ### generated -/
theorem do_inv {s : Dst} {r : Int} {k : Nat} (ho : s.Ok) (h : s.room = r ∧ s.wt ≤ k ∧ (s.tk.length : Int) ≤ r) (p : Ac) : (doS s p).room = r ∧ (doS s p).wt ≤ k + 1 ∧ ((doS s p).tk.length : Int) ≤ r :=
  ⟨(doS_room s p).trans h.1, by have := doS_wt ho p; omega, by rw [← h.1]; exact doS_tk ho p (by rw [h.1]; exact h.2.2)⟩
/-- The numbers of cells that are told lie where no store is. -/
def Kc (d bS bT : Nat) (u : Value) (W : World) (a0 : Option Addr) (cs : Cs) : Prop := ∀ k (_ : k < cs.length), ∃ cb, a0 = some ⟨cb, 0, none⟩ ∧ ¬ Own d bS bT u cb ∧ W.cell? ⟨cb, k * 2, none⟩ = some (.int .i64 cs[k].1)
theorem Kc.step {d bS bT : Nat} {u u' : Value} {W W' : World} {a0 : Option Addr} {cs : Cs} (h : Kc d bS bT u W a0 cs) (hx : Dx d bS bT u W W' u') : Kc d bS bT u' W' a0 cs := fun k hk => by
  obtain ⟨cb, h1, h2, h3⟩ := h k hk
  exact ⟨cb, h1, hx.own (cell_block h3) h2, range_dx hx h2 h3⟩
theorem kc_of {d bS bT B : Nat} {u : Value} {W : World} {a0 : Option Addr} {n c : Nat} {ps : List Ce} (h : Cw W B (.slice a0 n c) ps) (ho : ∀ k, Own d bS bT u k → k < B) : Kc d bS bT u W a0 (csOf ps) := fun k hk => by
  have hk' : k < ps.length := by simpa [csOf] using hk
  obtain ⟨cb, h1, h2, _, h4⟩ := ces_at h hk'
  refine ⟨cb, h1, fun q => by have := ho cb q; omega, ?_⟩
  rw [h4]
  simp [csOf]
theorem frL_ok {s : Dst} (h : s.Ok) (l : Cs) (hl : ∀ p ∈ l, Num p.1) : (frL s l).Ok := ⟨h.asc, h.cb, fun w hw => by
  rcases List.mem_append.1 hw with e | e
  · exact h.lb w e
  · obtain ⟨p, hp, rfl⟩ := List.mem_map.1 e
    exact ⟨hl p hp, blk_zer, fun _ => rfl⟩⟩
theorem frL_wt (s : Dst) (l : Cs) : (frL s l).wt = s.wt + l.length := by
  simp [frL, Dst.wt]; omega
theorem frL_zero (s : Dst) : frL s [] = s := by simp [frL]
set_option maxRecDepth 100000 in
set_option maxHeartbeats 16000000 in
theorem bfull_light (r a : Int) (v : Value) (ps : List Ap) (w : World) (hr : 0 ≤ r ∧ r ≤ 255) (ha : 0 ≤ a ∧ a ≤ 65535) (hv : Al w v ps) (hli : liB ps = true) (hh : Hnd w) :
    Calls Tryd.prog 5 #[.int .u8 r, v, .int .u16 a] w fun e w' => e = .returned (.bool true) ∧ Below w.heap.size w w' := by
  have HV := hide hv
  have HH := hide hh
  obtain ⟨⟨ao, cap, rfl, hrow⟩, hps⟩ := hv
  have HROW := hide hrow
  have HPS := hide hps
  have HLI := hide hli
  have hlen : ps.length ≤ 60 := (liB_is hli).1
  have HNR : Hid (Num r) := hide ⟨hr.1, by omega⟩
  have HNA : Hid (Num a) := hide ⟨ha.1, by omega⟩
  have HI : Hid (∀ W, Calls Tryd.prog 9 #[bft opBlock a 7, .int .i64 7] W fun e w' => e = .returned (.bool true) ∧ Below W.heap.size W w') := hide (fun W => is_ev (some ([(opBlock, a)], 7)) 7 W)
  obtain ⟨r0, r1⟩ := hr
  obtain ⟨a0, a1⟩ := ha
  clear hrow hps hli hh
  go_enter Tryd.func5, Tryd.ntmps5
  go_wp2_with (first | (go_at_call 6; refine (light_any _ ps _ HV.out).mono ?_; rintro e w9 ⟨rfl, hw9⟩; rw [hw9, HLI.out]; clear hw9 w9) | (go_at_call 8; refine (q_new2 r w _ HNR.out (Below.refl _ _)).mono ?_; rintro e w1 ⟨d, bS, bT, rfl, hq1, hn1, hm1⟩; have HQ1 := hide hq1; have HB1 := hide hn1; clear hq1 hn1 hm1))
  go_loopw [9] (fun i W => ∃ (k : Nat) (u : Value) (s : Dst), k ≤ ps.length ∧ i = .int .i64 k ∧ Dq W d bS bT u s ∧ Nb w W d bS bT u ∧ s.room = r ∧ s.wt ≤ k ∧ (s.tk.length : Int) ≤ r) (fun i _ => ps.length - (iv i).toNat)
  case atStart => exact ⟨0, _, _, Nat.zero_le _, rfl, HQ1.out, HB1.out, rfl, Nat.le_refl _, r0⟩
  case round =>
    obtain ⟨k, u, s, hk, rfl, hq, hb, hsr, hwt, htk⟩ := hrel
    by_cases hlt : k < ps.length
    · obtain ⟨rb, ro, rfl, hrg⟩ := HROW.out (by omega)
      have he := range_belW (Al.at hrg hlt) hb.be
      have HAP := hide ((HPS.out _ (List.getElem_mem hlt)).below hb.be)
      have HQ := hide hq
      have HB := hide hb
      have HS := hide (And.intro hsr (And.intro hwt htk))
      generalize ps[k] = p at he HAP
      obtain ⟨⟨kd, bl, by_, ks, cut⟩, vb, vk⟩ := p
      obtain ⟨ab, cb, eb⟩ := HAP.out.1.form
      obtain ⟨ak, ck, ek⟩ := HAP.out.2.2.form
      simp only at eb ek
      subst eb
      subst ek
      have c0 := he 0 _ rfl
      have c1 := he 1 _ rfl
      have c2 := he 2 _ rfl
      have c3 := he 3 _ rfl
      have c4 := he 4 _ rfl
      simp only [Nat.add_zero] at c0 c1 c2 c3 c4
      clear he hrg hq hb hsr hwt htk
      go_wp2_with (first | (go_at_call 10; refine (do0 r (⟨kd, bl, by_, ks, cut⟩, .slice ab by_.length cb, .slice ak ks.length ck) _ HQ.out (by have := HS.out.2.1; omega) (HH.out.below HB.out.be) (HB.out.zero HH.out) HAP.out).mono ?_; rintro e w2 ⟨v2, u2, rfl, hq2, hx2⟩; have hs2 := do_inv HQ.out.ok HS.out ⟨kd, bl, by_, ks, cut⟩; simp only at hq2; generalize doS s ⟨kd, bl, by_, ks, cut⟩ = s2 at hq2 hs2; have HQ2 := hide hq2; have HB2 := hide (HB.out.step hx2); have HS2 := hide hs2; have ht2 := hs2.2.2; clear hq2 hx2 hs2) | (go_at_call 14; refine (q_used _ HQ2.out).mono ?_; rintro e w9 ⟨rfl, hw9⟩; rw [hw9]; clear hw9 w9))
      exact ⟨⟨k + 1, u2, s2, by omega, by go_num, HQ2.out, HB2.out, HS2.out.1, HS2.out.2.1, HS2.out.2.2⟩, by simp [iv]; omega⟩
    · have HQ := hide hq
      have HB := hide hb
      have HSR := hide hsr
      have HWT : Hid (s.wt ≤ 60) := hide (by omega)
      have htk' : (s.tk.length : Int) < 9223372036854775807 := by omega
      clear hq hb hsr hwt htk
      rcases wrE_two HNA.out (s := s) with he | ⟨he, hs, hfull⟩
      · have HE := hide he
        clear he
        go_wp2_with (first | (go_at_call 14; refine (q_used _ HQ.out).mono ?_; rintro e w9 ⟨rfl, hw9⟩; rw [hw9]; clear hw9 w9) | (go_at_call 13; refine (q_loose _ HQ.out).mono ?_; rintro e w9 ⟨rfl, hw9⟩; rw [hw9]; clear hw9 w9) | (go_at_call 19; refine (q_writeN a _ [] _ HQ.out (Sl.nil _ _ _ _) (fun x hx => by simp at hx) (by have := HWT.out; omega) HE.out).mono ?_; rintro e w3 ⟨u3, rfl, hq3, hx3⟩; have hw3 : (wrS s a []).wt ≤ 61 := (by have := wrS_wt s a []; have := HWT.out; omega); have hr3 : (wrS s a []).room = r := (by rw [← HSR.out]; unfold wrS; (repeat' split) <;> rfl); generalize wrS s a [] = s3 at hq3 hw3 hr3; have HQ3 := hide hq3; have HW3 := hide hw3; have HR3 := hide hr3; have HB3 := hide (HB.out.step hx3); clear hq3 hx3 hw3 hr3) | (go_at_call 12; refine (q_cells _ HQ3.out (by have := HW3.out; omega)).mono ?_; rintro e w5 ⟨vc, qs, rfl, hcw, hcs, hb5⟩; obtain ⟨c0, cc, rfl⟩ := cw_form hcw; have hkc := kc_of hcw (fun k hk => HQ3.out.dk.lt hk); have hql : qs.length = s3.cs.length := (by rw [← hcs]; simp [csOf]); rw [hcs] at hkc; rw [hql]; have HKC := hide hkc; have HQ5 := hide (HQ3.out.below hb5); have HB5 := hide (HB3.out.call hb5); clear hcw hcs hb5 hkc hql))
        have HCB : Hid (∀ p ∈ s3.cs, Num p.1 ∧ Blk p.2) := hide HQ5.out.ok.cb
        have HCL : Hid (s3.cs.length ≤ 61) := hide (by have := HW3.out; have : s3.cs.length ≤ s3.wt := Nat.le_add_right _ _; omega)
        have HWS : Hid (s3.wt ≤ 61) := hide HW3.out
        have HCE : Hid (crS (frL s3 s3.cs) [] 0 = ⟨r, s3.cs, []⟩) := hide (by rw [crash_none]; show (⟨s3.room, s3.cs, []⟩ : Dst) = _; rw [HR3.out])
        obtain ⟨cs0, hcs0⟩ : ∃ cs0, cs0 = s3.cs := ⟨_, rfl⟩
        rw [← hcs0] at HKC HCB HCL HCE ⊢
        have hcl : cs0.length ≤ 61 := HCL.out
        clear hcs0
        go_loopw [14] (fun i W => ∃ (k : Nat) (u : Value), k ≤ cs0.length ∧ i = .int .i64 k ∧ Dq W d bS bT u (frL s3 (cs0.take k)) ∧ Nb w W d bS bT u ∧ Kc d bS bT u W c0 cs0) (fun i _ => cs0.length - (iv i).toNat)
        case atStart => exact ⟨0, _, Nat.zero_le _, rfl, by rw [List.take_zero, frL_zero]; exact HQ5.out, HB5.out, HKC.out⟩
        case round =>
          obtain ⟨k, u, hk, rfl, hq, hb, hkc⟩ := hrel
          by_cases hlt : k < cs0.length
          · obtain ⟨cb, rfl, _, hc⟩ := hkc k hlt
            have HNK : Hid (Num cs0[k].1) := hide (HCB.out _ (List.getElem_mem hlt)).1
            have HQ := hide hq
            have HB := hide hb
            have HKC := hide hkc
            have HT : Hid (frS (frL s3 (cs0.take k)) cs0[k].1 = frL s3 (cs0.take (k + 1))) := hide (by rw [take_step hlt]; exact frL_snoc HNK.out)
            have HW : Hid ((frL s3 (cs0.take k)).wt < 30000) := hide (by rw [frL_wt, List.length_take]; have := HWS.out; have := HCL.out; omega)
            generalize cs0[k].1 = xa at hc HNK HT
            clear hq hb hkc
            go_wp2_with (first | (go_at_call 23; refine (q_free xa _ HQ.out HW.out).mono ?_; rintro e w7 ⟨u7, rfl, hq7, hx7⟩; rw [HT.out] at hq7; have HQ7 := hide hq7; have HB7 := hide (HB.out.step hx7); have HKC7 := hide (HKC.out.step hx7); clear hq7 hx7))
            exact ⟨⟨k + 1, u7, by omega, by go_num, HQ7.out, HB7.out, HKC7.out⟩, by simp [iv]; omega⟩
          · have HT : Hid (cs0.take k = cs0) := hide (List.take_of_length_le (by omega))
            rw [HT.out] at hq
            have HQ := hide hq
            have HB := hide hb
            have HKC := hide hkc
            clear hq hb hkc
            go_wp2_with (first | (go_at_call 20; refine (q_crash _ [] 0 _ HQ.out (Sl.nil _ _ _ _) (by rw [frL_wt]; have := HWS.out; have := HCL.out; omega)).mono ?_; rintro e w8 ⟨rfl, hq8, hx8⟩; rw [HCE.out] at hq8; have HQ8 := hide hq8; have HB8 := hide (HB.out.step hx8); have HKC8 := hide (HKC.out.step hx8); clear hq8 hx8))
            clear HQ HB HKC HWS
            have HWS : Hid ((⟨r, cs0, []⟩ : Dst).wt ≤ 61) := hide HCL.out
            go_loopw [15] (fun i W => ∃ (k : Nat) (u : Value), k ≤ cs0.length ∧ i = .int .i64 k ∧ Dq W d bS bT u (frL ⟨r, cs0, []⟩ (cs0.take k)) ∧ Nb w W d bS bT u ∧ Kc d bS bT u W c0 cs0) (fun i _ => cs0.length - (iv i).toNat)
            case atStart => exact ⟨0, _, Nat.zero_le _, rfl, by rw [List.take_zero, frL_zero]; exact HQ8.out, HB8.out, HKC8.out⟩
            case round =>
              obtain ⟨k, u, hk, rfl, hq, hb, hkc⟩ := hrel
              by_cases hlt : k < cs0.length
              · obtain ⟨cb, rfl, _, hc⟩ := hkc k hlt
                have HNK : Hid (Num cs0[k].1) := hide (HCB.out _ (List.getElem_mem hlt)).1
                have HQ := hide hq
                have HB := hide hb
                have HKC := hide hkc
                have HT : Hid (frS (frL ⟨r, cs0, []⟩ (cs0.take k)) cs0[k].1 = frL ⟨r, cs0, []⟩ (cs0.take (k + 1))) := hide (by rw [take_step hlt]; exact frL_snoc HNK.out)
                have HW : Hid ((frL ⟨r, cs0, []⟩ (cs0.take k)).wt < 30000) := hide (by rw [frL_wt, List.length_take]; have := HWS.out; have := HCL.out; omega)
                generalize cs0[k].1 = xa at hc HNK HT
                clear hq hb hkc
                go_wp2_with (first | (go_at_call 23; refine (q_free xa _ HQ.out HW.out).mono ?_; rintro e w7 ⟨u7, rfl, hq7, hx7⟩; rw [HT.out] at hq7; have HQ7 := hide hq7; have HB7 := hide (HB.out.step hx7); have HKC7 := hide (HKC.out.step hx7); clear hq7 hx7))
                exact ⟨⟨k + 1, u7, by omega, by go_num, HQ7.out, HB7.out, HKC7.out⟩, by simp [iv]; omega⟩
              · have HT : Hid (cs0.take k = cs0) := hide (List.take_of_length_le (by omega))
                rw [HT.out] at hq
                have HQ := hide hq
                have HB := hide hb
                have HKC := hide hkc
                clear hq hb hkc
                have HT0 : Hid ((Dst.tk ⟨r, [], []⟩).length = 0) := hide rfl
                by_cases hr0 : r = 0
                · go_wp2_with (first | (go_at_call 17; refine (q_sync _ HQ.out (by rw [frL_wt]; have := HCL.out; simp only [Dst.wt, List.length_nil]; omega)).mono ?_; rintro e w9 ⟨rfl, hq9, hx9⟩; rw [all_freed] at hq9; have HQ9 := hide hq9; have HB9 := hide (HB.out.step hx9); clear hq9 hx9) | (go_at_call 14; refine (q_used _ HQ9.out).mono ?_; rintro e w10 ⟨rfl, hw10⟩; rw [hw10, HT0.out]; clear hw10 w10) | (go_at_call 7; refine (bworks_any _).mono ?_; rintro e w12 ⟨rfl, hb12⟩; have HB12 := hide (HB9.out.call hb12); clear hb12))
                  go_ret
                  exact ⟨by simp, HB12.out.be⟩
                · have HE9 : Hid (wrE ⟨r, [], []⟩ a [] = none) := hide (by unfold wrE; rw [if_pos (show 0 ≤ a ∧ a ≤ 1073741824 from HNA.out), if_pos (show ([] : List Int).length ≤ 64 by decide)]; exact if_pos (.inr (show ((0 : Nat) : Int) < r by omega)))
                  have hz : (r == 0) = false := beq_eq_false_iff_ne.2 hr0
                  go_wp2_with (first | (go_at_call 17; refine (q_sync _ HQ.out (by rw [frL_wt]; have := HCL.out; simp only [Dst.wt, List.length_nil]; omega)).mono ?_; rintro e w9 ⟨rfl, hq9, hx9⟩; rw [all_freed] at hq9; have HQ9 := hide hq9; have HB9 := hide (HB.out.step hx9); clear hq9 hx9) | (go_at_call 14; refine (q_used _ HQ9.out).mono ?_; rintro e w10 ⟨rfl, hw10⟩; rw [hw10, HT0.out]; clear hw10 w10) | (go_at_call 19; refine (q_writeN a _ [] _ HQ9.out (Sl.nil _ _ _ _) (fun x hx => by simp at hx) (show 0 < 30000 by decide) HE9.out).mono ?_; rintro e w10 ⟨u10, rfl, _, hx10⟩; have HB10 := hide (HB9.out.step hx10); clear hx10) | (go_at_call 7; refine (bworks_any _).mono ?_; rintro e w12 ⟨rfl, hb12⟩; have HB12 := hide (HB10.out.call hb12); clear hb12))
                  go_ret
                  exact ⟨by simp, HB12.out.be⟩
      · rw [HSR.out] at hfull
        have HE := hide he
        have HS := hide hs
        have HW3 : Hid (s.wt ≤ 61) := hide (by have := HWT.out; omega)
        have HR3 : Hid (s.room = r) := hide HSR.out
        clear he hs
        have hz1 : ((s.tk.length : Int) == (s.tk.length : Int)) = true := beq_self_eq_true _
        have hz2 : ((s.lo.length : Int) == (s.lo.length : Int)) = true := beq_self_eq_true _
        have hz3 : decide ((s.tk.length : Int) < r) = false := decide_eq_false (by omega)
        go_wp2_with (first | (go_at_call 14; refine (q_used _ HQ3.out).mono ?_; rintro e w9 ⟨rfl, hw9⟩; rw [hw9]; clear hw9 w9) | (go_at_call 13; refine (q_loose _ HQ3.out).mono ?_; rintro e w9 ⟨rfl, hw9⟩; rw [hw9]; clear hw9 w9) | (go_at_call 14; refine (q_used _ HQ.out).mono ?_; rintro e w9 ⟨rfl, hw9⟩; rw [hw9]; clear hw9 w9) | (go_at_call 13; refine (q_loose _ HQ.out).mono ?_; rintro e w9 ⟨rfl, hw9⟩; rw [hw9]; clear hw9 w9) | (go_at_call 19; refine (q_write a _ [] _ HQ.out (Sl.nil _ _ _ _) (fun x hx => by simp at hx) (by have := HWT.out; omega)).mono ?_; rintro e w3 ⟨u3, rfl, hq3, hx3⟩; rw [HS.out] at hq3; rw [show ev (wrE s a []) = bft opBlock a 7 from congrArg ev HE.out]; have HQW := hide hq3; have HBW := hide (HB.out.step hx3); clear hq3 hx3) | (go_at_call 9; refine (HI.out _).mono ?_; rintro e w4 ⟨rfl, hb4⟩; have HQ3 := hide (HQW.out.below hb4); have HB3 := hide (HBW.out.call hb4); clear hb4) | (go_at_call 12; refine (q_cells _ HQ3.out (by have := HW3.out; omega)).mono ?_; rintro e w5 ⟨vc, qs, rfl, hcw, hcs, hb5⟩; obtain ⟨c0, cc, rfl⟩ := cw_form hcw; have hkc := kc_of hcw (fun k hk => HQ3.out.dk.lt hk); have hql : qs.length = s.cs.length := (by rw [← hcs]; simp [csOf]); rw [hcs] at hkc; rw [hql]; have HKC := hide hkc; have HQ5 := hide (HQ3.out.below hb5); have HB5 := hide (HB3.out.call hb5); clear hcw hcs hb5 hkc hql))
        have HCB : Hid (∀ p ∈ s.cs, Num p.1 ∧ Blk p.2) := hide HQ5.out.ok.cb
        have HCL : Hid (s.cs.length ≤ 61) := hide (by have := HW3.out; have : s.cs.length ≤ s.wt := Nat.le_add_right _ _; omega)
        have HWS : Hid (s.wt ≤ 61) := hide HW3.out
        have HCE : Hid (crS (frL s s.cs) [] 0 = ⟨r, s.cs, []⟩) := hide (by rw [crash_none]; show (⟨s.room, s.cs, []⟩ : Dst) = _; rw [HR3.out])
        obtain ⟨cs0, hcs0⟩ : ∃ cs0, cs0 = s.cs := ⟨_, rfl⟩
        rw [← hcs0] at HKC HCB HCL HCE ⊢
        have hcl : cs0.length ≤ 61 := HCL.out
        clear hcs0
        go_loopw [14] (fun i W => ∃ (k : Nat) (u : Value), k ≤ cs0.length ∧ i = .int .i64 k ∧ Dq W d bS bT u (frL s (cs0.take k)) ∧ Nb w W d bS bT u ∧ Kc d bS bT u W c0 cs0) (fun i _ => cs0.length - (iv i).toNat)
        case atStart => exact ⟨0, _, Nat.zero_le _, rfl, by rw [List.take_zero, frL_zero]; exact HQ5.out, HB5.out, HKC.out⟩
        case round =>
          obtain ⟨k, u, hk, rfl, hq, hb, hkc⟩ := hrel
          by_cases hlt : k < cs0.length
          · obtain ⟨cb, rfl, _, hc⟩ := hkc k hlt
            have HNK : Hid (Num cs0[k].1) := hide (HCB.out _ (List.getElem_mem hlt)).1
            have HQ := hide hq
            have HB := hide hb
            have HKC := hide hkc
            have HT : Hid (frS (frL s (cs0.take k)) cs0[k].1 = frL s (cs0.take (k + 1))) := hide (by rw [take_step hlt]; exact frL_snoc HNK.out)
            have HW : Hid ((frL s (cs0.take k)).wt < 30000) := hide (by rw [frL_wt, List.length_take]; have := HWS.out; have := HCL.out; omega)
            generalize cs0[k].1 = xa at hc HNK HT
            clear hq hb hkc
            go_wp2_with (first | (go_at_call 23; refine (q_free xa _ HQ.out HW.out).mono ?_; rintro e w7 ⟨u7, rfl, hq7, hx7⟩; rw [HT.out] at hq7; have HQ7 := hide hq7; have HB7 := hide (HB.out.step hx7); have HKC7 := hide (HKC.out.step hx7); clear hq7 hx7))
            exact ⟨⟨k + 1, u7, by omega, by go_num, HQ7.out, HB7.out, HKC7.out⟩, by simp [iv]; omega⟩
          · have HT : Hid (cs0.take k = cs0) := hide (List.take_of_length_le (by omega))
            rw [HT.out] at hq
            have HQ := hide hq
            have HB := hide hb
            have HKC := hide hkc
            clear hq hb hkc
            go_wp2_with (first | (go_at_call 20; refine (q_crash _ [] 0 _ HQ.out (Sl.nil _ _ _ _) (by rw [frL_wt]; have := HWS.out; have := HCL.out; omega)).mono ?_; rintro e w8 ⟨rfl, hq8, hx8⟩; rw [HCE.out] at hq8; have HQ8 := hide hq8; have HB8 := hide (HB.out.step hx8); have HKC8 := hide (HKC.out.step hx8); clear hq8 hx8))
            clear HQ HB HKC HWS
            have HWS : Hid ((⟨r, cs0, []⟩ : Dst).wt ≤ 61) := hide HCL.out
            go_loopw [15] (fun i W => ∃ (k : Nat) (u : Value), k ≤ cs0.length ∧ i = .int .i64 k ∧ Dq W d bS bT u (frL ⟨r, cs0, []⟩ (cs0.take k)) ∧ Nb w W d bS bT u ∧ Kc d bS bT u W c0 cs0) (fun i _ => cs0.length - (iv i).toNat)
            case atStart => exact ⟨0, _, Nat.zero_le _, rfl, by rw [List.take_zero, frL_zero]; exact HQ8.out, HB8.out, HKC8.out⟩
            case round =>
              obtain ⟨k, u, hk, rfl, hq, hb, hkc⟩ := hrel
              by_cases hlt : k < cs0.length
              · obtain ⟨cb, rfl, _, hc⟩ := hkc k hlt
                have HNK : Hid (Num cs0[k].1) := hide (HCB.out _ (List.getElem_mem hlt)).1
                have HQ := hide hq
                have HB := hide hb
                have HKC := hide hkc
                have HT : Hid (frS (frL ⟨r, cs0, []⟩ (cs0.take k)) cs0[k].1 = frL ⟨r, cs0, []⟩ (cs0.take (k + 1))) := hide (by rw [take_step hlt]; exact frL_snoc HNK.out)
                have HW : Hid ((frL ⟨r, cs0, []⟩ (cs0.take k)).wt < 30000) := hide (by rw [frL_wt, List.length_take]; have := HWS.out; have := HCL.out; omega)
                generalize cs0[k].1 = xa at hc HNK HT
                clear hq hb hkc
                go_wp2_with (first | (go_at_call 23; refine (q_free xa _ HQ.out HW.out).mono ?_; rintro e w7 ⟨u7, rfl, hq7, hx7⟩; rw [HT.out] at hq7; have HQ7 := hide hq7; have HB7 := hide (HB.out.step hx7); have HKC7 := hide (HKC.out.step hx7); clear hq7 hx7))
                exact ⟨⟨k + 1, u7, by omega, by go_num, HQ7.out, HB7.out, HKC7.out⟩, by simp [iv]; omega⟩
              · have HT : Hid (cs0.take k = cs0) := hide (List.take_of_length_le (by omega))
                rw [HT.out] at hq
                have HQ := hide hq
                have HB := hide hb
                have HKC := hide hkc
                clear hq hb hkc
                have HT0 : Hid ((Dst.tk ⟨r, [], []⟩).length = 0) := hide rfl
                by_cases hr0 : r = 0
                · go_wp2_with (first | (go_at_call 17; refine (q_sync _ HQ.out (by rw [frL_wt]; have := HCL.out; simp only [Dst.wt, List.length_nil]; omega)).mono ?_; rintro e w9 ⟨rfl, hq9, hx9⟩; rw [all_freed] at hq9; have HQ9 := hide hq9; have HB9 := hide (HB.out.step hx9); clear hq9 hx9) | (go_at_call 14; refine (q_used _ HQ9.out).mono ?_; rintro e w10 ⟨rfl, hw10⟩; rw [hw10, HT0.out]; clear hw10 w10) | (go_at_call 7; refine (bworks_any _).mono ?_; rintro e w12 ⟨rfl, hb12⟩; have HB12 := hide (HB9.out.call hb12); clear hb12))
                  go_ret
                  exact ⟨by simp, HB12.out.be⟩
                · have HE9 : Hid (wrE ⟨r, [], []⟩ a [] = none) := hide (by unfold wrE; rw [if_pos (show 0 ≤ a ∧ a ≤ 1073741824 from HNA.out), if_pos (show ([] : List Int).length ≤ 64 by decide)]; exact if_pos (.inr (show ((0 : Nat) : Int) < r by omega)))
                  have hz : (r == 0) = false := beq_eq_false_iff_ne.2 hr0
                  go_wp2_with (first | (go_at_call 17; refine (q_sync _ HQ.out (by rw [frL_wt]; have := HCL.out; simp only [Dst.wt, List.length_nil]; omega)).mono ?_; rintro e w9 ⟨rfl, hq9, hx9⟩; rw [all_freed] at hq9; have HQ9 := hide hq9; have HB9 := hide (HB.out.step hx9); clear hq9 hx9) | (go_at_call 14; refine (q_used _ HQ9.out).mono ?_; rintro e w10 ⟨rfl, hw10⟩; rw [hw10, HT0.out]; clear hw10 w10) | (go_at_call 19; refine (q_writeN a _ [] _ HQ9.out (Sl.nil _ _ _ _) (fun x hx => by simp at hx) (show 0 < 30000 by decide) HE9.out).mono ?_; rintro e w10 ⟨u10, rfl, _, hx10⟩; have HB10 := hide (HB9.out.step hx10); clear hx10) | (go_at_call 7; refine (bworks_any _).mono ?_; rintro e w12 ⟨rfl, hb12⟩; have HB12 := hide (HB10.out.call hb12); clear hb12))
                  go_ret
                  exact ⟨by simp, HB12.out.be⟩
set_option maxRecDepth 100000 in
theorem bfull_law (r a : Int) (v : Value) (ps : List Ap) (w : World) (hr : 0 ≤ r ∧ r ≤ 255) (ha : 0 ≤ a ∧ a ≤ 65535) (hv : Al w v ps) (hh : Hnd w) :
    Calls Tryd.prog 5 #[.int .u8 r, v, .int .u16 a] w fun e w' => e = .returned (.bool true) ∧ Below w.heap.size w w' := by
  by_cases hli : liB ps = true
  · exact bfull_light r a v ps w hr ha hv hli hh
  · have HLI : Hid (liB ps = false) := hide (by simpa using hli)
    have HV := hide hv
    clear hli hv
    go_enter Tryd.func5, Tryd.ntmps5
    go_wp2_with (first | (go_at_call 6; refine (light_any _ ps _ HV.out).mono ?_; rintro e w9 ⟨rfl, hw9⟩; rw [hw9, HLI.out]; clear hw9 w9) | (go_at_call 7; refine (bworks_any _).mono ?_; rintro e w12 ⟨rfl, hb12⟩; have HB12 := hide hb12; clear hb12))
    go_ret
    exact ⟨rfl, HB12.out⟩
end Go.Proofs.YtcgfgmnelaiojaaDoor
