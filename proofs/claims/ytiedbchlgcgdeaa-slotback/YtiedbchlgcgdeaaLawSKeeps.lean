/-
  THE OLD ONE, OR THE NEW ONE (SlotKeeps): behind any crash, whatever is kept, and however it is torn, there is the value that was synced last, or the one that was put since. True for any acts, value and crash. Condition: the rows lie in memory.
-/
import Derived.Test.YtiedbchlgcgdeaaSlG
namespace Go.Proofs.Ytiedbchlgcgdeaa
open Go.RowKit

/-- A slot and its store between two acts. -/
structure Sr (w W : World) (c d bS bT : Nat) (u : Value) (s : Dst) (r a T : Int) (v : Value) (V : List Int) (lz : Bool) : Prop where
  sl : Slo W c d bS bT u s a T v V lz
  sg : Sg r a s T V lz
  nc : Nc w W c d bS bT u
section
variable {w W W' : World} {c d bS bT : Nat} {u u' : Value} {s s' : Dst} {r a T T' : Int} {v v' : Value} {V V' : List Int} {lz lz' : Bool}
theorem Sr.below (h : Sr w W c d bS bT u s r a T v V lz) (hb : Below W.heap.size W W') : Sr w W' c d bS bT u s r a T v V lz := ⟨h.sl.below hb, h.sg, h.nc.call hb⟩
theorem Sr.cx (h : Sr w W c d bS bT u s r a T v V lz) (hs : Slo W' c d bS bT u' s' a T' v' V' lz') (hx : Cx c d bS bT u W W' u') (hg : Sg r a s' T' V' lz') : Sr w W' c d bS bT u' s' r a T' v' V' lz' := ⟨hs, hg, h.nc.step hx⟩
theorem Sr.wt (h : Sr w W c d bS bT u s r a T v V lz) : s.wt ≤ 3 := h.sg.wt h.sl.q.ok
end
theorem Dx.rg0 {d bS bT : Nat} {u u' : Value} {w w' : World} {g o : Nat} {cs : List Value} (h : Dx d bS bT u w w' u') (hg : ¬ Own d bS bT u g) (hb : w.rangeAt g o cs) : w'.rangeAt g o cs := range_ba hb h.ba hg
theorem n0 : Num 0 := ⟨by decide, by decide⟩
theorem n1 : Num (0 + 1) := ⟨by decide, by decide⟩
theorem Cx.outS {W W' : World} {c d bS bT : Nat} {u u' : Value} (hx : Cx c d bS bT u W W' u') {k : Nat} (hk : k < W.heap.size) (hn : ¬ (Own d bS bT u k ∨ k = c)) : ¬ (Own d bS bT u' k ∨ k = c) := fun e => by
  rcases e with (e | e | e | e) | e
  · exact hn (.inl (.inl e))
  · exact hn (.inl (.inr (.inl e)))
  · exact hn (.inl (.inr (.inr (.inl e))))
  · rcases hx.bl k e with q | q
    · exact hn (.inl (.inr (.inr (.inr q))))
    · omega
  · exact hn (.inr e)
/-- What Open finds where it is known. -/
theorem sopen_g {d bS bT : Nat} {u : Value} {s : Dst} {r a T : Int} {V : List Int} (w : World) (hq : Dq w d bS bT u s) (hg : Sg r a s T V false) (hT : T < 255) (ha : Num a) (ha1 : Num (a + 1)) : Calls Try.prog 8 #[.pointer (some ⟨d, 0, none⟩), .int .i64 a] w fun e w' => ∃ c v, e = .returned (.tuple #[.pointer (some ⟨c, 0, none⟩), .nilIface]) ∧ Slo w' c d bS bT u s a T v V false ∧ w.heap.size ≤ c ∧ Below w.heap.size w w' := by
  refine (sopen_ok a T V w hq (hg.at hT).2 (by have := hg.wt hq.ok; omega) ha ha1 (hg.fm hT).1 (hg.fm hT).2 hg.nn.1.1 (hg.by8 hT)).mono ?_
  rintro e w' ⟨c, v, rfl, h1, h2, h3⟩
  exact ⟨c, v, rfl, h1, h2, h3⟩
/-- Behind a crash the acts go on: some turn, not above. -/
theorem Sg.any {r a T : Int} {s : Dst} {V : List Int} {lz : Bool} (h : Sg r a s T V lz) (hT : T < 255) (ha : Num a) (ha1 : Num (a + 1)) (ks : List Int) (cut : Int) : ∃ T' V', T' ≤ T ∧ Sg r a (crS s ks cut) T' V' false := by
  rcases h.crash hT ha ha1 ks cut with i | ⟨V0, _, _, i⟩
  · exact ⟨T, V, Int.le_refl _, i⟩
  · exact ⟨T - 1, V0, by omega, i⟩
set_option maxRecDepth 100000 in
set_option maxHeartbeats 16000000 in
theorem skeeps_law (v0 v1 v2 : Value) (ps : List Aq) (X ks : List Int) (cut : Int) (w : World) (hv : Ax w v0 ps) (hx : Sl bc w v1 X) (hby : Byt X) (hk : Sl ic w v2 ks) : Calls Try.prog 3 #[v0, v1, v2, .int .i64 cut] w fun e w' => e = .returned (.bool true) ∧ Below w.heap.size w w' := by
  have HV := hide hv
  have HX := hide hx
  have HK := hide hk
  obtain ⟨⟨ao, cap, rfl, hrow⟩, hps⟩ := hv
  have HROW := hide hrow
  have HPS := hide hps
  obtain ⟨xo, xc, rfl⟩ := hx.form
  obtain ⟨ko, kc, rfl⟩ := hk.form
  clear hx hk hrow hps
  go_enter Try.func3, Try.ntmps3
  by_cases hli : liS ps = true
  · have HLI := hide hli
    have hlen : ps.length ≤ 60 := (liS_is hli).1
    clear hli
    by_cases h47 : X.length ≤ 47
    · have h47I : ¬ (47 : Int) < (X.length : Int) := by omega
      by_cases h20 : ks.length ≤ 20
      · have h20I : ¬ (20 : Int) < (ks.length : Int) := by omega
        have HN4 : Hid (Num 4) := hide ⟨by decide, by decide⟩
        go_upto_region 4 with (first | (go_at_call 5; refine (lightS_any _ ps _ HV.out).mono ?_; rintro e w9 ⟨rfl, hw9⟩; rw [hw9, HLI.out]; clear hw9 w9) | (go_at_call 7; refine (q_new2 4 w _ HN4.out (Below.refl _ _)).mono ?_; rintro e w1 ⟨d, bS, bT, rfl, hq1, hn1, _⟩; have HQ1 := hide hq1; have HB1 := hide hn1; clear hq1 hn1))
        go_upto_region 7 with (first | (go_at_call 8; refine (sopen_g w1 HQ1.out (sg_new (r := 4) (a := 0) (by decide)) (by decide) n0 n1).mono ?_; rintro e w2 ⟨c0, v9, rfl, hs, hcw, hb⟩; have HR0 : Hid (Sr w w2 c0 d bS bT (.slice none 0 0) ⟨4, [], []⟩ 4 0 0 v9 [] false) := hide ⟨hs, sg_new (by decide), ⟨(HB1.out.call hb).be, fun k hk => hk.elim (fun e => HB1.out.ow k e) (fun e => by rw [e]; exact Nat.le_trans HB1.out.be.size hcw)⟩⟩; clear hs hcw hb))
        clear HQ1 HB1
        go_upto_region 8 with fail
        go_loopw [11, 12, 13] (fun cv fv i W => ∃ (k c : Nat) (u : Value) (s : Dst) (T : Int) (v : Value) (V : List Int) (lz : Bool), k ≤ ps.length ∧ i = .int .i64 k ∧ cv = .pointer (some ⟨c, 0, none⟩) ∧ fv = .nilIface ∧ Sr w W c d bS bT u s 4 0 T v V lz ∧ T ≤ k) (fun _ _ i _ => ps.length - (iv i).toNat)
        case atStart => exact ⟨0, c0, _, _, _, _, _, _, Nat.zero_le _, rfl, rfl, rfl, HR0.out, by decide⟩
        case round =>
          clear HR0
          obtain ⟨k, c, u, s, T, v, V, lz, hk, rfl, rfl, rfl, hsr, hTk⟩ := hrel
          have HR := hide hsr
          clear hsr
          have hT255 : T < 200 := by omega
          by_cases hlt : k < ps.length
          · obtain ⟨rb, ro, rfl, hrg⟩ := HROW.out (by omega)
            have hre := range_belW (Ax.at hrg hlt) HR.out.nc.be
            have HRL : Hid (rb < w.heap.size) := hide (cell_block (hrg 0 _ (aos_get ps 0 (by omega) 0 _ rfl)))
            have HAP := hide (HPS.out _ (List.getElem_mem hlt))
            clear hrg
            generalize ps[k] = p at hre HAP
            obtain ⟨⟨kd, by_, ks2, cut2⟩, vb, vk⟩ := p
            obtain ⟨ab, cb, e1⟩ := HAP.out.1.form
            obtain ⟨ak, ck, e2⟩ := HAP.out.2.2.form
            simp only at e1 e2
            subst e1
            subst e2
            have d0 : wr.cell? ⟨rb, ro + k * 4, none⟩ = some (.int .i64 kd) := hre 0 _ rfl
            have d1 := hre 1 _ rfl
            simp only at d1
            have HRE := hide hre
            clear hre
            have hltI : (k : Int) < (ps.length : Int) := by omega
            have hT0 : 0 ≤ T ∧ (lz = true → 1 ≤ T) := HR.out.sg.nn.1
            rcases (show kd = 0 ∨ kd = 1 ∨ kd = 3 ∨ (kd ≠ 0 ∧ kd ≠ 1 ∧ kd ≠ 3) by omega) with rfl | rfl | rfl | ⟨hk0, hk1, hk3⟩
            · by_cases hb47 : by_.length ≤ 47
              · cases lz
                · have HPU := hide (HR.out.sg.put HR.out.sl.q.ok n0 n1 hb47 HAP.out.2.1)
                  go_wp2_with (first | (go_at_call 9; refine (sput_ok _ _ by_ _ HR.out.sl (HAP.out.1.below HR.out.nc.be) HAP.out.2.1 hb47 (by have := HR.out.wt; omega) ⟨hT0.1, by omega⟩ n0 n1 (HR.out.sg.by8 (by omega)) (HR.out.sg.nowB (by omega) n0 n1) HPU.out.1).mono ?_; rintro e w3 ⟨u3, v3, rfl, hs, hx⟩; have HR3 := hide (HR.out.cx hs hx HPU.out.2); clear hs hx))
                  exact ⟨⟨k + 1, c, _, _, _, _, _, _, by omega, by go_num, rfl, rfl, HR3.out, by omega⟩, by simp [iv]; omega⟩
                · go_wp2_with (first | (go_at_call 9; refine (sput_state _ _ _ _ HR.out.sl hb47 (by have := HR.out.wt; omega) n0 n1 hT0.1 (HR.out.sg.by8 (by omega)) (HR.out.sg.ls (by omega) n0 n1)).mono ?_; rintro e w3 ⟨rfl, hb3⟩; have HR3 := hide (HR.out.below hb3); clear hb3))
                  exact ⟨⟨k + 1, c, _, _, _, _, _, _, by omega, by go_num, rfl, rfl, HR3.out, by omega⟩, by simp [iv]; omega⟩
              · go_wp2_with (first | (go_at_call 9; refine (sput_lim c _ _ _ _ (by omega)).mono ?_; rintro e w9 ⟨rfl, hw9⟩; rw [hw9]; clear hw9 w9))
                exact ⟨⟨k + 1, c, _, _, _, _, _, _, by omega, by go_num, rfl, rfl, HR.out, by omega⟩, by simp [iv]; omega⟩
            · go_wp2_with (first | (go_at_call 10; refine (ssync_any _ HR.out.sl (by have := HR.out.wt; omega)).mono ?_; rintro e w3 ⟨rfl, hs, hx⟩; have HR3 := hide (HR.out.cx hs hx (HR.out.sg.sync (by omega) n0 n1)); clear hs hx))
              exact ⟨⟨k + 1, c, _, _, _, _, _, _, by omega, by go_num, rfl, rfl, HR3.out, by omega⟩, by simp [iv]; omega⟩
            · have HRO : Hid (¬ Own d bS bT u rb) := hide (fun q => by have h1 := HR.out.nc.ow _ (.inl q); have h2 := HRL.out; omega)
              obtain ⟨T2, V2, hT2, hg2⟩ := HR.out.sg.any (by omega) n0 n1 ks2 cut2
              have HG2 := hide hg2
              clear hg2
              go_upto_region 16 with fail
              clear d0 d1
              have hdw : Below wr.heap.size wr wr.drew := (Below.refl _ _).drew
              refine wp_region_held_drew (S := fun W => W.rangeAt rb (ro + k * 4) (aol (⟨3, by_, ks2, cut2⟩, .slice ab by_.length cb, .slice ak ks2.length ck))) (by kernel_rfl) (range_belW HRE.out hdw) (fun hHeld => ?_)
              have HR2 := hide (HR.out.below hdw)
              generalize wr.drew = W2 at HR2 hHeld ⊢
              clear hdw HR HRE
              refine wpAnyH_take (i := 0) (oi := _) (v := .pointer (some ⟨d, 0, none⟩)) rfl (by kernel_rfl) (by kernel_rfl) (by kernel_rfl) (fun _ _ _ h => h) (Or.inl ⟨by rfl, by intro w hSw; go_simp⟩) hHeld ?_
              change wpAnyH _ _ _ _ _ _ _ (Act.put _ (some 81) _) _
              simp only [Act.put, List.setIfInBounds_toArray, List.set_cons_zero, List.set_cons_succ]
              refine wpAnyH_take (i := 1) (oi := _) (v := .slice (some ⟨rb, ro, none⟩) ps.length cap) rfl (by kernel_rfl) (by kernel_rfl) (by kernel_rfl) (fun _ _ _ h => h) (Or.inl ⟨by rfl, by intro w hSw; go_simp⟩) hHeld ?_
              change wpAnyH _ _ _ _ _ _ _ (Act.put _ (some 82) _) _
              simp only [Act.put, List.setIfInBounds_toArray, List.set_cons_zero, List.set_cons_succ]
              refine wpAnyH_take (i := 2) (oi := _) (v := .int .i64 (k : Int)) rfl (by kernel_rfl) (by kernel_rfl) (by kernel_rfl) (fun _ _ _ h => h) (Or.inl ⟨by rfl, by intro w hSw; go_simp⟩) hHeld ?_
              change wpAnyH _ _ _ _ _ _ _ (Act.put _ (some 83) _) _
              simp only [Act.put, List.setIfInBounds_toArray, List.set_cons_zero, List.set_cons_succ]
              refine wpAnyH_take (i := 3) (oi := _) (v := .pointer (some ⟨rb, ro + k * 4, none⟩)) rfl (by kernel_rfl) (by kernel_rfl) (by kernel_rfl) (fun _ _ _ h => h) (Or.inl ⟨by rfl, by intro w hSw; go_simp⟩) hHeld ?_
              change wpAnyH _ _ _ _ _ _ _ (Act.put _ (some 84) _) _
              simp only [Act.put, List.setIfInBounds_toArray, List.set_cons_zero, List.set_cons_succ]
              refine wpAnyH_take (i := 4) (oi := _) (v := .pointer (some ⟨rb, ro + k * 4 + 2, none⟩)) rfl (by kernel_rfl) (by kernel_rfl) (by kernel_rfl) (fun _ _ _ h => h) (Or.inl ⟨by rfl, by intro w hSw; go_simp⟩) hHeld ?_
              change wpAnyH _ _ _ _ _ _ _ (Act.put _ (some 85) _) _
              simp only [Act.put, List.setIfInBounds_toArray, List.set_cons_zero, List.set_cons_succ]
              refine wpAnyH_take (i := 5) (oi := _) (v := .slice ak ks2.length ck) rfl (by kernel_rfl) (by kernel_rfl) (by kernel_rfl) (fun _ _ _ h => h) (Or.inl ⟨by rfl, by intro w hSw; have h3 := hSw 2 _ rfl; simp only at h3; go_simp⟩) hHeld ?_
              change wpAnyH _ _ _ _ _ _ _ (Act.put _ (some 86) _) _
              simp only [Act.put, List.setIfInBounds_toArray, List.set_cons_zero, List.set_cons_succ]
              refine wpAnyH_take (i := 6) (oi := _) (v := .slice (some ⟨rb, ro, none⟩) ps.length cap) rfl (by kernel_rfl) (by kernel_rfl) (by kernel_rfl) (fun _ _ _ h => h) (Or.inl ⟨by rfl, by intro w hSw; go_simp⟩) hHeld ?_
              change wpAnyH _ _ _ _ _ _ _ (Act.put _ (some 87) _) _
              simp only [Act.put, List.setIfInBounds_toArray, List.set_cons_zero, List.set_cons_succ]
              refine wpAnyH_take (i := 7) (oi := _) (v := .int .i64 (k : Int)) rfl (by kernel_rfl) (by kernel_rfl) (by kernel_rfl) (fun _ _ _ h => h) (Or.inl ⟨by rfl, by intro w hSw; go_simp⟩) hHeld ?_
              change wpAnyH _ _ _ _ _ _ _ (Act.put _ (some 88) _) _
              simp only [Act.put, List.setIfInBounds_toArray, List.set_cons_zero, List.set_cons_succ]
              refine wpAnyH_take (i := 8) (oi := _) (v := .pointer (some ⟨rb, ro + k * 4, none⟩)) rfl (by kernel_rfl) (by kernel_rfl) (by kernel_rfl) (fun _ _ _ h => h) (Or.inl ⟨by rfl, by intro w hSw; go_simp⟩) hHeld ?_
              change wpAnyH _ _ _ _ _ _ _ (Act.put _ (some 89) _) _
              simp only [Act.put, List.setIfInBounds_toArray, List.set_cons_zero, List.set_cons_succ]
              refine wpAnyH_take (i := 9) (oi := _) (v := .pointer (some ⟨rb, ro + k * 4 + 3, none⟩)) rfl (by kernel_rfl) (by kernel_rfl) (by kernel_rfl) (fun _ _ _ h => h) (Or.inl ⟨by rfl, by intro w hSw; go_simp⟩) hHeld ?_
              change wpAnyH _ _ _ _ _ _ _ (Act.put _ (some 90) _) _
              simp only [Act.put, List.setIfInBounds_toArray, List.set_cons_zero, List.set_cons_succ]
              refine wpAnyH_take (i := 10) (oi := _) (v := .int .i64 cut2) rfl (by kernel_rfl) (by kernel_rfl) (by kernel_rfl) (fun _ _ _ h => h) (Or.inl ⟨by rfl, by intro w hSw; have h4 := hSw 3 _ rfl; simp only at h4; go_simp⟩) hHeld ?_
              change wpAnyH _ _ _ _ _ _ _ (Act.put _ (some 91) _) _
              simp only [Act.put, List.setIfInBounds_toArray, List.set_cons_zero, List.set_cons_succ]
              refine wpAnyH_ready (rs := [11]) (by kernel_rfl) (by simp) ?_
              refine AllReadyH.cons (o := _) rfl (fun K hK => ?_) AllReadyH.nil
              go_simp
              go_at_call 11
              refine (q_crash _ ks2 cut2 _ HR2.out.sl.q (HAP.out.2.2.below HR2.out.nc.be) (by have := HR2.out.wt; omega)).mono ?_
              rintro e w3 ⟨rfl, hq, hx⟩
              have HQ3 := hide hq
              have HN3 := hide (HR2.out.nc.dx hx)
              go_wp2_with fail
              refine hK.out _ _ (hx.rg0 HRO.out hHeld) (fun hHeld1 => ?_)
              clear hK K hHeld
              have hHeld := hHeld1
              clear hHeld1
              clear hq hx
              refine wpAnyH_done (by kernel_rfl) ?_ _
              clear hHeld
              go_wp2_with (first | (go_at_call 8; refine (sopen_g w3 HQ3.out HG2.out (by omega) n0 n1).mono ?_; rintro e w4 ⟨c2, v4, rfl, hs, hcw, hb⟩; have HR4 : Hid (Sr w w4 c2 d bS bT (.slice none 0 0) (crS s ks2 cut2) 4 0 T2 v4 V2 false) := hide ⟨hs, HG2.out, HN3.out.opn hb hcw⟩; clear hs hcw hb))
              exact ⟨⟨k + 1, c2, _, _, _, _, _, _, by omega, by go_num, rfl, rfl, HR4.out, by omega⟩, by simp [iv]; omega⟩
            · have f0 : (kd == 0) = false := by simp [hk0]
              have f1 : (kd == 1) = false := by simp [hk1]
              have f3 : (kd == 3) = false := by simp [hk3]
              go_wp2_with fail
              exact ⟨⟨k + 1, c, _, _, _, _, _, _, by omega, by go_num, rfl, rfl, HR.out, by omega⟩, by simp [iv]; omega⟩
          · have hnl : ¬ (k : Int) < (ps.length : Int) := by omega
            clear HROW HPS
            go_upto_region 21 with (first | (go_at_call 10; refine (ssync_any _ HR.out.sl (by have := HR.out.wt; omega)).mono ?_; rintro e w3 ⟨rfl, hs, hx⟩; have HR3 := hide (HR.out.cx hs hx (HR.out.sg.sync (by omega) n0 n1)); clear hs hx))
            have HT0 : Hid (0 ≤ T) := hide HR.out.sg.nn.1.1
            clear HR
            generalize syS s = s3 at HR3
            have HL3 := hide HR3.out.sg.nn.2.1
            go_upto_region 22 with (first | (go_at_call 12; refine (svalue_any _ HR3.out.sl HL3.out).mono ?_; rintro e w4 ⟨x4, rfl, hv4, hb4⟩; obtain ⟨xa4, xk4, rfl⟩ := hv4.form; have HR4 := hide (HR3.out.below hb4); have HO4 : Hid (Slp (fun b => ¬ (Own d bS bT (.slice none 0 0) b ∨ b = c)) w4 (.slice xa4 V.length xk4) V) := hide (hv4.keep (fun b p _ e => e.elim (fun e => by have := HR3.out.sl.q.dk.lt e; omega) (fun e => by have := HR3.out.sl.x.lt; omega)) (fun _ _ _ => rfl)); clear hv4 hb4) | (go_at_call 13; refine (sturn_any _ HR4.out.sl).mono ?_; rintro e w9 ⟨rfl, hw9⟩; rw [hw9]; clear hw9 w9))
            clear HR3
            have HPU := hide (HR4.out.sg.put HR4.out.sl.q.ok n0 n1 h47 hby)
            go_upto_region 24 with (first | (go_at_call 9; refine (sput_ok _ _ X _ HR4.out.sl (HX.out.below HR4.out.nc.be) hby h47 (by have := HR4.out.wt; omega) ⟨HT0.out, by omega⟩ n0 n1 (HR4.out.sg.by8 (by omega)) (HR4.out.sg.nowB (by omega) n0 n1) HPU.out.1).mono ?_; rintro e w5 ⟨u5, v5, rfl, hs, hx⟩; have HR5 := hide (HR4.out.cx hs hx HPU.out.2); have HO5 : Hid (Slp (fun b => ¬ (Own d bS bT u5 b ∨ b = c)) w5 (.slice xa4 V.length xk4) V) := hide (HO4.out.keep (fun b p hb => hx.outS hb p) (fun b p hb => hx.ba.block b hb p)); clear hs hx))
            have HSF := hide (HR4.out.sg.was (X := X) rfl)
            clear HR4 HO4 HPU
            generalize wrS s3 (0 + (T + 1) % 2) (blkS (T + 1) X) = s5 at HR5 HSF
            go_upto_region 25 with (first | (go_at_call 11; refine (q_crash _ ks cut _ HR5.out.sl.q (HK.out.below HR5.out.nc.be) (by have := HR5.out.wt; omega)).mono ?_; rintro e w6 ⟨rfl, hq, hx⟩; have HQ6 := hide hq; have HN6 := hide (HR5.out.nc.dx hx); have HO6 : Hid (Slp (fun _ => True) w6 (.slice xa4 V.length xk4) V) := hide (HO5.out.keep (fun _ _ _ => trivial) (fun b p hb => hx.ba.block b hb (fun e => p (.inl e)))); clear hq hx))
            have hcs := HR5.out.sg.crash (by omega) n0 n1 ks cut
            clear HR5 HO5
            generalize crS s5 ks cut = s6 at HQ6 hcs
            rcases hcs with hg | ⟨V0, _, hu, hg⟩
            · have HG6 := hide hg
              clear hg
              go_upto_region 28 with (first | (go_at_call 8; refine (sopen_g w6 HQ6.out HG6.out (by omega) n0 n1).mono ?_; rintro e w7 ⟨c7, v7, rfl, hs, hcw, hb⟩; have HS7 := hide hs; have HN7 := hide (HN6.out.opn hb hcw); have HO7 := hide (HO6.out.below hb); clear hs hcw hb))
              clear HQ6 HN6 HO6
              have hne : (T + 1 == T) = false := beq_eq_false_iff_ne.2 (by omega)
              have hwr : IntKind.i64.wrap (T + 1) = T + 1 := by rw [IntKind.wrap_i64]; have := HT0.out; omega
              have heq : (T + 1 == T + 1) = true := by simp
              go_wp2_with (first | (go_at_call 13; refine (sturn_any _ HS7.out).mono ?_; rintro e w9 ⟨rfl, hw9⟩; rw [hw9]; clear hw9 w9) | (go_at_call 12; refine (svalue_any _ HS7.out h47).mono ?_; rintro e w10 ⟨x10, rfl, hv, hb⟩; have HV10 := hide hv; have HN10 := hide (HN7.out.call hb); have HO10 := hide (HO7.out.below hb); clear hv hb) | (go_at_call 14; refine (same_bytes _ _ X _ HV10.out.sl (HX.out.below HN10.out.be) (by omega)).mono ?_; rintro e w11 ⟨rfl, hb11⟩; have HN11 := hide (HN10.out.call hb11); clear hb11) | (go_at_call 6; refine (sworks_any _).mono ?_; rintro e w22 ⟨rfl, hb22⟩; have HB22 := hide (bt HN11.out.be hb22); clear hb22))
              go_ret
              exact ⟨rfl, HB22.out⟩
            · rw [Int.add_sub_cancel] at hg hu
              obtain rfl : V0 = V := hu V (by have i := HSF.out; rw [Int.add_sub_cancel] at i; exact i)
              clear hu
              have HG6 := hide hg
              clear hg
              go_upto_region 28 with (first | (go_at_call 8; refine (sopen_g w6 HQ6.out HG6.out (by omega) n0 n1).mono ?_; rintro e w7 ⟨c7, v7, rfl, hs, hcw, hb⟩; have HS7 := hide hs; have HN7 := hide (HN6.out.opn hb hcw); have HO7 := hide (HO6.out.below hb); clear hs hcw hb))
              clear HQ6 HN6 HO6
              have heq : (T == T) = true := by simp
              go_wp2_with (first | (go_at_call 13; refine (sturn_any _ HS7.out).mono ?_; rintro e w9 ⟨rfl, hw9⟩; rw [hw9]; clear hw9 w9) | (go_at_call 12; refine (svalue_any _ HS7.out HL3.out).mono ?_; rintro e w10 ⟨x10, rfl, hv, hb⟩; have HV10 := hide hv; have HN10 := hide (HN7.out.call hb); have HO10 := hide (HO7.out.below hb); clear hv hb) | (go_at_call 14; refine (same_bytes _ _ V0 _ HV10.out.sl HO10.out.sl (by have := HL3.out; omega)).mono ?_; rintro e w11 ⟨rfl, hb11⟩; have HN11 := hide (HN10.out.call hb11); clear hb11) | (go_at_call 6; refine (sworks_any _).mono ?_; rintro e w22 ⟨rfl, hb22⟩; have HB22 := hide (bt HN11.out.be hb22); clear hb22))
              go_ret
              exact ⟨rfl, HB22.out⟩
      · have h20I : (20 : Int) < (ks.length : Int) := by omega
        go_wp2_with (first | (go_at_call 5; refine (lightS_any _ ps _ HV.out).mono ?_; rintro e w9 ⟨rfl, hw9⟩; rw [hw9, HLI.out]; clear hw9 w9) | (go_at_call 6; refine (sworks_any _).mono ?_; rintro e w22 ⟨rfl, hb22⟩; have HB22 := hide hb22; clear hb22))
        go_ret
        exact ⟨rfl, HB22.out⟩
    · have h47I : (47 : Int) < (X.length : Int) := by omega
      go_wp2_with (first | (go_at_call 5; refine (lightS_any _ ps _ HV.out).mono ?_; rintro e w9 ⟨rfl, hw9⟩; rw [hw9, HLI.out]; clear hw9 w9) | (go_at_call 6; refine (sworks_any _).mono ?_; rintro e w22 ⟨rfl, hb22⟩; have HB22 := hide hb22; clear hb22))
      go_ret
      exact ⟨rfl, HB22.out⟩
  · have HLI : Hid (liS ps = false) := hide (by simpa using hli)
    clear hli
    go_wp2_with (first | (go_at_call 5; refine (lightS_any _ ps _ HV.out).mono ?_; rintro e w9 ⟨rfl, hw9⟩; rw [hw9, HLI.out]; clear hw9 w9) | (go_at_call 6; refine (sworks_any _).mono ?_; rintro e w22 ⟨rfl, hb22⟩; have HB22 := hide hb22; clear hb22))
    go_ret
    exact ⟨rfl, HB22.out⟩
end Go.Proofs.Ytiedbchlgcgdeaa
