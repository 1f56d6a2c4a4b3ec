/-
  WHAT IS PUT IS THE VALUE AT ONCE, AND BEHIND A CRASH, ONCE IT IS SYNCED (SlotBack), whichever values were put ahead. True for any values and crash. Condition: the rows lie in memory.
-/
import Derived.Test.YtiedbchlgcgdeaaLawSKeeps
import Derived.Test.YtiedbchlgcgdeaaChBkM
namespace Go.Proofs.Ytiedbchlgcgdeaa
open Go.RowKit

theorem n9 : Num 9 := ⟨by decide, by decide⟩
theorem n10 : Num (9 + 1) := ⟨by decide, by decide⟩
theorem mr_at {W : World} {b o : Nat} {ms : List Rb} (h : W.rangeAt b o (ms.map (·.1))) {k : Nat} (hk : k < ms.length) : W.cell? ⟨b, o + k, none⟩ = some (ms[k]).1 := h k _ (by simp [hk])
set_option maxRecDepth 100000 in
set_option maxHeartbeats 16000000 in
theorem sback_law (v0 v1 : Value) (ms : List Rb) (ks : List Int) (w : World) (hm : Mr w v0 ms) (hk : Sl ic w v1 ks) : Calls Try.prog 4 #[v0, v1] w fun e w' => e = .returned (.bool true) ∧ Below w.heap.size w w' := by
  have HK := hide hk
  obtain ⟨⟨bo, bcap, rfl, hrow⟩, hms⟩ := hm
  have HROW := hide hrow
  have HMS := hide hms
  obtain ⟨ko, kc, rfl⟩ := hk.form
  clear hrow hms hk
  go_enter Try.func4, Try.ntmps4
  by_cases h40 : ms.length ≤ 40
  · have h40I : ¬ (40 : Int) < (ms.length : Int) := by omega
    by_cases h20 : ks.length ≤ 20
    · have h20I : ¬ (20 : Int) < (ks.length : Int) := by omega
      have HN2 : Hid (Num 2) := hide ⟨by decide, by decide⟩
      go_upto_region 4 with (first | (go_at_call 7; refine (q_new2 2 w _ HN2.out (Below.refl _ _)).mono ?_; rintro e w1 ⟨d, bS, bT, rfl, hq1, hn1, _⟩; have HQ1 := hide hq1; have HB1 := hide hn1; clear hq1 hn1))
      go_upto_region 7 with (first | (go_at_call 8; refine (sopen_g w1 HQ1.out (sg_new (r := 2) (a := 9) (by decide)) (by decide) n9 n10).mono ?_; rintro e w2 ⟨c0, v9, rfl, hs, hcw, hb⟩; have HR0 : Hid (Sr w w2 c0 d bS bT (.slice none 0 0) ⟨2, [], []⟩ 2 9 0 v9 [] false) := hide ⟨hs, sg_new (by decide), ⟨(HB1.out.call hb).be, fun k hk => hk.elim (fun e => HB1.out.ow k e) (fun e => by rw [e]; exact Nat.le_trans HB1.out.be.size hcw)⟩⟩; clear hs hcw hb))
      clear HQ1 HB1
      go_upto_region 11 with fail
      go_loopw [7, 9, 10] (fun cv nv i W => ∃ (k c : Nat) (u : Value) (s : Dst) (T : Int) (v : Value) (V : List Int), k ≤ ms.length ∧ i = .int .i64 k ∧ cv = .pointer (some ⟨c, 0, none⟩) ∧ nv = .int .i64 T ∧ Sr w W c d bS bT u s 2 9 T v V false ∧ T ≤ k) (fun _ _ i _ => ms.length - (iv i).toNat)
      case atStart => exact ⟨0, c0, _, _, _, _, _, Nat.zero_le _, rfl, rfl, rfl, HR0.out, by decide⟩
      case round =>
        clear HR0
        obtain ⟨k, c, u, s, T, v, V, hk, rfl, rfl, rfl, hsr, hTk⟩ := hrel
        have HR := hide hsr
        clear hsr
        have hT255 : T < 200 := by omega
        have hT0 : 0 ≤ T := HR.out.sg.nn.1.1
        by_cases hlt : k < ms.length
        · obtain ⟨rb, ro, rfl, hrg⟩ := HROW.out (by omega)
          have he := mr_at hrg hlt
          have HSL := hide (HMS.out _ (List.getElem_mem hlt)).1
          have HBY := hide (HMS.out _ (List.getElem_mem hlt)).2
          clear hrg
          generalize (ms[k]).2 = b at HSL HBY
          generalize (ms[k]).1 = vb at he HSL
          obtain ⟨ab, cb, rfl⟩ := HSL.out.form
          have hrl : rb < w.heap.size := cell_block he
          have HCE := hide (fun (W : World) (h : Below w.heap.size w W) => (h.cell (p := ⟨rb, ro + k, none⟩) hrl).trans he)
          have d1 := HCE.out _ HR.out.nc.be
          have hltI : (k : Int) < (ms.length : Int) := by omega
          clear he
          by_cases hb47 : b.length ≤ 47
          · have hbI : ¬ (47 : Int) < (b.length : Int) := by omega
            have HPU := hide (HR.out.sg.put HR.out.sl.q.ok n9 n10 hb47 HBY.out)
            go_upto_region 14 with fail
            clear d1
            have hdw : Below wr.heap.size wr wr.drew := (Below.refl _ _).drew
            refine wp_region_held_drew (S := fun W => W.cell? ⟨rb, ro + k, none⟩ = some (.slice ab b.length cb)) (by kernel_rfl) (HCE.out _ (HR.out.nc.call hdw).be) (fun hHeld => ?_)
            have HR2 := hide (HR.out.below hdw)
            generalize wr.drew = W2 at HR2 hHeld ⊢
            clear hdw HR
            refine wpAnyH_take (i := 0) (oi := _) (v := .pointer (some ⟨c, 0, none⟩)) rfl (by kernel_rfl) (by kernel_rfl) (by kernel_rfl) (fun _ _ _ h => h) (Or.inl ⟨by rfl, by intro w hSw; go_simp⟩) hHeld ?_
            change wpAnyH _ _ _ _ _ _ _ (Act.put _ (some 55) _) _
            simp only [Act.put, List.setIfInBounds_toArray, List.set_cons_zero, List.set_cons_succ]
            refine wpAnyH_take (i := 1) (oi := _) (v := .slice (some ⟨rb, ro, none⟩) ms.length bcap) rfl (by kernel_rfl) (by kernel_rfl) (by kernel_rfl) (fun _ _ _ h => h) (Or.inl ⟨by rfl, by intro w hSw; go_simp⟩) hHeld ?_
            change wpAnyH _ _ _ _ _ _ _ (Act.put _ (some 56) _) _
            simp only [Act.put, List.setIfInBounds_toArray, List.set_cons_zero, List.set_cons_succ]
            refine wpAnyH_take (i := 2) (oi := _) (v := .int .i64 (k : Int)) rfl (by kernel_rfl) (by kernel_rfl) (by kernel_rfl) (fun _ _ _ h => h) (Or.inl ⟨by rfl, by intro w hSw; go_simp⟩) hHeld ?_
            change wpAnyH _ _ _ _ _ _ _ (Act.put _ (some 57) _) _
            simp only [Act.put, List.setIfInBounds_toArray, List.set_cons_zero, List.set_cons_succ]
            refine wpAnyH_take (i := 3) (oi := _) (v := .pointer (some ⟨rb, ro + k, none⟩)) rfl (by kernel_rfl) (by kernel_rfl) (by kernel_rfl) (fun _ _ _ h => h) (Or.inl ⟨by rfl, by intro w hSw; go_simp⟩) hHeld ?_
            change wpAnyH _ _ _ _ _ _ _ (Act.put _ (some 58) _) _
            simp only [Act.put, List.setIfInBounds_toArray, List.set_cons_zero, List.set_cons_succ]
            refine wpAnyH_take (i := 4) (oi := _) (v := .slice ab b.length cb) rfl (by kernel_rfl) (by kernel_rfl) (by kernel_rfl) (fun _ _ _ h => h) (Or.inl ⟨by rfl, by intro w hSw; have h1 := hSw; go_simp⟩) hHeld ?_
            change wpAnyH _ _ _ _ _ _ _ (Act.put _ (some 59) _) _
            simp only [Act.put, List.setIfInBounds_toArray, List.set_cons_zero, List.set_cons_succ]
            refine wpAnyH_ready (rs := [5]) (by kernel_rfl) (by simp) ?_
            refine AllReadyH.cons (o := _) rfl (fun K hK => ?_) AllReadyH.nil
            go_simp
            go_at_call 9
            refine (sput_ok _ _ b _ HR2.out.sl (HSL.out.below HR2.out.nc.be) HBY.out hb47 (by have := HR2.out.wt; omega) ⟨hT0, by omega⟩ n9 n10 (HR2.out.sg.by8 (by omega)) (HR2.out.sg.nowB (by omega) n9 n10) HPU.out.1).mono ?_
            rintro e W3 ⟨u3, v3, rfl, hs, hx⟩
            have HR3 := hide (HR2.out.cx hs hx HPU.out.2)
            clear hs hx
            go_wp2_with fail
            refine hK.out _ _ (HCE.out _ HR3.out.nc.be) (fun hHeld1 => ?_)
            clear hK K hHeld
            have hHeld := hHeld1
            clear hHeld1
            clear HR2
            generalize wrS s (9 + (T + 1) % 2) (blkS (T + 1) b) = s3 at HR3
            refine wpAnyH_take (i := 6) (oi := _) (v := .bool false) rfl (by kernel_rfl) (by kernel_rfl) (by kernel_rfl) (fun _ _ _ h => h) (Or.inl ⟨by rfl, by intro w hSw; go_simp⟩) hHeld ?_
            change wpAnyH _ _ _ _ _ _ _ (Act.put _ (some 61) _) _
            simp only [Act.put, List.setIfInBounds_toArray, List.set_cons_zero, List.set_cons_succ]
            refine wpAnyH_take (i := 7) (oi := _) (v := .bool false) rfl (by kernel_rfl) (by kernel_rfl) (by kernel_rfl) (fun _ _ _ h => h) (Or.inl ⟨by rfl, by intro w hSw; go_simp⟩) hHeld ?_
            change wpAnyH _ _ _ _ _ _ _ (Act.put _ (some 62) _) _
            simp only [Act.put, List.setIfInBounds_toArray, List.set_cons_zero, List.set_cons_succ]
            refine wpAnyH_take (i := 8) (oi := _) (v := .pointer (some ⟨c, 0, none⟩)) rfl (by kernel_rfl) (by kernel_rfl) (by kernel_rfl) (fun _ _ _ h => h) (Or.inl ⟨by rfl, by intro w hSw; go_simp⟩) hHeld ?_
            change wpAnyH _ _ _ _ _ _ _ (Act.put _ (some 63) _) _
            simp only [Act.put, List.setIfInBounds_toArray, List.set_cons_zero, List.set_cons_succ]
            refine wpAnyH_take (i := 10) (oi := _) (v := .slice (some ⟨rb, ro, none⟩) ms.length bcap) rfl (by kernel_rfl) (by kernel_rfl) (by kernel_rfl) (fun _ _ _ h => h) (Or.inl ⟨by rfl, by intro w hSw; go_simp⟩) hHeld ?_
            change wpAnyH _ _ _ _ _ _ _ (Act.put _ (some 65) _) _
            simp only [Act.put, List.setIfInBounds_toArray, List.set_cons_zero, List.set_cons_succ]
            refine wpAnyH_take (i := 11) (oi := _) (v := .int .i64 (k : Int)) rfl (by kernel_rfl) (by kernel_rfl) (by kernel_rfl) (fun _ _ _ h => h) (Or.inl ⟨by rfl, by intro w hSw; go_simp⟩) hHeld ?_
            change wpAnyH _ _ _ _ _ _ _ (Act.put _ (some 66) _) _
            simp only [Act.put, List.setIfInBounds_toArray, List.set_cons_zero, List.set_cons_succ]
            refine wpAnyH_take (i := 12) (oi := _) (v := .pointer (some ⟨rb, ro + k, none⟩)) rfl (by kernel_rfl) (by kernel_rfl) (by kernel_rfl) (fun _ _ _ h => h) (Or.inl ⟨by rfl, by intro w hSw; go_simp⟩) hHeld ?_
            change wpAnyH _ _ _ _ _ _ _ (Act.put _ (some 67) _) _
            simp only [Act.put, List.setIfInBounds_toArray, List.set_cons_zero, List.set_cons_succ]
            refine wpAnyH_take (i := 13) (oi := _) (v := .slice ab b.length cb) rfl (by kernel_rfl) (by kernel_rfl) (by kernel_rfl) (fun _ _ _ h => h) (Or.inl ⟨by rfl, by intro w hSw; have h1 := hSw; go_simp⟩) hHeld ?_
            change wpAnyH _ _ _ _ _ _ _ (Act.put _ (some 68) _) _
            simp only [Act.put, List.setIfInBounds_toArray, List.set_cons_zero, List.set_cons_succ]
            refine wpAnyH_ready (rs := [9]) (by kernel_rfl) (by simp) ?_
            refine AllReadyH.cons (o := _) rfl (fun K hK => ?_) AllReadyH.nil
            go_simp
            go_at_call 12
            refine (svalue_any _ HR3.out.sl hb47).mono ?_
            rintro e W4 ⟨x4, rfl, hv, hb⟩
            have HV4 := hide hv
            have HR4 := hide (HR3.out.below hb)
            clear hv hb
            go_wp2_with fail
            refine hK.out _ _ (HCE.out _ HR4.out.nc.be) (fun hHeld1 => ?_)
            clear hK K hHeld
            have hHeld := hHeld1
            clear hHeld1
            clear HR3
            refine wpAnyH_ready (rs := [14]) (by kernel_rfl) (by simp) ?_
            refine AllReadyH.cons (o := _) rfl (fun K hK => ?_) AllReadyH.nil
            go_simp
            go_at_call 14
            refine (same_bytes _ _ b _ HV4.out.sl (HSL.out.below HR4.out.nc.be) (by omega)).mono ?_
            rintro e W5 ⟨rfl, hb⟩
            have HR5 := hide (HR4.out.below hb)
            clear hb
            go_wp2_with fail
            refine hK.out _ _ (HCE.out _ HR5.out.nc.be) (fun hHeld1 => ?_)
            clear hK K hHeld
            have hHeld := hHeld1
            clear hHeld1
            clear HR4 HV4
            refine wpAnyH_take (i := 15) (oi := _) (v := .bool false) rfl (by kernel_rfl) (by kernel_rfl) (by kernel_rfl) (fun _ _ _ h => h) (Or.inl ⟨by rfl, by intro w hSw; go_simp⟩) hHeld ?_
            change wpAnyH _ _ _ _ _ _ _ (Act.put _ (some 70) _) _
            simp only [Act.put, List.setIfInBounds_toArray, List.set_cons_zero, List.set_cons_succ]
            refine wpAnyH_take (i := 16) (oi := _) (v := .bool false) rfl (by kernel_rfl) (by kernel_rfl) (by kernel_rfl) (fun _ _ _ h => h) (Or.inl ⟨by rfl, by intro w hSw; go_simp⟩) hHeld ?_
            change wpAnyH _ _ _ _ _ _ _ (Act.put _ (some 71) _) _
            simp only [Act.put, List.setIfInBounds_toArray, List.set_cons_zero, List.set_cons_succ]
            refine wpAnyH_done (by kernel_rfl) ?_ _
            clear hHeld
            have hwr : IntKind.i64.wrap (T + 1) = T + 1 := by rw [IntKind.wrap_i64]; omega
            go_upto_region 18 with (first | (go_at_call 10; refine (ssync_any _ HR5.out.sl (by have := HR5.out.wt; omega)).mono ?_; rintro e w6 ⟨rfl, hs, hx⟩; have HR6 := hide (HR5.out.cx hs hx (HR5.out.sg.sync (by omega) n9 n10)); clear hs hx))
            clear HR5
            generalize syS s3 = s6 at HR6
            have HG7 : Hid (Sg 2 9 (crS s6 ks 5) (T + 1) b false) := hide ((HR6.out.sg.crash (by omega) n9 n10 ks 5).resolve_right (fun ⟨_, e, _⟩ => by cases e))
            go_upto_region 19 with (first | (go_at_call 11; refine (q_crash _ ks 5 _ HR6.out.sl.q (HK.out.below HR6.out.nc.be) (by have := HR6.out.wt; omega)).mono ?_; rintro e w7 ⟨rfl, hq, hx⟩; have HQ7 := hide hq; have HN7 := hide (HR6.out.nc.dx hx); clear hq hx))
            clear HR6
            generalize crS s6 ks 5 = s7 at HQ7 HG7
            go_upto_region 20 with (first | (go_at_call 8; refine (sopen_g w7 HQ7.out HG7.out (by omega) n9 n10).mono ?_; rintro e w8 ⟨c8, v8, rfl, hs, hcw, hb⟩; have HR8 : Hid (Sr w w8 c8 d bS bT (.slice none 0 0) s7 2 9 (T + 1) v8 b false) := hide ⟨hs, HG7.out, HN7.out.opn hb hcw⟩; clear hs hcw hb))
            clear HQ7 HN7 HG7
            have hdw : Below w8.heap.size w8 w8.drew := (Below.refl _ _).drew
            refine wp_region_held_drew (S := fun W => W.cell? ⟨rb, ro + k, none⟩ = some (.slice ab b.length cb)) (by kernel_rfl) (HCE.out _ (HR8.out.nc.call hdw).be) (fun hHeld => ?_)
            have HR9 := hide (HR8.out.below hdw)
            generalize w8.drew = W9 at HR9 hHeld ⊢
            clear hdw HR8 hwr
            refine wpAnyH_take (i := 0) (oi := _) (v := .nilIface) rfl (by kernel_rfl) (by kernel_rfl) (by kernel_rfl) (fun _ _ _ h => h) (Or.inl ⟨by rfl, by intro w hSw; go_simp⟩) hHeld ?_
            change wpAnyH _ _ _ _ _ _ _ (Act.put _ (some 84) _) _
            simp only [Act.put, List.setIfInBounds_toArray, List.set_cons_zero, List.set_cons_succ]
            refine wpAnyH_take (i := 1) (oi := _) (v := .bool false) rfl (by kernel_rfl) (by kernel_rfl) (by kernel_rfl) (fun _ _ _ h => h) (Or.inl ⟨by rfl, by intro w hSw; go_simp⟩) hHeld ?_
            change wpAnyH _ _ _ _ _ _ _ (Act.put _ (some 85) _) _
            simp only [Act.put, List.setIfInBounds_toArray, List.set_cons_zero, List.set_cons_succ]
            refine wpAnyH_take (i := 2) (oi := _) (v := .bool false) rfl (by kernel_rfl) (by kernel_rfl) (by kernel_rfl) (fun _ _ _ h => h) (Or.inl ⟨by rfl, by intro w hSw; go_simp⟩) hHeld ?_
            change wpAnyH _ _ _ _ _ _ _ (Act.put _ (some 86) _) _
            simp only [Act.put, List.setIfInBounds_toArray, List.set_cons_zero, List.set_cons_succ]
            refine wpAnyH_take (i := 3) (oi := _) (v := .pointer (some ⟨c8, 0, none⟩)) rfl (by kernel_rfl) (by kernel_rfl) (by kernel_rfl) (fun _ _ _ h => h) (Or.inl ⟨by rfl, by intro w hSw; go_simp⟩) hHeld ?_
            change wpAnyH _ _ _ _ _ _ _ (Act.put _ (some 87) _) _
            simp only [Act.put, List.setIfInBounds_toArray, List.set_cons_zero, List.set_cons_succ]
            refine wpAnyH_take (i := 4) (oi := _) (v := .bool false) rfl (by kernel_rfl) (by kernel_rfl) (by kernel_rfl) (fun _ _ _ h => h) (Or.inl ⟨by rfl, by intro w hSw; go_simp⟩) hHeld ?_
            change wpAnyH _ _ _ _ _ _ _ (Act.put _ (some 88) _) _
            simp only [Act.put, List.setIfInBounds_toArray, List.set_cons_zero, List.set_cons_succ]
            refine wpAnyH_take (i := 5) (oi := _) (v := .bool false) rfl (by kernel_rfl) (by kernel_rfl) (by kernel_rfl) (fun _ _ _ h => h) (Or.inl ⟨by rfl, by intro w hSw; go_simp⟩) hHeld ?_
            change wpAnyH _ _ _ _ _ _ _ (Act.put _ (some 89) _) _
            simp only [Act.put, List.setIfInBounds_toArray, List.set_cons_zero, List.set_cons_succ]
            refine wpAnyH_take (i := 6) (oi := _) (v := .bool false) rfl (by kernel_rfl) (by kernel_rfl) (by kernel_rfl) (fun _ _ _ h => h) (Or.inl ⟨by rfl, by intro w hSw; go_simp⟩) hHeld ?_
            change wpAnyH _ _ _ _ _ _ _ (Act.put _ (some 90) _) _
            simp only [Act.put, List.setIfInBounds_toArray, List.set_cons_zero, List.set_cons_succ]
            refine wpAnyH_take (i := 7) (oi := _) (v := .pointer (some ⟨c8, 0, none⟩)) rfl (by kernel_rfl) (by kernel_rfl) (by kernel_rfl) (fun _ _ _ h => h) (Or.inl ⟨by rfl, by intro w hSw; go_simp⟩) hHeld ?_
            change wpAnyH _ _ _ _ _ _ _ (Act.put _ (some 91) _) _
            simp only [Act.put, List.setIfInBounds_toArray, List.set_cons_zero, List.set_cons_succ]
            refine wpAnyH_take (i := 9) (oi := _) (v := .int .i64 (T + 1)) rfl (by kernel_rfl) (by kernel_rfl) (by kernel_rfl) (fun _ _ _ h => h) (Or.inl ⟨by rfl, by intro w hSw; go_simp⟩) hHeld ?_
            change wpAnyH _ _ _ _ _ _ _ (Act.put _ (some 93) _) _
            simp only [Act.put, List.setIfInBounds_toArray, List.set_cons_zero, List.set_cons_succ]
            refine wpAnyH_ready (rs := [8]) (by kernel_rfl) (by simp) ?_
            refine AllReadyH.cons (o := _) rfl (fun K hK => ?_) AllReadyH.nil
            go_simp
            go_at_call 13
            refine (sturn_any _ HR9.out.sl).mono ?_
            rintro e Wz ⟨rfl, hwz⟩
            rw [hwz]
            clear hwz Wz
            go_wp2_with fail
            refine hK.out _ _ hHeld (fun hHeld1 => ?_)
            clear hK K hHeld
            have hHeld := hHeld1
            clear hHeld1
            have hne : (T + 1 != T + 1) = false := by simp
            refine wpAnyH_take (i := 10) (oi := _) (v := .bool false) rfl (by kernel_rfl) (by kernel_rfl) (by kernel_rfl) (fun _ _ _ h => h) (Or.inl ⟨by rfl, by intro w hSw; go_simp⟩) hHeld ?_
            change wpAnyH _ _ _ _ _ _ _ (Act.put _ (some 94) _) _
            simp only [Act.put, List.setIfInBounds_toArray, List.set_cons_zero, List.set_cons_succ]
            refine wpAnyH_take (i := 11) (oi := _) (v := .bool false) rfl (by kernel_rfl) (by kernel_rfl) (by kernel_rfl) (fun _ _ _ h => h) (Or.inl ⟨by rfl, by intro w hSw; go_simp⟩) hHeld ?_
            change wpAnyH _ _ _ _ _ _ _ (Act.put _ (some 95) _) _
            simp only [Act.put, List.setIfInBounds_toArray, List.set_cons_zero, List.set_cons_succ]
            refine wpAnyH_take (i := 12) (oi := _) (v := .bool false) rfl (by kernel_rfl) (by kernel_rfl) (by kernel_rfl) (fun _ _ _ h => h) (Or.inl ⟨by rfl, by intro w hSw; go_simp⟩) hHeld ?_
            change wpAnyH _ _ _ _ _ _ _ (Act.put _ (some 96) _) _
            simp only [Act.put, List.setIfInBounds_toArray, List.set_cons_zero, List.set_cons_succ]
            refine wpAnyH_take (i := 13) (oi := _) (v := .pointer (some ⟨c8, 0, none⟩)) rfl (by kernel_rfl) (by kernel_rfl) (by kernel_rfl) (fun _ _ _ h => h) (Or.inl ⟨by rfl, by intro w hSw; go_simp⟩) hHeld ?_
            change wpAnyH _ _ _ _ _ _ _ (Act.put _ (some 97) _) _
            simp only [Act.put, List.setIfInBounds_toArray, List.set_cons_zero, List.set_cons_succ]
            refine wpAnyH_take (i := 15) (oi := _) (v := .slice (some ⟨rb, ro, none⟩) ms.length bcap) rfl (by kernel_rfl) (by kernel_rfl) (by kernel_rfl) (fun _ _ _ h => h) (Or.inl ⟨by rfl, by intro w hSw; go_simp⟩) hHeld ?_
            change wpAnyH _ _ _ _ _ _ _ (Act.put _ (some 99) _) _
            simp only [Act.put, List.setIfInBounds_toArray, List.set_cons_zero, List.set_cons_succ]
            refine wpAnyH_take (i := 16) (oi := _) (v := .int .i64 (k : Int)) rfl (by kernel_rfl) (by kernel_rfl) (by kernel_rfl) (fun _ _ _ h => h) (Or.inl ⟨by rfl, by intro w hSw; go_simp⟩) hHeld ?_
            change wpAnyH _ _ _ _ _ _ _ (Act.put _ (some 100) _) _
            simp only [Act.put, List.setIfInBounds_toArray, List.set_cons_zero, List.set_cons_succ]
            refine wpAnyH_take (i := 17) (oi := _) (v := .pointer (some ⟨rb, ro + k, none⟩)) rfl (by kernel_rfl) (by kernel_rfl) (by kernel_rfl) (fun _ _ _ h => h) (Or.inl ⟨by rfl, by intro w hSw; go_simp⟩) hHeld ?_
            change wpAnyH _ _ _ _ _ _ _ (Act.put _ (some 101) _) _
            simp only [Act.put, List.setIfInBounds_toArray, List.set_cons_zero, List.set_cons_succ]
            refine wpAnyH_take (i := 18) (oi := _) (v := .slice ab b.length cb) rfl (by kernel_rfl) (by kernel_rfl) (by kernel_rfl) (fun _ _ _ h => h) (Or.inl ⟨by rfl, by intro w hSw; have h1 := hSw; go_simp⟩) hHeld ?_
            change wpAnyH _ _ _ _ _ _ _ (Act.put _ (some 102) _) _
            simp only [Act.put, List.setIfInBounds_toArray, List.set_cons_zero, List.set_cons_succ]
            refine wpAnyH_ready (rs := [14]) (by kernel_rfl) (by simp) ?_
            refine AllReadyH.cons (o := _) rfl (fun K hK => ?_) AllReadyH.nil
            go_simp
            go_at_call 12
            refine (svalue_any _ HR9.out.sl hb47).mono ?_
            rintro e W10 ⟨x10, rfl, hv, hb⟩
            have HV10 := hide hv
            have HR10 := hide (HR9.out.below hb)
            clear hv hb
            go_wp2_with fail
            refine hK.out _ _ (HCE.out _ HR10.out.nc.be) (fun hHeld1 => ?_)
            clear hK K hHeld
            have hHeld := hHeld1
            clear hHeld1
            clear HR9
            refine wpAnyH_ready (rs := [19]) (by kernel_rfl) (by simp) ?_
            refine AllReadyH.cons (o := _) rfl (fun K hK => ?_) AllReadyH.nil
            go_simp
            go_at_call 14
            refine (same_bytes _ _ b _ HV10.out.sl (HSL.out.below HR10.out.nc.be) (by omega)).mono ?_
            rintro e W11 ⟨rfl, hb⟩
            have HR11 := hide (HR10.out.below hb)
            clear hb
            go_wp2_with fail
            refine hK.out _ _ (HCE.out _ HR11.out.nc.be) (fun hHeld1 => ?_)
            clear hK K hHeld
            have hHeld := hHeld1
            clear hHeld1
            clear HR10 HV10
            refine wpAnyH_take (i := 20) (oi := _) (v := .bool false) rfl (by kernel_rfl) (by kernel_rfl) (by kernel_rfl) (fun _ _ _ h => h) (Or.inl ⟨by rfl, by intro w hSw; go_simp⟩) hHeld ?_
            change wpAnyH _ _ _ _ _ _ _ (Act.put _ (some 104) _) _
            simp only [Act.put, List.setIfInBounds_toArray, List.set_cons_zero, List.set_cons_succ]
            refine wpAnyH_take (i := 21) (oi := _) (v := .bool false) rfl (by kernel_rfl) (by kernel_rfl) (by kernel_rfl) (fun _ _ _ h => h) (Or.inl ⟨by rfl, by intro w hSw; go_simp⟩) hHeld ?_
            change wpAnyH _ _ _ _ _ _ _ (Act.put _ (some 105) _) _
            simp only [Act.put, List.setIfInBounds_toArray, List.set_cons_zero, List.set_cons_succ]
            refine wpAnyH_done (by kernel_rfl) ?_ _
            clear hHeld
            go_wp2_with fail
            exact ⟨⟨k + 1, c8, _, _, _, _, _, by omega, by go_num, rfl, rfl, HR11.out, by omega⟩, by simp [iv]; omega⟩
          · have hbI : (47 : Int) < (b.length : Int) := by omega
            go_wp2_with fail
            exact ⟨⟨k + 1, c, _, _, _, _, _, by omega, by go_num, rfl, rfl, HR.out, by omega⟩, by simp [iv]; omega⟩
        · have hnl : ¬ (k : Int) < (ms.length : Int) := by omega
          go_wp2_with (first | (go_at_call 6; refine (sworks_any _).mono ?_; rintro e w22 ⟨rfl, hb22⟩; have HB22 := hide (bt HR.out.nc.be hb22); clear hb22))
          go_ret
          exact ⟨rfl, HB22.out⟩
    · have h20I : (20 : Int) < (ks.length : Int) := by omega
      go_wp2_with (first | (go_at_call 6; refine (sworks_any _).mono ?_; rintro e w22 ⟨rfl, hb22⟩; have HB22 := hide hb22; clear hb22))
      go_ret
      exact ⟨rfl, HB22.out⟩
  · have h40I : (40 : Int) < (ms.length : Int) := by omega
    go_wp2_with (first | (go_at_call 6; refine (sworks_any _).mono ?_; rintro e w22 ⟨rfl, hb22⟩; have HB22 := hide hb22; clear hb22))
    go_ret
    exact ⟨rfl, HB22.out⟩
end Go.Proofs.Ytiedbchlgcgdeaa
