/-
  WHETHER TWO BATCHES ARE THE SAME, BY THE DOCUMENT (castellanref06.Same). Conditions: the records' cells hold them, their rows are not too long.
-/
import Derived.Test.YtkpknkhacmggnaaGreatDoorJKBatCka2
namespace Go.Proofs.YtkpknkhacmggnaaGreatDoor
open Go.RowKit

set_option maxRecDepth 100000 in
set_option maxHeartbeats 16000000 in
theorem rbsame_some {ok ok' : Nat → Prop} (t bs : Int) (b o cap b' o' cap' : Nat) (ps qs : List Rp) (w : World) (hl : ps.length = qs.length) (hn : ps.length ≤ 100000) (hrg : w.rangeAt b o (rcs ps)) (hrw : ∀ p ∈ ps, RwP ok w p) (hrg' : w.rangeAt b' o' (rcs qs)) (hrw' : ∀ p ∈ qs, RwP ok' w p) (hln : ∀ p ∈ ps, LnR p.1) :
    Calls Tryz.prog 70 #[.agg #[.int .i64 t, .int .i64 bs, .slice (some ⟨b, o, none⟩) ps.length cap], .agg #[.int .i64 t, .int .i64 bs, (.slice (some ⟨b', o', none⟩) ps.length cap')]] w fun e w' => e = .returned (.bool (sameL (rcl ps) (rcl qs))) ∧ Below w.heap.size w w' := by
  have HR := hide hrg
  have HW := hide hrw
  have HR' := hide hrg'
  have HW' := hide hrw'
  have HL := hide hln
  have HLE := hide hl
  clear hrg hrw hrg' hrw' hln hl
  have HB0 : Hid (Below w.heap.size w ((w.alloc (.cells #[.int .i64 t, .int .i64 bs, .slice (some ⟨b, o, none⟩) ps.length cap] 55)).alloc (.cells #[.int .i64 t, .int .i64 bs, (.slice (some ⟨b', o', none⟩) ps.length cap')] 55))) := hide (((Below.refl _ _).alloc (Nat.le_refl _) _).alloc (by simp) _)
  have HX := hide (six_in w (.int .i64 t) (.int .i64 bs) (.slice (some ⟨b, o, none⟩) ps.length cap) (.int .i64 t) (.int .i64 bs) (.slice (some ⟨b', o', none⟩) ps.length cap') (X := ((w.alloc (.cells #[.int .i64 t, .int .i64 bs, .slice (some ⟨b, o, none⟩) ps.length cap] 55)).alloc (.cells #[.int .i64 t, .int .i64 bs, (.slice (some ⟨b', o', none⟩) ps.length cap')] 55))) rfl)
  go_enter Tryz.func70, Tryz.ntmps70
  go_upto_region 3 with fail
  generalize ((w.alloc (.cells #[.int .i64 t, .int .i64 bs, .slice (some ⟨b, o, none⟩) ps.length cap] 55)).alloc (.cells #[.int .i64 t, .int .i64 bs, (.slice (some ⟨b', o', none⟩) ps.length cap')] 55)) = X at HB0 HX ⊢
  go_wp2_with fail
  go_loopw [5] (fun i wr => ∃ j : Nat, j ≤ ps.length ∧ i = .int .i64 (j : Int) ∧ (∀ i, i < j → sameR ((rcl ps).getD i Rc.zero) ((rcl qs).getD i Rc.zero) = true) ∧ Below X.heap.size X wr) (fun i _ => ps.length - (intOf i).toNat)
  case atStart => exact ⟨0, Nat.zero_le _, rfl, fun i hi => by omega, Below.refl _ _⟩
  case round =>
    obtain ⟨j, hj, rfl, hall, hb⟩ := hrel
    have HA := hide hall
    have HB := hide hb
    clear hall hb
    obtain ⟨⟨_, _, i2⟩, _, _, k2⟩ := HX.out wr HB.out
    by_cases hlt : j < ps.length
    · have hlt' : j < qs.length := by have := HLE.out; omega
      have hltI : (j : Int) < (ps.length : Int) := by omega
      have hbw : Below w.heap.size w wr := HB0.out.trans (HB.out.mono HB0.out.size)
      have HE := hide (range_bel (range_at HR.out hlt) hbw)
      have HE' := hide (range_bel (range_at HR'.out hlt') hbw)
      have HP := hide ((HW.out _ (List.getElem_mem hlt)).below hbw)
      have HP' := hide ((HW'.out _ (List.getElem_mem hlt')).below hbw)
      have HLX := hide (HL.out _ (List.getElem_mem hlt))
      have HN := hide (fun h => sameL_no hlt hlt' h)
      have HK : Hid (sameR ps[j].1 qs[j].1 = true → ∀ i, i < j + 1 → sameR ((rcl ps).getD i Rc.zero) ((rcl qs).getD i Rc.zero) = true) := hide (fun h i hi => by
        by_cases e : i = j
        · subst e; rw [rcl_at hlt, rcl_at hlt']; exact h
        · exact HA.out i (by omega))
      generalize ps[j] = p at *
      generalize qs[j] = q at *
      have HF : Hid (∀ W, Below wr.heap.size wr W → (fun W : World => (W.cell? ⟨w.heap.size, 2, none⟩ = some (.slice (some ⟨b, o, none⟩) ps.length cap) ∧ W.cell? ⟨w.heap.size + 1, 2, none⟩ = some (.slice (some ⟨b', o', none⟩) ps.length cap') ∧ W.rangeAt b (o + j * 18) (cel p) ∧ W.rangeAt b' (o' + j * 18) (cel q))) W) := hide (fun W h => by
        obtain ⟨⟨_, _, e1⟩, _, _, e2⟩ := HX.out W (HB.out.trans (h.mono HB.out.size))
        exact ⟨e1, e2, range_bel HE.out h, range_bel HE'.out h⟩)
      have HC := hide (fun W (h : Below wr.heap.size wr W) => rsame_any p.1 q.1 _ _ W (HP.out.below h).is (HP'.out.below h).is HLX.out)
      have HS0 := hide (hs_drew HF.out (Nat.le_refl _))
      clear hbw HE HE' HP HP' HLX HW HW' HR HR' HL
      go_upto_region 6 with fail
      clear i2 k2
      cases hs : sameR p.1 q.1 with
      | true =>
        rw [hs] at HC
        refine wp_region_held_drew (S := fun W => (W.cell? ⟨w.heap.size, 2, none⟩ = some (.slice (some ⟨b, o, none⟩) ps.length cap) ∧ W.cell? ⟨w.heap.size + 1, 2, none⟩ = some (.slice (some ⟨b', o', none⟩) ps.length cap') ∧ W.rangeAt b (o + j * 18) (cel p) ∧ W.rangeAt b' (o' + j * 18) (cel q)) ∧ Below wr.heap.size wr W ∧ wr.heap.size ≤ W.heap.size) (by kernel_rfl) HS0.out (fun hHeld => ?_)
        refine wpAnyH_take (i := 0) (oi := _) (v := .pointer (some ⟨w.heap.size, 2, none⟩)) rfl (by kernel_rfl) (by kernel_rfl) (by kernel_rfl) (fun _ _ _ h => h) (Or.inl ⟨by rfl, by intro w hSw; go_simp⟩) hHeld ?_
        change wpAnyH _ _ _ _ _ _ _ (Act.put _ (some 34) _) _
        simp only [Act.put, List.setIfInBounds_toArray, List.set_cons_zero, List.set_cons_succ]
        refine wpAnyH_take (i := 1) (oi := _) (v := .slice (some ⟨b, o, none⟩) ps.length cap) rfl (by kernel_rfl) (by kernel_rfl) (by kernel_rfl) (fun _ _ _ h => h) (Or.inl ⟨by rfl, by intro w hSw; go_simp⟩) hHeld ?_
        change wpAnyH _ _ _ _ _ _ _ (Act.put _ (some 35) _) _
        simp only [Act.put, List.setIfInBounds_toArray, List.set_cons_zero, List.set_cons_succ]
        refine wpAnyH_take (i := 2) (oi := _) (v := .int .i64 (j : Int)) rfl (by kernel_rfl) (by kernel_rfl) (by kernel_rfl) (fun _ _ _ h => h) (Or.inl ⟨by rfl, by intro w hSw; go_simp⟩) hHeld ?_
        change wpAnyH _ _ _ _ _ _ _ (Act.put _ (some 36) _) _
        simp only [Act.put, List.setIfInBounds_toArray, List.set_cons_zero, List.set_cons_succ]
        refine wpAnyH_take (i := 3) (oi := _) (v := .pointer (some ⟨b, o + j * 18, none⟩)) rfl (by kernel_rfl) (by kernel_rfl) (by kernel_rfl) (fun _ _ _ h => h) (Or.inl ⟨by rfl, by intro w hSw; go_simp⟩) hHeld ?_
        change wpAnyH _ _ _ _ _ _ _ (Act.put _ (some 37) _) _
        simp only [Act.put, List.setIfInBounds_toArray, List.set_cons_zero, List.set_cons_succ]
        refine wpAnyH_take (i := 4) (oi := _) (v := _) rfl (by kernel_rfl) (by kernel_rfl) (by kernel_rfl) (fun _ _ _ h => h) (yieldsIf_load_mid (by rfl) _ _ rfl _ _ rfl (cel p) _ (fun W hW => hW.1.2.2.1) Tryz.underlying58 rfl (by kernel_rfl)) hHeld ?_
        change wpAnyH _ _ _ _ _ _ _ (Act.put _ (some 38) _) _
        simp only [Act.put, List.setIfInBounds_toArray, List.set_cons_zero, List.set_cons_succ]
        refine wpAnyH_take (i := 5) (oi := _) (v := .pointer (some ⟨w.heap.size + 1, 2, none⟩)) rfl (by kernel_rfl) (by kernel_rfl) (by kernel_rfl) (fun _ _ _ h => h) (Or.inl ⟨by rfl, by intro w hSw; go_simp⟩) hHeld ?_
        change wpAnyH _ _ _ _ _ _ _ (Act.put _ (some 39) _) _
        simp only [Act.put, List.setIfInBounds_toArray, List.set_cons_zero, List.set_cons_succ]
        refine wpAnyH_take (i := 6) (oi := _) (v := (.slice (some ⟨b', o', none⟩) ps.length cap')) rfl (by kernel_rfl) (by kernel_rfl) (by kernel_rfl) (fun _ _ _ h => h) (Or.inl ⟨by rfl, by intro w hSw; go_simp⟩) hHeld ?_
        change wpAnyH _ _ _ _ _ _ _ (Act.put _ (some 40) _) _
        simp only [Act.put, List.setIfInBounds_toArray, List.set_cons_zero, List.set_cons_succ]
        refine wpAnyH_take (i := 7) (oi := _) (v := .int .i64 (j : Int)) rfl (by kernel_rfl) (by kernel_rfl) (by kernel_rfl) (fun _ _ _ h => h) (Or.inl ⟨by rfl, by intro w hSw; go_simp⟩) hHeld ?_
        change wpAnyH _ _ _ _ _ _ _ (Act.put _ (some 41) _) _
        simp only [Act.put, List.setIfInBounds_toArray, List.set_cons_zero, List.set_cons_succ]
        refine wpAnyH_take (i := 8) (oi := _) (v := .pointer (some ⟨b', o' + j * 18, none⟩)) rfl (by kernel_rfl) (by kernel_rfl) (by kernel_rfl) (fun _ _ _ h => h) (Or.inl ⟨by rfl, by intro w hSw; go_simp⟩) hHeld ?_
        change wpAnyH _ _ _ _ _ _ _ (Act.put _ (some 42) _) _
        simp only [Act.put, List.setIfInBounds_toArray, List.set_cons_zero, List.set_cons_succ]
        refine wpAnyH_take (i := 9) (oi := _) (v := _) rfl (by kernel_rfl) (by kernel_rfl) (by kernel_rfl) (fun _ _ _ h => h) (yieldsIf_load_mid (by rfl) _ _ rfl _ _ rfl (cel q) _ (fun W hW => hW.1.2.2.2) Tryz.underlying58 rfl (by kernel_rfl)) hHeld ?_
        change wpAnyH _ _ _ _ _ _ _ (Act.put _ (some 43) _) _
        simp only [Act.put, List.setIfInBounds_toArray, List.set_cons_zero, List.set_cons_succ]
        refine wpAnyH_ready (rs := [10]) (by kernel_rfl) (by simp) ?_
        refine AllReadyH.cons (o := _) rfl (fun K hK => ?_) AllReadyH.nil
        go_simp
        go_at_call 107
        refine (HC.out _ hHeld.2.1).mono ?_
        rintro e w44 ⟨rfl, hb⟩
        go_wp2_with fail
        refine hK.out _ _ ?_ (fun hHeld1 => ?_)
        · exact hs_call HF.out hb hHeld
        clear hK K hHeld
        have hHeld := hHeld1
        clear hHeld1
        clear hb
        refine wpAnyH_take (i := 11) (oi := _) (v := .bool false) rfl (by kernel_rfl) (by kernel_rfl) (by kernel_rfl) (fun _ _ _ h => h) (Or.inl ⟨by rfl, by intro w hSw; go_simp⟩) hHeld ?_
        change wpAnyH _ _ _ _ _ _ _ (Act.put _ (some 45) _) _
        simp only [Act.put, List.setIfInBounds_toArray, List.set_cons_zero, List.set_cons_succ]
        refine wpAnyH_done (by kernel_rfl) ?_ _
        have HBF := hide (HB.out.trans (hHeld.2.1.mono HB.out.size))
        clear hHeld
        go_wp2_with fail
        go_roundw
        case rel => exact ⟨j + 1, by omega, by go_num, HK.out hs, HBF.out⟩
        case measure => simp [intOf]; omega
      | false =>
        rw [hs] at HC
        refine wp_region_held_drew (S := fun W => (W.cell? ⟨w.heap.size, 2, none⟩ = some (.slice (some ⟨b, o, none⟩) ps.length cap) ∧ W.cell? ⟨w.heap.size + 1, 2, none⟩ = some (.slice (some ⟨b', o', none⟩) ps.length cap') ∧ W.rangeAt b (o + j * 18) (cel p) ∧ W.rangeAt b' (o' + j * 18) (cel q)) ∧ Below wr.heap.size wr W ∧ wr.heap.size ≤ W.heap.size) (by kernel_rfl) HS0.out (fun hHeld => ?_)
        refine wpAnyH_take (i := 0) (oi := _) (v := .pointer (some ⟨w.heap.size, 2, none⟩)) rfl (by kernel_rfl) (by kernel_rfl) (by kernel_rfl) (fun _ _ _ h => h) (Or.inl ⟨by rfl, by intro w hSw; go_simp⟩) hHeld ?_
        change wpAnyH _ _ _ _ _ _ _ (Act.put _ (some 34) _) _
        simp only [Act.put, List.setIfInBounds_toArray, List.set_cons_zero, List.set_cons_succ]
        refine wpAnyH_take (i := 1) (oi := _) (v := .slice (some ⟨b, o, none⟩) ps.length cap) rfl (by kernel_rfl) (by kernel_rfl) (by kernel_rfl) (fun _ _ _ h => h) (Or.inl ⟨by rfl, by intro w hSw; go_simp⟩) hHeld ?_
        change wpAnyH _ _ _ _ _ _ _ (Act.put _ (some 35) _) _
        simp only [Act.put, List.setIfInBounds_toArray, List.set_cons_zero, List.set_cons_succ]
        refine wpAnyH_take (i := 2) (oi := _) (v := .int .i64 (j : Int)) rfl (by kernel_rfl) (by kernel_rfl) (by kernel_rfl) (fun _ _ _ h => h) (Or.inl ⟨by rfl, by intro w hSw; go_simp⟩) hHeld ?_
        change wpAnyH _ _ _ _ _ _ _ (Act.put _ (some 36) _) _
        simp only [Act.put, List.setIfInBounds_toArray, List.set_cons_zero, List.set_cons_succ]
        refine wpAnyH_take (i := 3) (oi := _) (v := .pointer (some ⟨b, o + j * 18, none⟩)) rfl (by kernel_rfl) (by kernel_rfl) (by kernel_rfl) (fun _ _ _ h => h) (Or.inl ⟨by rfl, by intro w hSw; go_simp⟩) hHeld ?_
        change wpAnyH _ _ _ _ _ _ _ (Act.put _ (some 37) _) _
        simp only [Act.put, List.setIfInBounds_toArray, List.set_cons_zero, List.set_cons_succ]
        refine wpAnyH_take (i := 4) (oi := _) (v := _) rfl (by kernel_rfl) (by kernel_rfl) (by kernel_rfl) (fun _ _ _ h => h) (yieldsIf_load_mid (by rfl) _ _ rfl _ _ rfl (cel p) _ (fun W hW => hW.1.2.2.1) Tryz.underlying58 rfl (by kernel_rfl)) hHeld ?_
        change wpAnyH _ _ _ _ _ _ _ (Act.put _ (some 38) _) _
        simp only [Act.put, List.setIfInBounds_toArray, List.set_cons_zero, List.set_cons_succ]
        refine wpAnyH_take (i := 5) (oi := _) (v := .pointer (some ⟨w.heap.size + 1, 2, none⟩)) rfl (by kernel_rfl) (by kernel_rfl) (by kernel_rfl) (fun _ _ _ h => h) (Or.inl ⟨by rfl, by intro w hSw; go_simp⟩) hHeld ?_
        change wpAnyH _ _ _ _ _ _ _ (Act.put _ (some 39) _) _
        simp only [Act.put, List.setIfInBounds_toArray, List.set_cons_zero, List.set_cons_succ]
        refine wpAnyH_take (i := 6) (oi := _) (v := (.slice (some ⟨b', o', none⟩) ps.length cap')) rfl (by kernel_rfl) (by kernel_rfl) (by kernel_rfl) (fun _ _ _ h => h) (Or.inl ⟨by rfl, by intro w hSw; go_simp⟩) hHeld ?_
        change wpAnyH _ _ _ _ _ _ _ (Act.put _ (some 40) _) _
        simp only [Act.put, List.setIfInBounds_toArray, List.set_cons_zero, List.set_cons_succ]
        refine wpAnyH_take (i := 7) (oi := _) (v := .int .i64 (j : Int)) rfl (by kernel_rfl) (by kernel_rfl) (by kernel_rfl) (fun _ _ _ h => h) (Or.inl ⟨by rfl, by intro w hSw; go_simp⟩) hHeld ?_
        change wpAnyH _ _ _ _ _ _ _ (Act.put _ (some 41) _) _
        simp only [Act.put, List.setIfInBounds_toArray, List.set_cons_zero, List.set_cons_succ]
        refine wpAnyH_take (i := 8) (oi := _) (v := .pointer (some ⟨b', o' + j * 18, none⟩)) rfl (by kernel_rfl) (by kernel_rfl) (by kernel_rfl) (fun _ _ _ h => h) (Or.inl ⟨by rfl, by intro w hSw; go_simp⟩) hHeld ?_
        change wpAnyH _ _ _ _ _ _ _ (Act.put _ (some 42) _) _
        simp only [Act.put, List.setIfInBounds_toArray, List.set_cons_zero, List.set_cons_succ]
        refine wpAnyH_take (i := 9) (oi := _) (v := _) rfl (by kernel_rfl) (by kernel_rfl) (by kernel_rfl) (fun _ _ _ h => h) (yieldsIf_load_mid (by rfl) _ _ rfl _ _ rfl (cel q) _ (fun W hW => hW.1.2.2.2) Tryz.underlying58 rfl (by kernel_rfl)) hHeld ?_
        change wpAnyH _ _ _ _ _ _ _ (Act.put _ (some 43) _) _
        simp only [Act.put, List.setIfInBounds_toArray, List.set_cons_zero, List.set_cons_succ]
        refine wpAnyH_ready (rs := [10]) (by kernel_rfl) (by simp) ?_
        refine AllReadyH.cons (o := _) rfl (fun K hK => ?_) AllReadyH.nil
        go_simp
        go_at_call 107
        refine (HC.out _ hHeld.2.1).mono ?_
        rintro e w44 ⟨rfl, hb⟩
        go_wp2_with fail
        refine hK.out _ _ ?_ (fun hHeld1 => ?_)
        · exact hs_call HF.out hb hHeld
        clear hK K hHeld
        have hHeld := hHeld1
        clear hHeld1
        clear hb
        refine wpAnyH_take (i := 11) (oi := _) (v := .bool true) rfl (by kernel_rfl) (by kernel_rfl) (by kernel_rfl) (fun _ _ _ h => h) (Or.inl ⟨by rfl, by intro w hSw; go_simp⟩) hHeld ?_
        change wpAnyH _ _ _ _ _ _ _ (Act.put _ (some 45) _) _
        simp only [Act.put, List.setIfInBounds_toArray, List.set_cons_zero, List.set_cons_succ]
        refine wpAnyH_done (by kernel_rfl) ?_ _
        have HBF := hide (HB0.out.trans ((HB.out.trans (hHeld.2.1.mono HB.out.size)).mono HB0.out.size))
        clear hHeld
        go_wp2_with fail
        go_ret
        exact ⟨ret_b (HN.out hs), HBF.out⟩
    · obtain rfl : j = ps.length := by omega
      have hf := sameL_yes HLE.out HA.out
      have HBF := hide (HB0.out.trans (HB.out.mono HB0.out.size))
      clear hlt HR HR' HW HW' HL
      go_wp2_with fail
      go_ret
      exact ⟨ret_b hf, HBF.out⟩
theorem rbsame_any {okb ok okb' ok' : Nat → Prop} (x y : Bt) (v u : Value) (w : World) (hv : IsB okb ok w v x) (hu : IsB okb' ok' w u y) (hn : x.rs.length ≤ 100000) (hln : ∀ r ∈ x.rs, LnR r) : Calls Tryz.prog 70 #[v, u] w fun e w' => e = .returned (.bool (sameBt x y)) ∧ Below w.heap.size w w' := by
  obtain ⟨t, b, rs⟩ := x
  obtain ⟨t', b', rs'⟩ := y
  obtain ⟨a1, ps, rfl, h2, h3⟩ := hv
  obtain ⟨a2, qs, rfl, k2, k3⟩ := hu
  simp only at h3 k3 hn hln
  subst h3 k3
  obtain ⟨ao, cap, rfl⟩ := h2.form
  obtain ⟨bo, cap', rfl⟩ := k2.form
  by_cases hs : t = t' ∧ b = b' ∧ ps.length = qs.length
  · obtain ⟨rfl, rfl, hl⟩ := hs
    have e : sameBt ⟨t, b, rcl ps⟩ ⟨t, b, rcl qs⟩ = sameL (rcl ps) (rcl qs) := by unfold sameBt; simp
    rw [e]
    by_cases h0 : 0 < ps.length
    · obtain ⟨g, o, rfl, h4⟩ := h2.rg h0
      obtain ⟨g', o', rfl, k4⟩ := k2.rg (by omega)
      rw [← hl]
      exact rbsame_some t b g o cap g' o' cap' ps qs w hl (by rwa [rcl_len] at hn) h4 h2.2 k4 k2.2 (fun p hp => hln p.1 (List.mem_map.2 ⟨p, hp, rfl⟩))
    · have e1 : ps = [] := List.length_eq_zero_iff.1 (by omega)
      have e2 : qs = [] := List.length_eq_zero_iff.1 (by omega)
      subst e1 e2
      exact rbsame_none t b ao bo cap cap' w
  · have e : sameBt ⟨t, b, rcl ps⟩ ⟨t', b', rcl qs⟩ = false := by
      unfold sameBt
      by_cases h1 : t = t'
      · by_cases h4 : b = b'
        · rw [sameL_len (by rw [rcl_len, rcl_len]; exact fun q => hs ⟨h1, h4, q⟩)]
          simp
        · simp [h4]
      · simp [h1]
    rw [e]
    exact rbsame_short t b t' b' ao bo _ _ cap cap' w hs
end Go.Proofs.YtkpknkhacmggnaaGreatDoor
