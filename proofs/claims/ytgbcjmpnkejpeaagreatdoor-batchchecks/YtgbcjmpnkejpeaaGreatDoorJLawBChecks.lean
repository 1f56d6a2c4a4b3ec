/-
  BatchChecks' WALK: whether any batch may be, whether two are the same, and a copy. Conditions: the records' cells hold them; errors.errorType is laid.
-/
import Derived.Test.YtgbcjmpnkejpeaaGreatDoorJBatBy
import Derived.Test.YtgbcjmpnkejpeaaGreatDoorJBatWk
import Derived.Test.YtgbcjmpnkejpeaaGreatDoorJBatWr
import Derived.Test.YtgbcjmpnkejpeaaGreatDoorJBatSma2
import Derived.Test.YtgbcjmpnkejpeaaGreatDoorJBatSr
namespace Go.Proofs.YtgbcjmpnkejpeaaGreatDoor
open Go.RowKit

theorem sh_lnc {r : Rc} (h : shB r = true) : LnR r := by
  unfold shB at h
  simp only [decide_eq_true_eq] at h
  exact ⟨by omega, by omega, by omega, by omega⟩
set_option maxRecDepth 100000 in
set_option maxHeartbeats 16000000 in
theorem bchks_long {ok ok' : Nat → Prop} (t bs t' bs' : Int) (ao bo : Option Addr) (cap cap' : Nat) (ps qs : List Rp) (w : World) (hv : Rl (fun _ => True) ok w (.slice ao ps.length cap) ps) (hu : Rl (fun _ => True) ok' w (.slice bo qs.length cap') qs) (hg : Hnd w) (h : shL (rcl ps) = false ∨ shL (rcl qs) = false) :
    Calls Tryz.prog 4 #[.agg #[.int .i64 t, .int .i64 bs, .slice ao ps.length cap], .agg #[.int .i64 t', .int .i64 bs', .slice bo qs.length cap']] w fun e w' => e = .returned (.bool true) ∧ Below w.heap.size w w' := by
  have HV := hide hv
  have HU := hide hu
  have HG := hide hg
  have HB0 : Hid (Below w.heap.size w ((w.alloc (.cells #[.int .i64 t, .int .i64 bs, .slice ao ps.length cap] 48)).alloc (.cells #[.int .i64 t', .int .i64 bs', .slice bo qs.length cap'] 48))) := hide (((Below.refl _ _).alloc (Nat.le_refl _) _).alloc (by simp) _)
  have HX := hide (six_in w (.int .i64 t) (.int .i64 bs) (.slice ao ps.length cap) (.int .i64 t') (.int .i64 bs') (.slice bo qs.length cap') (X := ((w.alloc (.cells #[.int .i64 t, .int .i64 bs, .slice ao ps.length cap] 48)).alloc (.cells #[.int .i64 t', .int .i64 bs', .slice bo qs.length cap'] 48))) rfl)
  have HSA := hide (fun W (h : Below w.heap.size w W) => bshort_any (.slice ao ps.length cap) ps W (HV.out.below h))
  have HSB := hide (fun W (h : Below w.heap.size w W) => bshort_any (.slice bo qs.length cap') qs W (HU.out.below h))
  have HWK := hide (fun W (h : Below w.heap.size w W) => bworks_any W (HG.out.below h))
  clear hv hu hg
  cases hs : shL (rcl ps) with
  | false =>
    rw [hs] at HSA
    clear h HSB
    go_enter Tryz.func4, Tryz.ntmps4
    go_wp2_with (first | (go_at_call 18; refine (HSA.out _ HB0.out).mono ?_; rintro e V1 ⟨rfl, hb1⟩; have HB1 := hide (HB0.out.trans (hb1.mono HB0.out.size)); obtain ⟨⟨_, _, _⟩, _, _, e2⟩ := HX.out V1 hb1; clear hb1) | (go_at_call 19; refine (HWK.out _ HB1.out).mono ?_; rintro e V9 ⟨rfl, hb9⟩; have HB9 := hide (HB1.out.trans (hb9.mono HB1.out.size)); clear hb9))
    go_ret
    exact ⟨rfl, HB9.out⟩
  | true =>
    have h2 : shL (rcl qs) = false := by rcases h with h | h; (rw [hs] at h; cases h); (exact h)
    rw [hs] at HSA
    rw [h2] at HSB
    clear h
    go_enter Tryz.func4, Tryz.ntmps4
    go_upto_region 1 with fail
    generalize ((w.alloc (.cells #[.int .i64 t, .int .i64 bs, .slice ao ps.length cap] 48)).alloc (.cells #[.int .i64 t', .int .i64 bs', .slice bo qs.length cap'] 48)) = Y at HB0 HX ⊢
    obtain ⟨⟨j0, j1, j2⟩, k0, k1, k2⟩ := HX.out Y (Below.refl _ _)
    have H1 := hide (HSA.out Y HB0.out)
    clear HSA
    go_wp2_with fail
    refine H1.out.mono ?_
    rintro e V1 ⟨rfl, hb1⟩
    have HB1 := hide (HB0.out.trans (hb1.mono HB0.out.size))
    clear j0 j1 j2 k0 k1 k2
    obtain ⟨⟨j0, j1, j2⟩, k0, k1, k2⟩ := HX.out V1 hb1
    clear hb1
    have H2 := hide (HSB.out V1 HB1.out)
    go_wp2_with fail
    refine H2.out.mono ?_
    rintro e V2 ⟨rfl, hb2⟩
    have HB2 := hide (HB1.out.trans (hb2.mono HB1.out.size))
    clear hb2
    go_wp2_with (first | (go_at_call 19; refine (HWK.out _ HB2.out).mono ?_; rintro e V9 ⟨rfl, hb9⟩; have HB9 := hide (HB2.out.trans (hb9.mono HB2.out.size)); clear hb9))
    go_ret
    exact ⟨rfl, HB9.out⟩
set_option maxRecDepth 100000 in
set_option maxHeartbeats 64000000 in
theorem bchks_go {ok ok' : Nat → Prop} (t bs t' bs' : Int) (ao bo : Option Addr) (cap cap' : Nat) (ps qs : List Rp) (w : World) (hv : Rl (fun _ => True) ok w (.slice ao ps.length cap) ps) (hu : Rl (fun _ => True) ok' w (.slice bo qs.length cap') qs) (hg : Hnd w) (hs : shL (rcl ps) = true) (hs' : shL (rcl qs) = true) :
    Calls Tryz.prog 4 #[.agg #[.int .i64 t, .int .i64 bs, .slice ao ps.length cap], .agg #[.int .i64 t', .int .i64 bs', .slice bo qs.length cap']] w fun e w' => e = .returned (.bool true) ∧ Below w.heap.size w w' := by
  have HV := hide hv
  have HU := hide hu
  have HG := hide hg
  have HB0 : Hid (Below w.heap.size w ((w.alloc (.cells #[.int .i64 t, .int .i64 bs, .slice ao ps.length cap] 48)).alloc (.cells #[.int .i64 t', .int .i64 bs', .slice bo qs.length cap'] 48))) := hide (((Below.refl _ _).alloc (Nat.le_refl _) _).alloc (by simp) _)
  have HX := hide (six_in w (.int .i64 t) (.int .i64 bs) (.slice ao ps.length cap) (.int .i64 t') (.int .i64 bs') (.slice bo qs.length cap') (X := ((w.alloc (.cells #[.int .i64 t, .int .i64 bs, .slice ao ps.length cap] 48)).alloc (.cells #[.int .i64 t', .int .i64 bs', .slice bo qs.length cap'] 48))) rfl)
  have HSA := hide (fun W (h : Below w.heap.size w W) => bshort_any (.slice ao ps.length cap) ps W (HV.out.below h))
  have HSB := hide (fun W (h : Below w.heap.size w W) => bshort_any (.slice bo qs.length cap') qs W (HU.out.below h))
  have HWK := hide (fun W (h : Below w.heap.size w W) => bworks_any W (HG.out.below h))
  clear hv hu hg
  rw [hs] at HSA
  rw [hs'] at HSB
  have htx : ∀ r ∈ (Bt.mk t bs (rcl ps)).rs, TxR r := fun r hr => sh_tx ((shL_is hs).2 r hr)
  have hln : ∀ r ∈ (Bt.mk t bs (rcl ps)).rs, LnR r := fun r hr => sh_lnc ((shL_is hs).2 r hr)
  have hnn : (Bt.mk t bs (rcl ps)).rs.length ≤ 100000 := by have := (shL_is hs).1; show (rcl ps).length ≤ _; omega
  have HIA : Hid (∀ W, Below w.heap.size w W → IsB (fun _ => True) ok W (.agg #[.int .i64 t, .int .i64 bs, .slice ao ps.length cap]) ⟨t, bs, rcl ps⟩) := hide (fun W h => ⟨_, ps, rfl, HV.out.below h, rfl⟩)
  have HIB : Hid (∀ W, Below w.heap.size w W → IsB (fun _ => True) ok' W (.agg #[.int .i64 t', .int .i64 bs', .slice bo qs.length cap']) ⟨t', bs', rcl qs⟩) := hide (fun W h => ⟨_, qs, rfl, HU.out.below h, rfl⟩)
  have HCK := hide (fun W (h : Below w.heap.size w W) => bcheck_any ⟨t, bs, rcl ps⟩ _ W (HIA.out W h) htx)
  have HRC := hide (fun W (h : Below w.heap.size w W) => rbcheck_any ⟨t, bs, rcl ps⟩ _ W (HIA.out W h) htx)
  have HWR := hide (fun W (h : Below w.heap.size w W) => bwrong_any ⟨t, bs, rcl ps⟩ W (HG.out.below h))
  have HS1 := hide (fun W (h : Below w.heap.size w W) => bsame_any ⟨t, bs, rcl ps⟩ ⟨t', bs', rcl qs⟩ _ _ W (HIA.out W h) (HIB.out W h) hnn hln)
  have HS2 := hide (fun W (h : Below w.heap.size w W) => rbsame_any ⟨t, bs, rcl ps⟩ ⟨t', bs', rcl qs⟩ _ _ W (HIA.out W h) (HIB.out W h) hnn hln)
  have HCP := hide (fun W (h : Below w.heap.size w W) => copy_any ⟨t, bs, rcl ps⟩ _ W (HIA.out W h) hnn hln)
  have HOF := hide (fun W (h : Below w.heap.size w W) => of_any t bs _ ps W (HV.out.below h) (by rw [← rcl_len]; exact hnn) (fun p hp => hln p.1 (List.mem_map.2 ⟨p, hp, rfl⟩)))
  have HSS : Hid (∀ W (h : Below w.heap.size w W) v (okb2 ok2 : Nat → Prop), IsB okb2 ok2 W v ⟨t, bs, rcl ps⟩ → Calls Tryz.prog 24 #[v, .agg #[.int .i64 t, .int .i64 bs, .slice ao ps.length cap]] W fun e w' => e = .returned (.bool true) ∧ Below W.heap.size W w') := hide (fun W h v _ _ hx => by
    have := rbsame_any ⟨t, bs, rcl ps⟩ ⟨t, bs, rcl ps⟩ v _ W hx (HIA.out W h) hnn hln
    rw [sameBt_self] at this
    exact this)
  generalize hE : erB (bw ⟨t, bs, rcl ps⟩) = E at *
  generalize hR : wrB (bw ⟨t, bs, rcl ps⟩) = R at *
  generalize sameBt ⟨t, bs, rcl ps⟩ ⟨t', bs', rcl qs⟩ = sb at *
  clear hE hR hs hs' htx hln hnn
  go_enter Tryz.func4, Tryz.ntmps4
  go_upto_region 1 with fail
  generalize ((w.alloc (.cells #[.int .i64 t, .int .i64 bs, .slice ao ps.length cap] 48)).alloc (.cells #[.int .i64 t', .int .i64 bs', .slice bo qs.length cap'] 48)) = Y at HB0 HX ⊢
  obtain ⟨⟨j0, j1, j2⟩, k0, k1, k2⟩ := HX.out Y (Below.refl _ _)
  have H1 := hide (HSA.out Y HB0.out)
  clear HSA
  go_wp2_with fail
  refine H1.out.mono ?_
  rintro e V1 ⟨rfl, hb1⟩
  have HB1 := hide (HB0.out.trans (hb1.mono HB0.out.size))
  clear j0 j1 j2 k0 k1 k2
  obtain ⟨⟨j0, j1, j2⟩, k0, k1, k2⟩ := HX.out V1 hb1
  have H2 := hide (HSB.out V1 HB1.out)
  clear HSB H1
  go_wp2_with fail
  refine H2.out.mono ?_
  rintro e V2 ⟨rfl, hb2⟩
  have HB2 := hide (HB1.out.trans (hb2.mono HB1.out.size))
  have HX2 := hide (hb1.trans (hb2.mono hb1.size))
  clear j0 j1 j2 k0 k1 k2 hb1 hb2 H2
  go_upto_region 3 with fail
  have HFF : Hid (∀ W, Below V2.heap.size V2 W → (fun W : World => ((W.cell? ⟨w.heap.size, 0, none⟩ = some (.int .i64 t) ∧ W.cell? ⟨w.heap.size, 1, none⟩ = some (.int .i64 bs) ∧ W.cell? ⟨w.heap.size, 2, none⟩ = some (.slice ao ps.length cap)) ∧ (W.cell? ⟨w.heap.size + 1, 0, none⟩ = some (.int .i64 t') ∧ W.cell? ⟨w.heap.size + 1, 1, none⟩ = some (.int .i64 bs') ∧ W.cell? ⟨w.heap.size + 1, 2, none⟩ = some (.slice bo qs.length cap')))) W) := hide (fun W h => HX.out W (HX2.out.trans (h.mono HX2.out.size)))
  have HS0 := hide (hs_drew HFF.out (Nat.le_refl _))
  have HBB : Hid (∀ W, Below V2.heap.size V2 W → Below w.heap.size w W) := hide (fun W h => HB2.out.trans (h.mono HB2.out.size))
  clear HIA HIB HX HX2 HU HV
  refine wp_region_held_drew (S := fun W => ((W.cell? ⟨w.heap.size, 0, none⟩ = some (.int .i64 t) ∧ W.cell? ⟨w.heap.size, 1, none⟩ = some (.int .i64 bs) ∧ W.cell? ⟨w.heap.size, 2, none⟩ = some (.slice ao ps.length cap)) ∧ (W.cell? ⟨w.heap.size + 1, 0, none⟩ = some (.int .i64 t') ∧ W.cell? ⟨w.heap.size + 1, 1, none⟩ = some (.int .i64 bs') ∧ W.cell? ⟨w.heap.size + 1, 2, none⟩ = some (.slice bo qs.length cap'))) ∧ Below V2.heap.size V2 W ∧ V2.heap.size ≤ W.heap.size) (by kernel_rfl) HS0.out (fun hHeld => ?_)
  refine wpAnyH_take (i := 0) (oi := _) (v := .agg #[.int .i64 t, .int .i64 bs, .slice ao ps.length cap]) rfl (by kernel_rfl) (by kernel_rfl) (by kernel_rfl) (fun _ _ _ h => h) (Or.inl ⟨by rfl, by intro w hSw; obtain ⟨⟨⟨s0, s1, s2⟩, ⟨t0, t1, t2⟩⟩, _⟩ := hSw; go_simp⟩) hHeld ?_
  change wpAnyH _ _ _ _ _ _ _ (Act.put _ (some 16) _) _
  simp only [Act.put, List.setIfInBounds_toArray, List.set_cons_zero, List.set_cons_succ]
  refine wpAnyH_take (i := 2) (oi := _) (v := .agg #[.int .i64 t, .int .i64 bs, .slice ao ps.length cap]) rfl (by kernel_rfl) (by kernel_rfl) (by kernel_rfl) (fun _ _ _ h => h) (Or.inl ⟨by rfl, by intro w hSw; obtain ⟨⟨⟨s0, s1, s2⟩, ⟨t0, t1, t2⟩⟩, _⟩ := hSw; go_simp⟩) hHeld ?_
  change wpAnyH _ _ _ _ _ _ _ (Act.put _ (some 18) _) _
  simp only [Act.put, List.setIfInBounds_toArray, List.set_cons_zero, List.set_cons_succ]
  refine wpAnyH_ready (rs := [1]) (by kernel_rfl) (by simp) ?_
  refine AllReadyH.cons (o := _) rfl (fun K hK => ?_) AllReadyH.nil
  go_simp
  go_at_call 21
  refine (HCK.out _ (HBB.out _ hHeld.2.1)).mono ?_
  rintro e w17 ⟨rfl, hb⟩
  go_wp2_with fail
  refine hK.out _ _ ?_ (fun hHeld1 => ?_)
  · exact hs_call HFF.out hb hHeld
  clear hK K hHeld
  have hHeld := hHeld1
  clear hHeld1
  clear hb
  refine wpAnyH_ready (rs := [3]) (by kernel_rfl) (by simp) ?_
  refine AllReadyH.cons (o := _) rfl (fun K hK => ?_) AllReadyH.nil
  go_simp
  go_at_call 22
  refine (HRC.out _ (HBB.out _ hHeld.2.1)).mono ?_
  rintro e w19 ⟨rfl, hb⟩
  go_wp2_with fail
  refine hK.out _ _ ?_ (fun hHeld1 => ?_)
  · exact hs_call HFF.out hb hHeld
  clear hK K hHeld
  have hHeld := hHeld1
  clear hHeld1
  clear hb
  refine wpAnyH_ready (rs := [4]) (by kernel_rfl) (by simp) ?_
  refine AllReadyH.cons (o := _) rfl (fun K hK => ?_) AllReadyH.nil
  go_simp
  go_at_call 20
  refine (HWR.out _ (HBB.out _ hHeld.2.1)).mono ?_
  rintro e w20 ⟨rfl, hb⟩
  go_wp2_with fail
  refine hK.out _ _ ?_ (fun hHeld1 => ?_)
  · exact hs_call HFF.out hb hHeld
  clear hK K hHeld
  have hHeld := hHeld1
  clear hHeld1
  clear hb
  refine wpAnyH_take (i := 5) (oi := _) (v := .bool true) rfl (by kernel_rfl) (by kernel_rfl) (by kernel_rfl) (fun _ _ _ h => h) (Or.inl ⟨by rfl, by intro w hSw; go_simp⟩) hHeld ?_
  change wpAnyH _ _ _ _ _ _ _ (Act.put _ (some 21) _) _
  simp only [Act.put, List.setIfInBounds_toArray, List.set_cons_zero, List.set_cons_succ]
  refine wpAnyH_take (i := 6) (oi := _) (v := .agg #[.int .i64 t, .int .i64 bs, .slice ao ps.length cap]) rfl (by kernel_rfl) (by kernel_rfl) (by kernel_rfl) (fun _ _ _ h => h) (Or.inl ⟨by rfl, by intro w hSw; obtain ⟨⟨⟨s0, s1, s2⟩, ⟨t0, t1, t2⟩⟩, _⟩ := hSw; go_simp⟩) hHeld ?_
  change wpAnyH _ _ _ _ _ _ _ (Act.put _ (some 22) _) _
  simp only [Act.put, List.setIfInBounds_toArray, List.set_cons_zero, List.set_cons_succ]
  refine wpAnyH_take (i := 7) (oi := _) (v := .agg #[.int .i64 t', .int .i64 bs', .slice bo qs.length cap']) rfl (by kernel_rfl) (by kernel_rfl) (by kernel_rfl) (fun _ _ _ h => h) (Or.inl ⟨by rfl, by intro w hSw; obtain ⟨⟨⟨s0, s1, s2⟩, ⟨t0, t1, t2⟩⟩, _⟩ := hSw; go_simp⟩) hHeld ?_
  change wpAnyH _ _ _ _ _ _ _ (Act.put _ (some 23) _) _
  simp only [Act.put, List.setIfInBounds_toArray, List.set_cons_zero, List.set_cons_succ]
  refine wpAnyH_take (i := 9) (oi := _) (v := .agg #[.int .i64 t, .int .i64 bs, .slice ao ps.length cap]) rfl (by kernel_rfl) (by kernel_rfl) (by kernel_rfl) (fun _ _ _ h => h) (Or.inl ⟨by rfl, by intro w hSw; obtain ⟨⟨⟨s0, s1, s2⟩, ⟨t0, t1, t2⟩⟩, _⟩ := hSw; go_simp⟩) hHeld ?_
  change wpAnyH _ _ _ _ _ _ _ (Act.put _ (some 25) _) _
  simp only [Act.put, List.setIfInBounds_toArray, List.set_cons_zero, List.set_cons_succ]
  refine wpAnyH_take (i := 10) (oi := _) (v := .agg #[.int .i64 t', .int .i64 bs', .slice bo qs.length cap']) rfl (by kernel_rfl) (by kernel_rfl) (by kernel_rfl) (fun _ _ _ h => h) (Or.inl ⟨by rfl, by intro w hSw; obtain ⟨⟨⟨s0, s1, s2⟩, ⟨t0, t1, t2⟩⟩, _⟩ := hSw; go_simp⟩) hHeld ?_
  change wpAnyH _ _ _ _ _ _ _ (Act.put _ (some 26) _) _
  simp only [Act.put, List.setIfInBounds_toArray, List.set_cons_zero, List.set_cons_succ]
  refine wpAnyH_ready (rs := [8]) (by kernel_rfl) (by simp) ?_
  refine AllReadyH.cons (o := _) rfl (fun K hK => ?_) AllReadyH.nil
  go_simp
  go_at_call 23
  refine (HS1.out _ (HBB.out _ hHeld.2.1)).mono ?_
  rintro e w24 ⟨rfl, hb⟩
  go_wp2_with fail
  refine hK.out _ _ ?_ (fun hHeld1 => ?_)
  · exact hs_call HFF.out hb hHeld
  clear hK K hHeld
  have hHeld := hHeld1
  clear hHeld1
  clear hb
  refine wpAnyH_ready (rs := [11]) (by kernel_rfl) (by simp) ?_
  refine AllReadyH.cons (o := _) rfl (fun K hK => ?_) AllReadyH.nil
  go_simp
  go_at_call 24
  refine (HS2.out _ (HBB.out _ hHeld.2.1)).mono ?_
  rintro e w27 ⟨rfl, hb⟩
  go_wp2_with fail
  refine hK.out _ _ ?_ (fun hHeld1 => ?_)
  · exact hs_call HFF.out hb hHeld
  clear hK K hHeld
  have hHeld := hHeld1
  clear hHeld1
  clear hb
  refine wpAnyH_take (i := 12) (oi := _) (v := .bool true) rfl (by kernel_rfl) (by kernel_rfl) (by kernel_rfl) (fun _ _ _ h => h) (Or.inl ⟨by rfl, by intro w hSw; go_simp⟩) hHeld ?_
  change wpAnyH _ _ _ _ _ _ _ (Act.put _ (some 28) _) _
  simp only [Act.put, List.setIfInBounds_toArray, List.set_cons_zero, List.set_cons_succ]
  refine wpAnyH_take (i := 13) (oi := _) (v := .bool true) rfl (by kernel_rfl) (by kernel_rfl) (by kernel_rfl) (fun _ _ _ h => h) (Or.inl ⟨by rfl, by intro w hSw; go_simp⟩) hHeld ?_
  change wpAnyH _ _ _ _ _ _ _ (Act.put _ (some 29) _) _
  simp only [Act.put, List.setIfInBounds_toArray, List.set_cons_zero, List.set_cons_succ]
  refine wpAnyH_take (i := 14) (oi := _) (v := .bool true) rfl (by kernel_rfl) (by kernel_rfl) (by kernel_rfl) (fun _ _ _ h => h) (Or.inl ⟨by rfl, by intro w hSw; go_simp⟩) hHeld ?_
  change wpAnyH _ _ _ _ _ _ _ (Act.put _ (some 30) _) _
  simp only [Act.put, List.setIfInBounds_toArray, List.set_cons_zero, List.set_cons_succ]
  refine wpAnyH_take (i := 15) (oi := _) (v := .agg #[.int .i64 t, .int .i64 bs, .slice ao ps.length cap]) rfl (by kernel_rfl) (by kernel_rfl) (by kernel_rfl) (fun _ _ _ h => h) (Or.inl ⟨by rfl, by intro w hSw; obtain ⟨⟨⟨s0, s1, s2⟩, ⟨t0, t1, t2⟩⟩, _⟩ := hSw; go_simp⟩) hHeld ?_
  change wpAnyH _ _ _ _ _ _ _ (Act.put _ (some 31) _) _
  simp only [Act.put, List.setIfInBounds_toArray, List.set_cons_zero, List.set_cons_succ]
  refine wpAnyH_take (i := 17) (oi := _) (v := .agg #[.int .i64 t, .int .i64 bs, .slice ao ps.length cap]) rfl (by kernel_rfl) (by kernel_rfl) (by kernel_rfl) (fun _ _ _ h => h) (Or.inl ⟨by rfl, by intro w hSw; obtain ⟨⟨⟨s0, s1, s2⟩, ⟨t0, t1, t2⟩⟩, _⟩ := hSw; go_simp⟩) hHeld ?_
  change wpAnyH _ _ _ _ _ _ _ (Act.put _ (some 33) _) _
  simp only [Act.put, List.setIfInBounds_toArray, List.set_cons_zero, List.set_cons_succ]
  refine wpAnyH_ready (rs := [16]) (by kernel_rfl) (by simp) ?_
  refine AllReadyH.cons (o := _) rfl (fun K hK => ?_) AllReadyH.nil
  go_simp
  go_at_call 25
  refine (HCP.out _ (HBB.out _ hHeld.2.1)).mono ?_
  rintro e w32 ⟨v32, rfl, hx32, hb⟩
  go_wp2_with fail
  refine hK.out _ _ ?_ (fun hHeld1 => ?_)
  · exact hs_call HFF.out hb hHeld
  clear hK K hHeld
  have hHeld := hHeld1
  clear hHeld1
  have HX32 := hide hx32
  clear hx32
  clear hb
  refine wpAnyH_ready (rs := [18]) (by kernel_rfl) (by simp) ?_
  refine AllReadyH.cons (o := _) rfl (fun K hK => ?_) AllReadyH.nil
  go_simp
  go_at_call 24
  refine (HSS.out _ (HBB.out _ hHeld.2.1) _ _ _ HX32.out).mono ?_
  rintro e w34 ⟨rfl, hb⟩
  go_wp2_with fail
  refine hK.out _ _ ?_ (fun hHeld1 => ?_)
  · exact hs_call HFF.out hb hHeld
  clear hK K hHeld
  have hHeld := hHeld1
  clear hHeld1
  clear HX32
  clear hb
  refine wpAnyH_take (i := 19) (oi := _) (v := .bool true) rfl (by kernel_rfl) (by kernel_rfl) (by kernel_rfl) (fun _ _ _ h => h) (Or.inl ⟨by rfl, by intro w hSw; go_simp⟩) hHeld ?_
  change wpAnyH _ _ _ _ _ _ _ (Act.put _ (some 35) _) _
  simp only [Act.put, List.setIfInBounds_toArray, List.set_cons_zero, List.set_cons_succ]
  refine wpAnyH_take (i := 20) (oi := _) (v := .bool true) rfl (by kernel_rfl) (by kernel_rfl) (by kernel_rfl) (fun _ _ _ h => h) (Or.inl ⟨by rfl, by intro w hSw; go_simp⟩) hHeld ?_
  change wpAnyH _ _ _ _ _ _ _ (Act.put _ (some 36) _) _
  simp only [Act.put, List.setIfInBounds_toArray, List.set_cons_zero, List.set_cons_succ]
  refine wpAnyH_take (i := 21) (oi := _) (v := .pointer (some ⟨w.heap.size, 0, none⟩)) rfl (by kernel_rfl) (by kernel_rfl) (by kernel_rfl) (fun _ _ _ h => h) (Or.inl ⟨by rfl, by intro w hSw; go_simp⟩) hHeld ?_
  change wpAnyH _ _ _ _ _ _ _ (Act.put _ (some 37) _) _
  simp only [Act.put, List.setIfInBounds_toArray, List.set_cons_zero, List.set_cons_succ]
  refine wpAnyH_take (i := 22) (oi := _) (v := .int .i64 t) rfl (by kernel_rfl) (by kernel_rfl) (by kernel_rfl) (fun _ _ _ h => h) (Or.inl ⟨by rfl, by intro w hSw; obtain ⟨⟨⟨s0, s1, s2⟩, ⟨t0, t1, t2⟩⟩, _⟩ := hSw; go_simp⟩) hHeld ?_
  change wpAnyH _ _ _ _ _ _ _ (Act.put _ (some 38) _) _
  simp only [Act.put, List.setIfInBounds_toArray, List.set_cons_zero, List.set_cons_succ]
  refine wpAnyH_take (i := 23) (oi := _) (v := .pointer (some ⟨w.heap.size, 1, none⟩)) rfl (by kernel_rfl) (by kernel_rfl) (by kernel_rfl) (fun _ _ _ h => h) (Or.inl ⟨by rfl, by intro w hSw; go_simp⟩) hHeld ?_
  change wpAnyH _ _ _ _ _ _ _ (Act.put _ (some 39) _) _
  simp only [Act.put, List.setIfInBounds_toArray, List.set_cons_zero, List.set_cons_succ]
  refine wpAnyH_take (i := 24) (oi := _) (v := .int .i64 bs) rfl (by kernel_rfl) (by kernel_rfl) (by kernel_rfl) (fun _ _ _ h => h) (Or.inl ⟨by rfl, by intro w hSw; obtain ⟨⟨⟨s0, s1, s2⟩, ⟨t0, t1, t2⟩⟩, _⟩ := hSw; go_simp⟩) hHeld ?_
  change wpAnyH _ _ _ _ _ _ _ (Act.put _ (some 40) _) _
  simp only [Act.put, List.setIfInBounds_toArray, List.set_cons_zero, List.set_cons_succ]
  refine wpAnyH_take (i := 25) (oi := _) (v := .pointer (some ⟨w.heap.size, 2, none⟩)) rfl (by kernel_rfl) (by kernel_rfl) (by kernel_rfl) (fun _ _ _ h => h) (Or.inl ⟨by rfl, by intro w hSw; go_simp⟩) hHeld ?_
  change wpAnyH _ _ _ _ _ _ _ (Act.put _ (some 41) _) _
  simp only [Act.put, List.setIfInBounds_toArray, List.set_cons_zero, List.set_cons_succ]
  refine wpAnyH_take (i := 26) (oi := _) (v := .slice ao ps.length cap) rfl (by kernel_rfl) (by kernel_rfl) (by kernel_rfl) (fun _ _ _ h => h) (Or.inl ⟨by rfl, by intro w hSw; obtain ⟨⟨⟨s0, s1, s2⟩, ⟨t0, t1, t2⟩⟩, _⟩ := hSw; go_simp⟩) hHeld ?_
  change wpAnyH _ _ _ _ _ _ _ (Act.put _ (some 42) _) _
  simp only [Act.put, List.setIfInBounds_toArray, List.set_cons_zero, List.set_cons_succ]
  refine wpAnyH_take (i := 28) (oi := _) (v := .agg #[.int .i64 t, .int .i64 bs, .slice ao ps.length cap]) rfl (by kernel_rfl) (by kernel_rfl) (by kernel_rfl) (fun _ _ _ h => h) (Or.inl ⟨by rfl, by intro w hSw; obtain ⟨⟨⟨s0, s1, s2⟩, ⟨t0, t1, t2⟩⟩, _⟩ := hSw; go_simp⟩) hHeld ?_
  change wpAnyH _ _ _ _ _ _ _ (Act.put _ (some 44) _) _
  simp only [Act.put, List.setIfInBounds_toArray, List.set_cons_zero, List.set_cons_succ]
  refine wpAnyH_ready (rs := [27]) (by kernel_rfl) (by simp) ?_
  refine AllReadyH.cons (o := _) rfl (fun K hK => ?_) AllReadyH.nil
  go_simp
  go_at_call 26
  refine (HOF.out _ (HBB.out _ hHeld.2.1)).mono ?_
  rintro e w43 ⟨v43, rfl, hx43, hb⟩
  go_wp2_with fail
  refine hK.out _ _ ?_ (fun hHeld1 => ?_)
  · exact hs_call HFF.out hb hHeld
  clear hK K hHeld
  have hHeld := hHeld1
  clear hHeld1
  have HX43 := hide hx43
  clear hx43
  clear hb
  refine wpAnyH_ready (rs := [29]) (by kernel_rfl) (by simp) ?_
  refine AllReadyH.cons (o := _) rfl (fun K hK => ?_) AllReadyH.nil
  go_simp
  go_at_call 24
  refine (HSS.out _ (HBB.out _ hHeld.2.1) _ _ _ HX43.out).mono ?_
  rintro e w45 ⟨rfl, hb⟩
  go_wp2_with fail
  refine hK.out _ _ ?_ (fun hHeld1 => ?_)
  · exact hs_call HFF.out hb hHeld
  clear hK K hHeld
  have hHeld := hHeld1
  clear hHeld1
  clear HX43
  clear hb
  refine wpAnyH_take (i := 30) (oi := _) (v := .bool true) rfl (by kernel_rfl) (by kernel_rfl) (by kernel_rfl) (fun _ _ _ h => h) (Or.inl ⟨by rfl, by intro w hSw; go_simp⟩) hHeld ?_
  change wpAnyH _ _ _ _ _ _ _ (Act.put _ (some 46) _) _
  simp only [Act.put, List.setIfInBounds_toArray, List.set_cons_zero, List.set_cons_succ]
  refine wpAnyH_take (i := 31) (oi := _) (v := .bool true) rfl (by kernel_rfl) (by kernel_rfl) (by kernel_rfl) (fun _ _ _ h => h) (Or.inl ⟨by rfl, by intro w hSw; go_simp⟩) hHeld ?_
  change wpAnyH _ _ _ _ _ _ _ (Act.put _ (some 47) _) _
  simp only [Act.put, List.setIfInBounds_toArray, List.set_cons_zero, List.set_cons_succ]
  refine wpAnyH_ready (rs := [32]) (by kernel_rfl) (by simp) ?_
  refine AllReadyH.cons (o := _) rfl (fun K hK => ?_) AllReadyH.nil
  go_simp
  go_at_call 19
  refine (HWK.out _ (HBB.out _ hHeld.2.1)).mono ?_
  rintro e w48 ⟨rfl, hb⟩
  go_wp2_with fail
  refine hK.out _ _ ?_ (fun hHeld1 => ?_)
  · exact hs_call HFF.out hb hHeld
  clear hK K hHeld
  have hHeld := hHeld1
  clear hHeld1
  clear hb
  refine wpAnyH_take (i := 33) (oi := _) (v := .bool true) rfl (by kernel_rfl) (by kernel_rfl) (by kernel_rfl) (fun _ _ _ h => h) (Or.inl ⟨by rfl, by intro w hSw; go_simp⟩) hHeld ?_
  change wpAnyH _ _ _ _ _ _ _ (Act.put _ (some 49) _) _
  simp only [Act.put, List.setIfInBounds_toArray, List.set_cons_zero, List.set_cons_succ]
  refine wpAnyH_take (i := 34) (oi := _) (v := .bool true) rfl (by kernel_rfl) (by kernel_rfl) (by kernel_rfl) (fun _ _ _ h => h) (Or.inl ⟨by rfl, by intro w hSw; go_simp⟩) hHeld ?_
  change wpAnyH _ _ _ _ _ _ _ (Act.put _ (some 4) _) _
  simp only [Act.put, List.setIfInBounds_toArray, List.set_cons_zero, List.set_cons_succ]
  refine wpAnyH_done (by kernel_rfl) ?_ _
  have HBF := hide (HBB.out _ hHeld.2.1)
  clear hHeld
  go_wp2_with fail
  go_ret
  exact ⟨rfl, HBF.out⟩
/-- BatchChecks answers true. -/
theorem bchks_law {okb ok okb' ok' : Nat → Prop} (x y : Bt) (v u : Value) (w : World) (hv : IsB okb ok w v x) (hu : IsB okb' ok' w u y) (hg : Hnd w) : Calls Tryz.prog 4 #[v, u] w fun e w' => e = .returned (.bool true) ∧ Below w.heap.size w w' := by
  obtain ⟨t, b, rs⟩ := x
  obtain ⟨t', b', rs'⟩ := y
  obtain ⟨a1, ps, rfl, h2, h3⟩ := hv
  obtain ⟨a2, qs, rfl, k2, k3⟩ := hu
  simp only at h3 k3
  subst h3 k3
  obtain ⟨ao, cap, rfl⟩ := h2.form
  obtain ⟨bo, cap', rfl⟩ := k2.form
  have h2' := h2.imp (okb' := fun _ => True) (ok' := ok) (fun _ _ _ => trivial) (fun _ _ q => q) (fun _ _ _ _ => rfl)
  have k2' := k2.imp (okb' := fun _ => True) (ok' := ok') (fun _ _ _ => trivial) (fun _ _ q => q) (fun _ _ _ _ => rfl)
  by_cases hs : shL (rcl ps) = true
  · by_cases hs' : shL (rcl qs) = true
    · exact bchks_go t b t' b' ao bo cap cap' ps qs w h2' k2' hg hs hs'
    · exact bchks_long t b t' b' ao bo cap cap' ps qs w h2' k2' hg (.inr (by simpa using hs'))
  · exact bchks_long t b t' b' ao bo cap cap' ps qs w h2' k2' hg (.inl (by simpa using hs))
end Go.Proofs.YtgbcjmpnkejpeaaGreatDoor
