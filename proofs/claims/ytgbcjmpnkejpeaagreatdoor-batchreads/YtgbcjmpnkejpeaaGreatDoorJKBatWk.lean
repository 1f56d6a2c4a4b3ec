/-
  THE CHAPTER'S EXAMPLES HOLD (castellanlaw06.works): the walk. Condition: errors.errorType is laid.
-/
import Derived.Test.YtgbcjmpnkejpeaaGreatDoorJKBatOfa4
namespace Go.Proofs.YtgbcjmpnkejpeaaGreatDoor
open Go.RowKit

set_option maxRecDepth 100000 in
set_option maxHeartbeats 32000000 in
theorem bworks_any (w : World) (hg : Hnd w) : Calls Tryz.prog 19 #[] w fun e w' => e = .returned (.bool true) ∧ Below w.heap.size w w' := by
  have HG := hide hg
  have hb0 : Below w.heap.size w (w.alloc (.cells (rcs [(rn0, pl0), (rn1, pl0)]).toArray 35)) := (Below.refl _ _).alloc (Nat.le_refl _) _
  have HOF := hide (of_any 3 9 _ [(rn0, pl0), (rn1, pl0)] _ (ex_rl w) (by decide) (fun p hp => by
    simp only [List.mem_cons, List.not_mem_nil, or_false] at hp
    rcases hp with rfl | rfl <;> exact ⟨by decide, by decide, by decide, by decide⟩))
  have HB0 := hide hb0
  clear hg hb0
  go_enter Tryz.func19, Tryz.ntmps19
  go_upto_region 2 with (first | (refine wpList_build_two rfl _ _ rfl rfl rfl ?_) | (go_at_call 26; refine HOF.out.mono ?_; rintro e W1 ⟨vx, rfl, hx1, hb1⟩; replace hx1 : IsB _ _ W1 vx exB := hx1; obtain ⟨a1, c1, ps1, rfl, hl1, hp1⟩ := isB_ex hx1))
  have HX1 : Hid (Rl (fun _ => True) (fun _ => True) W1 (.slice a1 2 c1) ps1) := hide hl1.any
  have HP1 : Hid (rcl ps1 = [rn0, rn1]) := hide hp1
  have HB1 := hide (HB0.out.trans (hb1.mono HB0.out.size))
  clear hx1 hl1 hp1 hb1 HOF HB0
  obtain ⟨Y1, hY1⟩ : ∃ Y, Y = W1.alloc (.cells #[.int .i64 3, .int .i64 9, .slice a1 2 c1] 48) := ⟨_, rfl⟩
  have hbY1 : Below W1.heap.size W1 Y1 := by rw [hY1]; exact (Below.refl _ _).alloc (Nat.le_refl _) _
  have HT1 : Hid (∀ W, Below Y1.heap.size Y1 W → W.cell? ⟨W1.heap.size, 0, none⟩ = some (.int .i64 3) ∧ W.cell? ⟨W1.heap.size, 1, none⟩ = some (.int .i64 9) ∧ W.cell? ⟨W1.heap.size, 2, none⟩ = some (.slice a1 2 c1)) := hide (by rw [hY1]; exact three_new W1 _ _ _)
  have HBY1 := hide (HB1.out.trans (hbY1.mono HB1.out.size))
  have HIB : Hid (∀ W, Below Y1.heap.size Y1 W → IsB (fun _ => True) (fun _ => True) W (.agg #[.int .i64 3, .int .i64 9, .slice a1 2 c1]) exB) := hide (fun W h => ⟨_, ps1, rfl, (HX1.out.below hbY1).below h, HP1.out⟩)
  show Code.wp _ _ _ _ _
  rw [show (W1.alloc (.cells #[.int .i64 3, .int .i64 9, .slice a1 2 c1] 48)) = Y1 from hY1.symm]
  have HXY := hide (HX1.out.below hbY1)
  clear hY1 hbY1 HX1
  generalize W1.heap.size = d1 at *
  obtain ⟨i0, i1, i2⟩ := HT1.out Y1 (Below.refl _ _)
  have HPU := hide (put_ex _ Y1 (HIB.out Y1 (Below.refl _ _)))
  go_upto_region 3 with (first | (go_at_call 27; refine HPU.out.mono ?_; rintro e W2 ⟨y2, rfl, hs2, hb2⟩))
  have HB2 := hide hb2
  have HRD := hide (read_ex y2 W2 hs2 (HG.out.below (HBY1.out.trans (hb2.mono HBY1.out.size))))
  clear hs2 hb2 HPU i0 i1 i2
  go_upto_region 4 with (first | (go_at_call 30; refine HRD.out.mono ?_; rintro e W3 ⟨vx3, rfl, hx3, hb3⟩; obtain ⟨a3, c3, ps3, rfl, hl3, hp3⟩ := isB_ex hx3))
  have HB3 := hide (HB2.out.trans (hb3.mono HB2.out.size))
  have HX3 : Hid (Rl (fun _ => True) (fun _ => True) W3 (.slice a3 2 c3) ps3) := hide hl3.any
  have HP3 : Hid (rcl ps3 = [rn0, rn1]) := hide hp3
  clear hx3 hl3 hp3 hb3 HRD HB2
  obtain ⟨Y3, hY3⟩ : ∃ Y, Y = W3.alloc (.cells #[.int .i64 3, .int .i64 9, .slice a3 2 c3] 48) := ⟨_, rfl⟩
  have hbY3 : Below W3.heap.size W3 Y3 := by rw [hY3]; exact (Below.refl _ _).alloc (Nat.le_refl _) _
  have HT3 : Hid (∀ W, Below Y3.heap.size Y3 W → W.cell? ⟨W3.heap.size, 0, none⟩ = some (.int .i64 3) ∧ W.cell? ⟨W3.heap.size, 1, none⟩ = some (.int .i64 9) ∧ W.cell? ⟨W3.heap.size, 2, none⟩ = some (.slice a3 2 c3)) := hide (by rw [hY3]; exact three_new W3 _ _ _)
  have HBY3 := hide (HB3.out.trans (hbY3.mono HB3.out.size))
  have HIY : Hid (∀ W, Below Y3.heap.size Y3 W → IsB (fun _ => True) (fun _ => True) W (.agg #[.int .i64 3, .int .i64 9, .slice a3 2 c3]) exB) := hide (fun W h => ⟨_, ps3, rfl, (HX3.out.below hbY3).below h, HP3.out⟩)
  show Code.wp _ _ _ _ _
  rw [show (W3.alloc (.cells #[.int .i64 3, .int .i64 9, .slice a3 2 c3] 48)) = Y3 from hY3.symm]
  clear hY3 hbY3 HX3 HB3
  generalize W3.heap.size = d3 at *
  have HO4 : Hid (∀ W, Calls Tryz.prog 26 #[.int .i64 3, .int .i64 9, .slice none 0 0] W fun e w' => ∃ v, e = .returned v ∧ IsB (fun k => W.heap.size ≤ k) (fun k => W.heap.size ≤ k) w' v ⟨3, 9, []⟩ ∧ Below W.heap.size W w') := hide (fun W => of_any 3 9 (.slice none 0 0) [] W (Rl.nil (fun _ => True) (fun _ => True) W none 0) (by decide) (fun p hp => by simp at hp))
  go_upto_region 5 with (first | (go_at_call 26; refine (HO4.out _).mono ?_; rintro e W4 ⟨v4, rfl, hx4, hb4⟩; have HB4 := hide hb4; have HPN := hide (put_none v4 W4 hx4); clear hx4 hb4) | (go_at_call 27; refine HPN.out.mono ?_; rintro e W5 ⟨rfl, hb5⟩; have HB5 := hide (HB4.out.trans (hb5.mono HB4.out.size)); clear hb5))
  have HB5a := hide (HBY3.out.trans (HB5.out.mono HBY3.out.size))
  obtain ⟨i0, i1, i2⟩ := HT1.out W5 HB5a.out
  obtain ⟨hc1, ⟨A1, rfl⟩, hrl, p0, hp0, hln0⟩ := split_first a1 c1 ps1 W5 (HXY.out.below HB5a.out) HP1.out
  rw [hp0] at hrl
  have HSP := hide (split_ex _ p0 W5 hrl hln0)
  have hu : ∀ W, (Instr.slice 46 (.slice (some A1) 2 c1) none (some (.int .i64 1)) none).run Tryz.prog W = .ok (.slice (some A1) 1 c1) W := fun W => uptoR A1 2 c1 1 (by omega) W
  clear hrl hp0 hln0
  clear HPN HB4 HP1 HP3
  go_upto_region 8 with (first | (go_at_call 36; refine HSP.out.mono ?_; rintro e W6 ⟨gl, ol, cl, rfl, hcl, hc6, hb6⟩))
  have HB6 := hide (HB5a.out.trans (hb6.mono HB5a.out.size))
  have HB6y := hide (HB5.out.trans (hb6.mono HB5.out.size))
  have hgl : gl < W6.heap.size := cell_block hc6
  have HC6 := hide hc6
  have HCL := hide hcl
  have HIB6 : Hid (∀ W, Below W6.heap.size W6 W → IsB (fun _ => True) (fun _ => True) W (.agg #[.int .i64 3, .int .i64 9, .slice (some A1) 2 c1]) exB) := hide (fun W h => HIB.out W (HB6.out.trans (h.mono HB6.out.size)))
  have HIY6 : Hid (∀ W, Below W6.heap.size W6 W → IsB (fun _ => True) (fun _ => True) W (.agg #[.int .i64 3, .int .i64 9, .slice a3 2 c3]) exB) := hide (fun W h => HIY.out W (HB6y.out.trans (h.mono HB6y.out.size)))
  have HFF : Hid (∀ W, Below W6.heap.size W6 W → (fun W : World => ((W.cell? ⟨d1, 0, none⟩ = some (.int .i64 3) ∧ W.cell? ⟨d1, 1, none⟩ = some (.int .i64 9) ∧ W.cell? ⟨d1, 2, none⟩ = some (.slice (some A1) 2 c1)) ∧ (W.cell? ⟨d3, 0, none⟩ = some (.int .i64 3) ∧ W.cell? ⟨d3, 1, none⟩ = some (.int .i64 9) ∧ W.cell? ⟨d3, 2, none⟩ = some (.slice a3 2 c3)) ∧ W.cell? ⟨gl, ol + 1, none⟩ = some (.int .i64 5))) W) := hide (fun W h => ⟨HT1.out W (HB6.out.trans (h.mono HB6.out.size)), HT3.out W (HB6y.out.trans (h.mono HB6y.out.size)), (h.cell (p := ⟨gl, ol + 1, none⟩) hgl).trans HC6.out⟩)
  have HS0 := hide (hs_drew HFF.out (Nat.le_refl _))
  have HBW : Hid (Below w.heap.size w W6) := hide (HBY1.out.trans (HB6.out.mono HBY1.out.size))
  have hcli : 1 ≤ cl := hcl
  clear hb6 hc6 hcl HSP hu HIB HIY HT1 HT3 HXY HB5a HB5 HBY3 HBY1 HB1 i0 i1 i2 HC6 HB6 HB6y hc1 hgl
  refine wp_region_held_drew (S := fun W => ((W.cell? ⟨d1, 0, none⟩ = some (.int .i64 3) ∧ W.cell? ⟨d1, 1, none⟩ = some (.int .i64 9) ∧ W.cell? ⟨d1, 2, none⟩ = some (.slice (some A1) 2 c1)) ∧ (W.cell? ⟨d3, 0, none⟩ = some (.int .i64 3) ∧ W.cell? ⟨d3, 1, none⟩ = some (.int .i64 9) ∧ W.cell? ⟨d3, 2, none⟩ = some (.slice a3 2 c3)) ∧ W.cell? ⟨gl, ol + 1, none⟩ = some (.int .i64 5)) ∧ Below W6.heap.size W6 W ∧ W6.heap.size ≤ W.heap.size) (by kernel_rfl) HS0.out (fun hHeld => ?_)
  refine wpAnyH_take (i := 0) (oi := _) (v := .nilIface) rfl (by kernel_rfl) (by kernel_rfl) (by kernel_rfl) (fun _ _ _ h => h) (Or.inl ⟨by rfl, by intro w hSw; go_simp⟩) hHeld ?_
  change wpAnyH _ _ _ _ _ _ _ (Act.put _ (some 36) _) _
  simp only [Act.put, List.setIfInBounds_toArray, List.set_cons_zero, List.set_cons_succ]
  refine wpAnyH_take (i := 1) (oi := _) (v := .bool true) rfl (by kernel_rfl) (by kernel_rfl) (by kernel_rfl) (fun _ _ _ h => h) (Or.inl ⟨by rfl, by intro w hSw; go_simp⟩) hHeld ?_
  change wpAnyH _ _ _ _ _ _ _ (Act.put _ (some 37) _) _
  simp only [Act.put, List.setIfInBounds_toArray, List.set_cons_zero, List.set_cons_succ]
  refine wpAnyH_take (i := 2) (oi := _) (v := .bool true) rfl (by kernel_rfl) (by kernel_rfl) (by kernel_rfl) (fun _ _ _ h => h) (Or.inl ⟨by rfl, by intro w hSw; go_simp⟩) hHeld ?_
  change wpAnyH _ _ _ _ _ _ _ (Act.put _ (some 38) _) _
  simp only [Act.put, List.setIfInBounds_toArray, List.set_cons_zero, List.set_cons_succ]
  refine wpAnyH_take (i := 3) (oi := _) (v := .nilIface) rfl (by kernel_rfl) (by kernel_rfl) (by kernel_rfl) (fun _ _ _ h => h) (Or.inl ⟨by rfl, by intro w hSw; go_simp⟩) hHeld ?_
  change wpAnyH _ _ _ _ _ _ _ (Act.put _ (some 39) _) _
  simp only [Act.put, List.setIfInBounds_toArray, List.set_cons_zero, List.set_cons_succ]
  refine wpAnyH_take (i := 4) (oi := _) (v := .bool true) rfl (by kernel_rfl) (by kernel_rfl) (by kernel_rfl) (fun _ _ _ h => h) (Or.inl ⟨by rfl, by intro w hSw; go_simp⟩) hHeld ?_
  change wpAnyH _ _ _ _ _ _ _ (Act.put _ (some 40) _) _
  simp only [Act.put, List.setIfInBounds_toArray, List.set_cons_zero, List.set_cons_succ]
  refine wpAnyH_take (i := 5) (oi := _) (v := .bool true) rfl (by kernel_rfl) (by kernel_rfl) (by kernel_rfl) (fun _ _ _ h => h) (Or.inl ⟨by rfl, by intro w hSw; go_simp⟩) hHeld ?_
  change wpAnyH _ _ _ _ _ _ _ (Act.put _ (some 41) _) _
  simp only [Act.put, List.setIfInBounds_toArray, List.set_cons_zero, List.set_cons_succ]
  refine wpAnyH_take (i := 6) (oi := _) (v := .bool true) rfl (by kernel_rfl) (by kernel_rfl) (by kernel_rfl) (fun _ _ _ h => h) (Or.inl ⟨by rfl, by intro w hSw; go_simp⟩) hHeld ?_
  change wpAnyH _ _ _ _ _ _ _ (Act.put _ (some 42) _) _
  simp only [Act.put, List.setIfInBounds_toArray, List.set_cons_zero, List.set_cons_succ]
  refine wpAnyH_take (i := 7) (oi := _) (v := .agg #[.int .i64 3, .int .i64 9, .slice a3 2 c3]) rfl (by kernel_rfl) (by kernel_rfl) (by kernel_rfl) (fun _ _ _ h => h) (Or.inl ⟨by rfl, by intro w hSw; obtain ⟨⟨⟨s0, s1, s2⟩, ⟨t0, t1, t2⟩, z0⟩, _⟩ := hSw; go_simp⟩) hHeld ?_
  change wpAnyH _ _ _ _ _ _ _ (Act.put _ (some 43) _) _
  simp only [Act.put, List.setIfInBounds_toArray, List.set_cons_zero, List.set_cons_succ]
  refine wpAnyH_take (i := 8) (oi := _) (v := .agg #[.int .i64 3, .int .i64 9, .slice (some A1) 2 c1]) rfl (by kernel_rfl) (by kernel_rfl) (by kernel_rfl) (fun _ _ _ h => h) (Or.inl ⟨by rfl, by intro w hSw; obtain ⟨⟨⟨s0, s1, s2⟩, ⟨t0, t1, t2⟩, z0⟩, _⟩ := hSw; go_simp⟩) hHeld ?_
  change wpAnyH _ _ _ _ _ _ _ (Act.put _ (some 44) _) _
  simp only [Act.put, List.setIfInBounds_toArray, List.set_cons_zero, List.set_cons_succ]
  refine wpAnyH_ready (rs := [9]) (by kernel_rfl) (by simp) ?_
  refine AllReadyH.cons (o := _) rfl (fun K hK => ?_) AllReadyH.nil
  go_simp
  go_at_call 23
  refine (same_ex _ _ _ (HIY6.out _ hHeld.2.1) (HIB6.out _ hHeld.2.1)).mono ?_
  rintro e w45 ⟨rfl, hb⟩
  go_wp2_with fail
  refine hK.out _ _ ?_ (fun hHeld1 => ?_)
  · exact hs_call HFF.out hb hHeld
  clear hK K hHeld
  have hHeld := hHeld1
  clear hHeld1
  clear hb
  refine wpAnyH_take (i := 10) (oi := _) (v := .bool true) rfl (by kernel_rfl) (by kernel_rfl) (by kernel_rfl) (fun _ _ _ h => h) (Or.inl ⟨by rfl, by intro w hSw; go_simp⟩) hHeld ?_
  change wpAnyH _ _ _ _ _ _ _ (Act.put _ (some 46) _) _
  simp only [Act.put, List.setIfInBounds_toArray, List.set_cons_zero, List.set_cons_succ]
  refine wpAnyH_take (i := 11) (oi := _) (v := .bool true) rfl (by kernel_rfl) (by kernel_rfl) (by kernel_rfl) (fun _ _ _ h => h) (Or.inl ⟨by rfl, by intro w hSw; go_simp⟩) hHeld ?_
  change wpAnyH _ _ _ _ _ _ _ (Act.put _ (some 47) _) _
  simp only [Act.put, List.setIfInBounds_toArray, List.set_cons_zero, List.set_cons_succ]
  refine wpAnyH_take (i := 12) (oi := _) (v := .agg #[.int .i64 3, .int .i64 9, .slice a3 2 c3]) rfl (by kernel_rfl) (by kernel_rfl) (by kernel_rfl) (fun _ _ _ h => h) (Or.inl ⟨by rfl, by intro w hSw; obtain ⟨⟨⟨s0, s1, s2⟩, ⟨t0, t1, t2⟩, z0⟩, _⟩ := hSw; go_simp⟩) hHeld ?_
  change wpAnyH _ _ _ _ _ _ _ (Act.put _ (some 48) _) _
  simp only [Act.put, List.setIfInBounds_toArray, List.set_cons_zero, List.set_cons_succ]
  refine wpAnyH_ready (rs := [13]) (by kernel_rfl) (by simp) ?_
  refine AllReadyH.cons (o := _) rfl (fun K hK => ?_) AllReadyH.nil
  go_simp
  go_at_call 26
  refine (HO4.out _).mono ?_
  rintro e w49 ⟨v49, rfl, hx49, hb⟩
  go_wp2_with fail
  refine hK.out _ _ ?_ (fun hHeld1 => ?_)
  · exact hs_call HFF.out hb hHeld
  clear hK K hHeld
  have hHeld := hHeld1
  clear hHeld1
  have HX49 := hide hx49
  clear hx49
  clear hb
  refine wpAnyH_ready (rs := [14]) (by kernel_rfl) (by simp) ?_
  refine AllReadyH.cons (o := _) rfl (fun K hK => ?_) AllReadyH.nil
  go_simp
  go_at_call 23
  refine (same_no _ _ _ (HIY6.out _ hHeld.2.1) HX49.out).mono ?_
  rintro e w50 ⟨rfl, hb⟩
  go_wp2_with fail
  refine hK.out _ _ ?_ (fun hHeld1 => ?_)
  · exact hs_call HFF.out hb hHeld
  clear hK K hHeld
  have hHeld := hHeld1
  clear hHeld1
  clear HX49
  clear hb
  refine wpAnyH_take (i := 15) (oi := _) (v := .bool true) rfl (by kernel_rfl) (by kernel_rfl) (by kernel_rfl) (fun _ _ _ h => h) (Or.inl ⟨by rfl, by intro w hSw; go_simp⟩) hHeld ?_
  change wpAnyH _ _ _ _ _ _ _ (Act.put _ (some 51) _) _
  simp only [Act.put, List.setIfInBounds_toArray, List.set_cons_zero, List.set_cons_succ]
  refine wpAnyH_take (i := 16) (oi := _) (v := .bool true) rfl (by kernel_rfl) (by kernel_rfl) (by kernel_rfl) (fun _ _ _ h => h) (Or.inl ⟨by rfl, by intro w hSw; go_simp⟩) hHeld ?_
  change wpAnyH _ _ _ _ _ _ _ (Act.put _ (some 52) _) _
  simp only [Act.put, List.setIfInBounds_toArray, List.set_cons_zero, List.set_cons_succ]
  refine wpAnyH_take (i := 17) (oi := _) (v := .bool true) rfl (by kernel_rfl) (by kernel_rfl) (by kernel_rfl) (fun _ _ _ h => h) (Or.inl ⟨by rfl, by intro w hSw; go_simp⟩) hHeld ?_
  change wpAnyH _ _ _ _ _ _ _ (Act.put _ (some 53) _) _
  simp only [Act.put, List.setIfInBounds_toArray, List.set_cons_zero, List.set_cons_succ]
  refine wpAnyH_take (i := 18) (oi := _) (v := ft ⟨#[114, 101, 99, 111, 114, 100, 115]⟩ 0 6) rfl (by kernel_rfl) (by kernel_rfl) (by kernel_rfl) (fun _ _ _ h => h) (Or.inl ⟨by rfl, by intro w hSw; go_simp⟩) hHeld ?_
  change wpAnyH _ _ _ _ _ _ _ (Act.put _ (some 54) _) _
  simp only [Act.put, List.setIfInBounds_toArray, List.set_cons_zero, List.set_cons_succ]
  refine wpAnyH_ready (rs := [19]) (by kernel_rfl) (by simp) ?_
  refine AllReadyH.cons (o := _) rfl (fun K hK => ?_) AllReadyH.nil
  go_simp
  go_at_call 42
  refine (is_rec _).mono ?_
  rintro e w55 ⟨rfl, hb⟩
  go_wp2_with fail
  refine hK.out _ _ ?_ (fun hHeld1 => ?_)
  · exact hs_call HFF.out hb hHeld
  clear hK K hHeld
  have hHeld := hHeld1
  clear hHeld1
  clear hb
  refine wpAnyH_take (i := 20) (oi := _) (v := .bool true) rfl (by kernel_rfl) (by kernel_rfl) (by kernel_rfl) (fun _ _ _ h => h) (Or.inl ⟨by rfl, by intro w hSw; go_simp⟩) hHeld ?_
  change wpAnyH _ _ _ _ _ _ _ (Act.put _ (some 56) _) _
  simp only [Act.put, List.setIfInBounds_toArray, List.set_cons_zero, List.set_cons_succ]
  refine wpAnyH_take (i := 21) (oi := _) (v := .bool true) rfl (by kernel_rfl) (by kernel_rfl) (by kernel_rfl) (fun _ _ _ h => h) (Or.inl ⟨by rfl, by intro w hSw; go_simp⟩) hHeld ?_
  change wpAnyH _ _ _ _ _ _ _ (Act.put _ (some 57) _) _
  simp only [Act.put, List.setIfInBounds_toArray, List.set_cons_zero, List.set_cons_succ]
  refine wpAnyH_take (i := 22) (oi := _) (v := .slice (some ⟨gl, ol, none⟩) 1 cl) rfl (by kernel_rfl) (by kernel_rfl) (by kernel_rfl) (fun _ _ _ h => h) (Or.inl ⟨by rfl, by intro w hSw; go_simp⟩) hHeld ?_
  change wpAnyH _ _ _ _ _ _ _ (Act.put _ (some 58) _) _
  simp only [Act.put, List.setIfInBounds_toArray, List.set_cons_zero, List.set_cons_succ]
  refine wpAnyH_take (i := 23) (oi := _) (v := .int .i64 1) rfl (by kernel_rfl) (by kernel_rfl) (by kernel_rfl) (fun _ _ _ h => h) (Or.inl ⟨by rfl, by intro w hSw; go_simp⟩) hHeld ?_
  change wpAnyH _ _ _ _ _ _ _ (Act.put _ (some 59) _) _
  simp only [Act.put, List.setIfInBounds_toArray, List.set_cons_zero, List.set_cons_succ]
  refine wpAnyH_take (i := 24) (oi := _) (v := .bool true) rfl (by kernel_rfl) (by kernel_rfl) (by kernel_rfl) (fun _ _ _ h => h) (Or.inl ⟨by rfl, by intro w hSw; go_simp⟩) hHeld ?_
  change wpAnyH _ _ _ _ _ _ _ (Act.put _ (some 60) _) _
  simp only [Act.put, List.setIfInBounds_toArray, List.set_cons_zero, List.set_cons_succ]
  refine wpAnyH_take (i := 25) (oi := _) (v := .bool true) rfl (by kernel_rfl) (by kernel_rfl) (by kernel_rfl) (fun _ _ _ h => h) (Or.inl ⟨by rfl, by intro w hSw; go_simp⟩) hHeld ?_
  change wpAnyH _ _ _ _ _ _ _ (Act.put _ (some 61) _) _
  simp only [Act.put, List.setIfInBounds_toArray, List.set_cons_zero, List.set_cons_succ]
  refine wpAnyH_take (i := 26) (oi := _) (v := .bool true) rfl (by kernel_rfl) (by kernel_rfl) (by kernel_rfl) (fun _ _ _ h => h) (Or.inl ⟨by rfl, by intro w hSw; go_simp⟩) hHeld ?_
  change wpAnyH _ _ _ _ _ _ _ (Act.put _ (some 62) _) _
  simp only [Act.put, List.setIfInBounds_toArray, List.set_cons_zero, List.set_cons_succ]
  refine wpAnyH_take (i := 27) (oi := _) (v := .slice (some ⟨gl, ol, none⟩) 1 cl) rfl (by kernel_rfl) (by kernel_rfl) (by kernel_rfl) (fun _ _ _ h => h) (Or.inl ⟨by rfl, by intro w hSw; go_simp⟩) hHeld ?_
  change wpAnyH _ _ _ _ _ _ _ (Act.put _ (some 63) _) _
  simp only [Act.put, List.setIfInBounds_toArray, List.set_cons_zero, List.set_cons_succ]
  refine wpAnyH_take (i := 28) (oi := _) (v := .pointer (some ⟨gl, ol, none⟩)) rfl (by kernel_rfl) (by kernel_rfl) (by kernel_rfl) (fun _ _ _ h => h) (Or.inl ⟨by rfl, by intro w hSw; go_simp⟩) hHeld ?_
  change wpAnyH _ _ _ _ _ _ _ (Act.put _ (some 64) _) _
  simp only [Act.put, List.setIfInBounds_toArray, List.set_cons_zero, List.set_cons_succ]
  refine wpAnyH_take (i := 29) (oi := _) (v := .pointer (some ⟨gl, ol + 1, none⟩)) rfl (by kernel_rfl) (by kernel_rfl) (by kernel_rfl) (fun _ _ _ h => h) (Or.inl ⟨by rfl, by intro w hSw; go_simp⟩) hHeld ?_
  change wpAnyH _ _ _ _ _ _ _ (Act.put _ (some 65) _) _
  simp only [Act.put, List.setIfInBounds_toArray, List.set_cons_zero, List.set_cons_succ]
  refine wpAnyH_take (i := 30) (oi := _) (v := .int .i64 5) rfl (by kernel_rfl) (by kernel_rfl) (by kernel_rfl) (fun _ _ _ h => h) (Or.inl ⟨by rfl, by intro w hSw; obtain ⟨⟨⟨s0, s1, s2⟩, ⟨t0, t1, t2⟩, z0⟩, _⟩ := hSw; go_simp⟩) hHeld ?_
  change wpAnyH _ _ _ _ _ _ _ (Act.put _ (some 66) _) _
  simp only [Act.put, List.setIfInBounds_toArray, List.set_cons_zero, List.set_cons_succ]
  refine wpAnyH_take (i := 31) (oi := _) (v := .bool true) rfl (by kernel_rfl) (by kernel_rfl) (by kernel_rfl) (fun _ _ _ h => h) (Or.inl ⟨by rfl, by intro w hSw; go_simp⟩) hHeld ?_
  change wpAnyH _ _ _ _ _ _ _ (Act.put _ (some 67) _) _
  simp only [Act.put, List.setIfInBounds_toArray, List.set_cons_zero, List.set_cons_succ]
  refine wpAnyH_take (i := 32) (oi := _) (v := .bool true) rfl (by kernel_rfl) (by kernel_rfl) (by kernel_rfl) (fun _ _ _ h => h) (Or.inl ⟨by rfl, by intro w hSw; go_simp⟩) hHeld ?_
  change wpAnyH _ _ _ _ _ _ _ (Act.put _ (some 68) _) _
  simp only [Act.put, List.setIfInBounds_toArray, List.set_cons_zero, List.set_cons_succ]
  refine wpAnyH_take (i := 33) (oi := _) (v := .bool true) rfl (by kernel_rfl) (by kernel_rfl) (by kernel_rfl) (fun _ _ _ h => h) (Or.inl ⟨by rfl, by intro w hSw; go_simp⟩) hHeld ?_
  change wpAnyH _ _ _ _ _ _ _ (Act.put _ (some 69) _) _
  simp only [Act.put, List.setIfInBounds_toArray, List.set_cons_zero, List.set_cons_succ]
  refine wpAnyH_take (i := 34) (oi := _) (v := .agg #[.int .i64 3, .int .i64 9, .slice (some A1) 2 c1]) rfl (by kernel_rfl) (by kernel_rfl) (by kernel_rfl) (fun _ _ _ h => h) (Or.inl ⟨by rfl, by intro w hSw; obtain ⟨⟨⟨s0, s1, s2⟩, ⟨t0, t1, t2⟩, z0⟩, _⟩ := hSw; go_simp⟩) hHeld ?_
  change wpAnyH _ _ _ _ _ _ _ (Act.put _ (some 70) _) _
  simp only [Act.put, List.setIfInBounds_toArray, List.set_cons_zero, List.set_cons_succ]
  refine wpAnyH_ready (rs := [35]) (by kernel_rfl) (by simp) ?_
  refine AllReadyH.cons (o := _) rfl (fun K hK => ?_) AllReadyH.nil
  go_simp
  go_at_call 21
  refine (check_ex _ _ (HIB6.out _ hHeld.2.1)).mono ?_
  rintro e w71 ⟨rfl, hb⟩
  go_wp2_with fail
  refine hK.out _ _ ?_ (fun hHeld1 => ?_)
  · exact hs_call HFF.out hb hHeld
  clear hK K hHeld
  have hHeld := hHeld1
  clear hHeld1
  clear hb
  refine wpAnyH_take (i := 36) (oi := _) (v := .bool true) rfl (by kernel_rfl) (by kernel_rfl) (by kernel_rfl) (fun _ _ _ h => h) (Or.inl ⟨by rfl, by intro w hSw; go_simp⟩) hHeld ?_
  change wpAnyH _ _ _ _ _ _ _ (Act.put _ (some 72) _) _
  simp only [Act.put, List.setIfInBounds_toArray, List.set_cons_zero, List.set_cons_succ]
  refine wpAnyH_take (i := 37) (oi := _) (v := .bool true) rfl (by kernel_rfl) (by kernel_rfl) (by kernel_rfl) (fun _ _ _ h => h) (Or.inl ⟨by rfl, by intro w hSw; go_simp⟩) hHeld ?_
  change wpAnyH _ _ _ _ _ _ _ (Act.put _ (some 73) _) _
  simp only [Act.put, List.setIfInBounds_toArray, List.set_cons_zero, List.set_cons_succ]
  refine wpAnyH_take (i := 38) (oi := _) (v := .bool true) rfl (by kernel_rfl) (by kernel_rfl) (by kernel_rfl) (fun _ _ _ h => h) (Or.inl ⟨by rfl, by intro w hSw; go_simp⟩) hHeld ?_
  change wpAnyH _ _ _ _ _ _ _ (Act.put _ (some 74) _) _
  simp only [Act.put, List.setIfInBounds_toArray, List.set_cons_zero, List.set_cons_succ]
  refine wpAnyH_take (i := 39) (oi := _) (v := .agg #[.int .i64 3, .int .i64 9, .slice (some A1) 2 c1]) rfl (by kernel_rfl) (by kernel_rfl) (by kernel_rfl) (fun _ _ _ h => h) (Or.inl ⟨by rfl, by intro w hSw; obtain ⟨⟨⟨s0, s1, s2⟩, ⟨t0, t1, t2⟩, z0⟩, _⟩ := hSw; go_simp⟩) hHeld ?_
  change wpAnyH _ _ _ _ _ _ _ (Act.put _ (some 75) _) _
  simp only [Act.put, List.setIfInBounds_toArray, List.set_cons_zero, List.set_cons_succ]
  refine wpAnyH_take (i := 40) (oi := _) (v := .agg #[.int .i64 3, .int .i64 9, .slice (some A1) 2 c1]) rfl (by kernel_rfl) (by kernel_rfl) (by kernel_rfl) (fun _ _ _ h => h) (Or.inl ⟨by rfl, by intro w hSw; obtain ⟨⟨⟨s0, s1, s2⟩, ⟨t0, t1, t2⟩, z0⟩, _⟩ := hSw; go_simp⟩) hHeld ?_
  change wpAnyH _ _ _ _ _ _ _ (Act.put _ (some 76) _) _
  simp only [Act.put, List.setIfInBounds_toArray, List.set_cons_zero, List.set_cons_succ]
  refine wpAnyH_ready (rs := [41]) (by kernel_rfl) (by simp) ?_
  refine AllReadyH.cons (o := _) rfl (fun K hK => ?_) AllReadyH.nil
  go_simp
  go_at_call 25
  refine (copy_any exB _ _ (HIB6.out _ hHeld.2.1) (by decide) ex_ln).mono ?_
  rintro e w77 ⟨v77, rfl, hx77, hb⟩
  go_wp2_with fail
  refine hK.out _ _ ?_ (fun hHeld1 => ?_)
  · exact hs_call HFF.out hb hHeld
  clear hK K hHeld
  have hHeld := hHeld1
  clear hHeld1
  have HX77 := hide hx77
  clear hx77
  clear hb
  refine wpAnyH_ready (rs := [42]) (by kernel_rfl) (by simp) ?_
  refine AllReadyH.cons (o := _) rfl (fun K hK => ?_) AllReadyH.nil
  go_simp
  go_at_call 23
  refine (same_ex _ _ _ (HIB6.out _ hHeld.2.1) HX77.out).mono ?_
  rintro e w78 ⟨rfl, hb⟩
  go_wp2_with fail
  refine hK.out _ _ ?_ (fun hHeld1 => ?_)
  · exact hs_call HFF.out hb hHeld
  clear hK K hHeld
  have hHeld := hHeld1
  clear hHeld1
  clear HX77
  clear hb
  refine wpAnyH_take (i := 43) (oi := _) (v := .bool true) rfl (by kernel_rfl) (by kernel_rfl) (by kernel_rfl) (fun _ _ _ h => h) (Or.inl ⟨by rfl, by intro w hSw; go_simp⟩) hHeld ?_
  change wpAnyH _ _ _ _ _ _ _ (Act.put _ (some 79) _) _
  simp only [Act.put, List.setIfInBounds_toArray, List.set_cons_zero, List.set_cons_succ]
  refine wpAnyH_take (i := 44) (oi := _) (v := .bool true) rfl (by kernel_rfl) (by kernel_rfl) (by kernel_rfl) (fun _ _ _ h => h) (Or.inl ⟨by rfl, by intro w hSw; go_simp⟩) hHeld ?_
  change wpAnyH _ _ _ _ _ _ _ (Act.put _ (some 0) _) _
  simp only [Act.put, List.setIfInBounds_toArray, List.set_cons_zero]
  refine wpAnyH_done (by kernel_rfl) ?_ _
  have HBF := hide (HBW.out.trans (hHeld.2.1.mono HBW.out.size))
  clear hHeld
  go_wp2_with fail
  go_ret
  exact ⟨rfl, HBF.out⟩
end Go.Proofs.YtgbcjmpnkejpeaaGreatDoor
