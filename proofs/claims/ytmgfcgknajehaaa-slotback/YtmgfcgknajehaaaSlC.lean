/-
  THE BLOCK THAT SAYS A VALUE, AND THE TURN THAT IS SYNCED (slot.said.block, Slot.synced). Conditions: a value of at most 47 bytes; fewer than thirty thousand blocks and writes.
-/
import Derived.Test.YtmgfcgknajehaaaSlB
namespace Go.Proofs.Ytmgfcgknajehaaa
open Go.RowKit

theorem sb_1 (e : List Int) : zer.take 0 ++ (e ++ zer.drop (0 + 8)) = e ++ List.replicate 56 0 := rfl
theorem sb_2 {e : List Int} (he : e.length = 8) (x : Int) : (e ++ List.replicate 56 0).set 8 x = e ++ (x :: List.replicate 55 0) := by
  rw [List.set_append_right _ _ (by omega), he]
  rfl
theorem sb_3 {e V : List Int} (he : e.length = 8) (hV : V.length ≤ 47) (x : Int) : (e ++ (x :: List.replicate 55 0)).take 9 ++ (V.take 47 ++ (e ++ (x :: List.replicate 55 0)).drop (9 + Nat.min V.length 47)) = e ++ (x :: (V ++ List.replicate (55 - V.length) 0)) := by
  have h1 : e ++ (x :: List.replicate 55 0) = (e ++ [x]) ++ List.replicate 55 0 := by simp
  have hm : Nat.min V.length 47 = V.length := Nat.min_eq_left hV
  rw [hm, h1, List.take_left' (by simp [he]), List.take_of_length_le hV, List.drop_append, List.drop_of_length_le (by simp [he]), List.nil_append, List.drop_replicate]
  simp [he]
theorem sb_4 {e V : List Int} (he : e.length = 8) (hV : V.length ≤ 47) : (e ++ ((V.length : Int) :: (V ++ List.replicate (55 - V.length) 0))).take 56 ++ (e ++ (e ++ ((V.length : Int) :: (V ++ List.replicate (55 - V.length) 0))).drop (56 + 8)) = e ++ ((V.length : Int) :: V ++ List.replicate (47 - V.length) 0) ++ e := by
  have h1 : e ++ ((V.length : Int) :: (V ++ List.replicate (55 - V.length) 0)) = (e ++ ((V.length : Int) :: V ++ List.replicate (47 - V.length) 0)) ++ List.replicate 8 0 := by
    have : List.replicate (55 - V.length) (0 : Int) = List.replicate (47 - V.length) 0 ++ List.replicate 8 0 := by rw [List.replicate_append_replicate]; congr 1; omega
    rw [this]
    simp
  rw [h1, List.take_left' (by simp [he]; omega), List.drop_of_length_le (by simp [he]; omega), List.append_nil]
theorem sb_len {e V : List Int} (he : e.length = 8) (hV : V.length ≤ 47) (x : Int) : (e ++ (x :: (V ++ List.replicate (55 - V.length) 0))).length = 64 := by
  simp [he]
  omega
theorem Ba.of_eq {a b : World} {g B : Nat} {w0 : World} (h : Ba (fun k => k = g) a b) (hb : Below B w0 a) (hg : B ≤ g) (hB : B ≤ a.heap.size) : Below B w0 b := hb.trans (h.below hB (fun k e => by rw [e]; exact hg))
set_option maxRecDepth 100000 in
set_option maxHeartbeats 8000000 in
theorem block_any (T : Int) (v : Value) (V : List Int) (w : World) (h0 : 0 ≤ T) (hv : Sl bc w v V) (hl : V.length ≤ 47) : Calls Try.prog 51 #[.agg #[.int .i64 T, v]] w fun e w' => ∃ g, e = .returned (.slice (some ⟨g, 0, none⟩) 64 64) ∧ Rq w' g 5 (blkS T V) ∧ w.heap.size ≤ g ∧ Below w.heap.size w w' := by
  obtain ⟨ao, cap, rfl⟩ := hv.form
  have hmk := make64c
  have H8 : Hid ((dig 8 T).length = 8) := hide (dig_len 8 T)
  have hal1 : Below w.heap.size w (w.alloc (.cells #[.int .i64 T, .slice ao V.length cap] 88)) := (Below.refl _ _).alloc (Nat.le_refl _) _
  have hal2 : Below (w.alloc (.cells #[.int .i64 T, .slice ao V.length cap] 88)).heap.size (w.alloc (.cells #[.int .i64 T, .slice ao V.length cap] 88)) ((w.alloc (.cells #[.int .i64 T, .slice ao V.length cap] 88)).alloc (.cells (bv zer).toArray 5)) := (Below.refl _ _).alloc (Nat.le_refl _) _
  have HBX := hide ((B2.new w (.int .i64 T) (.slice ao V.length cap) 88).below hal2)
  have HZ := hide (Rq.new (w.alloc (.cells #[.int .i64 T, .slice ao V.length cap] 88)) 5 zer)
  have HBL := hide (bt hal1 hal2)
  have HV := hide hv
  have hs1 : (w.alloc (.cells #[.int .i64 T, .slice ao V.length cap] 88)).heap.size = w.heap.size + 1 := Array.size_push _
  rw [hs1] at HZ
  clear hal1 hal2 hs1 hv
  go_enter Try.func51, Try.ntmps51
  go_upto_region 2 with fail
  clear hmk
  generalize ((w.alloc (.cells #[.int .i64 T, .slice ao V.length cap] 88)).alloc (.cells (bv zer).toArray 5)) = W2 at HBX HZ HBL ⊢
  have HG : Hid (w.heap.size < w.heap.size + 1) := hide (Nat.lt_succ_self _)
  generalize w.heap.size + 1 = g at HZ HG ⊢
  have b0 := HBX.out.c0
  go_upto_region 3 with (first | (go_at_call 63; refine (putTurn_any g 0 64 64 5 zer T _ h0 (by decide) (by decide) HZ.out).mono ?_; rintro e W3 ⟨rfl, hr3, hb3⟩; rw [sb_1] at hr3; have HZ3 := hide hr3; have HBX3 := hide (HBX.out.keepB (hb3.block _ HBX.out.lt (by have := HG.out; omega))); have HBL3 := hide (hb3.of_eq HBL.out (Nat.le_of_lt HG.out) HBL.out.size); clear hr3 hb3))
  clear HBX HZ HBL b0
  have HL3 : Hid ((dig 8 T ++ List.replicate 56 0).length = 64) := hide (by rw [List.length_append, H8.out]; rfl)
  have c8 := HZ3.out.at (i := 8) (by rw [HL3.out]; decide)
  have f8 := HZ3.out.fz 8
  have HS4 := hide (HZ3.out.set1 8 (V.length : Int))
  rw [sb_2 H8.out] at HS4
  have HBX4 := hide (HBX3.out.setO (k := g) (i := 8) (by have := HG.out; omega) (.int .u8 (V.length : Int)))
  have HBL4 := hide (HBL3.out.setCell (p := ⟨g, 8, none⟩) (Nat.le_of_lt HG.out) (.int .u8 (V.length : Int)))
  have hm1 : (V.length : Int) % 256 = (V.length : Int) := by omega
  have hm2 : IntKind.u8.wrap (V.length : Int) = (V.length : Int) := by rw [IntKind.wrap_u8]; omega
  generalize (dig 8 T ++ List.replicate 56 0)[8]'(by rw [HL3.out]; decide) = y8 at c8
  have b1 := HBX3.out.c1
  go_upto_region 4 with fail
  clear c8 f8 b1 hm1 hm2 HZ3 HBX3 HBL3 HL3
  generalize W3.setCell ⟨g, 8, none⟩ (.int .u8 (V.length : Int)) = W4 at HS4 HBX4 HBL4 ⊢
  have hdw : Below W4.heap.size W4 W4.drew := (Below.refl _ _).drew
  refine wp_region_held_drew (S := fun W => W.cell? ⟨w.heap.size, 1, none⟩ = some (.slice ao V.length cap)) (by kernel_rfl) (HBX4.out.below hdw).c1 (fun hHeld => ?_)
  have HS5 := hide (HS4.out.below hdw)
  have HBX5 := hide (HBX4.out.below hdw)
  have HBL5 := hide (bt HBL4.out hdw)
  have HV5 := hide (HV.out.below HBL5.out)
  generalize W4.drew = W5 at HS5 HBX5 HBL5 HV5 hHeld ⊢
  clear hdw HS4 HBX4 HBL4
  refine wpAnyH_take (i := 0) (oi := _) (v := .slice (some ⟨g, 0, none⟩) 64 64) rfl (by kernel_rfl) (by kernel_rfl) (by kernel_rfl) (fun _ _ _ h => h) (Or.inl ⟨by rfl, by intro w hSw; go_simp⟩) hHeld ?_
  change wpAnyH _ _ _ _ _ _ _ (Act.put _ (some 15) _) _
  simp only [Act.put, List.setIfInBounds_toArray, List.set_cons_zero, List.set_cons_succ]
  refine wpAnyH_take (i := 1) (oi := _) (v := .slice (some ⟨g, 9, none⟩) 47 55) rfl (by kernel_rfl) (by kernel_rfl) (by kernel_rfl) (fun _ _ _ h => h) (Or.inl ⟨by rfl, by intro w hSw; go_simp⟩) hHeld ?_
  change wpAnyH _ _ _ _ _ _ _ (Act.put _ (some 16) _) _
  simp only [Act.put, List.setIfInBounds_toArray, List.set_cons_zero, List.set_cons_succ]
  refine wpAnyH_take (i := 2) (oi := _) (v := .pointer (some ⟨w.heap.size, 1, none⟩)) rfl (by kernel_rfl) (by kernel_rfl) (by kernel_rfl) (fun _ _ _ h => h) (Or.inl ⟨by rfl, by intro w hSw; go_simp⟩) hHeld ?_
  change wpAnyH _ _ _ _ _ _ _ (Act.put _ (some 17) _) _
  simp only [Act.put, List.setIfInBounds_toArray, List.set_cons_zero, List.set_cons_succ]
  refine wpAnyH_take (i := 3) (oi := _) (v := .slice ao V.length cap) rfl (by kernel_rfl) (by kernel_rfl) (by kernel_rfl) (fun _ _ _ h => h) (Or.inl ⟨by rfl, by intro w hSw; have h1 := hSw; go_simp⟩) hHeld ?_
  change wpAnyH _ _ _ _ _ _ _ (Act.put _ (some 18) _) _
  simp only [Act.put, List.setIfInBounds_toArray, List.set_cons_zero, List.set_cons_succ]
  refine wpAnyH_ready (rs := [4]) (by kernel_rfl) (by simp) ?_
  refine AllReadyH.cons (o := _) rfl (fun K hK => ?_) AllReadyH.nil
  refine step_copyR rfl _ _ rfl g 9 47 55 5 (dig 8 T ++ ((V.length : Int) :: List.replicate 55 0)) V _ rfl rfl HS5.out HV5.out (by rw [List.length_append, H8.out]; simp) ?_
  rw [sb_3 H8.out hl]
  refine hK.out _ _ ((World.cell?_of_block (setRow_other _ g w.heap.size _ (by have := HG.out; omega))).trans hHeld) (fun hHeld1 => ?_)
  clear hK K hHeld
  have hHeld := hHeld1
  clear hHeld1
  have HS6 := hide (HS5.out.set (dig 8 T ++ ((V.length : Int) :: (V ++ List.replicate (55 - V.length) 0))))
  have HBX6 := hide (HBX5.out.keepB (setRow_other W5 g w.heap.size (bv (dig 8 T ++ ((V.length : Int) :: (V ++ List.replicate (55 - V.length) 0)))).toArray (by have := HG.out; omega)))
  have HBL6 := hide (setRow_below HBL5.out (g := g) (Nat.le_of_lt HG.out) (bv (dig 8 T ++ ((V.length : Int) :: (V ++ List.replicate (55 - V.length) 0)))).toArray)
  generalize W5.setRow g (bv (dig 8 T ++ ((V.length : Int) :: (V ++ List.replicate (55 - V.length) 0)))).toArray = W6 at HS6 HBX6 HBL6 hHeld ⊢
  clear HS5 HBX5 HBL5 HV5
  refine wpAnyH_done (by kernel_rfl) ?_ _
  clear hHeld
  go_upto_region 5 with fail
  have hdw : Below W6.heap.size W6 W6.drew := (Below.refl _ _).drew
  refine wp_region_held_drew (S := fun W => W.cell? ⟨w.heap.size, 0, none⟩ = some (.int .i64 T)) (by kernel_rfl) (HBX6.out.below hdw).c0 (fun hHeld => ?_)
  have HS7 := hide (HS6.out.below hdw)
  have HBL7 := hide (bt HBL6.out hdw)
  generalize W6.drew = W7 at HS7 HBL7 hHeld ⊢
  clear hdw HS6 HBX6 HBL6
  refine wpAnyH_take (i := 0) (oi := _) (v := .slice (some ⟨g, 0, none⟩) 64 64) rfl (by kernel_rfl) (by kernel_rfl) (by kernel_rfl) (fun _ _ _ h => h) (Or.inl ⟨by rfl, by intro w hSw; go_simp⟩) hHeld ?_
  change wpAnyH _ _ _ _ _ _ _ (Act.put _ (some 20) _) _
  simp only [Act.put]
  refine wpAnyH_take (i := 1) (oi := _) (v := .slice (some ⟨g, 56, none⟩) 8 8) rfl (by kernel_rfl) (by kernel_rfl) (by kernel_rfl) (fun _ _ _ h => h) (Or.inl ⟨by rfl, by intro w hSw; go_simp⟩) hHeld ?_
  change wpAnyH _ _ _ _ _ _ _ (Act.put _ (some 21) _) _
  simp only [Act.put]
  refine wpAnyH_take (i := 2) (oi := _) (v := .pointer (some ⟨w.heap.size, 0, none⟩)) rfl (by kernel_rfl) (by kernel_rfl) (by kernel_rfl) (fun _ _ _ h => h) (Or.inl ⟨by rfl, by intro w hSw; go_simp⟩) hHeld ?_
  change wpAnyH _ _ _ _ _ _ _ (Act.put _ (some 22) _) _
  simp only [Act.put]
  refine wpAnyH_take (i := 3) (oi := _) (v := .int .i64 T) rfl (by kernel_rfl) (by kernel_rfl) (by kernel_rfl) (fun _ _ _ h => h) (Or.inl ⟨by rfl, by intro w hSw; have h1 := hSw; go_simp⟩) hHeld ?_
  change wpAnyH _ _ _ _ _ _ _ (Act.put _ (some 23) _) _
  simp only [Act.put]
  refine wpAnyH_ready (rs := [4]) (by kernel_rfl) (by simp) ?_
  refine AllReadyH.cons (o := _) rfl (fun K hK => ?_) AllReadyH.nil
  go_simp
  go_at_call 63
  refine (putTurn_any g 56 8 8 5 (dig 8 T ++ ((V.length : Int) :: (V ++ List.replicate (55 - V.length) 0))) T _ h0 (by decide) (by rw [sb_len H8.out hl]; decide) HS7.out).mono ?_
  rintro e W8 ⟨rfl, hr8, hb8⟩
  rw [sb_4 H8.out hl] at hr8
  go_wp2_with fail
  refine hK.out _ _ ((hb8.cell (cell_block hHeld) (by have := HG.out; simp; omega) 0).trans hHeld) (fun hHeld1 => ?_)
  clear hK K hHeld
  have hHeld := hHeld1
  clear hHeld1
  have HS8 := hide hr8
  have HBL8 := hide (hb8.of_eq HBL7.out (Nat.le_of_lt HG.out) HBL7.out.size)
  clear hr8 hb8
  refine wpAnyH_done (by kernel_rfl) ?_ _
  clear hHeld
  go_wp2
  go_ret
  exact ⟨g, rfl, HS8.out, Nat.le_of_lt HG.out, HBL8.out⟩
end Go.Proofs.Ytmgfcgknajehaaa
