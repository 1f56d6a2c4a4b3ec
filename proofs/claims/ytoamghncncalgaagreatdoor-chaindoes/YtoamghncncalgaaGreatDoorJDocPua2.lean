/-
  A BLOCK IS WRITTEN, AS THE DOCUMENT DOES IT (castellanref08.Put), over any store; what is refused. Conditions: the numbers rise, bytes are bytes, fewer than eighty thousand blocks and writes.
  ALL IS MADE FIRM, AS THE DOCUMENT DOES IT (castellanref08.Sync), over any store. Conditions: the numbers rise, fewer than eighty thousand blocks and writes.
-/
import Derived.Test.YtoamghncncalgaaGreatDoorJChSma2
import Derived.Test.YtoamghncncalgaaGreatDoorJDocFra2
namespace Go.Proofs.YtoamghncncalgaaGreatDoor
open Go.RowKit

/-- The code of what is wrong with a write. -/
def wrC (s : Dst) (a : Int) (b : List Int) : Int := match wrE s a b with
  | none => 0
  | some p => p.2
/-- A doc's store stays what it is. -/
theorem Dd.stay {W W' : World} {P : Nat → Prop} {v : Value} {s : Dst} (h : Dd W P v s) (hb : Below W.heap.size W W') : Dd W' (fun k => P k ∨ W.heap.size ≤ k) v s := h.keep (fun _ p _ => .inl p) (fun k _ hk => hb.block k hk)
theorem pad_is {b : List Int} (h : b.length ≤ 64) : b.take 64 ++ zer.drop b.length = padL b := by rw [List.take_of_length_le h]; rfl
set_option maxRecDepth 100000 in
set_option maxHeartbeats 8000000 in
theorem rfree_bad {P : Nat → Prop} (v : Value) (a : Int) (s : Dst) (w : World) (h : Dd w P v s) (ha : ¬ Num a) : Calls Tryz.prog 75 #[v, .int .i64 a] w fun e w' => ∃ v', e = .returned (.tuple #[v', .int .i64 2]) ∧ Dd w' (fun k => P k ∨ w.heap.size ≤ k) v' s ∧ Below w.heap.size w w' := by
  obtain ⟨vc, vl, qs, ls, rfl, hc, hl, h3, h4⟩ := h.old
  obtain ⟨ca, cc, rfl⟩ := hc.fm
  obtain ⟨la, lc, rfl⟩ := hl.fm
  have HA := hide ha
  have HDD := hide h
  clear ha hc hl h3 h4 h
  go_enter Tryz.func75, Tryz.ntmps75
  go_upto_region 2 with (first | (go_at_call 60; refine (right_bad _ _ HA.out).mono ?_; rintro e w9 ⟨rfl, hw9⟩; rw [hw9]; clear hw9 w9))
  have HT := hide (two_boxes w (.int .i64 s.room) (.slice ca qs.length cc) (.slice la ls.length lc))
  generalize (w.alloc (.cells #[.int .i64 s.room, .slice ca qs.length cc, .slice la ls.length lc] 37)).alloc (.cells #[.int .i64 0, .slice none 0 0, .slice none 0 0] 37) = V at HT ⊢
  have HDB := hide HT.out.1
  have HR := hide HT.out.2.1
  have HB := hide HT.out.2.2
  have hwr : w.heap.size ≤ w.heap.size + 1 := by omega
  have hne : w.heap.size ≠ w.heap.size + 1 := by omega
  have HRV : Hid (w.heap.size + 1 < V.heap.size) := hide (cell_block HT.out.2.1.c0)
  clear HT
  generalize w.heap.size + 1 = R at HR hwr hne HRV ⊢
  have d0 := HDB.out.c0
  have d1 := HDB.out.c1
  have d2 := HDB.out.c2
  have e0 := HR.out.c0
  have e1 := HR.out.c1
  have e2 := HR.out.c2
  have f0 := HR.out.fz 0
  have f1 := HR.out.fz 1
  have f2 := HR.out.fz 2
  go_wp2
  have hb9 := set3_below HB.out hwr (.int .i64 s.room) (.slice ca qs.length cc) (.slice la ls.length lc)
  exact bodyPost_ret (v := .tuple #[.agg #[_, _, _], .int .i64 2]) (res_two Tryz.results75 _ _ R [_, _, _] _ _ rfl rfl (HR.out.all (.int .i64 s.room) (.slice ca qs.length cc) (.slice la ls.length lc)).rg Tryz.underlying37 rfl infoDd) rfl ⟨_, rfl, HDD.out.stay hb9, hb9⟩
set_option maxRecDepth 100000 in
set_option maxHeartbeats 8000000 in
theorem rputA_bad {P : Nat → Prop} (v : Value) (a : Int) (vb : Value) (s : Dst) (w : World) (h : Dd w P v s) (ha : ¬ Num a) : Calls Tryz.prog 26 #[v, .int .i64 a, vb] w fun e w' => ∃ v', e = .returned (.tuple #[v', .int .i64 2]) ∧ Dd w' (fun k => P k ∨ w.heap.size ≤ k) v' s ∧ Below w.heap.size w w' := by
  obtain ⟨vc, vl, qs, ls, rfl, hc, hl, h3, h4⟩ := h.old
  obtain ⟨ca, cc, rfl⟩ := hc.fm
  obtain ⟨la, lc, rfl⟩ := hl.fm
  have HA := hide ha
  have HDD := hide h
  clear ha hc hl h3 h4 h
  go_enter Tryz.func26, Tryz.ntmps26
  go_upto_region 2 with (first | (go_at_call 60; refine (right_bad _ _ HA.out).mono ?_; rintro e w9 ⟨rfl, hw9⟩; rw [hw9]; clear hw9 w9))
  have HT := hide (two_boxes w (.int .i64 s.room) (.slice ca qs.length cc) (.slice la ls.length lc))
  generalize (w.alloc (.cells #[.int .i64 s.room, .slice ca qs.length cc, .slice la ls.length lc] 37)).alloc (.cells #[.int .i64 0, .slice none 0 0, .slice none 0 0] 37) = V at HT ⊢
  have HDB := hide HT.out.1
  have HR := hide HT.out.2.1
  have HB := hide HT.out.2.2
  have hwr : w.heap.size ≤ w.heap.size + 1 := by omega
  have hne : w.heap.size ≠ w.heap.size + 1 := by omega
  have HRV : Hid (w.heap.size + 1 < V.heap.size) := hide (cell_block HT.out.2.1.c0)
  clear HT
  generalize w.heap.size + 1 = R at HR hwr hne HRV ⊢
  have d0 := HDB.out.c0
  have d1 := HDB.out.c1
  have d2 := HDB.out.c2
  have e0 := HR.out.c0
  have e1 := HR.out.c1
  have e2 := HR.out.c2
  have f0 := HR.out.fz 0
  have f1 := HR.out.fz 1
  have f2 := HR.out.fz 2
  go_wp2
  have hb9 := set3_below HB.out hwr (.int .i64 s.room) (.slice ca qs.length cc) (.slice la ls.length lc)
  exact bodyPost_ret (v := .tuple #[.agg #[_, _, _], .int .i64 2]) (res_two Tryz.results26 _ _ R [_, _, _] _ _ rfl rfl (HR.out.all (.int .i64 s.room) (.slice ca qs.length cc) (.slice la ls.length lc)).rg Tryz.underlying37 rfl infoDd) rfl ⟨_, rfl, HDD.out.stay hb9, hb9⟩
set_option maxRecDepth 100000 in
set_option maxHeartbeats 8000000 in
theorem rputA_long {P : Nat → Prop} (v : Value) (a : Int) (ao : Option Addr) (m cap : Nat) (s : Dst) (w : World) (h : Dd w P v s) (ha : Num a) (hm : 64 < m) : Calls Tryz.prog 26 #[v, .int .i64 a, .slice ao m cap] w fun e w' => ∃ v', e = .returned (.tuple #[v', .int .i64 6]) ∧ Dd w' (fun k => P k ∨ w.heap.size ≤ k) v' s ∧ Below w.heap.size w w' := by
  obtain ⟨vc, vl, qs, ls, rfl, hc, hl, h3, h4⟩ := h.old
  obtain ⟨ca, cc, rfl⟩ := hc.fm
  obtain ⟨la, lc, rfl⟩ := hl.fm
  have HA := hide ha
  have HDD := hide h
  clear ha hc hl h3 h4 h
  go_enter Tryz.func26, Tryz.ntmps26
  go_upto_region 4 with (first | (go_at_call 60; refine (right_ok _ _ HA.out).mono ?_; rintro e w9 ⟨rfl, hw9⟩; rw [hw9]; clear hw9 w9))
  have HT := hide (two_boxes w (.int .i64 s.room) (.slice ca qs.length cc) (.slice la ls.length lc))
  generalize (w.alloc (.cells #[.int .i64 s.room, .slice ca qs.length cc, .slice la ls.length lc] 37)).alloc (.cells #[.int .i64 0, .slice none 0 0, .slice none 0 0] 37) = V at HT ⊢
  have HDB := hide HT.out.1
  have HR := hide HT.out.2.1
  have HB := hide HT.out.2.2
  have hwr : w.heap.size ≤ w.heap.size + 1 := by omega
  have hne : w.heap.size ≠ w.heap.size + 1 := by omega
  have HRV : Hid (w.heap.size + 1 < V.heap.size) := hide (cell_block HT.out.2.1.c0)
  clear HT
  generalize w.heap.size + 1 = R at HR hwr hne HRV ⊢
  have d0 := HDB.out.c0
  have d1 := HDB.out.c1
  have d2 := HDB.out.c2
  have e0 := HR.out.c0
  have e1 := HR.out.c1
  have e2 := HR.out.c2
  have f0 := HR.out.fz 0
  have f1 := HR.out.fz 1
  have f2 := HR.out.fz 2
  go_wp2
  have hb9 := set3_below HB.out hwr (.int .i64 s.room) (.slice ca qs.length cc) (.slice la ls.length lc)
  exact bodyPost_ret (v := .tuple #[.agg #[_, _, _], .int .i64 6]) (res_two Tryz.results26 _ _ R [_, _, _] _ _ rfl rfl (HR.out.all (.int .i64 s.room) (.slice ca qs.length cc) (.slice la ls.length lc)).rg Tryz.underlying37 rfl infoDd) rfl ⟨_, rfl, HDD.out.stay hb9, hb9⟩
set_option maxRecDepth 100000 in
set_option maxHeartbeats 8000000 in
theorem rputA_taken {P : Nat → Prop} (v : Value) (a : Int) (vb : Value) (b : List Int) (s : Dst) (w : World) (h : Dd w P v s) (ha : Num a) (hA : Asc s.cs) (hv : Sl bc w vb b) (hby : Byt b) (hbl : b.length ≤ 64) (hn : s.cs.length + s.lo.length < 80000) (ht : (look s.tk a).isSome = true) : Calls Tryz.prog 26 #[v, .int .i64 a, vb] w fun e w' => ∃ v', e = .returned (.tuple #[v', .int .i64 0]) ∧ Dd w' (fun k => P k ∨ w.heap.size ≤ k) v' ⟨s.room, s.cs, s.lo ++ [⟨a, false, padL b⟩]⟩ ∧ Below w.heap.size w w' := by
  obtain ⟨vc, vl, qs, ls, rfl, hc, hl, h3, h4⟩ := h.old
  obtain ⟨ca, cc, rfl⟩ := hc.fm
  obtain ⟨la, lc, rfl⟩ := hl.fm
  have HA := hide ha
  have HDD := hide h
  obtain ⟨ao, cap, rfl⟩ := hv.form
  have hnl : ls.length = s.lo.length := by have := congrArg List.length h4; simpa [loOf] using this
  have hnq : qs.length = s.cs.length := by have := congrArg List.length h3; simpa [csOf] using this
  have HV := hide hv
  have HC := hide hc
  have HL := hide hl
  have H3 := hide h3
  have H4 := hide h4
  have HAS := hide hA
  have HNN := hide hn
  have HBL := hide hbl
  have HBK := hide (padL_blk hbl hby)
  have HQN : Hid (qs.length < 100000) := hide (by omega)
  have HLN : Hid (ls.length < 100000) := hide (by omega)
  have HL9 : Hid (ls.length < 90000) := hide (by omega)
  have HTK : Hid (tkn (csOf qs) (loOf ls) a = true) := hide (by rw [h3, h4, tkn_is]; exact ht)
  clear ha hc hl h3 h4 h hA hv hby hn hnl hnq ht
  go_enter Tryz.func26, Tryz.ntmps26
  go_upto_region 5 with (first | (go_at_call 60; refine (right_ok _ _ HA.out).mono ?_; rintro e w9 ⟨rfl, hw9⟩; rw [hw9]; clear hw9 w9))
  have HT := hide (two_boxes w (.int .i64 s.room) (.slice ca qs.length cc) (.slice la ls.length lc))
  generalize (w.alloc (.cells #[.int .i64 s.room, .slice ca qs.length cc, .slice la ls.length lc] 37)).alloc (.cells #[.int .i64 0, .slice none 0 0, .slice none 0 0] 37) = V at HT ⊢
  have HDB := hide HT.out.1
  have HR := hide HT.out.2.1
  have HB := hide HT.out.2.2
  have hwr : w.heap.size ≤ w.heap.size + 1 := by omega
  have hne : w.heap.size ≠ w.heap.size + 1 := by omega
  have HRV : Hid (w.heap.size + 1 < V.heap.size) := hide (cell_block HT.out.2.1.c0)
  clear HT
  generalize w.heap.size + 1 = R at HR hwr hne HRV ⊢
  refine wp_region_held_drew (S := fun W => B3 W w.heap.size (.int .i64 s.room) (.slice ca qs.length cc) (.slice la ls.length lc)) (by kernel_rfl) (HDB.out.below (Below.refl _ _).drew) (fun hHeld => ?_)
  have HR1 := hide (HR.out.below (Below.refl V.heap.size V).drew)
  have HB1 := hide (bt HB.out (Below.refl V.heap.size V).drew)
  generalize V.drew = V1 at HR1 HB1 hHeld ⊢
  clear HR HB HDB
  refine wpAnyH_take (i := 0) (oi := _) (v := .agg #[.int .i64 s.room, .slice ca qs.length cc, .slice la ls.length lc]) rfl (by kernel_rfl) (by kernel_rfl) (by kernel_rfl) (fun _ _ _ h => h) (Or.inl ⟨by rfl, by intro w hSw; have h0 := hSw.c0; have h1 := hSw.c1; have h2 := hSw.c2; go_simp⟩) hHeld ?_
  change wpAnyH _ _ _ _ _ _ _ (Act.put _ (some 16) _) _
  simp only [Act.put, List.setIfInBounds_toArray, List.set_cons_zero, List.set_cons_succ]
  refine wpAnyH_take (i := 1) (oi := _) (v := .int .i64 a) rfl (by kernel_rfl) (by kernel_rfl) (by kernel_rfl) (fun _ _ _ h => h) (Or.inl ⟨by rfl, by intro w hSw; go_simp⟩) hHeld ?_
  change wpAnyH _ _ _ _ _ _ _ (Act.put _ (some 17) _) _
  simp only [Act.put, List.setIfInBounds_toArray, List.set_cons_zero, List.set_cons_succ]
  refine wpAnyH_ready (rs := [2]) (by kernel_rfl) (by simp) ?_
  refine AllReadyH.cons (o := _) rfl (fun K hK => ?_) AllReadyH.nil
  go_simp
  go_at_call 61
  refine (taken_any s.room _ qs ls a _ (HC.out.below HB1.out) (HL.out.below HB1.out) HQN.out HLN.out).mono ?_
  rintro e V2 ⟨rfl, hb2⟩
  rw [HTK.out]
  go_wp2_with fail
  refine hK.out _ _ (hHeld.below hb2) (fun hHeld1 => ?_)
  clear hK K hHeld
  have hHeld := hHeld1
  clear hHeld1
  have HR2 := hide (HR1.out.below hb2)
  have HB2 := hide (bt HB1.out hb2)
  clear HR1 HB1 hb2
  refine wpAnyH_take (i := 3) (oi := _) (v := .bool false) rfl (by kernel_rfl) (by kernel_rfl) (by kernel_rfl) (fun _ _ _ h => h) (Or.inl ⟨by rfl, by intro w hSw; go_simp⟩) hHeld ?_
  change wpAnyH _ _ _ _ _ _ _ (Act.put _ (some 19) _) _
  simp only [Act.put, List.setIfInBounds_toArray, List.set_cons_zero, List.set_cons_succ]
  refine wpAnyH_take (i := 4) (oi := _) (v := .bool false) rfl (by kernel_rfl) (by kernel_rfl) (by kernel_rfl) (fun _ _ _ h => h) (Or.inl ⟨by rfl, by intro w hSw; go_simp⟩) hHeld ?_
  change wpAnyH _ _ _ _ _ _ _ (Act.put _ (some 20) _) _
  simp only [Act.put, List.setIfInBounds_toArray, List.set_cons_zero, List.set_cons_succ]
  refine wpAnyH_take (i := 5) (oi := _) (v := undef) rfl (by kernel_rfl) (by kernel_rfl) (by kernel_rfl) (fun _ _ _ h => h) (Or.inr ⟨by rfl, rfl⟩) hHeld ?_
  change wpAnyH _ _ _ _ _ _ _ (Act.put _ (some 21) _) _
  simp only [Act.put, List.setIfInBounds_toArray, List.set_cons_zero, List.set_cons_succ]
  refine wpAnyH_take (i := 6) (oi := _) (v := undef) rfl (by kernel_rfl) (by kernel_rfl) (by kernel_rfl) (fun _ _ _ h => h) (Or.inr ⟨by rfl, rfl⟩) hHeld ?_
  change wpAnyH _ _ _ _ _ _ _ (Act.put _ (some 22) _) _
  simp only [Act.put, List.setIfInBounds_toArray, List.set_cons_zero, List.set_cons_succ]
  refine wpAnyH_take (i := 7) (oi := _) (v := undef) rfl (by kernel_rfl) (by kernel_rfl) (by kernel_rfl) (fun _ _ _ h => h) (Or.inr ⟨by rfl, rfl⟩) hHeld ?_
  change wpAnyH _ _ _ _ _ _ _ (Act.put _ (some 23) _) _
  simp only [Act.put, List.setIfInBounds_toArray, List.set_cons_zero, List.set_cons_succ]
  refine wpAnyH_take (i := 8) (oi := _) (v := undef) rfl (by kernel_rfl) (by kernel_rfl) (by kernel_rfl) (fun _ _ _ h => h) (Or.inr ⟨by rfl, rfl⟩) hHeld ?_
  change wpAnyH _ _ _ _ _ _ _ (Act.put _ (some 24) _) _
  simp only [Act.put, List.setIfInBounds_toArray, List.set_cons_zero, List.set_cons_succ]
  refine wpAnyH_take (i := 9) (oi := _) (v := undef) rfl (by kernel_rfl) (by kernel_rfl) (by kernel_rfl) (fun _ _ _ h => h) (Or.inr ⟨by rfl, rfl⟩) hHeld ?_
  change wpAnyH _ _ _ _ _ _ _ (Act.put _ (some 25) _) _
  simp only [Act.put, List.setIfInBounds_toArray, List.set_cons_zero, List.set_cons_succ]
  refine wpAnyH_take (i := 10) (oi := _) (v := .bool false) rfl (by kernel_rfl) (by kernel_rfl) (by kernel_rfl) (fun _ _ _ h => h) (Or.inl ⟨by rfl, by intro w hSw; go_simp⟩) hHeld ?_
  change wpAnyH _ _ _ _ _ _ _ (Act.put _ (some 26) _) _
  simp only [Act.put, List.setIfInBounds_toArray, List.set_cons_zero, List.set_cons_succ]
  refine wpAnyH_done (by kernel_rfl) ?_ _
  have HR3 := HR2
  have HB3 := HB2
  have HDX := hide hHeld
  generalize V2 = V3 at HR3 HB3 HDX ⊢
  clear hHeld HR2 HB2
  go_upto_region 7 with (fail)
  refine wp_region_held_drew (S := fun W => B3 W w.heap.size (.int .i64 s.room) (.slice ca qs.length cc) (.slice la ls.length lc)) (by kernel_rfl) (HDX.out.below (Below.refl _ _).drew) (fun hHeld => ?_)
  have HR4 := hide (HR3.out.below (Below.refl V3.heap.size V3).drew)
  have HB4 := hide (bt HB3.out (Below.refl V3.heap.size V3).drew)
  generalize V3.drew = V4 at HR4 HB4 hHeld ⊢
  clear HR3 HB3 HDX
  refine wpAnyH_take (i := 0) (oi := _) (v := .agg #[.int .i64 s.room, .slice ca qs.length cc, .slice la ls.length lc]) rfl (by kernel_rfl) (by kernel_rfl) (by kernel_rfl) (fun _ _ _ h => h) (Or.inl ⟨by rfl, by intro w hSw; have h0 := hSw.c0; have h1 := hSw.c1; have h2 := hSw.c2; go_simp⟩) hHeld ?_
  change wpAnyH _ _ _ _ _ _ _ (Act.put _ (some 28) _) _
  simp only [Act.put, List.setIfInBounds_toArray, List.set_cons_zero, List.set_cons_succ]
  refine wpAnyH_take (i := 1) (oi := _) (v := .int .i64 a) rfl (by kernel_rfl) (by kernel_rfl) (by kernel_rfl) (fun _ _ _ h => h) (Or.inl ⟨by rfl, by intro w hSw; go_simp⟩) hHeld ?_
  change wpAnyH _ _ _ _ _ _ _ (Act.put _ (some 29) _) _
  simp only [Act.put, List.setIfInBounds_toArray, List.set_cons_zero, List.set_cons_succ]
  refine wpAnyH_take (i := 2) (oi := _) (v := .slice ao b.length cap) rfl (by kernel_rfl) (by kernel_rfl) (by kernel_rfl) (fun _ _ _ h => h) (Or.inl ⟨by rfl, by intro w hSw; go_simp⟩) hHeld ?_
  change wpAnyH _ _ _ _ _ _ _ (Act.put _ (some 30) _) _
  simp only [Act.put, List.setIfInBounds_toArray, List.set_cons_zero, List.set_cons_succ]
  refine wpAnyH_ready (rs := [3]) (by kernel_rfl) (by simp) ?_
  refine AllReadyH.cons (o := _) rfl (fun K hK => ?_) AllReadyH.nil
  go_simp
  go_at_call 54
  refine (pad_any _ b _ (HV.out.below HB4.out) (by have := HBL.out; omega)).mono ?_
  rintro e V5 ⟨rfl, hg5, hb5⟩
  rw [pad_is HBL.out] at hg5
  go_wp2_with fail
  refine hK.out _ _ (hHeld.below hb5) (fun hHeld1 => ?_)
  clear hK K hHeld
  have hHeld := hHeld1
  clear hHeld1
  have HAU : Hid (Au V5 V4.heap.size (padL b)) := hide ⟨HBK.out, hg5⟩
  have HPG : Hid (w.heap.size ≤ V4.heap.size) := hide HB4.out.size
  have HRG : Hid (R < V4.heap.size) := hide (cell_block HR4.out.c0)
  have HR5 := hide (HR4.out.below hb5)
  have HB5 := hide (bt HB4.out hb5)
  generalize V4.heap.size = PG at HAU HPG HRG ⊢
  clear HR4 HB4 hb5 hg5
  refine wpAnyH_take (i := 4) (oi := _) (v := .agg #[.int .i64 a, .bool false, .slice (some ⟨PG, 0, none⟩) 64 64]) rfl (by kernel_rfl) (by kernel_rfl) (by kernel_rfl) (fun _ _ _ h => h) (Or.inl ⟨by rfl, by intro w hSw; go_simp⟩) hHeld ?_
  change wpAnyH _ _ _ _ _ _ _ (Act.put _ (some 32) _) _
  simp only [Act.put, List.setIfInBounds_toArray, List.set_cons_zero, List.set_cons_succ]
  refine wpAnyH_ready (rs := [5]) (by kernel_rfl) (by simp) ?_
  refine AllReadyH.cons (o := _) rfl (fun K hK => ?_) AllReadyH.nil
  go_simp
  go_at_call 62
  refine (and_any (P := fun k => (P k ∧ k < w.heap.size) ∨ k = PG) s.room (.slice ca qs.length cc) (.slice la ls.length lc) ls ((⟨a, false, padL b⟩ : Wr), PG) _ ⟨_, _, _, rfl⟩ ((HL.out.below HB5.out).keep (fun _ h _ => .inl h) (fun _ _ _ => rfl)) (fun _ => ⟨.inr rfl, HAU.out⟩) HL9.out).mono ?_
  rintro e V6 ⟨v7, rfl, hl7, hb6⟩
  obtain ⟨a7, c7, rfl⟩ := hl7.fm
  go_wp2_with fail
  refine hK.out _ _ (hHeld.below hb6) (fun hHeld1 => ?_)
  clear hK K hHeld
  have hHeld := hHeld1
  clear hHeld1
  have HR6 := hide (HR5.out.below hb6)
  have HB6 := hide (bt HB5.out hb6)
  have HL7 := hide hl7
  have HS5 : Hid (R < V5.heap.size) := hide (cell_block HR5.out.c0)
  have HS6 : Hid (w.heap.size ≤ V5.heap.size) := hide HB5.out.size
  clear HR5 HB5 hb6 hl7
  refine wpAnyH_ready (rs := [6]) (by kernel_rfl) (by simp) ?_
  refine AllReadyH.cons (o := _) rfl (fun K hK => ?_) AllReadyH.nil
  have e0 := HR6.out.c0
  have e1 := HR6.out.c1
  have e2 := HR6.out.c2
  have f0 := HR6.out.fz 0
  have f1 := HR6.out.fz 1
  have f2 := HR6.out.fz 2
  go_simp
  clear e0 e1 e2 f0 f1 f2
  refine hK.out _ _ (((hHeld.setO hne _).setO hne _).setO hne _) (fun hHeld1 => ?_)
  clear hK K hHeld
  have hHeld := hHeld1
  clear hHeld1
  refine wpAnyH_take (i := 7) (oi := _) (v := .int .i64 0) rfl (by kernel_rfl) (by kernel_rfl) (by kernel_rfl) (fun _ _ _ h => h) (Or.inl ⟨by rfl, by intro w hSw; go_simp⟩) hHeld ?_
  change wpAnyH _ _ _ _ _ _ _ (Act.put _ (some 7) _) _
  simp only [Act.put, List.setIfInBounds_toArray, List.set_cons_zero, List.set_cons_succ]
  refine wpAnyH_done (by kernel_rfl) ?_ _
  go_wp2
  have hl7 := HL7.out
  have hlen : (ls ++ [(((⟨a, false, padL b⟩ : Wr), PG) : Dw)]).length = ls.length + 1 := by simp
  rw [hlen] at hl7
  have hb9 := set3_below HB6.out hwr (.int .i64 s.room) (.slice ca qs.length cc) (.slice a7 (ls.length + 1) c7)
  refine bodyPost_ret (v := .tuple #[.agg #[_, _, _], .int .i64 0]) (res_two Tryz.results26 _ _ R [_, _, _] _ _ rfl rfl (HR6.out.all (.int .i64 s.room) (.slice ca qs.length cc) (.slice a7 (ls.length + 1) c7)).rg Tryz.underlying37 rfl infoDd) rfl ⟨_, rfl, ⟨_, _, qs, ls ++ [(⟨a, false, padL b⟩, PG)], rfl, ?_, ?_, H3.out, by rw [loOf, List.map_append]; exact congrArg (· ++ [(⟨a, false, padL b⟩ : Wr)]) H4.out⟩, hb9⟩
  · exact HC.out.keep (fun k h _ => .inl h.1) (fun k h hk => hb9.block k hk)
  · exact hl7.keep (fun k h _ => h.elim (fun q => q.elim (fun q => .inl q.1) (fun q => .inr (by have := HPG.out; omega))) (fun q => .inr (by have := HS6.out; omega))) (fun k h _ => set3_heap (h.elim (fun q => q.elim (fun q => by have := q.2; omega) (fun q => by have := HRG.out; omega)) (fun q => by have := HS5.out; omega)) _ _ _)
set_option maxRecDepth 100000 in
set_option maxHeartbeats 8000000 in
theorem rputA_full {P : Nat → Prop} (v : Value) (a : Int) (vb : Value) (b : List Int) (s : Dst) (w : World) (h : Dd w P v s) (ha : Num a) (hA : Asc s.cs) (hv : Sl bc w vb b) (hby : Byt b) (hbl : b.length ≤ 64) (hn : s.cs.length + s.lo.length < 80000) (ht : (look s.tk a).isSome = false) (hr : s.room ≤ s.tk.length) : Calls Tryz.prog 26 #[v, .int .i64 a, vb] w fun e w' => ∃ v', e = .returned (.tuple #[v', .int .i64 7]) ∧ Dd w' (fun k => P k ∨ w.heap.size ≤ k) v' s ∧ Below w.heap.size w w' := by
  obtain ⟨vc, vl, qs, ls, rfl, hc, hl, h3, h4⟩ := h.old
  obtain ⟨ca, cc, rfl⟩ := hc.fm
  obtain ⟨la, lc, rfl⟩ := hl.fm
  have HA := hide ha
  have HDD := hide h
  obtain ⟨ao, cap, rfl⟩ := hv.form
  have hnl : ls.length = s.lo.length := by have := congrArg List.length h4; simpa [loOf] using this
  have hnq : qs.length = s.cs.length := by have := congrArg List.length h3; simpa [csOf] using this
  have HV := hide hv
  have HC := hide hc
  have HL := hide hl
  have H3 := hide h3
  have H4 := hide h4
  have HAS := hide hA
  have HNN := hide hn
  have HBL := hide hbl
  have HBK := hide (padL_blk hbl hby)
  have HQN : Hid (qs.length < 100000) := hide (by omega)
  have HLN : Hid (ls.length < 100000) := hide (by omega)
  have HL9 : Hid (ls.length < 90000) := hide (by omega)
  have HTK : Hid (tkn (csOf qs) (loOf ls) a = false) := hide (by rw [h3, h4, tkn_is]; exact ht)
  clear ha hc hl h3 h4 h hA hv hby hn hnl hnq ht
  go_enter Tryz.func26, Tryz.ntmps26
  go_upto_region 5 with (first | (go_at_call 60; refine (right_ok _ _ HA.out).mono ?_; rintro e w9 ⟨rfl, hw9⟩; rw [hw9]; clear hw9 w9))
  have HT := hide (two_boxes w (.int .i64 s.room) (.slice ca qs.length cc) (.slice la ls.length lc))
  generalize (w.alloc (.cells #[.int .i64 s.room, .slice ca qs.length cc, .slice la ls.length lc] 37)).alloc (.cells #[.int .i64 0, .slice none 0 0, .slice none 0 0] 37) = V at HT ⊢
  have HDB := hide HT.out.1
  have HR := hide HT.out.2.1
  have HB := hide HT.out.2.2
  have hwr : w.heap.size ≤ w.heap.size + 1 := by omega
  have hne : w.heap.size ≠ w.heap.size + 1 := by omega
  have HRV : Hid (w.heap.size + 1 < V.heap.size) := hide (cell_block HT.out.2.1.c0)
  clear HT
  generalize w.heap.size + 1 = R at HR hwr hne HRV ⊢
  have hdc : decide (s.room ≤ (s.tk.length : Int)) = true := by simpa using hr
  refine wp_region_held_drew (S := fun W => B3 W w.heap.size (.int .i64 s.room) (.slice ca qs.length cc) (.slice la ls.length lc)) (by kernel_rfl) (HDB.out.below (Below.refl _ _).drew) (fun hHeld => ?_)
  have HR1 := hide (HR.out.below (Below.refl V.heap.size V).drew)
  have HB1 := hide (bt HB.out (Below.refl V.heap.size V).drew)
  generalize V.drew = V1 at HR1 HB1 hHeld ⊢
  clear HR HB HDB
  refine wpAnyH_take (i := 0) (oi := _) (v := .agg #[.int .i64 s.room, .slice ca qs.length cc, .slice la ls.length lc]) rfl (by kernel_rfl) (by kernel_rfl) (by kernel_rfl) (fun _ _ _ h => h) (Or.inl ⟨by rfl, by intro w hSw; have h0 := hSw.c0; have h1 := hSw.c1; have h2 := hSw.c2; go_simp⟩) hHeld ?_
  change wpAnyH _ _ _ _ _ _ _ (Act.put _ (some 16) _) _
  simp only [Act.put, List.setIfInBounds_toArray, List.set_cons_zero, List.set_cons_succ]
  refine wpAnyH_take (i := 1) (oi := _) (v := .int .i64 a) rfl (by kernel_rfl) (by kernel_rfl) (by kernel_rfl) (fun _ _ _ h => h) (Or.inl ⟨by rfl, by intro w hSw; go_simp⟩) hHeld ?_
  change wpAnyH _ _ _ _ _ _ _ (Act.put _ (some 17) _) _
  simp only [Act.put, List.setIfInBounds_toArray, List.set_cons_zero, List.set_cons_succ]
  refine wpAnyH_ready (rs := [2]) (by kernel_rfl) (by simp) ?_
  refine AllReadyH.cons (o := _) rfl (fun K hK => ?_) AllReadyH.nil
  go_simp
  go_at_call 61
  refine (taken_any s.room _ qs ls a _ (HC.out.below HB1.out) (HL.out.below HB1.out) HQN.out HLN.out).mono ?_
  rintro e V2 ⟨rfl, hb2⟩
  rw [HTK.out]
  go_wp2_with fail
  refine hK.out _ _ (hHeld.below hb2) (fun hHeld1 => ?_)
  clear hK K hHeld
  have hHeld := hHeld1
  clear hHeld1
  have HR2 := hide (HR1.out.below hb2)
  have HB2 := hide (bt HB1.out hb2)
  clear HR1 HB1 hb2
  refine wpAnyH_take (i := 3) (oi := _) (v := .bool true) rfl (by kernel_rfl) (by kernel_rfl) (by kernel_rfl) (fun _ _ _ h => h) (Or.inl ⟨by rfl, by intro w hSw; go_simp⟩) hHeld ?_
  change wpAnyH _ _ _ _ _ _ _ (Act.put _ (some 19) _) _
  simp only [Act.put, List.setIfInBounds_toArray, List.set_cons_zero, List.set_cons_succ]
  refine wpAnyH_take (i := 4) (oi := _) (v := .bool true) rfl (by kernel_rfl) (by kernel_rfl) (by kernel_rfl) (fun _ _ _ h => h) (Or.inl ⟨by rfl, by intro w hSw; go_simp⟩) hHeld ?_
  change wpAnyH _ _ _ _ _ _ _ (Act.put _ (some 20) _) _
  simp only [Act.put, List.setIfInBounds_toArray, List.set_cons_zero, List.set_cons_succ]
  refine wpAnyH_take (i := 5) (oi := _) (v := .agg #[.int .i64 s.room, .slice ca qs.length cc, .slice la ls.length lc]) rfl (by kernel_rfl) (by kernel_rfl) (by kernel_rfl) (fun _ _ _ h => h) (Or.inl ⟨by rfl, by intro w hSw; have h0 := hSw.c0; have h1 := hSw.c1; have h2 := hSw.c2; go_simp⟩) hHeld ?_
  change wpAnyH _ _ _ _ _ _ _ (Act.put _ (some 21) _) _
  simp only [Act.put, List.setIfInBounds_toArray, List.set_cons_zero, List.set_cons_succ]
  refine wpAnyH_take (i := 7) (oi := _) (v := .pointer (some ⟨w.heap.size, 0, none⟩)) rfl (by kernel_rfl) (by kernel_rfl) (by kernel_rfl) (fun _ _ _ h => h) (Or.inl ⟨by rfl, by intro w hSw; go_simp⟩) hHeld ?_
  change wpAnyH _ _ _ _ _ _ _ (Act.put _ (some 23) _) _
  simp only [Act.put, List.setIfInBounds_toArray, List.set_cons_zero, List.set_cons_succ]
  refine wpAnyH_take (i := 8) (oi := _) (v := .int .i64 s.room) rfl (by kernel_rfl) (by kernel_rfl) (by kernel_rfl) (fun _ _ _ h => h) (Or.inl ⟨by rfl, by intro w hSw; have h0 := hSw.c0; have h1 := hSw.c1; have h2 := hSw.c2; go_simp⟩) hHeld ?_
  change wpAnyH _ _ _ _ _ _ _ (Act.put _ (some 24) _) _
  simp only [Act.put, List.setIfInBounds_toArray, List.set_cons_zero, List.set_cons_succ]
  refine wpAnyH_ready (rs := [6]) (by kernel_rfl) (by simp) ?_
  refine AllReadyH.cons (o := _) rfl (fun K hK => ?_) AllReadyH.nil
  go_simp
  go_at_call 42
  refine (rused_any _ s _ (HDD.out.below HB2.out) HAS.out HNN.out).mono ?_
  rintro e V3 ⟨rfl, hb3⟩
  go_wp2_with fail
  refine hK.out _ _ (hHeld.below hb3) (fun hHeld1 => ?_)
  clear hK K hHeld
  have hHeld := hHeld1
  clear hHeld1
  have HR3 := hide (HR2.out.below hb3)
  have HB3 := hide (bt HB2.out hb3)
  clear HR2 HB2 hb3
  refine wpAnyH_take (i := 9) (oi := _) (v := .bool true) rfl (by kernel_rfl) (by kernel_rfl) (by kernel_rfl) (fun _ _ _ h => h) (Or.inl ⟨by rfl, by intro w hSw; go_simp⟩) hHeld ?_
  change wpAnyH _ _ _ _ _ _ _ (Act.put _ (some 25) _) _
  simp only [Act.put, List.setIfInBounds_toArray, List.set_cons_zero, List.set_cons_succ]
  refine wpAnyH_take (i := 10) (oi := _) (v := .bool true) rfl (by kernel_rfl) (by kernel_rfl) (by kernel_rfl) (fun _ _ _ h => h) (Or.inl ⟨by rfl, by intro w hSw; go_simp⟩) hHeld ?_
  change wpAnyH _ _ _ _ _ _ _ (Act.put _ (some 26) _) _
  simp only [Act.put, List.setIfInBounds_toArray, List.set_cons_zero, List.set_cons_succ]
  refine wpAnyH_done (by kernel_rfl) ?_ _
  have HDX := hide hHeld
  clear hHeld
  go_upto_region 6 with (fail)
  have d0 := HDX.out.c0
  have d1 := HDX.out.c1
  have d2 := HDX.out.c2
  have e0 := HR3.out.c0
  have e1 := HR3.out.c1
  have e2 := HR3.out.c2
  have f0 := HR3.out.fz 0
  have f1 := HR3.out.fz 1
  have f2 := HR3.out.fz 2
  go_wp2
  have hb9 := set3_below HB3.out hwr (.int .i64 s.room) (.slice ca qs.length cc) (.slice la ls.length lc)
  exact bodyPost_ret (v := .tuple #[.agg #[_, _, _], .int .i64 7]) (res_two Tryz.results26 _ _ R [_, _, _] _ _ rfl rfl (HR3.out.all (.int .i64 s.room) (.slice ca qs.length cc) (.slice la ls.length lc)).rg Tryz.underlying37 rfl infoDd) rfl ⟨_, rfl, HDD.out.stay hb9, hb9⟩
set_option maxRecDepth 100000 in
set_option maxHeartbeats 8000000 in
theorem rputA_new {P : Nat → Prop} (v : Value) (a : Int) (vb : Value) (b : List Int) (s : Dst) (w : World) (h : Dd w P v s) (ha : Num a) (hA : Asc s.cs) (hv : Sl bc w vb b) (hby : Byt b) (hbl : b.length ≤ 64) (hn : s.cs.length + s.lo.length < 80000) (ht : (look s.tk a).isSome = false) (hr : (s.tk.length : Int) < s.room) : Calls Tryz.prog 26 #[v, .int .i64 a, vb] w fun e w' => ∃ v', e = .returned (.tuple #[v', .int .i64 0]) ∧ Dd w' (fun k => P k ∨ w.heap.size ≤ k) v' ⟨s.room, s.cs, s.lo ++ [⟨a, false, padL b⟩]⟩ ∧ Below w.heap.size w w' := by
  obtain ⟨vc, vl, qs, ls, rfl, hc, hl, h3, h4⟩ := h.old
  obtain ⟨ca, cc, rfl⟩ := hc.fm
  obtain ⟨la, lc, rfl⟩ := hl.fm
  have HA := hide ha
  have HDD := hide h
  obtain ⟨ao, cap, rfl⟩ := hv.form
  have hnl : ls.length = s.lo.length := by have := congrArg List.length h4; simpa [loOf] using this
  have hnq : qs.length = s.cs.length := by have := congrArg List.length h3; simpa [csOf] using this
  have HV := hide hv
  have HC := hide hc
  have HL := hide hl
  have H3 := hide h3
  have H4 := hide h4
  have HAS := hide hA
  have HNN := hide hn
  have HBL := hide hbl
  have HBK := hide (padL_blk hbl hby)
  have HQN : Hid (qs.length < 100000) := hide (by omega)
  have HLN : Hid (ls.length < 100000) := hide (by omega)
  have HL9 : Hid (ls.length < 90000) := hide (by omega)
  have HTK : Hid (tkn (csOf qs) (loOf ls) a = false) := hide (by rw [h3, h4, tkn_is]; exact ht)
  clear ha hc hl h3 h4 h hA hv hby hn hnl hnq ht
  go_enter Tryz.func26, Tryz.ntmps26
  go_upto_region 5 with (first | (go_at_call 60; refine (right_ok _ _ HA.out).mono ?_; rintro e w9 ⟨rfl, hw9⟩; rw [hw9]; clear hw9 w9))
  have HT := hide (two_boxes w (.int .i64 s.room) (.slice ca qs.length cc) (.slice la ls.length lc))
  generalize (w.alloc (.cells #[.int .i64 s.room, .slice ca qs.length cc, .slice la ls.length lc] 37)).alloc (.cells #[.int .i64 0, .slice none 0 0, .slice none 0 0] 37) = V at HT ⊢
  have HDB := hide HT.out.1
  have HR := hide HT.out.2.1
  have HB := hide HT.out.2.2
  have hwr : w.heap.size ≤ w.heap.size + 1 := by omega
  have hne : w.heap.size ≠ w.heap.size + 1 := by omega
  have HRV : Hid (w.heap.size + 1 < V.heap.size) := hide (cell_block HT.out.2.1.c0)
  clear HT
  generalize w.heap.size + 1 = R at HR hwr hne HRV ⊢
  have hdc : decide (s.room ≤ (s.tk.length : Int)) = false := by simp; omega
  refine wp_region_held_drew (S := fun W => B3 W w.heap.size (.int .i64 s.room) (.slice ca qs.length cc) (.slice la ls.length lc)) (by kernel_rfl) (HDB.out.below (Below.refl _ _).drew) (fun hHeld => ?_)
  have HR1 := hide (HR.out.below (Below.refl V.heap.size V).drew)
  have HB1 := hide (bt HB.out (Below.refl V.heap.size V).drew)
  generalize V.drew = V1 at HR1 HB1 hHeld ⊢
  clear HR HB HDB
  refine wpAnyH_take (i := 0) (oi := _) (v := .agg #[.int .i64 s.room, .slice ca qs.length cc, .slice la ls.length lc]) rfl (by kernel_rfl) (by kernel_rfl) (by kernel_rfl) (fun _ _ _ h => h) (Or.inl ⟨by rfl, by intro w hSw; have h0 := hSw.c0; have h1 := hSw.c1; have h2 := hSw.c2; go_simp⟩) hHeld ?_
  change wpAnyH _ _ _ _ _ _ _ (Act.put _ (some 16) _) _
  simp only [Act.put, List.setIfInBounds_toArray, List.set_cons_zero, List.set_cons_succ]
  refine wpAnyH_take (i := 1) (oi := _) (v := .int .i64 a) rfl (by kernel_rfl) (by kernel_rfl) (by kernel_rfl) (fun _ _ _ h => h) (Or.inl ⟨by rfl, by intro w hSw; go_simp⟩) hHeld ?_
  change wpAnyH _ _ _ _ _ _ _ (Act.put _ (some 17) _) _
  simp only [Act.put, List.setIfInBounds_toArray, List.set_cons_zero, List.set_cons_succ]
  refine wpAnyH_ready (rs := [2]) (by kernel_rfl) (by simp) ?_
  refine AllReadyH.cons (o := _) rfl (fun K hK => ?_) AllReadyH.nil
  go_simp
  go_at_call 61
  refine (taken_any s.room _ qs ls a _ (HC.out.below HB1.out) (HL.out.below HB1.out) HQN.out HLN.out).mono ?_
  rintro e V2 ⟨rfl, hb2⟩
  rw [HTK.out]
  go_wp2_with fail
  refine hK.out _ _ (hHeld.below hb2) (fun hHeld1 => ?_)
  clear hK K hHeld
  have hHeld := hHeld1
  clear hHeld1
  have HR2 := hide (HR1.out.below hb2)
  have HB2 := hide (bt HB1.out hb2)
  clear HR1 HB1 hb2
  refine wpAnyH_take (i := 3) (oi := _) (v := .bool true) rfl (by kernel_rfl) (by kernel_rfl) (by kernel_rfl) (fun _ _ _ h => h) (Or.inl ⟨by rfl, by intro w hSw; go_simp⟩) hHeld ?_
  change wpAnyH _ _ _ _ _ _ _ (Act.put _ (some 19) _) _
  simp only [Act.put, List.setIfInBounds_toArray, List.set_cons_zero, List.set_cons_succ]
  refine wpAnyH_take (i := 4) (oi := _) (v := .bool true) rfl (by kernel_rfl) (by kernel_rfl) (by kernel_rfl) (fun _ _ _ h => h) (Or.inl ⟨by rfl, by intro w hSw; go_simp⟩) hHeld ?_
  change wpAnyH _ _ _ _ _ _ _ (Act.put _ (some 20) _) _
  simp only [Act.put, List.setIfInBounds_toArray, List.set_cons_zero, List.set_cons_succ]
  refine wpAnyH_take (i := 5) (oi := _) (v := .agg #[.int .i64 s.room, .slice ca qs.length cc, .slice la ls.length lc]) rfl (by kernel_rfl) (by kernel_rfl) (by kernel_rfl) (fun _ _ _ h => h) (Or.inl ⟨by rfl, by intro w hSw; have h0 := hSw.c0; have h1 := hSw.c1; have h2 := hSw.c2; go_simp⟩) hHeld ?_
  change wpAnyH _ _ _ _ _ _ _ (Act.put _ (some 21) _) _
  simp only [Act.put, List.setIfInBounds_toArray, List.set_cons_zero, List.set_cons_succ]
  refine wpAnyH_take (i := 7) (oi := _) (v := .pointer (some ⟨w.heap.size, 0, none⟩)) rfl (by kernel_rfl) (by kernel_rfl) (by kernel_rfl) (fun _ _ _ h => h) (Or.inl ⟨by rfl, by intro w hSw; go_simp⟩) hHeld ?_
  change wpAnyH _ _ _ _ _ _ _ (Act.put _ (some 23) _) _
  simp only [Act.put, List.setIfInBounds_toArray, List.set_cons_zero, List.set_cons_succ]
  refine wpAnyH_take (i := 8) (oi := _) (v := .int .i64 s.room) rfl (by kernel_rfl) (by kernel_rfl) (by kernel_rfl) (fun _ _ _ h => h) (Or.inl ⟨by rfl, by intro w hSw; have h0 := hSw.c0; have h1 := hSw.c1; have h2 := hSw.c2; go_simp⟩) hHeld ?_
  change wpAnyH _ _ _ _ _ _ _ (Act.put _ (some 24) _) _
  simp only [Act.put, List.setIfInBounds_toArray, List.set_cons_zero, List.set_cons_succ]
  refine wpAnyH_ready (rs := [6]) (by kernel_rfl) (by simp) ?_
  refine AllReadyH.cons (o := _) rfl (fun K hK => ?_) AllReadyH.nil
  go_simp
  go_at_call 42
  refine (rused_any _ s _ (HDD.out.below HB2.out) HAS.out HNN.out).mono ?_
  rintro e V3 ⟨rfl, hb3⟩
  go_wp2_with fail
  refine hK.out _ _ (hHeld.below hb3) (fun hHeld1 => ?_)
  clear hK K hHeld
  have hHeld := hHeld1
  clear hHeld1
  have HR3 := hide (HR2.out.below hb3)
  have HB3 := hide (bt HB2.out hb3)
  clear HR2 HB2 hb3
  refine wpAnyH_take (i := 9) (oi := _) (v := .bool false) rfl (by kernel_rfl) (by kernel_rfl) (by kernel_rfl) (fun _ _ _ h => h) (Or.inl ⟨by rfl, by intro w hSw; go_simp⟩) hHeld ?_
  change wpAnyH _ _ _ _ _ _ _ (Act.put _ (some 25) _) _
  simp only [Act.put, List.setIfInBounds_toArray, List.set_cons_zero, List.set_cons_succ]
  refine wpAnyH_take (i := 10) (oi := _) (v := .bool false) rfl (by kernel_rfl) (by kernel_rfl) (by kernel_rfl) (fun _ _ _ h => h) (Or.inl ⟨by rfl, by intro w hSw; go_simp⟩) hHeld ?_
  change wpAnyH _ _ _ _ _ _ _ (Act.put _ (some 26) _) _
  simp only [Act.put, List.setIfInBounds_toArray, List.set_cons_zero, List.set_cons_succ]
  refine wpAnyH_done (by kernel_rfl) ?_ _
  have HDX := hide hHeld
  clear hHeld
  go_upto_region 7 with (fail)
  refine wp_region_held_drew (S := fun W => B3 W w.heap.size (.int .i64 s.room) (.slice ca qs.length cc) (.slice la ls.length lc)) (by kernel_rfl) (HDX.out.below (Below.refl _ _).drew) (fun hHeld => ?_)
  have HR4 := hide (HR3.out.below (Below.refl V3.heap.size V3).drew)
  have HB4 := hide (bt HB3.out (Below.refl V3.heap.size V3).drew)
  generalize V3.drew = V4 at HR4 HB4 hHeld ⊢
  clear HR3 HB3 HDX
  refine wpAnyH_take (i := 0) (oi := _) (v := .agg #[.int .i64 s.room, .slice ca qs.length cc, .slice la ls.length lc]) rfl (by kernel_rfl) (by kernel_rfl) (by kernel_rfl) (fun _ _ _ h => h) (Or.inl ⟨by rfl, by intro w hSw; have h0 := hSw.c0; have h1 := hSw.c1; have h2 := hSw.c2; go_simp⟩) hHeld ?_
  change wpAnyH _ _ _ _ _ _ _ (Act.put _ (some 28) _) _
  simp only [Act.put, List.setIfInBounds_toArray, List.set_cons_zero, List.set_cons_succ]
  refine wpAnyH_take (i := 1) (oi := _) (v := .int .i64 a) rfl (by kernel_rfl) (by kernel_rfl) (by kernel_rfl) (fun _ _ _ h => h) (Or.inl ⟨by rfl, by intro w hSw; go_simp⟩) hHeld ?_
  change wpAnyH _ _ _ _ _ _ _ (Act.put _ (some 29) _) _
  simp only [Act.put, List.setIfInBounds_toArray, List.set_cons_zero, List.set_cons_succ]
  refine wpAnyH_take (i := 2) (oi := _) (v := .slice ao b.length cap) rfl (by kernel_rfl) (by kernel_rfl) (by kernel_rfl) (fun _ _ _ h => h) (Or.inl ⟨by rfl, by intro w hSw; go_simp⟩) hHeld ?_
  change wpAnyH _ _ _ _ _ _ _ (Act.put _ (some 30) _) _
  simp only [Act.put, List.setIfInBounds_toArray, List.set_cons_zero, List.set_cons_succ]
  refine wpAnyH_ready (rs := [3]) (by kernel_rfl) (by simp) ?_
  refine AllReadyH.cons (o := _) rfl (fun K hK => ?_) AllReadyH.nil
  go_simp
  go_at_call 54
  refine (pad_any _ b _ (HV.out.below HB4.out) (by have := HBL.out; omega)).mono ?_
  rintro e V5 ⟨rfl, hg5, hb5⟩
  rw [pad_is HBL.out] at hg5
  go_wp2_with fail
  refine hK.out _ _ (hHeld.below hb5) (fun hHeld1 => ?_)
  clear hK K hHeld
  have hHeld := hHeld1
  clear hHeld1
  have HAU : Hid (Au V5 V4.heap.size (padL b)) := hide ⟨HBK.out, hg5⟩
  have HPG : Hid (w.heap.size ≤ V4.heap.size) := hide HB4.out.size
  have HRG : Hid (R < V4.heap.size) := hide (cell_block HR4.out.c0)
  have HR5 := hide (HR4.out.below hb5)
  have HB5 := hide (bt HB4.out hb5)
  generalize V4.heap.size = PG at HAU HPG HRG ⊢
  clear HR4 HB4 hb5 hg5
  refine wpAnyH_take (i := 4) (oi := _) (v := .agg #[.int .i64 a, .bool false, .slice (some ⟨PG, 0, none⟩) 64 64]) rfl (by kernel_rfl) (by kernel_rfl) (by kernel_rfl) (fun _ _ _ h => h) (Or.inl ⟨by rfl, by intro w hSw; go_simp⟩) hHeld ?_
  change wpAnyH _ _ _ _ _ _ _ (Act.put _ (some 32) _) _
  simp only [Act.put, List.setIfInBounds_toArray, List.set_cons_zero, List.set_cons_succ]
  refine wpAnyH_ready (rs := [5]) (by kernel_rfl) (by simp) ?_
  refine AllReadyH.cons (o := _) rfl (fun K hK => ?_) AllReadyH.nil
  go_simp
  go_at_call 62
  refine (and_any (P := fun k => (P k ∧ k < w.heap.size) ∨ k = PG) s.room (.slice ca qs.length cc) (.slice la ls.length lc) ls ((⟨a, false, padL b⟩ : Wr), PG) _ ⟨_, _, _, rfl⟩ ((HL.out.below HB5.out).keep (fun _ h _ => .inl h) (fun _ _ _ => rfl)) (fun _ => ⟨.inr rfl, HAU.out⟩) HL9.out).mono ?_
  rintro e V6 ⟨v7, rfl, hl7, hb6⟩
  obtain ⟨a7, c7, rfl⟩ := hl7.fm
  go_wp2_with fail
  refine hK.out _ _ (hHeld.below hb6) (fun hHeld1 => ?_)
  clear hK K hHeld
  have hHeld := hHeld1
  clear hHeld1
  have HR6 := hide (HR5.out.below hb6)
  have HB6 := hide (bt HB5.out hb6)
  have HL7 := hide hl7
  have HS5 : Hid (R < V5.heap.size) := hide (cell_block HR5.out.c0)
  have HS6 : Hid (w.heap.size ≤ V5.heap.size) := hide HB5.out.size
  clear HR5 HB5 hb6 hl7
  refine wpAnyH_ready (rs := [6]) (by kernel_rfl) (by simp) ?_
  refine AllReadyH.cons (o := _) rfl (fun K hK => ?_) AllReadyH.nil
  have e0 := HR6.out.c0
  have e1 := HR6.out.c1
  have e2 := HR6.out.c2
  have f0 := HR6.out.fz 0
  have f1 := HR6.out.fz 1
  have f2 := HR6.out.fz 2
  go_simp
  clear e0 e1 e2 f0 f1 f2
  refine hK.out _ _ (((hHeld.setO hne _).setO hne _).setO hne _) (fun hHeld1 => ?_)
  clear hK K hHeld
  have hHeld := hHeld1
  clear hHeld1
  refine wpAnyH_take (i := 7) (oi := _) (v := .int .i64 0) rfl (by kernel_rfl) (by kernel_rfl) (by kernel_rfl) (fun _ _ _ h => h) (Or.inl ⟨by rfl, by intro w hSw; go_simp⟩) hHeld ?_
  change wpAnyH _ _ _ _ _ _ _ (Act.put _ (some 7) _) _
  simp only [Act.put, List.setIfInBounds_toArray, List.set_cons_zero, List.set_cons_succ]
  refine wpAnyH_done (by kernel_rfl) ?_ _
  go_wp2
  have hl7 := HL7.out
  have hlen : (ls ++ [(((⟨a, false, padL b⟩ : Wr), PG) : Dw)]).length = ls.length + 1 := by simp
  rw [hlen] at hl7
  have hb9 := set3_below HB6.out hwr (.int .i64 s.room) (.slice ca qs.length cc) (.slice a7 (ls.length + 1) c7)
  refine bodyPost_ret (v := .tuple #[.agg #[_, _, _], .int .i64 0]) (res_two Tryz.results26 _ _ R [_, _, _] _ _ rfl rfl (HR6.out.all (.int .i64 s.room) (.slice ca qs.length cc) (.slice a7 (ls.length + 1) c7)).rg Tryz.underlying37 rfl infoDd) rfl ⟨_, rfl, ⟨_, _, qs, ls ++ [(⟨a, false, padL b⟩, PG)], rfl, ?_, ?_, H3.out, by rw [loOf, List.map_append]; exact congrArg (· ++ [(⟨a, false, padL b⟩ : Wr)]) H4.out⟩, hb9⟩
  · exact HC.out.keep (fun k h _ => .inl h.1) (fun k h hk => hb9.block k hk)
  · exact hl7.keep (fun k h _ => h.elim (fun q => q.elim (fun q => .inl q.1) (fun q => .inr (by have := HPG.out; omega))) (fun q => .inr (by have := HS6.out; omega))) (fun k h _ => set3_heap (h.elim (fun q => q.elim (fun q => by have := q.2; omega) (fun q => by have := HRG.out; omega)) (fun q => by have := HS5.out; omega)) _ _ _)
theorem rputA_any {P : Nat → Prop} (v : Value) (a : Int) (vb : Value) (b : List Int) (s : Dst) (w : World) (h : Dd w P v s) (hA : Asc s.cs) (hv : Sl bc w vb b) (hby : Byt b) (hn : s.cs.length + s.lo.length < 80000) : Calls Tryz.prog 26 #[v, .int .i64 a, vb] w fun e w' => ∃ v', e = .returned (.tuple #[v', .int .i64 (wrC s a b)]) ∧ Dd w' (fun k => P k ∨ w.heap.size ≤ k) v' (wrS s a b) ∧ Below w.heap.size w w' := by
  by_cases h1 : 0 ≤ a ∧ a ≤ 1073741824
  · by_cases h2 : b.length ≤ 64
    · by_cases h3 : (look s.tk a).isSome = true ∨ (s.tk.length : Int) < s.room
      · have e1 : wrC s a b = 0 := by unfold wrC wrE; rw [if_pos h1, if_pos h2, if_pos h3]
        have e2 : wrS s a b = ⟨s.room, s.cs, s.lo ++ [⟨a, false, padL b⟩]⟩ := by unfold wrS; rw [if_pos h1, if_pos h2, if_pos h3]
        rw [e1, e2]
        cases hq : (look s.tk a).isSome with
        | true => exact rputA_taken v a vb b s w h h1 hA hv hby h2 hn hq
        | false => exact rputA_new v a vb b s w h h1 hA hv hby h2 hn hq (h3.resolve_left (by rw [hq]; simp))
      · have e1 : wrC s a b = 7 := by unfold wrC wrE; rw [if_pos h1, if_pos h2, if_neg h3]
        have e2 : wrS s a b = s := by unfold wrS; rw [if_pos h1, if_pos h2, if_neg h3]
        rw [e1, e2]
        have hq : (look s.tk a).isSome = false := by
          cases hq : (look s.tk a).isSome
          · rfl
          · exact absurd (.inl hq) h3
        exact rputA_full v a vb b s w h h1 hA hv hby h2 hn hq (by omega)
    · have e1 : wrC s a b = 6 := by unfold wrC wrE; rw [if_pos h1, if_neg h2]
      have e2 : wrS s a b = s := by unfold wrS; rw [if_pos h1, if_neg h2]
      rw [e1, e2]
      obtain ⟨ao, cap, rfl⟩ := hv.form
      exact rputA_long v a ao b.length cap s w h h1 (by omega)
  · have e1 : wrC s a b = 2 := by unfold wrC wrE; rw [if_neg h1]
    have e2 : wrS s a b = s := by unfold wrS; rw [if_neg h1]
    rw [e1, e2]
    exact rputA_bad v a vb s w h h1
end Go.Proofs.YtoamghncncalgaaGreatDoor
namespace Go.Proofs.YtoamghncncalgaaGreatDoor
open Go.RowKit

theorem three_boxes (w : World) (n : Int) (vc vl : Value) : B3 (((w.alloc (.cells #[.int .i64 n, vc, vl] 37)).alloc (.cells #[.int .i64 0, .slice none 0 0, .slice none 0 0] 37)).alloc (.cells #[.int .i64 n, vc, .slice none 0 0] 37)) w.heap.size (.int .i64 n) vc vl ∧ B3 (((w.alloc (.cells #[.int .i64 n, vc, vl] 37)).alloc (.cells #[.int .i64 0, .slice none 0 0, .slice none 0 0] 37)).alloc (.cells #[.int .i64 n, vc, .slice none 0 0] 37)) (w.heap.size + 1) (.int .i64 0) (.slice none 0 0) (.slice none 0 0) ∧ B3 (((w.alloc (.cells #[.int .i64 n, vc, vl] 37)).alloc (.cells #[.int .i64 0, .slice none 0 0, .slice none 0 0] 37)).alloc (.cells #[.int .i64 n, vc, .slice none 0 0] 37)) (w.heap.size + 1 + 1) (.int .i64 n) vc (.slice none 0 0) ∧ Below w.heap.size w (((w.alloc (.cells #[.int .i64 n, vc, vl] 37)).alloc (.cells #[.int .i64 0, .slice none 0 0, .slice none 0 0] 37)).alloc (.cells #[.int .i64 n, vc, .slice none 0 0] 37)) ∧ (((w.alloc (.cells #[.int .i64 n, vc, vl] 37)).alloc (.cells #[.int .i64 0, .slice none 0 0, .slice none 0 0] 37)).alloc (.cells #[.int .i64 n, vc, .slice none 0 0] 37)).heap.size = w.heap.size + 1 + 1 + 1 := by
  have s1 : (w.alloc (.cells #[.int .i64 n, vc, vl] 37)).heap.size = w.heap.size + 1 := by simp
  have hb1 := al_d w (.cells #[.int .i64 n, vc, vl] 37)
  have d1 := b3_new w (.int .i64 n) vc vl 37
  generalize w.alloc (.cells #[.int .i64 n, vc, vl] 37) = W1 at s1 hb1 d1 ⊢
  have r2 := b3_new W1 (.int .i64 0) (.slice none 0 0) (.slice none 0 0) 37
  have d2 := d1.below (al_d W1 (.cells #[.int .i64 0, .slice none 0 0, .slice none 0 0] 37))
  have hb2 := bt hb1 (al_d W1 (.cells #[.int .i64 0, .slice none 0 0, .slice none 0 0] 37))
  have s2 : (W1.alloc (.cells #[.int .i64 0, .slice none 0 0, .slice none 0 0] 37)).heap.size = w.heap.size + 1 + 1 := by simp [s1]
  generalize W1.alloc (.cells #[.int .i64 0, .slice none 0 0, .slice none 0 0] 37) = W2 at r2 d2 hb2 s2 ⊢
  have x3 := b3_new W2 (.int .i64 n) vc (.slice none 0 0) 37
  have r3 := r2.below (al_d W2 (.cells #[.int .i64 n, vc, .slice none 0 0] 37))
  have d3 := d2.below (al_d W2 (.cells #[.int .i64 n, vc, .slice none 0 0] 37))
  have hb3 := bt hb2 (al_d W2 (.cells #[.int .i64 n, vc, .slice none 0 0] 37))
  rw [s2] at x3
  rw [s1] at r3
  exact ⟨d3, r3, x3, hb3, by simp [s2]⟩
theorem B3.set1 {W : World} {g : Nat} {x y z : Value} (h : B3 W g x y z) (y' : Value) : B3 (W.setCell ⟨g, 1, none⟩ y') g x y' z :=
  ⟨by rw [World.cell?_setCell_other _ _ _ _ (by simp)]; exact h.c0, World.cell?_setCell_same _ _ _ h.c1, by rw [World.cell?_setCell_other _ _ _ _ (by simp)]; exact h.c2, fun i => by simp [h.fz i]⟩
theorem range_set1 {W : World} {b o g i : Nat} {l : List Value} (h : W.rangeAt b o l) (hne : b ≠ g) (v : Value) : (W.setCell ⟨g, i, none⟩ v).rangeAt b o l := fun j u hu => (World.cell?_setCell_other _ _ _ _ (fun q => hne (congrArg Addr.block q).symm)).trans (h j u hu)
theorem syn_take {cs : Cs} {lo : List Wr} {k : Nat} (h : k < lo.length) : syn cs (lo.take (k + 1)) = stS (syn cs (lo.take k)) lo[k] := by rw [take_step h, syn_snoc]
theorem syn_lenk {cs : Cs} (h : Asc cs) : ∀ (lo : List Wr), (syn cs lo).length ≤ cs.length + lo.length := fun lo => by
  have := syS_wt (s := ⟨0, cs, lo⟩)
  induction lo generalizing cs with
  | nil => simp [syn]
  | cons q r ih =>
    have h1 : (stS cs q).length ≤ cs.length + 1 := by
      unfold stS
      split
      · exact Nat.le_trans (List.length_filter_le _ _) (Nat.le_succ _)
      · rw [ins_len _ _ h]; split <;> omega
    have h2 := ih (cs := stS cs q) (asc_stS h q) (syS_wt (s := ⟨0, stS cs q, r⟩))
    show (syn (stS cs q) r).length ≤ _
    simp only [List.length_cons]
    omega
set_option maxRecDepth 100000 in
set_option maxHeartbeats 8000000 in
theorem rsync_any {P : Nat → Prop} (v : Value) (s : Dst) (w : World) (h : Dd w P v s) (hA : Asc s.cs) (hn : s.cs.length + s.lo.length < 80000) : Calls Tryz.prog 28 #[v] w fun e w' => ∃ v', e = .returned v' ∧ Dd w' (fun k => P k ∨ w.heap.size ≤ k) v' (syS s) ∧ Below w.heap.size w w' := by
  obtain ⟨vc, vl, qs, ls, rfl, hc, hl, h3, h4⟩ := h.old
  obtain ⟨ca, cc, rfl⟩ := hc.fm
  obtain ⟨la, lc, rfl⟩ := hl.fm
  have hnl : ls.length = s.lo.length := by have := congrArg List.length h4; simpa [loOf] using this
  have HA := hide hA
  have HC := hide hc
  have HL := hide hl
  have H3 := hide h3
  have H4 := hide h4
  have HT := hide (three_boxes w s.room (.slice ca qs.length cc) (.slice la ls.length lc))
  have HNL := hide hnl
  have hls : ls.length < 80000 := by omega
  clear hA hc hl h3 h4 h hnl
  go_enter Tryz.func28, Tryz.ntmps28
  go_wp2
  generalize ((w.alloc (.cells #[.int .i64 s.room, .slice ca qs.length cc, .slice la ls.length lc] 37)).alloc (.cells #[.int .i64 0, .slice none 0 0, .slice none 0 0] 37)).alloc (.cells #[.int .i64 s.room, .slice ca qs.length cc, .slice none 0 0] 37) = V at HT ⊢
  have HSV : Hid (V.heap.size = w.heap.size + 1 + 1 + 1) := hide HT.out.2.2.2.2
  have HCV : Hid (Cl V (fun k => (P k ∧ k < w.heap.size) ∨ w.heap.size + 1 + 1 + 1 ≤ k) (.slice ca qs.length cc) qs) := hide ((HC.out.below HT.out.2.2.2.1).keep (fun k h _ => .inl h) (fun _ _ _ => rfl))
  go_loopw [4] (fun i W => ∃ (k : Nat) (vk : Value) (qk : List Ce), k ≤ ls.length ∧ i = .int .i64 k ∧ B3 W w.heap.size (.int .i64 s.room) (.slice ca qs.length cc) (.slice la ls.length lc) ∧ B3 W (w.heap.size + 1) (.int .i64 0) (.slice none 0 0) (.slice none 0 0) ∧ B3 W (w.heap.size + 1 + 1) (.int .i64 s.room) vk (.slice none 0 0) ∧ Cl W (fun k => (P k ∧ k < w.heap.size) ∨ w.heap.size + 1 + 1 + 1 ≤ k) vk qk ∧ csOf qk = syn s.cs (s.lo.take k) ∧ Below w.heap.size w W ∧ w.heap.size + 1 + 1 + 1 ≤ W.heap.size) (fun i _ => ls.length - (iv i).toNat)
  case atStart => exact ⟨0, _, qs, Nat.zero_le _, rfl, HT.out.1, HT.out.2.1, HT.out.2.2.1, HCV.out, by rw [List.take_zero]; exact H3.out, HT.out.2.2.2.1, Nat.le_of_eq HSV.out.symm⟩
  case round =>
    obtain ⟨k, vk, qk, hk, rfl, hd, hr, hx, hck, hcs, hb, hsz⟩ := hrel
    have HD := hide hd
    have HR := hide hr
    have HX := hide hx
    have HCK := hide hck
    have HCS := hide hcs
    have HB := hide hb
    have HSZ := hide hsz
    obtain ⟨ka, kc, rfl⟩ := hck.fm
    have d2 := hd.c2
    clear hd hr hx hck hcs hb hsz
    by_cases hlt : k < ls.length
    · obtain ⟨lb, lo, c', e, hP, hrg⟩ := HL.out.rg (by omega)
      cases e
      have hlo : k < s.lo.length := by have := HNL.out; omega
      have hq4 : (ls[k]).1 = s.lo[k] := by have := congrArg (fun L => L[k]?) H4.out; simp only [loOf, List.getElem?_map, List.getElem?_eq_getElem hlt, List.getElem?_eq_getElem hlo, Option.map_some] at this; exact Option.some.inj this
      have HRG := hide (fm_at dwc 3 (fun _ => rfl) hrg hlt)
      have HAU := hide (HL.out.au _ (List.getElem_mem hlt))
      have HSY : Hid (syn s.cs (s.lo.take (k + 1)) = stS (syn s.cs (s.lo.take k)) (ls[k]).1) := hide (by rw [hq4]; exact syn_take hlo)
      have HLB : Hid (lb ≠ w.heap.size + 1 + 1) := hide (by have : lb < w.heap.size := cell_block (HRG.out 0 _ rfl); omega)
      clear hrg hP hq4 hlo
      generalize ls[k] = q at HRG HAU HSY
      obtain ⟨va, vn, vc', hv⟩ := dwv_form q
      have HDW : Hid (dwc q = [.int .i64 q.1.at_, .bool q.1.fr, .slice va vn vc']) := hide (by unfold dwc; rw [hv])
      clear hv
      have HQK : Hid (qk.length < 90000) := hide (by have h1 := congrArg List.length HCS.out; have h2 := syn_lenk HA.out (s.lo.take k); rw [List.length_take] at h2; simp only [csOf, List.length_map] at h1; omega)
      go_wp2_with fail
      clear d2
      have hdw : Below wr.heap.size wr wr.drew := (Below.refl _ _).drew
      refine wp_region_held_drew (S := fun W => W.cell? ⟨w.heap.size, 2, none⟩ = some (.slice (some ⟨lb, lo, none⟩) ls.length lc) ∧ W.rangeAt lb (lo + k * 3) (dwc q)) (by kernel_rfl) ⟨(HD.out.below hdw).c2, range_belW HRG.out (HB.out.trans (hdw.mono HB.out.size))⟩ (fun hHeld => ?_)
      have HD4 := hide (HD.out.below hdw)
      have HR4 := hide (HR.out.below hdw)
      have HX4 := hide (HX.out.below hdw)
      have HCK4 := hide (HCK.out.below hdw)
      have HB4 := hide (HB.out.trans (hdw.mono HB.out.size))
      have HSZ4 := hide (Nat.le_trans HSZ.out hdw.size)
      generalize wr.drew = V4 at HD4 HR4 HX4 HCK4 HB4 HSZ4 hHeld ⊢
      clear hdw HD HR HX HCK HB HSZ
      refine wpAnyH_take (i := 0) (oi := _) (v := .pointer (some ⟨w.heap.size + 1 + 1, 1, none⟩)) rfl (by kernel_rfl) (by kernel_rfl) (by kernel_rfl) (fun _ _ _ h => h) (Or.inl ⟨by rfl, by intro w hSw; go_simp⟩) hHeld ?_
      change wpAnyH _ _ _ _ _ _ _ (Act.put _ (some 17) _) _
      simp only [Act.put, List.setIfInBounds_toArray, List.set_cons_zero, List.set_cons_succ]
      refine wpAnyH_take (i := 2) (oi := _) (v := .pointer (some ⟨w.heap.size, 2, none⟩)) rfl (by kernel_rfl) (by kernel_rfl) (by kernel_rfl) (fun _ _ _ h => h) (Or.inl ⟨by rfl, by intro w hSw; go_simp⟩) hHeld ?_
      change wpAnyH _ _ _ _ _ _ _ (Act.put _ (some 19) _) _
      simp only [Act.put, List.setIfInBounds_toArray, List.set_cons_zero, List.set_cons_succ]
      refine wpAnyH_take (i := 3) (oi := _) (v := .slice (some ⟨lb, lo, none⟩) ls.length lc) rfl (by kernel_rfl) (by kernel_rfl) (by kernel_rfl) (fun _ _ _ h => h) (Or.inl ⟨by rfl, by intro w hSw; have c2 := hSw.1; go_simp⟩) hHeld ?_
      change wpAnyH _ _ _ _ _ _ _ (Act.put _ (some 20) _) _
      simp only [Act.put, List.setIfInBounds_toArray, List.set_cons_zero, List.set_cons_succ]
      refine wpAnyH_take (i := 4) (oi := _) (v := .int .i64 (k : Int)) rfl (by kernel_rfl) (by kernel_rfl) (by kernel_rfl) (fun _ _ _ h => h) (Or.inl ⟨by rfl, by intro w hSw; go_simp⟩) hHeld ?_
      change wpAnyH _ _ _ _ _ _ _ (Act.put _ (some 21) _) _
      simp only [Act.put, List.setIfInBounds_toArray, List.set_cons_zero, List.set_cons_succ]
      refine wpAnyH_take (i := 5) (oi := _) (v := .pointer (some ⟨lb, lo + k * 3, none⟩)) rfl (by kernel_rfl) (by kernel_rfl) (by kernel_rfl) (fun _ _ _ h => h) (Or.inl ⟨by rfl, by intro w hSw; go_simp⟩) hHeld ?_
      change wpAnyH _ _ _ _ _ _ _ (Act.put _ (some 22) _) _
      simp only [Act.put, List.setIfInBounds_toArray, List.set_cons_zero, List.set_cons_succ]
      refine wpAnyH_take (i := 6) (oi := _) (v := _) rfl (by kernel_rfl) (by kernel_rfl) (by kernel_rfl) (fun _ _ _ h => h) (yieldsIf_load_mid (by rfl) _ _ rfl _ _ rfl (dwc q) _ (fun W hW => hW.2) Tryz.underlying107 rfl (by kernel_rfl)) hHeld ?_
      change wpAnyH _ _ _ _ _ _ _ (Act.put _ (some 23) _) _
      simp only [Act.put, List.setIfInBounds_toArray, List.set_cons_zero, List.set_cons_succ]
      refine wpAnyH_ready (rs := [1]) (by kernel_rfl) (by simp) ?_
      refine AllReadyH.cons (o := _) rfl (fun K hK => ?_) AllReadyH.nil
      have x1 := HX4.out.c1
      go_simp
      clear x1
      refine hK.out _ _ hHeld (fun hHeld1 => ?_)
      clear hK K hHeld
      have hHeld := hHeld1
      clear hHeld1
      refine wpAnyH_ready (rs := [7]) (by kernel_rfl) (by simp) ?_
      refine AllReadyH.cons (o := _) rfl (fun K hK => ?_) AllReadyH.nil
      go_simp
      go_at_call 55
      refine (rput_any _ qk q _ HCK4.out (fun e => ⟨.inl (HAU.out e).1, (HAU.out e).2.keep (HB4.out.block _ (HAU.out e).2.lt)⟩) HQK.out).mono ?_
      rintro e V6 ⟨v6, rfl, hc6, hb6⟩
      obtain ⟨a6, c6, rfl⟩ := hc6.fm
      go_wp2_with fail
      refine hK.out _ _ ⟨(HD4.out.below hb6).c2, range_belW hHeld.2 hb6⟩ (fun hHeld1 => ?_)
      clear hK K hHeld
      have hHeld := hHeld1
      clear hHeld1
      have HD6 := hide (HD4.out.below hb6)
      have HR6 := hide (HR4.out.below hb6)
      have HX6 := hide (HX4.out.below hb6)
      have HB6 := hide (HB4.out.trans (hb6.mono HB4.out.size))
      have HSZ6 := hide (Nat.le_trans HSZ4.out hb6.size)
      have HC6 := hide (hc6.keep (P' := fun k => (P k ∧ k < w.heap.size) ∨ w.heap.size + 1 + 1 + 1 ≤ k) (fun k h _ => h.elim id (fun h => .inr (Nat.le_trans HSZ4.out h))) (fun _ _ _ => rfl))
      clear hc6 hb6 HD4 HR4 HX4 HCK4 HB4 HSZ4
      refine wpAnyH_take (i := 8) (oi := _) (v := .pointer (some ⟨w.heap.size + 1 + 1, 1, none⟩)) rfl (by kernel_rfl) (by kernel_rfl) (by kernel_rfl) (fun _ _ _ h => h) (Or.inl ⟨by rfl, by intro w hSw; go_simp⟩) hHeld ?_
      change wpAnyH _ _ _ _ _ _ _ (Act.put _ (some 25) _) _
      simp only [Act.put, List.setIfInBounds_toArray, List.set_cons_zero, List.set_cons_succ]
      refine wpAnyH_ready (rs := [9]) (by kernel_rfl) (by simp) ?_
      refine AllReadyH.cons (o := _) rfl (fun K hK => ?_) AllReadyH.nil
      have x1 := HX6.out.c1
      have xf := HX6.out.fz 1
      go_simp
      clear x1 xf
      refine hK.out _ _ ⟨(HD6.out.setO (k := w.heap.size + 1 + 1) (i := 1) (by omega) _).c2, range_set1 hHeld.2 HLB.out _⟩ (fun hHeld1 => ?_)
      clear hK K hHeld
      have hHeld := hHeld1
      clear hHeld1
      refine wpAnyH_done (by kernel_rfl) ?_ _
      clear hHeld
      have HNO : Hid (∀ k, ((P k ∧ k < w.heap.size) ∨ w.heap.size + 1 + 1 + 1 ≤ k) → k ≠ w.heap.size + 1 + 1) := hide (fun k h => h.elim (fun q => by have := q.2; omega) (fun q => by omega))
      go_wp2
      exact ⟨⟨k + 1, _, _, by omega, by go_num, HD6.out.setO (by omega) _, HR6.out.setO (by omega) _, HX6.out.set1 _, HC6.out.keep (fun _ h _ => h) (fun k h _ => Below.heap_setCell _ _ _ _ (HNO.out k h)), by rw [putQ_stS q.1 q.2 qk (by rw [HCS.out]; exact asc_syn HA.out _), HCS.out, HSY.out], HB6.out.setCell (p := ⟨w.heap.size + 1 + 1, 1, none⟩) (by simp; omega) _, by simpa using HSZ6.out⟩, by simp [iv]; omega⟩
    · obtain rfl : k = ls.length := by omega
      have HTK : Hid (s.lo.take ls.length = s.lo) := hide (List.take_of_length_le (by have := HNL.out; omega))
      obtain ⟨x0, x1, x2, _⟩ := HX.out
      obtain ⟨r0, r1, r2, rf⟩ := HR.out
      have f0 := rf 0
      have f1 := rf 1
      have f2 := rf 2
      clear rf
      have hwr : w.heap.size ≤ w.heap.size + 1 := by omega
      have HNE : Hid (∀ k, ((P k ∧ k < w.heap.size) ∨ w.heap.size + 1 + 1 + 1 ≤ k) → k ≠ w.heap.size + 1) := hide (fun k h => h.elim (fun q => by have := q.2; omega) (fun q => by omega))
      have HPP : Hid (∀ k, ((P k ∧ k < w.heap.size) ∨ w.heap.size + 1 + 1 + 1 ≤ k) → P k ∨ w.heap.size ≤ k) := hide (fun k h => h.elim (fun q => .inl q.1) (fun q => .inr (by omega)))
      generalize w.heap.size + 1 + 1 + 1 = Q4 at HCK HNE HPP
      generalize w.heap.size + 1 + 1 = X at x0 x1 x2 ⊢
      generalize w.heap.size + 1 = R at r0 r1 r2 f0 f1 f2 hwr HR HNE ⊢
      go_wp2
      have hb9 := set3_below HB.out hwr (.int .i64 s.room) (.slice ka qk.length kc) (.slice none 0 0)
      exact bodyPost_ret (v := .agg #[_, _, _]) (res_one Tryz.results28 _ _ R [_, _, _] _ rfl (HR.out.all (.int .i64 s.room) (.slice ka qk.length kc) (.slice none 0 0)).rg Tryz.underlying37 rfl infoDd) rfl ⟨_, rfl, ⟨_, _, qk, [], rfl, HCK.out.keep (fun k h _ => HPP.out k h) (fun k h _ => set3_heap (HNE.out k h) _ _ _), ⟨⟨_, _, rfl⟩, (fun h => by simp at h), (fun q hq => by simp at hq)⟩, by rw [HCS.out, HTK.out]; rfl, rfl⟩, hb9⟩
end Go.Proofs.YtoamghncncalgaaGreatDoor
