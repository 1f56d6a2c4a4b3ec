/-
  THE DOCUMENT's CALLS OVER A STORE THAT HAS NOTHING (castellanref08.Put, Free, Read, Sync, Crash): each comes to its end, and turns nothing old. Condition: not more than a hundred thousand bytes.
-/
import Derived.Test.YtpmpmdlmcpakiaaDoorDoc0
namespace Go.Proofs.YtpmpmdlmcpakiaaDoor
open Go.RowKit

set_option maxRecDepth 100000 in
set_option maxHeartbeats 4000000 in
theorem rfree0 (n a : Int) (w : World) : Calls Tryd.prog 24 #[zd n, .int .i64 a] w fun e w' => ∃ v c, e = .returned (.tuple #[v, .int .i64 c]) ∧ Dv v ∧ Below w.heap.size w w' := by
  by_cases ha : Num a
  · have HA := hide ha
    clear ha
    go_enter Tryd.func24, Tryd.ntmps24
    go_upto_region 3 with (first | (go_at_call 41; refine (right_ok _ _ HA.out).mono ?_; rintro e w9 ⟨rfl, hw9⟩; rw [hw9]; clear hw9 w9))
    have hb1 := al_d w (.cells #[.int .i64 n, .slice none 0 0, .slice none 0 0] 35)
    have hr := b3_new (w.alloc (.cells #[.int .i64 n, .slice none 0 0, .slice none 0 0] 35)) (.int .i64 0) (.slice none 0 0) (.slice none 0 0) 35
    have hb2 := bt hb1 (al_d (w.alloc (.cells #[.int .i64 n, .slice none 0 0, .slice none 0 0] 35)) (.cells #[.int .i64 0, .slice none 0 0, .slice none 0 0] 35))
    have hd := (b3_new w (.int .i64 n) (.slice none 0 0) (.slice none 0 0) 35).below (al_d _ (.cells #[.int .i64 0, .slice none 0 0, .slice none 0 0] 35))
    have s1 : (w.alloc (.cells #[.int .i64 n, .slice none 0 0, .slice none 0 0] 35)).heap.size = w.heap.size + 1 := by simp
    rw [s1] at hr
    generalize (w.alloc (.cells #[.int .i64 n, .slice none 0 0, .slice none 0 0] 35)).alloc (.cells #[.int .i64 0, .slice none 0 0, .slice none 0 0] 35) = V at hr hb2 hd ⊢
    have HR := hide hr
    have HB := hide hb2
    obtain ⟨d0, d1, d2, _⟩ := hd
    have hwr : w.heap.size ≤ w.heap.size + 1 := by omega
    generalize w.heap.size + 1 = R at HR hwr ⊢
    clear hr hb1 hb2 s1
    go_wp2_with (first | (go_at_call 43; refine (and0 n a true none 0 0 _).mono ?_; rintro e W7 ⟨v7, rfl, ⟨r7, a1, n1, c1, a2, n2, c2, rfl⟩, hb7⟩; have HR7 := hide (HR.out.below hb7); have HB7 := hide (bt HB.out hb7); have e0 := HR7.out.c0; have e1 := HR7.out.c1; have e2 := HR7.out.c2; have f0 := HR7.out.fz 0; have f1 := HR7.out.fz 1; have f2 := HR7.out.fz 2; clear hb7))
    exact bodyPost_ret (v := .tuple #[.agg #[_, _, _], .int .i64 0]) (res_two Tryd.results24 _ _ R [_, _, _] _ _ rfl rfl (HR7.out.all (.int .i64 r7) (.slice a1 n1 c1) (.slice a2 n2 c2)).rg Tryd.underlying35 rfl infoDd) rfl ⟨_, _, rfl, ⟨_, _, _, _, _, _, _, rfl⟩, set3_below HB7.out hwr _ _ _⟩
  · have HA := hide ha
    clear ha
    go_enter Tryd.func24, Tryd.ntmps24
    go_upto_region 2 with (first | (go_at_call 41; refine (right_bad _ _ HA.out).mono ?_; rintro e w9 ⟨rfl, hw9⟩; rw [hw9]; clear hw9 w9))
    have hb1 := al_d w (.cells #[.int .i64 n, .slice none 0 0, .slice none 0 0] 35)
    have hr := b3_new (w.alloc (.cells #[.int .i64 n, .slice none 0 0, .slice none 0 0] 35)) (.int .i64 0) (.slice none 0 0) (.slice none 0 0) 35
    have hb2 := bt hb1 (al_d (w.alloc (.cells #[.int .i64 n, .slice none 0 0, .slice none 0 0] 35)) (.cells #[.int .i64 0, .slice none 0 0, .slice none 0 0] 35))
    have hd := (b3_new w (.int .i64 n) (.slice none 0 0) (.slice none 0 0) 35).below (al_d _ (.cells #[.int .i64 0, .slice none 0 0, .slice none 0 0] 35))
    have s1 : (w.alloc (.cells #[.int .i64 n, .slice none 0 0, .slice none 0 0] 35)).heap.size = w.heap.size + 1 := by simp
    rw [s1] at hr
    generalize (w.alloc (.cells #[.int .i64 n, .slice none 0 0, .slice none 0 0] 35)).alloc (.cells #[.int .i64 0, .slice none 0 0, .slice none 0 0] 35) = V at hr hb2 hd ⊢
    have HR := hide hr
    have HB := hide hb2
    obtain ⟨d0, d1, d2, _⟩ := hd
    have hwr : w.heap.size ≤ w.heap.size + 1 := by omega
    generalize w.heap.size + 1 = R at HR hwr ⊢
    clear hr hb1 hb2 s1
    have e0 := HR.out.c0
    have e1 := HR.out.c1
    have e2 := HR.out.c2
    have f0 := HR.out.fz 0
    have f1 := HR.out.fz 1
    have f2 := HR.out.fz 2
    go_wp2
    exact bodyPost_ret (v := .tuple #[.agg #[_, _, _], .int .i64 2]) (res_two Tryd.results24 _ _ R [_, _, _] _ _ rfl rfl (HR.out.all (.int .i64 n) (.slice none 0 0) (.slice none 0 0)).rg Tryd.underlying35 rfl infoDd) rfl ⟨_, _, rfl, ⟨_, _, _, _, _, _, _, rfl⟩, set3_below HB.out hwr _ _ _⟩
/-! ### generated -/
theorem sl_blk {W : World} {g : Nat} {b : List Int} {t : TypeId} (hb : b.length = 64) (h : W.heap[g]? = some (.cells (bv b).toArray t (0, 0))) : Sl bc W (.slice (some ⟨g, 0, none⟩) 64 64) b := .inr ⟨g, 0, 64, by rw [hb], by rw [hb]; exact Nat.le_refl _, fun i hi => by
  rw [Nat.zero_add]
  exact arr_at0 h (List.getElem?_eq_getElem hi)⟩
set_option maxRecDepth 100000 in
set_option maxHeartbeats 4000000 in
theorem rput_bad (n a : Int) (v : Value) (w : World) (ha : ¬ Num a) : Calls Tryd.prog 22 #[zd n, .int .i64 a, v] w fun e w' => ∃ v c, e = .returned (.tuple #[v, .int .i64 c]) ∧ Dv v ∧ Below w.heap.size w w' := by
  have HA := hide ha
  clear ha
  go_enter Tryd.func22, Tryd.ntmps22
  go_upto_region 2 with (first | (go_at_call 41; refine (right_bad _ _ HA.out).mono ?_; rintro e w9 ⟨rfl, hw9⟩; rw [hw9]; clear hw9 w9))
  have hb1 := al_d w (.cells #[.int .i64 n, .slice none 0 0, .slice none 0 0] 35)
  have hr := b3_new (w.alloc (.cells #[.int .i64 n, .slice none 0 0, .slice none 0 0] 35)) (.int .i64 0) (.slice none 0 0) (.slice none 0 0) 35
  have hb2 := bt hb1 (al_d (w.alloc (.cells #[.int .i64 n, .slice none 0 0, .slice none 0 0] 35)) (.cells #[.int .i64 0, .slice none 0 0, .slice none 0 0] 35))
  have hd := (b3_new w (.int .i64 n) (.slice none 0 0) (.slice none 0 0) 35).below (al_d _ (.cells #[.int .i64 0, .slice none 0 0, .slice none 0 0] 35))
  have s1 : (w.alloc (.cells #[.int .i64 n, .slice none 0 0, .slice none 0 0] 35)).heap.size = w.heap.size + 1 := by simp
  rw [s1] at hr
  generalize (w.alloc (.cells #[.int .i64 n, .slice none 0 0, .slice none 0 0] 35)).alloc (.cells #[.int .i64 0, .slice none 0 0, .slice none 0 0] 35) = V at hr hb2 hd ⊢
  have HR := hide hr
  have HB := hide hb2
  have HDD := hide hd
  obtain ⟨d0, d1, d2, _⟩ := hd
  have hwr : w.heap.size ≤ w.heap.size + 1 := by omega
  have hne : w.heap.size ≠ w.heap.size + 1 := by omega
  generalize w.heap.size + 1 = R at HR hwr hne ⊢
  clear hr hb1 hb2 s1
  have e0 := HR.out.c0
  have e1 := HR.out.c1
  have e2 := HR.out.c2
  have f0 := HR.out.fz 0
  have f1 := HR.out.fz 1
  have f2 := HR.out.fz 2
  go_wp2
  exact bodyPost_ret (v := .tuple #[.agg #[_, _, _], .int .i64 2]) (res_two Tryd.results22 _ _ R [_, _, _] _ _ rfl rfl (HR.out.all (.int .i64 n) (.slice none 0 0) (.slice none 0 0)).rg Tryd.underlying35 rfl infoDd) rfl ⟨_, _, rfl, ⟨_, _, _, _, _, _, _, rfl⟩, set3_below HB.out hwr _ _ _⟩
set_option maxRecDepth 100000 in
set_option maxHeartbeats 4000000 in
theorem rput_long (n a : Int) (ao : Option Addr) (m cap : Nat) (w : World) (ha : Num a) (hm : 64 < m) : Calls Tryd.prog 22 #[zd n, .int .i64 a, .slice ao m cap] w fun e w' => ∃ v c, e = .returned (.tuple #[v, .int .i64 c]) ∧ Dv v ∧ Below w.heap.size w w' := by
  have HA := hide ha
  clear ha
  go_enter Tryd.func22, Tryd.ntmps22
  go_upto_region 4 with (first | (go_at_call 41; refine (right_ok _ _ HA.out).mono ?_; rintro e w9 ⟨rfl, hw9⟩; rw [hw9]; clear hw9 w9))
  have hb1 := al_d w (.cells #[.int .i64 n, .slice none 0 0, .slice none 0 0] 35)
  have hr := b3_new (w.alloc (.cells #[.int .i64 n, .slice none 0 0, .slice none 0 0] 35)) (.int .i64 0) (.slice none 0 0) (.slice none 0 0) 35
  have hb2 := bt hb1 (al_d (w.alloc (.cells #[.int .i64 n, .slice none 0 0, .slice none 0 0] 35)) (.cells #[.int .i64 0, .slice none 0 0, .slice none 0 0] 35))
  have hd := (b3_new w (.int .i64 n) (.slice none 0 0) (.slice none 0 0) 35).below (al_d _ (.cells #[.int .i64 0, .slice none 0 0, .slice none 0 0] 35))
  have s1 : (w.alloc (.cells #[.int .i64 n, .slice none 0 0, .slice none 0 0] 35)).heap.size = w.heap.size + 1 := by simp
  rw [s1] at hr
  generalize (w.alloc (.cells #[.int .i64 n, .slice none 0 0, .slice none 0 0] 35)).alloc (.cells #[.int .i64 0, .slice none 0 0, .slice none 0 0] 35) = V at hr hb2 hd ⊢
  have HR := hide hr
  have HB := hide hb2
  have HDD := hide hd
  obtain ⟨d0, d1, d2, _⟩ := hd
  have hwr : w.heap.size ≤ w.heap.size + 1 := by omega
  have hne : w.heap.size ≠ w.heap.size + 1 := by omega
  generalize w.heap.size + 1 = R at HR hwr hne ⊢
  clear hr hb1 hb2 s1
  have e0 := HR.out.c0
  have e1 := HR.out.c1
  have e2 := HR.out.c2
  have f0 := HR.out.fz 0
  have f1 := HR.out.fz 1
  have f2 := HR.out.fz 2
  go_wp2
  exact bodyPost_ret (v := .tuple #[.agg #[_, _, _], .int .i64 6]) (res_two Tryd.results22 _ _ R [_, _, _] _ _ rfl rfl (HR.out.all (.int .i64 n) (.slice none 0 0) (.slice none 0 0)).rg Tryd.underlying35 rfl infoDd) rfl ⟨_, _, rfl, ⟨_, _, _, _, _, _, _, rfl⟩, set3_below HB.out hwr _ _ _⟩
set_option maxRecDepth 100000 in
set_option maxHeartbeats 8000000 in
theorem rput_ok (n a : Int) (v : Value) (b : List Int) (w : World) (ha : Num a) (hv : Sl bc w v b) (hl : b.length ≤ 64) : Calls Tryd.prog 22 #[zd n, .int .i64 a, v] w fun e w' => ∃ v c, e = .returned (.tuple #[v, .int .i64 c]) ∧ Dv v ∧ Below w.heap.size w w' := by
  obtain ⟨ao, cap, rfl⟩ := hv.form
  have HA := hide ha
  have HV := hide hv
  clear ha hv
  go_enter Tryd.func22, Tryd.ntmps22
  go_upto_region 5 with (first | (go_at_call 41; refine (right_ok _ _ HA.out).mono ?_; rintro e w9 ⟨rfl, hw9⟩; rw [hw9]; clear hw9 w9))
  have hb1 := al_d w (.cells #[.int .i64 n, .slice none 0 0, .slice none 0 0] 35)
  have hr := b3_new (w.alloc (.cells #[.int .i64 n, .slice none 0 0, .slice none 0 0] 35)) (.int .i64 0) (.slice none 0 0) (.slice none 0 0) 35
  have hb2 := bt hb1 (al_d (w.alloc (.cells #[.int .i64 n, .slice none 0 0, .slice none 0 0] 35)) (.cells #[.int .i64 0, .slice none 0 0, .slice none 0 0] 35))
  have hd := (b3_new w (.int .i64 n) (.slice none 0 0) (.slice none 0 0) 35).below (al_d _ (.cells #[.int .i64 0, .slice none 0 0, .slice none 0 0] 35))
  have s1 : (w.alloc (.cells #[.int .i64 n, .slice none 0 0, .slice none 0 0] 35)).heap.size = w.heap.size + 1 := by simp
  rw [s1] at hr
  generalize (w.alloc (.cells #[.int .i64 n, .slice none 0 0, .slice none 0 0] 35)).alloc (.cells #[.int .i64 0, .slice none 0 0, .slice none 0 0] 35) = V at hr hb2 hd ⊢
  have HR := hide hr
  have HB := hide hb2
  have HDD := hide hd
  obtain ⟨d0, d1, d2, _⟩ := hd
  have hwr : w.heap.size ≤ w.heap.size + 1 := by omega
  have hne : w.heap.size ≠ w.heap.size + 1 := by omega
  generalize w.heap.size + 1 = R at HR hwr hne ⊢
  clear hr hb1 hb2 s1
  refine wp_region_held_drew (S := fun W => B3 W w.heap.size (.int .i64 n) (.slice none 0 0) (.slice none 0 0)) (by kernel_rfl) (HDD.out.below (Below.refl _ _).drew) (fun hHeld => ?_)
  have HR1 := hide (HR.out.below (Below.refl V.heap.size V).drew)
  have HB1 := hide (bt HB.out (Below.refl V.heap.size V).drew)
  generalize V.drew = V1 at HR1 HB1 hHeld ⊢
  clear HR HB HDD d0 d1 d2
  refine wpAnyH_take (i := 0) (oi := _) (v := zd n) rfl (by kernel_rfl) (by kernel_rfl) (by kernel_rfl) (fun _ _ _ h => h) (Or.inl ⟨by rfl, by intro w hSw; have h0 := hSw.c0; have h1 := hSw.c1; have h2 := hSw.c2; go_simp⟩) hHeld ?_
  change wpAnyH _ _ _ _ _ _ _ (Act.put _ (some 16) _) _
  simp only [Act.put, List.setIfInBounds_toArray, List.set_cons_zero, List.set_cons_succ]
  refine wpAnyH_take (i := 1) (oi := _) (v := .int .i64 a) rfl (by kernel_rfl) (by kernel_rfl) (by kernel_rfl) (fun _ _ _ h => h) (Or.inl ⟨by rfl, by intro w hSw; go_simp⟩) hHeld ?_
  change wpAnyH _ _ _ _ _ _ _ (Act.put _ (some 17) _) _
  simp only [Act.put, List.setIfInBounds_toArray, List.set_cons_zero, List.set_cons_succ]
  refine wpAnyH_ready (rs := [2]) (by kernel_rfl) (by simp) ?_
  refine AllReadyH.cons (o := _) rfl (fun K hK => ?_) AllReadyH.nil
  go_simp
  go_at_call 42
  refine (taken0 n a _).mono ?_
  rintro e V2 ⟨rfl, hb2⟩
  go_wp2_with fail
  refine hK.out _ _ (hHeld.below hb2) (fun hHeld1 => ?_)
  clear hK K hHeld
  have hHeld := hHeld1
  clear hHeld1
  have HR2 := hide (HR1.out.below hb2)
  have HB2 := hide (bt HB1.out hb2)
  clear HR1 HB1 hb2
  refine wpAnyH_take (i := 3) (oi := _) (v := .bool true) rfl (by kernel_rfl) (by kernel_rfl) (by kernel_rfl) (fun _ _ _ h => h) (Or.inl ⟨by rfl, by intro w hSw; go_simp⟩) hHeld ?_
  change wpAnyH _ _ _ _ _ _ _ (Act.put _ (some 19) _) _
  simp only [Act.put, List.setIfInBounds_toArray, List.set_cons_zero, List.set_cons_succ]
  refine wpAnyH_take (i := 4) (oi := _) (v := .bool true) rfl (by kernel_rfl) (by kernel_rfl) (by kernel_rfl) (fun _ _ _ h => h) (Or.inl ⟨by rfl, by intro w hSw; go_simp⟩) hHeld ?_
  change wpAnyH _ _ _ _ _ _ _ (Act.put _ (some 20) _) _
  simp only [Act.put, List.setIfInBounds_toArray, List.set_cons_zero, List.set_cons_succ]
  refine wpAnyH_take (i := 5) (oi := _) (v := zd n) rfl (by kernel_rfl) (by kernel_rfl) (by kernel_rfl) (fun _ _ _ h => h) (Or.inl ⟨by rfl, by intro w hSw; have h0 := hSw.c0; have h1 := hSw.c1; have h2 := hSw.c2; go_simp⟩) hHeld ?_
  change wpAnyH _ _ _ _ _ _ _ (Act.put _ (some 21) _) _
  simp only [Act.put, List.setIfInBounds_toArray, List.set_cons_zero, List.set_cons_succ]
  refine wpAnyH_take (i := 7) (oi := _) (v := .pointer (some ⟨w.heap.size, 0, none⟩)) rfl (by kernel_rfl) (by kernel_rfl) (by kernel_rfl) (fun _ _ _ h => h) (Or.inl ⟨by rfl, by intro w hSw; go_simp⟩) hHeld ?_
  change wpAnyH _ _ _ _ _ _ _ (Act.put _ (some 23) _) _
  simp only [Act.put, List.setIfInBounds_toArray, List.set_cons_zero, List.set_cons_succ]
  refine wpAnyH_take (i := 8) (oi := _) (v := .int .i64 n) rfl (by kernel_rfl) (by kernel_rfl) (by kernel_rfl) (fun _ _ _ h => h) (Or.inl ⟨by rfl, by intro w hSw; have h0 := hSw.c0; have h1 := hSw.c1; have h2 := hSw.c2; go_simp⟩) hHeld ?_
  change wpAnyH _ _ _ _ _ _ _ (Act.put _ (some 24) _) _
  simp only [Act.put, List.setIfInBounds_toArray, List.set_cons_zero, List.set_cons_succ]
  refine wpAnyH_ready (rs := [6]) (by kernel_rfl) (by simp) ?_
  refine AllReadyH.cons (o := _) rfl (fun K hK => ?_) AllReadyH.nil
  go_simp
  go_at_call 13
  refine (used0 n _).mono ?_
  rintro e V3 ⟨rfl, hb3⟩
  go_wp2_with fail
  refine hK.out _ _ (hHeld.below hb3) (fun hHeld1 => ?_)
  clear hK K hHeld
  have hHeld := hHeld1
  clear hHeld1
  have HR3 := hide (HR2.out.below hb3)
  have HB3 := hide (bt HB2.out hb3)
  clear HR2 HB2 hb3
  refine wpAnyH_take (i := 9) (oi := _) (v := .bool (decide (n ≤ 0))) rfl (by kernel_rfl) (by kernel_rfl) (by kernel_rfl) (fun _ _ _ h => h) (Or.inl ⟨by rfl, by intro w hSw; go_simp⟩) hHeld ?_
  change wpAnyH _ _ _ _ _ _ _ (Act.put _ (some 25) _) _
  simp only [Act.put, List.setIfInBounds_toArray, List.set_cons_zero, List.set_cons_succ]
  refine wpAnyH_take (i := 10) (oi := _) (v := .bool (decide (n ≤ 0))) rfl (by kernel_rfl) (by kernel_rfl) (by kernel_rfl) (fun _ _ _ h => h) (Or.inl ⟨by rfl, by intro w hSw; go_simp⟩) hHeld ?_
  change wpAnyH _ _ _ _ _ _ _ (Act.put _ (some 26) _) _
  simp only [Act.put, List.setIfInBounds_toArray, List.set_cons_zero, List.set_cons_succ]
  refine wpAnyH_done (by kernel_rfl) ?_ _
  have HDX := hide hHeld
  clear hHeld
  by_cases hn : n ≤ 0
  · go_upto_region 6 with (fail)
    have d0 := HDX.out.c0
    have d1 := HDX.out.c1
    have d2 := HDX.out.c2
    have e0 := HR3.out.c0
    have e1 := HR3.out.c1
    have e2 := HR3.out.c2
    have f0 := HR3.out.fz 0
    have f1 := HR3.out.fz 1
    have f2 := HR3.out.fz 2
    go_wp2
    exact bodyPost_ret (v := .tuple #[.agg #[_, _, _], .int .i64 7]) (res_two Tryd.results22 _ _ R [_, _, _] _ _ rfl rfl (HR3.out.all (.int .i64 n) (.slice none 0 0) (.slice none 0 0)).rg Tryd.underlying35 rfl infoDd) rfl ⟨_, _, rfl, ⟨_, _, _, _, _, _, _, rfl⟩, set3_below HB3.out hwr _ _ _⟩
  · go_upto_region 7 with (fail)
    refine wp_region_held_drew (S := fun W => B3 W w.heap.size (.int .i64 n) (.slice none 0 0) (.slice none 0 0)) (by kernel_rfl) (HDX.out.below (Below.refl _ _).drew) (fun hHeld => ?_)
    have HR4 := hide (HR3.out.below (Below.refl V3.heap.size V3).drew)
    have HB4 := hide (bt HB3.out (Below.refl V3.heap.size V3).drew)
    generalize V3.drew = V4 at HR4 HB4 hHeld ⊢
    clear HR3 HB3 HDX
    refine wpAnyH_take (i := 0) (oi := _) (v := zd n) rfl (by kernel_rfl) (by kernel_rfl) (by kernel_rfl) (fun _ _ _ h => h) (Or.inl ⟨by rfl, by intro w hSw; have h0 := hSw.c0; have h1 := hSw.c1; have h2 := hSw.c2; go_simp⟩) hHeld ?_
    change wpAnyH _ _ _ _ _ _ _ (Act.put _ (some 28) _) _
    simp only [Act.put, List.setIfInBounds_toArray, List.set_cons_zero, List.set_cons_succ]
    refine wpAnyH_take (i := 1) (oi := _) (v := .int .i64 a) rfl (by kernel_rfl) (by kernel_rfl) (by kernel_rfl) (fun _ _ _ h => h) (Or.inl ⟨by rfl, by intro w hSw; go_simp⟩) hHeld ?_
    change wpAnyH _ _ _ _ _ _ _ (Act.put _ (some 29) _) _
    simp only [Act.put, List.setIfInBounds_toArray, List.set_cons_zero, List.set_cons_succ]
    refine wpAnyH_take (i := 2) (oi := _) (v := .slice ao b.length cap) rfl (by kernel_rfl) (by kernel_rfl) (by kernel_rfl) (fun _ _ _ h => h) (Or.inl ⟨by rfl, by intro w hSw; go_simp⟩) hHeld ?_
    change wpAnyH _ _ _ _ _ _ _ (Act.put _ (some 30) _) _
    simp only [Act.put, List.setIfInBounds_toArray, List.set_cons_zero, List.set_cons_succ]
    refine wpAnyH_ready (rs := [3]) (by kernel_rfl) (by simp) ?_
    refine AllReadyH.cons (o := _) rfl (fun K hK => ?_) AllReadyH.nil
    go_simp
    go_at_call 44
    refine (pad_any _ b _ (HV.out.below HB4.out) (by omega)).mono ?_
    rintro e V5 ⟨rfl, _, hb5⟩
    go_wp2_with fail
    refine hK.out _ _ (hHeld.below hb5) (fun hHeld1 => ?_)
    clear hK K hHeld
    have hHeld := hHeld1
    clear hHeld1
    have HR5 := hide (HR4.out.below hb5)
    have HB5 := hide (bt HB4.out hb5)
    generalize V4.heap.size = PG
    clear HR4 HB4 hb5
    refine wpAnyH_take (i := 4) (oi := _) (v := .agg #[.int .i64 a, .bool false, .slice (some ⟨PG, 0, none⟩) 64 64]) rfl (by kernel_rfl) (by kernel_rfl) (by kernel_rfl) (fun _ _ _ h => h) (Or.inl ⟨by rfl, by intro w hSw; go_simp⟩) hHeld ?_
    change wpAnyH _ _ _ _ _ _ _ (Act.put _ (some 32) _) _
    simp only [Act.put, List.setIfInBounds_toArray, List.set_cons_zero, List.set_cons_succ]
    refine wpAnyH_ready (rs := [5]) (by kernel_rfl) (by simp) ?_
    refine AllReadyH.cons (o := _) rfl (fun K hK => ?_) AllReadyH.nil
    go_simp
    go_at_call 43
    refine (and0 n a false _ _ _ _).mono ?_
    rintro e V6 ⟨v7, rfl, ⟨r7, a1, n1, c1, a2, n2, c2, rfl⟩, hb6⟩
    go_wp2_with fail
    refine hK.out _ _ (hHeld.below hb6) (fun hHeld1 => ?_)
    clear hK K hHeld
    have hHeld := hHeld1
    clear hHeld1
    have HR6 := hide (HR5.out.below hb6)
    have HB6 := hide (bt HB5.out hb6)
    clear HR5 HB5 hb6
    refine wpAnyH_ready (rs := [6]) (by kernel_rfl) (by simp) ?_
    refine AllReadyH.cons (o := _) rfl (fun K hK => ?_) AllReadyH.nil
    have e0 := HR6.out.c0
    have e1 := HR6.out.c1
    have e2 := HR6.out.c2
    have f0 := HR6.out.fz 0
    have f1 := HR6.out.fz 1
    have f2 := HR6.out.fz 2
    go_simp
    clear e0 e1 e2 f0 f1 f2
    refine hK.out _ _ (((hHeld.setO hne _).setO hne _).setO hne _) (fun hHeld1 => ?_)
    clear hK K hHeld
    have hHeld := hHeld1
    clear hHeld1
    refine wpAnyH_take (i := 7) (oi := _) (v := .int .i64 0) rfl (by kernel_rfl) (by kernel_rfl) (by kernel_rfl) (fun _ _ _ h => h) (Or.inl ⟨by rfl, by intro w hSw; go_simp⟩) hHeld ?_
    change wpAnyH _ _ _ _ _ _ _ (Act.put _ (some 7) _) _
    simp only [Act.put, List.setIfInBounds_toArray, List.set_cons_zero, List.set_cons_succ]
    refine wpAnyH_done (by kernel_rfl) ?_ _
    go_wp2
    exact bodyPost_ret (v := .tuple #[.agg #[_, _, _], .int .i64 0]) (res_two Tryd.results22 _ _ R [_, _, _] _ _ rfl rfl (HR6.out.all (.int .i64 r7) (.slice a1 n1 c1) (.slice a2 n2 c2)).rg Tryd.underlying35 rfl infoDd) rfl ⟨_, _, rfl, ⟨_, _, _, _, _, _, _, rfl⟩, set3_below HB6.out hwr _ _ _⟩
theorem rput0 (n a : Int) (v : Value) (b : List Int) (w : World) (hv : Sl bc w v b) : Calls Tryd.prog 22 #[zd n, .int .i64 a, v] w fun e w' => ∃ v c, e = .returned (.tuple #[v, .int .i64 c]) ∧ Dv v ∧ Below w.heap.size w w' := by
  by_cases ha : Num a
  · by_cases hl : b.length ≤ 64
    · exact rput_ok n a v b w ha hv hl
    · obtain ⟨ao, cap, rfl⟩ := hv.form
      exact rput_long n a ao b.length cap w ha (by omega)
  · exact rput_bad n a v w ha
set_option maxRecDepth 100000 in
set_option maxHeartbeats 4000000 in
theorem rread0 (n a : Int) (w : World) : Calls Tryd.prog 26 #[zd n, .int .i64 a] w fun e w' => ∃ v c l, e = .returned (.tuple #[v, .int .i64 c]) ∧ Sl bc w' v l ∧ l.length ≤ 64 ∧ Below w.heap.size w w' := by
  by_cases ha : Num a
  · have HA := hide ha
    clear ha
    go_enter Tryd.func26, Tryd.ntmps26
    go_wp2_with (first | (go_at_call 41; refine (right_ok _ _ HA.out).mono ?_; rintro e w9 ⟨rfl, hw9⟩; rw [hw9]; clear hw9 w9))
    refine wp_loop_rounds 1 ?_
    rw [rounds_succ]
    go_wp2_with (first | (go_at_call 33; refine (find0 _ _).mono ?_; rintro e w9 ⟨rfl, hw9⟩; rw [hw9]; clear hw9 w9) | (go_at_call 44; refine (pad_any _ [] _ (Sl.nil _ _ _ _) (by simp)).mono ?_; rintro e V5 ⟨rfl, hg5, hb5⟩; have HG := hide hg5; have HB := hide (bt (al_d w _) hb5); clear hg5 hb5))
    go_ret2
    exact ⟨_, _, zer, rfl, sl_blk (t := 5) zer_len (by simpa using HG.out), by rw [zer_len]; exact Nat.le_refl _, HB.out⟩
  · have HA := hide ha
    clear ha
    go_enter Tryd.func26, Tryd.ntmps26
    go_wp2_with (first | (go_at_call 41; refine (right_bad _ _ HA.out).mono ?_; rintro e w9 ⟨rfl, hw9⟩; rw [hw9]; clear hw9 w9))
    go_ret2
    exact ⟨_, _, [], rfl, Sl.nil _ _ _ _, by simp, al_d w _⟩
set_option maxRecDepth 100000 in
set_option maxHeartbeats 4000000 in
theorem rsync0 (n : Int) (w : World) : Calls Tryd.prog 28 #[zd n] w fun e w' => ∃ v, e = .returned v ∧ Dv v ∧ Below w.heap.size w w' := by
  go_enter Tryd.func28, Tryd.ntmps28
  go_upto_region 2 with (fail)
  have hb1 := al_d w (.cells #[.int .i64 n, .slice none 0 0, .slice none 0 0] 35)
  have hr := b3_new (w.alloc (.cells #[.int .i64 n, .slice none 0 0, .slice none 0 0] 35)) (.int .i64 0) (.slice none 0 0) (.slice none 0 0) 35
  have hr3 := hr.below (al_d _ (.cells #[.int .i64 n, .slice none 0 0, .slice none 0 0] 35))
  have hb2 := bt (bt hb1 (al_d (w.alloc (.cells #[.int .i64 n, .slice none 0 0, .slice none 0 0] 35)) (.cells #[.int .i64 0, .slice none 0 0, .slice none 0 0] 35))) (al_d _ (.cells #[.int .i64 n, .slice none 0 0, .slice none 0 0] 35))
  have hd := (b3_new w (.int .i64 n) (.slice none 0 0) (.slice none 0 0) 35).below (bt (al_d _ (.cells #[.int .i64 0, .slice none 0 0, .slice none 0 0] 35)) (al_d _ (.cells #[.int .i64 n, .slice none 0 0, .slice none 0 0] 35)))
  have ho := b3_new ((w.alloc (.cells #[.int .i64 n, .slice none 0 0, .slice none 0 0] 35)).alloc (.cells #[.int .i64 0, .slice none 0 0, .slice none 0 0] 35)) (.int .i64 n) (.slice none 0 0) (.slice none 0 0) 35
  have s1 : (w.alloc (.cells #[.int .i64 n, .slice none 0 0, .slice none 0 0] 35)).heap.size = w.heap.size + 1 := by simp
  have s2 : ((w.alloc (.cells #[.int .i64 n, .slice none 0 0, .slice none 0 0] 35)).alloc (.cells #[.int .i64 0, .slice none 0 0, .slice none 0 0] 35)).heap.size = w.heap.size + 1 + 1 := by simp
  rw [s1] at hr3
  rw [s2] at ho
  generalize ((w.alloc (.cells #[.int .i64 n, .slice none 0 0, .slice none 0 0] 35)).alloc (.cells #[.int .i64 0, .slice none 0 0, .slice none 0 0] 35)).alloc (.cells #[.int .i64 n, .slice none 0 0, .slice none 0 0] 35) = V at hr3 hb2 hd ho ⊢
  have HR := hide hr3
  have HB := hide hb2
  obtain ⟨d0, d1, d2, _⟩ := hd
  obtain ⟨o0, o1, o2, _⟩ := ho
  have hwr : w.heap.size ≤ w.heap.size + 1 := by omega
  generalize w.heap.size + 1 + 1 = O at o0 o1 o2 ⊢
  generalize w.heap.size + 1 = R at HR hwr ⊢
  clear hr hr3 hb1 hb2 s1 s2
  go_wp2
  refine wp_loop_rounds 1 ?_
  rw [rounds_succ]
  have e0 := HR.out.c0
  have e1 := HR.out.c1
  have e2 := HR.out.c2
  have f0 := HR.out.fz 0
  have f1 := HR.out.fz 1
  have f2 := HR.out.fz 2
  go_wp2
  exact bodyPost_ret (v := .agg #[_, _, _]) (res_one Tryd.results28 _ _ R [_, _, _] _ rfl (HR.out.all (.int .i64 n) (.slice none 0 0) (.slice none 0 0)).rg Tryd.underlying35 rfl infoDd) rfl ⟨_, rfl, ⟨_, _, _, _, _, _, _, rfl⟩, set3_below HB.out hwr _ _ _⟩
set_option maxRecDepth 100000 in
set_option maxHeartbeats 4000000 in
theorem rcrash0 (n cut : Int) (kv : Value) (w : World) : Calls Tryd.prog 29 #[zd n, kv, .int .i64 cut] w fun e w' => ∃ v, e = .returned v ∧ Dv v ∧ Below w.heap.size w w' := by
  go_enter Tryd.func29, Tryd.ntmps29
  go_wp2
  refine wp_loop_rounds 1 ?_
  rw [rounds_succ]
  go_upto_region 8 with (fail)
  have hb1 := al_d w (.cells #[.int .i64 n, .slice none 0 0, .slice none 0 0] 35)
  have hr := b3_new (w.alloc (.cells #[.int .i64 n, .slice none 0 0, .slice none 0 0] 35)) (.int .i64 0) (.slice none 0 0) (.slice none 0 0) 35
  have hr3 := hr.below (al_d _ (.cells #[.int .i64 n, .slice none 0 0, .slice none 0 0] 35))
  have hb2 := bt (bt hb1 (al_d (w.alloc (.cells #[.int .i64 n, .slice none 0 0, .slice none 0 0] 35)) (.cells #[.int .i64 0, .slice none 0 0, .slice none 0 0] 35))) (al_d _ (.cells #[.int .i64 n, .slice none 0 0, .slice none 0 0] 35))
  have hd := (b3_new w (.int .i64 n) (.slice none 0 0) (.slice none 0 0) 35).below (bt (al_d _ (.cells #[.int .i64 0, .slice none 0 0, .slice none 0 0] 35)) (al_d _ (.cells #[.int .i64 n, .slice none 0 0, .slice none 0 0] 35)))
  have ho := b3_new ((w.alloc (.cells #[.int .i64 n, .slice none 0 0, .slice none 0 0] 35)).alloc (.cells #[.int .i64 0, .slice none 0 0, .slice none 0 0] 35)) (.int .i64 n) (.slice none 0 0) (.slice none 0 0) 35
  have s1 : (w.alloc (.cells #[.int .i64 n, .slice none 0 0, .slice none 0 0] 35)).heap.size = w.heap.size + 1 := by simp
  have s2 : ((w.alloc (.cells #[.int .i64 n, .slice none 0 0, .slice none 0 0] 35)).alloc (.cells #[.int .i64 0, .slice none 0 0, .slice none 0 0] 35)).heap.size = w.heap.size + 1 + 1 := by simp
  rw [s1] at hr3
  rw [s2] at ho
  generalize ((w.alloc (.cells #[.int .i64 n, .slice none 0 0, .slice none 0 0] 35)).alloc (.cells #[.int .i64 0, .slice none 0 0, .slice none 0 0] 35)).alloc (.cells #[.int .i64 n, .slice none 0 0, .slice none 0 0] 35) = V at hr3 hb2 hd ho ⊢
  have HR := hide hr3
  have HB := hide hb2
  obtain ⟨d0, d1, d2, _⟩ := hd
  obtain ⟨o0, o1, o2, _⟩ := ho
  have hwr : w.heap.size ≤ w.heap.size + 1 := by omega
  generalize w.heap.size + 1 + 1 = O at o0 o1 o2 ⊢
  generalize w.heap.size + 1 = R at HR hwr ⊢
  clear hr hr3 hb1 hb2 s1 s2
  go_wp2
  refine wp_loop_rounds 1 ?_
  rw [rounds_succ]
  have e0 := HR.out.c0
  have e1 := HR.out.c1
  have e2 := HR.out.c2
  have f0 := HR.out.fz 0
  have f1 := HR.out.fz 1
  have f2 := HR.out.fz 2
  go_wp2
  exact bodyPost_ret (v := .agg #[_, _, _]) (res_one Tryd.results29 _ _ R [_, _, _] _ rfl (HR.out.all (.int .i64 n) (.slice none 0 0) (.slice none 0 0)).rg Tryd.underlying35 rfl infoDd) rfl ⟨_, rfl, ⟨_, _, _, _, _, _, _, rfl⟩, set3_below HB.out hwr _ _ _⟩
end Go.Proofs.YtpmpmdlmcpakiaaDoor
