/-
  WHETHER ANY TWO MESSAGES ARE THE SAME, BY THE DOCUMENT (castellanref07.Same). Conditions: their slices' cells hold what they hold, the records' rows are not too long.
  WHETHER AN ERROR IS SUCH A ONE (castellanlaw07.wrong): it is, where it tells what is wrong. Condition: errors.errorType is laid.
-/
import Derived.Test.YtkpknkhacmggnaaGreatDoorJKRpcCpa2
import Derived.Test.YtkpknkhacmggnaaGreatDoorJKRpcSm
import Derived.Test.YtkpknkhacmggnaaGreatDoorJKRpcV
import Derived.Test.YtkpknkhacmggnaaGreatDoorJKRecChka2
import Derived.Deep.RegionHeld3
namespace Go.Proofs.YtkpknkhacmggnaaGreatDoor
open Go.RowKit

set_option maxRecDepth 100000 in
set_option maxHeartbeats 16000000 in
theorem rmsame_go (k fr tn t ld pa pt hi co sz po k' fr' tn' t' ld' pa' pt' hi' co' sz' po' : Int) (pre ok pre' ok' : Bool) (ab ad ab' ad' : Option Addr) (nb cb nd cd nb' cb' nd' cd' : Nat) (w : World) (R2 R3 : Bool)
    (HBE : Hid (∀ W, Below w.heap.size w W → Calls Tryz.prog 18 #[.slice ad nd cd, .slice ad' nd' cd'] W fun e w' => e = .returned (.bool R2) ∧ Below W.heap.size W w'))
    (HEQ : Hid (∀ W, Below w.heap.size w W → Calls Tryz.prog 41 #[.slice ab nb cb, .slice ab' nb' cb'] W fun e w' => e = .returned (.bool R3) ∧ Below W.heap.size W w')) (ANS : Bool) (HE : Hid (ANS = ((k == k') && ((pre == pre') && ((ok == ok') && (((fr == fr') && ((tn == tn') && ((t == t') && ((ld == ld') && ((pa == pa') && ((pt == pt') && ((hi == hi') && ((co == co') && ((sz == sz') && (po == po')))))))))) && (R2 && R3))))))) :
    Calls Tryz.prog 14 #[.agg #[.int .i64 k, .int .i64 fr, .int .i64 tn, .int .i64 t, .bool pre, .bool ok, .int .i64 ld, .int .i64 pa, .int .i64 pt, .int .i64 hi, .int .i64 co, .slice ab nb cb, .int .i64 sz, .int .i64 po, .slice ad nd cd], .agg #[.int .i64 k', .int .i64 fr', .int .i64 tn', .int .i64 t', .bool pre', .bool ok', .int .i64 ld', .int .i64 pa', .int .i64 pt', .int .i64 hi', .int .i64 co', .slice ab' nb' cb', .int .i64 sz', .int .i64 po', .slice ad' nd' cd']] w fun e w' => e = .returned (.bool ANS) ∧ Below w.heap.size w w' := by
  obtain ⟨X, hX⟩ : ∃ X, X = (w.alloc (.cells #[.int .i64 k, .int .i64 fr, .int .i64 tn, .int .i64 t, .bool pre, .bool ok, .int .i64 ld, .int .i64 pa, .int .i64 pt, .int .i64 hi, .int .i64 co, .slice ab nb cb, .int .i64 sz, .int .i64 po, .slice ad nd cd] 25)).alloc (.cells #[.int .i64 k', .int .i64 fr', .int .i64 tn', .int .i64 t', .bool pre', .bool ok', .int .i64 ld', .int .i64 pa', .int .i64 pt', .int .i64 hi', .int .i64 co', .slice ab' nb' cb', .int .i64 sz', .int .i64 po', .slice ad' nd' cd'] 25) := ⟨_, rfl⟩
  obtain ⟨hb0, hqa, hqb⟩ := two_in w [.int .i64 k, .int .i64 fr, .int .i64 tn, .int .i64 t, .bool pre, .bool ok, .int .i64 ld, .int .i64 pa, .int .i64 pt, .int .i64 hi, .int .i64 co, .slice ab nb cb, .int .i64 sz, .int .i64 po, .slice ad nd cd] [.int .i64 k', .int .i64 fr', .int .i64 tn', .int .i64 t', .bool pre', .bool ok', .int .i64 ld', .int .i64 pa', .int .i64 pt', .int .i64 hi', .int .i64 co', .slice ab' nb' cb', .int .i64 sz', .int .i64 po', .slice ad' nd' cd'] hX
  have HB := hide hb0
  have HQA := hide hqa
  have HQB := hide hqb
  clear hb0 hqa hqb
  go_enter Tryz.func14, Tryz.ntmps14
  go_upto_region 1 with fail
  rw [← hX]
  clear hX
  obtain ⟨i0, i1, i2, i3, i4, i5, i6, i7, i8, i9, i10, i11, i12, i13, i14⟩ := C15.of HQA.out
  obtain ⟨j0, j1, j2, j3, j4, j5, j6, j7, j8, j9, j10, j11, j12, j13, j14⟩ := C15.of HQB.out
  by_cases hq : k = k'
  case neg =>
    have HAN : Hid (ANS = false) := hide (by rw [HE.out]; simp [hq])
    go_wp2_with fail
    go_ret
    exact ⟨congrArg (fun b => Ending.returned (.bool b)) HAN.out.symm, HB.out⟩
  subst hq
  by_cases hq : fr = fr'
  case neg =>
    have HAN : Hid (ANS = false) := hide (by rw [HE.out]; simp [hq])
    go_wp2_with fail
    go_ret
    exact ⟨congrArg (fun b => Ending.returned (.bool b)) HAN.out.symm, HB.out⟩
  subst hq
  by_cases hq : tn = tn'
  case neg =>
    have HAN : Hid (ANS = false) := hide (by rw [HE.out]; simp [hq])
    go_wp2_with fail
    go_ret
    exact ⟨congrArg (fun b => Ending.returned (.bool b)) HAN.out.symm, HB.out⟩
  subst hq
  by_cases hq : t = t'
  case neg =>
    have HAN : Hid (ANS = false) := hide (by rw [HE.out]; simp [hq])
    go_wp2_with fail
    go_ret
    exact ⟨congrArg (fun b => Ending.returned (.bool b)) HAN.out.symm, HB.out⟩
  subst hq
  by_cases hq : pre = pre'
  case neg =>
    have HAN : Hid (ANS = false) := hide (by rw [HE.out]; simp [hq])
    go_wp2_with fail
    go_ret
    exact ⟨congrArg (fun b => Ending.returned (.bool b)) HAN.out.symm, HB.out⟩
  subst hq
  by_cases hq : ok = ok'
  case neg =>
    have HAN : Hid (ANS = false) := hide (by rw [HE.out]; simp [hq])
    go_wp2_with fail
    go_ret
    exact ⟨congrArg (fun b => Ending.returned (.bool b)) HAN.out.symm, HB.out⟩
  subst hq
  by_cases hq : ld = ld'
  case neg =>
    have HAN : Hid (ANS = false) := hide (by rw [HE.out]; simp [hq])
    go_wp2_with fail
    go_ret
    exact ⟨congrArg (fun b => Ending.returned (.bool b)) HAN.out.symm, HB.out⟩
  subst hq
  go_upto_region 3 with fail
  by_cases hq : pa = pa'
  case neg =>
    have HAN : Hid (ANS = false) := hide (by rw [HE.out]; simp [hq])
    go_wp2_with fail
    go_ret
    exact ⟨congrArg (fun b => Ending.returned (.bool b)) HAN.out.symm, HB.out⟩
  subst hq
  by_cases hq : pt = pt'
  case neg =>
    have HAN : Hid (ANS = false) := hide (by rw [HE.out]; simp [hq])
    go_wp2_with fail
    go_ret
    exact ⟨congrArg (fun b => Ending.returned (.bool b)) HAN.out.symm, HB.out⟩
  subst hq
  by_cases hq : hi = hi'
  case neg =>
    have HAN : Hid (ANS = false) := hide (by rw [HE.out]; simp [hq])
    go_wp2_with fail
    go_ret
    exact ⟨congrArg (fun b => Ending.returned (.bool b)) HAN.out.symm, HB.out⟩
  subst hq
  by_cases hq : co = co'
  case neg =>
    have HAN : Hid (ANS = false) := hide (by rw [HE.out]; simp [hq])
    go_wp2_with fail
    go_ret
    exact ⟨congrArg (fun b => Ending.returned (.bool b)) HAN.out.symm, HB.out⟩
  subst hq
  by_cases hq : sz = sz'
  case neg =>
    have HAN : Hid (ANS = false) := hide (by rw [HE.out]; simp [hq])
    go_wp2_with fail
    go_ret
    exact ⟨congrArg (fun b => Ending.returned (.bool b)) HAN.out.symm, HB.out⟩
  subst hq
  by_cases hq : po = po'
  case neg =>
    have HAN : Hid (ANS = false) := hide (by rw [HE.out]; simp [hq])
    go_wp2_with fail
    go_ret
    exact ⟨congrArg (fun b => Ending.returned (.bool b)) HAN.out.symm, HB.out⟩
  subst hq
  go_upto_region 5 with fail
  cases R2
  · have HAN : Hid (ANS = false) := hide (by rw [HE.out]; simp only [Bool.false_and, Bool.and_false])
    go_wp2_with (first | (go_at_call 18; refine (HBE.out _ HB.out).mono ?_; rintro e V ⟨rfl, hb1⟩; have HB1 := hide (HB.out.trans (hb1.mono HB.out.size)); have HA1 := C15.of (range_bel HQA.out hb1); have HB2 := C15.of (range_bel HQB.out hb1); clear hb1 i0 i1 i2 i3 i4 i5 i6 i7 i8 i9 i10 i11 i12 i13 i14 j0 j1 j2 j3 j4 j5 j6 j7 j8 j9 j10 j11 j12 j13 j14; obtain ⟨i0, i1, i2, i3, i4, i5, i6, i7, i8, i9, i10, i11, i12, i13, i14⟩ := HA1; obtain ⟨j0, j1, j2, j3, j4, j5, j6, j7, j8, j9, j10, j11, j12, j13, j14⟩ := HB2) | (go_at_call 41; refine (HEQ.out _ HB1.out).mono ?_; rintro e V3 ⟨rfl, hb3⟩; have HB3 := hide (HB1.out.trans (hb3.mono HB1.out.size)); clear hb3))
    go_ret
    exact ⟨congrArg (fun b => Ending.returned (.bool b)) HAN.out.symm, HB1.out⟩
  have HAN : Hid (ANS = R3) := hide (by rw [HE.out]; simp)
  go_wp2_with (first | (go_at_call 18; refine (HBE.out _ HB.out).mono ?_; rintro e V ⟨rfl, hb1⟩; have HB1 := hide (HB.out.trans (hb1.mono HB.out.size)); have HA1 := C15.of (range_bel HQA.out hb1); have HB2 := C15.of (range_bel HQB.out hb1); clear hb1 i0 i1 i2 i3 i4 i5 i6 i7 i8 i9 i10 i11 i12 i13 i14 j0 j1 j2 j3 j4 j5 j6 j7 j8 j9 j10 j11 j12 j13 j14; obtain ⟨i0, i1, i2, i3, i4, i5, i6, i7, i8, i9, i10, i11, i12, i13, i14⟩ := HA1; obtain ⟨j0, j1, j2, j3, j4, j5, j6, j7, j8, j9, j10, j11, j12, j13, j14⟩ := HB2) | (go_at_call 41; refine (HEQ.out _ HB1.out).mono ?_; rintro e V3 ⟨rfl, hb3⟩; have HB3 := hide (HB1.out.trans (hb3.mono HB1.out.size)); clear hb3))
  go_ret
  exact ⟨congrArg (fun b => Ending.returned (.bool b)) HAN.out.symm, HB3.out⟩
theorem rmsame_any (a b : Ms) (v u : Value) (w : World) (hv : IsM w v a) (hu : IsM w u b) (hd : a.da.length ≤ 40000) (hn : a.bs.length ≤ 100000) (hln : LnM a) : Calls Tryz.prog 14 #[v, u] w fun e w' => e = .returned (.bool (sameM a b)) ∧ Below w.heap.size w w' := by
  obtain ⟨ab, cb, ad, cd, qs, rfl, hm⟩ := isM_form hv
  obtain ⟨ab', cb', ad', cd', qs', rfl, hm'⟩ := isM_form hu
  have heq := fun W (h : Below w.heap.size w W) => rall_any ab ab' cb cb' qs qs' W (by rw [hm.len]; exact hm.bl.below h) (by rw [hm'.len]; exact hm'.bl.below h) (by rw [hm.len]; exact hn) (fun p hp => hln (btq p) (by rw [← hm.bs]; exact List.mem_map.2 ⟨p, hp, rfl⟩))
  rw [hm.len, hm'.len, hm.bs, hm'.bs] at heq
  rw [sameM_eq]
  exact rmsame_go a.k a.fr a.tn a.t a.ld a.pa a.pt a.hi a.co a.sz a.po b.k b.fr b.tn b.t b.ld b.pa b.pt b.hi b.co b.sz b.po a.pre a.ok b.pre b.ok ab ad ab' ad' _ cb _ cd _ cb' _ cd' w _ _ (hide (fun W h => same_any _ _ _ _ W (hm.da.below h) (hm'.da.below h) hd)) (hide heq) _ (hide rfl)
end Go.Proofs.YtkpknkhacmggnaaGreatDoor
namespace Go.Proofs.YtkpknkhacmggnaaGreatDoor
open Go.RowKit

theorem four_in7 (w : World) (op : ByteArray) (pt c r : Int) {w0 : World} (h0 : w0 = w.alloc (.cells #[.string op, .int .i64 pt, .int .i64 c, .int .i64 r] 36)) {w1 : World} (h1 : Below w0.heap.size w0 w1) : ∀ W, Below (w.heap.size + 1) w1 W → (W.cell? ⟨w.heap.size, 0, none⟩ = some (.string op) ∧ W.cell? ⟨w.heap.size, 1, none⟩ = some (.int .i64 pt) ∧ W.cell? ⟨w.heap.size, 2, none⟩ = some (.int .i64 c) ∧ W.cell? ⟨w.heap.size, 3, none⟩ = some (.int .i64 r)) := fun W h => by
  have hz : w0.heap.size = w.heap.size + 1 := by rw [h0]; simp
  have hc : ∀ i, W.cell? ⟨w.heap.size, i, none⟩ = w0.cell? ⟨w.heap.size, i, none⟩ := fun i => (h.cell (p := ⟨w.heap.size, i, none⟩) (by show w.heap.size < _; omega)).trans (h1.cell (p := ⟨w.heap.size, i, none⟩) (by show w.heap.size < _; omega))
  subst h0
  exact ⟨by rw [hc]; simp, by rw [hc]; simp, by rw [hc]; simp, by rw [hc]; simp⟩
set_option maxRecDepth 100000 in
set_option maxHeartbeats 16000000 in
theorem mwrong_nil (op : ByteArray) (pt r : Int) (w : World) : Calls Tryz.prog 10 #[.nilIface, .agg #[.string op, .int .i64 pt, .int .i64 0, .int .i64 r]] w fun e w' => e = .returned (.bool true) ∧ Below w.heap.size w w' := by
  go_enter Tryz.func10, Tryz.ntmps10
  go_wp2_with fail
  go_ret
  exact ⟨rfl, (Below.refl _ _).alloc (Nat.le_refl _) _⟩
set_option maxRecDepth 100000 in
set_option maxHeartbeats 16000000 in
theorem mwrong_go (F : TypeId) (U : Value) (op : ByteArray) (pt c r : Int) (w : World) (hg : Hnd w)
    (HOF : Hid (∀ W, Hnd W → Calls Tryz.prog 24 #[.iface F U] W fun e w' => e = .returned (.int .i64 c) ∧ Below W.heap.size W w'))
    (HWE : Hid (∀ W, Hnd W → Calls Tryz.prog 23 #[.iface F U] W fun e w' => e = .returned (.tuple #[.int .i64 pt, .bool true]) ∧ Below W.heap.size W w'))
    (HUN : Hid (∀ W, Hnd W → Calls Tryz.prog 25 #[.iface F U, .string op] W fun e w' => e = .returned (.bool true) ∧ Below W.heap.size W w')) :
    Calls Tryz.prog 10 #[.iface F U, .agg #[.string op, .int .i64 pt, .int .i64 c, .int .i64 r]] w fun e w' => e = .returned (.bool true) ∧ Below w.heap.size w w' := by
  have G0 := hide hg
  have HA := hide ((Below.refl w.heap.size w).alloc (Nat.le_refl _) (.cells #[.string op, .int .i64 pt, .int .i64 c, .int .i64 r] 36))
  clear hg
  go_enter Tryz.func10, Tryz.ntmps10
  go_upto_region 4 with (first | (go_at_call 23; refine (HWE.out _ (G0.out.below HA.out)).mono ?_; rintro e w1 ⟨rfl, hb1⟩))
  have HB1 := hide (HA.out.trans (hb1.mono (by simp)))
  have hz1 : w.heap.size + 1 ≤ w1.heap.size := by have := hb1.size; simpa using this
  have hF := four_in7 w op pt c r rfl hb1
  have HS0 := hide (hs_drew hF hz1)
  have HF := hide hF
  have HGB : Hid (∀ W, Below (w.heap.size + 1) w1 W → Hnd W) := hide (fun W h => G0.out.below (HB1.out.trans (h.mono (Nat.le_succ _))))
  clear hF hb1
  refine wp_region_held_drew (S := fun W => (W.cell? ⟨w.heap.size, 0, none⟩ = some (.string op) ∧ W.cell? ⟨w.heap.size, 1, none⟩ = some (.int .i64 pt) ∧ W.cell? ⟨w.heap.size, 2, none⟩ = some (.int .i64 c) ∧ W.cell? ⟨w.heap.size, 3, none⟩ = some (.int .i64 r)) ∧ Below (w.heap.size + 1) w1 W ∧ w.heap.size + 1 ≤ W.heap.size) (by kernel_rfl) HS0.out (fun hHeld => ?_)
  refine wpAnyH_take (i := 0) (oi := _) (v := .iface F U) rfl (by kernel_rfl) (by kernel_rfl) (by kernel_rfl) (fun _ _ _ h => h) (Or.inl ⟨by rfl, by intro w hSw; go_simp⟩) hHeld ?_
  change wpAnyH _ _ _ _ _ _ _ (Act.put _ (some 18) _) _
  simp only [Act.put, List.setIfInBounds_toArray, List.set_cons_zero, List.set_cons_succ]
  refine wpAnyH_take (i := 2) (oi := _) (v := .pointer (some ⟨w.heap.size, 0, none⟩)) rfl (by kernel_rfl) (by kernel_rfl) (by kernel_rfl) (fun _ _ _ h => h) (Or.inl ⟨by rfl, by intro w hSw; go_simp⟩) hHeld ?_
  change wpAnyH _ _ _ _ _ _ _ (Act.put _ (some 20) _) _
  simp only [Act.put, List.setIfInBounds_toArray, List.set_cons_zero, List.set_cons_succ]
  refine wpAnyH_take (i := 3) (oi := _) (v := .pointer (some ⟨w.heap.size, 2, none⟩)) rfl (by kernel_rfl) (by kernel_rfl) (by kernel_rfl) (fun _ _ _ h => h) (Or.inl ⟨by rfl, by intro w hSw; go_simp⟩) hHeld ?_
  change wpAnyH _ _ _ _ _ _ _ (Act.put _ (some 21) _) _
  simp only [Act.put, List.setIfInBounds_toArray, List.set_cons_zero, List.set_cons_succ]
  refine wpAnyH_take (i := 4) (oi := _) (v := .int .i64 c) rfl (by kernel_rfl) (by kernel_rfl) (by kernel_rfl) (fun _ _ _ h => h) (Or.inl ⟨by rfl, by intro w hSw; go_simp⟩) hHeld ?_
  change wpAnyH _ _ _ _ _ _ _ (Act.put _ (some 22) _) _
  simp only [Act.put, List.setIfInBounds_toArray, List.set_cons_zero, List.set_cons_succ]
  refine wpAnyH_ready (rs := [1]) (by kernel_rfl) (by simp) ?_
  refine AllReadyH.cons (o := _) rfl (fun K hK => ?_) AllReadyH.nil
  go_simp
  go_at_call 24
  refine (HOF.out _ (HGB.out _ hHeld.2.1)).mono ?_
  rintro e w19 ⟨rfl, hb⟩
  go_wp2_with fail
  refine hK.out _ _ ?_ (fun hHeld1 => ?_)
  · exact hs_call HF.out hb hHeld
  clear hK K hHeld
  have hHeld := hHeld1
  clear hHeld1
  clear hb
  refine wpAnyH_take (i := 5) (oi := _) (v := .bool true) rfl (by kernel_rfl) (by kernel_rfl) (by kernel_rfl) (fun _ _ _ h => h) (Or.inl ⟨by rfl, by intro w hSw; go_simp⟩) hHeld ?_
  change wpAnyH _ _ _ _ _ _ _ (Act.put _ (some 23) _) _
  simp only [Act.put, List.setIfInBounds_toArray, List.set_cons_zero, List.set_cons_succ]
  refine wpAnyH_take (i := 6) (oi := _) (v := .bool true) rfl (by kernel_rfl) (by kernel_rfl) (by kernel_rfl) (fun _ _ _ h => h) (Or.inl ⟨by rfl, by intro w hSw; go_simp⟩) hHeld ?_
  change wpAnyH _ _ _ _ _ _ _ (Act.put _ (some 24) _) _
  simp only [Act.put, List.setIfInBounds_toArray, List.set_cons_zero, List.set_cons_succ]
  refine wpAnyH_take (i := 7) (oi := _) (v := .bool true) rfl (by kernel_rfl) (by kernel_rfl) (by kernel_rfl) (fun _ _ _ h => h) (Or.inl ⟨by rfl, by intro w hSw; go_simp⟩) hHeld ?_
  change wpAnyH _ _ _ _ _ _ _ (Act.put _ (some 25) _) _
  simp only [Act.put, List.setIfInBounds_toArray, List.set_cons_zero, List.set_cons_succ]
  refine wpAnyH_take (i := 8) (oi := _) (v := .bool true) rfl (by kernel_rfl) (by kernel_rfl) (by kernel_rfl) (fun _ _ _ h => h) (Or.inl ⟨by rfl, by intro w hSw; go_simp⟩) hHeld ?_
  change wpAnyH _ _ _ _ _ _ _ (Act.put _ (some 26) _) _
  simp only [Act.put, List.setIfInBounds_toArray, List.set_cons_zero, List.set_cons_succ]
  refine wpAnyH_take (i := 9) (oi := _) (v := .bool true) rfl (by kernel_rfl) (by kernel_rfl) (by kernel_rfl) (fun _ _ _ h => h) (Or.inl ⟨by rfl, by intro w hSw; go_simp⟩) hHeld ?_
  change wpAnyH _ _ _ _ _ _ _ (Act.put _ (some 27) _) _
  simp only [Act.put, List.setIfInBounds_toArray, List.set_cons_zero, List.set_cons_succ]
  refine wpAnyH_take (i := 10) (oi := _) (v := .int .i64 pt) rfl (by kernel_rfl) (by kernel_rfl) (by kernel_rfl) (fun _ _ _ h => h) (Or.inl ⟨by rfl, by intro w hSw; go_simp⟩) hHeld ?_
  change wpAnyH _ _ _ _ _ _ _ (Act.put _ (some 28) _) _
  simp only [Act.put, List.setIfInBounds_toArray, List.set_cons_zero, List.set_cons_succ]
  refine wpAnyH_take (i := 11) (oi := _) (v := .pointer (some ⟨w.heap.size, 0, none⟩)) rfl (by kernel_rfl) (by kernel_rfl) (by kernel_rfl) (fun _ _ _ h => h) (Or.inl ⟨by rfl, by intro w hSw; go_simp⟩) hHeld ?_
  change wpAnyH _ _ _ _ _ _ _ (Act.put _ (some 29) _) _
  simp only [Act.put, List.setIfInBounds_toArray, List.set_cons_zero, List.set_cons_succ]
  refine wpAnyH_take (i := 12) (oi := _) (v := .pointer (some ⟨w.heap.size, 1, none⟩)) rfl (by kernel_rfl) (by kernel_rfl) (by kernel_rfl) (fun _ _ _ h => h) (Or.inl ⟨by rfl, by intro w hSw; go_simp⟩) hHeld ?_
  change wpAnyH _ _ _ _ _ _ _ (Act.put _ (some 30) _) _
  simp only [Act.put, List.setIfInBounds_toArray, List.set_cons_zero, List.set_cons_succ]
  refine wpAnyH_take (i := 13) (oi := _) (v := .int .i64 pt) rfl (by kernel_rfl) (by kernel_rfl) (by kernel_rfl) (fun _ _ _ h => h) (Or.inl ⟨by rfl, by intro w hSw; go_simp⟩) hHeld ?_
  change wpAnyH _ _ _ _ _ _ _ (Act.put _ (some 31) _) _
  simp only [Act.put, List.setIfInBounds_toArray, List.set_cons_zero, List.set_cons_succ]
  refine wpAnyH_take (i := 14) (oi := _) (v := .bool true) rfl (by kernel_rfl) (by kernel_rfl) (by kernel_rfl) (fun _ _ _ h => h) (Or.inl ⟨by rfl, by intro w hSw; go_simp⟩) hHeld ?_
  change wpAnyH _ _ _ _ _ _ _ (Act.put _ (some 32) _) _
  simp only [Act.put, List.setIfInBounds_toArray, List.set_cons_zero, List.set_cons_succ]
  refine wpAnyH_take (i := 15) (oi := _) (v := .bool true) rfl (by kernel_rfl) (by kernel_rfl) (by kernel_rfl) (fun _ _ _ h => h) (Or.inl ⟨by rfl, by intro w hSw; go_simp⟩) hHeld ?_
  change wpAnyH _ _ _ _ _ _ _ (Act.put _ (some 33) _) _
  simp only [Act.put, List.setIfInBounds_toArray, List.set_cons_zero, List.set_cons_succ]
  refine wpAnyH_take (i := 16) (oi := _) (v := .bool true) rfl (by kernel_rfl) (by kernel_rfl) (by kernel_rfl) (fun _ _ _ h => h) (Or.inl ⟨by rfl, by intro w hSw; go_simp⟩) hHeld ?_
  change wpAnyH _ _ _ _ _ _ _ (Act.put _ (some 34) _) _
  simp only [Act.put, List.setIfInBounds_toArray, List.set_cons_zero, List.set_cons_succ]
  refine wpAnyH_take (i := 17) (oi := _) (v := .iface F U) rfl (by kernel_rfl) (by kernel_rfl) (by kernel_rfl) (fun _ _ _ h => h) (Or.inl ⟨by rfl, by intro w hSw; go_simp⟩) hHeld ?_
  change wpAnyH _ _ _ _ _ _ _ (Act.put _ (some 35) _) _
  simp only [Act.put, List.setIfInBounds_toArray, List.set_cons_zero, List.set_cons_succ]
  refine wpAnyH_take (i := 18) (oi := _) (v := .pointer (some ⟨w.heap.size, 0, none⟩)) rfl (by kernel_rfl) (by kernel_rfl) (by kernel_rfl) (fun _ _ _ h => h) (Or.inl ⟨by rfl, by intro w hSw; go_simp⟩) hHeld ?_
  change wpAnyH _ _ _ _ _ _ _ (Act.put _ (some 36) _) _
  simp only [Act.put, List.setIfInBounds_toArray, List.set_cons_zero, List.set_cons_succ]
  refine wpAnyH_take (i := 19) (oi := _) (v := .pointer (some ⟨w.heap.size, 0, none⟩)) rfl (by kernel_rfl) (by kernel_rfl) (by kernel_rfl) (fun _ _ _ h => h) (Or.inl ⟨by rfl, by intro w hSw; go_simp⟩) hHeld ?_
  change wpAnyH _ _ _ _ _ _ _ (Act.put _ (some 37) _) _
  simp only [Act.put, List.setIfInBounds_toArray, List.set_cons_zero, List.set_cons_succ]
  refine wpAnyH_take (i := 20) (oi := _) (v := .string op) rfl (by kernel_rfl) (by kernel_rfl) (by kernel_rfl) (fun _ _ _ h => h) (Or.inl ⟨by rfl, by intro w hSw; go_simp⟩) hHeld ?_
  change wpAnyH _ _ _ _ _ _ _ (Act.put _ (some 38) _) _
  simp only [Act.put, List.setIfInBounds_toArray, List.set_cons_zero, List.set_cons_succ]
  refine wpAnyH_ready (rs := [21]) (by kernel_rfl) (by simp) ?_
  refine AllReadyH.cons (o := _) rfl (fun K hK => ?_) AllReadyH.nil
  go_simp
  go_at_call 25
  refine (HUN.out _ (HGB.out _ hHeld.2.1)).mono ?_
  rintro e w39 ⟨rfl, hb⟩
  go_wp2_with fail
  refine hK.out _ _ ?_ (fun hHeld1 => ?_)
  · exact hs_call HF.out hb hHeld
  clear hK K hHeld
  have hHeld := hHeld1
  clear hHeld1
  clear hb
  refine wpAnyH_take (i := 22) (oi := _) (v := .bool true) rfl (by kernel_rfl) (by kernel_rfl) (by kernel_rfl) (fun _ _ _ h => h) (Or.inl ⟨by rfl, by intro w hSw; go_simp⟩) hHeld ?_
  change wpAnyH _ _ _ _ _ _ _ (Act.put _ (some 40) _) _
  simp only [Act.put, List.setIfInBounds_toArray, List.set_cons_zero, List.set_cons_succ]
  refine wpAnyH_take (i := 23) (oi := _) (v := .bool true) rfl (by kernel_rfl) (by kernel_rfl) (by kernel_rfl) (fun _ _ _ h => h) (Or.inl ⟨by rfl, by intro w hSw; go_simp⟩) hHeld ?_
  change wpAnyH _ _ _ _ _ _ _ (Act.put _ (some 4) _) _
  simp only [Act.put, List.setIfInBounds_toArray, List.set_cons_zero, List.set_cons_succ]
  refine wpAnyH_done (by kernel_rfl) ?_ _
  have HBF := hide (HB1.out.trans (hHeld.2.1.mono (Nat.le_succ _)))
  clear hHeld
  go_wp2_with fail
  go_ret
  exact ⟨rfl, HBF.out⟩
/-- An error that tells what is wrong is such a one. -/
theorem mwrong_any (X : Option (List (ByteArray × Int) × Int)) (T : ByteArray × Int × Int) (r : Int) (w : World) (ht : Tells X T) (hg : Hnd w) : Calls Tryz.prog 10 #[ev X, .agg #[.string T.1, .int .i64 T.2.1, .int .i64 T.2.2, .int .i64 r]] w fun e w' => e = .returned (.bool true) ∧ Below w.heap.size w w' := by
  rcases X with _ | ⟨l, c⟩
  · have h0 : T.2.2 = 0 := ht
    rw [h0]
    exact mwrong_nil T.1 T.2.1 r w
  · obtain ⟨h1, _, h3, h4, h5, h6⟩ := ht
    have hl : (stV (some (l, c))).length ≤ 1000 := by show l.length ≤ 1000; omega
    have hof := fun W h => of_ev (some (l, c)) W h
    have hwe := fun W h => where_ev (some (l, c)) W h
    have hun := fun W h => under_ev (some (l, c)) T.1 W h hl
    rw [show ofV (some (l, c)) = T.2.2 from h1] at hof
    rw [show atV (stV (some (l, c))) = T.2.1 from h3, show inV (stV (some (l, c))) = true from h4] at hwe
    rw [show hasB ((stV (some (l, c))).map (·.1)) T.1 = true from h5] at hun
    obtain ⟨F, U, hFU⟩ := chn_form l c
    have e : ev (some (l, c)) = .iface F U := hFU
    rw [e] at hof hwe hun ⊢
    exact mwrong_go F U T.1 T.2.1 T.2.2 r w hg (hide hof) (hide hwe) (hide hun)
end Go.Proofs.YtkpknkhacmggnaaGreatDoor
