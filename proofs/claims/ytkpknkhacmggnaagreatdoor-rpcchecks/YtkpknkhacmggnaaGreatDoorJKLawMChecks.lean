/-
  RpcChecks' WALK: whether any message may be, whether two are the same, and a copy. Conditions: the messages' slices' cells hold what they hold, their bytes are bytes; errors.errorType is laid.
-/
import Derived.Test.YtkpknkhacmggnaaGreatDoorJKRpcWk
import Derived.Test.YtkpknkhacmggnaaGreatDoorJKRpcDk
import Derived.Test.YtkpknkhacmggnaaGreatDoorJKRpcDsa2
import Derived.Test.YtkpknkhacmggnaaGreatDoorJKRpcCpa2
import Derived.Test.YtkpknkhacmggnaaGreatDoorJKRecChka2
namespace Go.Proofs.YtkpknkhacmggnaaGreatDoor
open Go.RowKit

theorem shM_txc {m : Ms} (h : shM m = true) : TxM m := fun x hx r hr => sh_tx ((shL_is ((shM_is h).2.2 x hx)).2 r hr)
theorem shB_lnc {r : Rc} (h : shB r = true) : LnR r := by
  unfold shB at h
  simp only [decide_eq_true_eq] at h
  exact ⟨by omega, by omega, by omega, by omega⟩
theorem shM_lnc {m : Ms} (h : shM m = true) : LnM m := fun x hx => by
  have h1 := shL_is ((shM_is h).2.2 x hx)
  exact ⟨by omega, fun r hr => shB_lnc (h1.2 r hr)⟩
set_option maxRecDepth 100000 in
set_option maxHeartbeats 64000000 in
theorem mchks_law (m n : Ms) (v u : Value) (w : World) (hv : IsM w v m) (hu : IsM w u n) (hby : Byt m.da) (hby' : Byt n.da) (hg : Hnd w) : Calls Tryz.prog 3 #[v, u] w fun e w' => e = .returned (.bool true) ∧ Below w.heap.size w w' := by
  have hsa := fun W (h : Below w.heap.size w W) => rmshort_any m v W (hv.below h)
  have hsb := fun W (h : Below w.heap.size w W) => rmshort_any n u W (hu.below h)
  have HIA := hide (fun W (h : Below w.heap.size w W) => hv.below h)
  have HIB := hide (fun W (h : Below w.heap.size w W) => hu.below h)
  obtain ⟨ab, cb, ad, cd, qs, rfl, hm⟩ := isM_form hv
  obtain ⟨ab', cb', ad', cd', qs', rfl, hm'⟩ := isM_form hu
  have HG := hide hg
  have HWK := hide (fun W (h : Below w.heap.size w W) => mworks_any W (HG.out.below h))
  unfold cellsM at hsa hsb HIA HIB ⊢
  obtain ⟨X, hX⟩ : ∃ X, X = (w.alloc (.cells #[.int .i64 m.k, .int .i64 m.fr, .int .i64 m.tn, .int .i64 m.t, .bool m.pre, .bool m.ok, .int .i64 m.ld, .int .i64 m.pa, .int .i64 m.pt, .int .i64 m.hi, .int .i64 m.co, .slice ab m.bs.length cb, .int .i64 m.sz, .int .i64 m.po, .slice ad m.da.length cd] 25)).alloc (.cells #[.int .i64 n.k, .int .i64 n.fr, .int .i64 n.tn, .int .i64 n.t, .bool n.pre, .bool n.ok, .int .i64 n.ld, .int .i64 n.pa, .int .i64 n.pt, .int .i64 n.hi, .int .i64 n.co, .slice ab' n.bs.length cb', .int .i64 n.sz, .int .i64 n.po, .slice ad' n.da.length cd'] 25) := ⟨_, rfl⟩
  obtain ⟨hb0, hqa, hqb⟩ := two_in w [.int .i64 m.k, .int .i64 m.fr, .int .i64 m.tn, .int .i64 m.t, .bool m.pre, .bool m.ok, .int .i64 m.ld, .int .i64 m.pa, .int .i64 m.pt, .int .i64 m.hi, .int .i64 m.co, .slice ab m.bs.length cb, .int .i64 m.sz, .int .i64 m.po, .slice ad m.da.length cd] [.int .i64 n.k, .int .i64 n.fr, .int .i64 n.tn, .int .i64 n.t, .bool n.pre, .bool n.ok, .int .i64 n.ld, .int .i64 n.pa, .int .i64 n.pt, .int .i64 n.hi, .int .i64 n.co, .slice ab' n.bs.length cb', .int .i64 n.sz, .int .i64 n.po, .slice ad' n.da.length cd'] hX
  have HB0 := hide hb0
  have HQA := hide hqa
  have HQB := hide hqb
  have HSA := hide (hsa X hb0)
  have HSB := hide hsb
  clear hb0 hqa hqb hv hu hg hm hm' hsa hsb
  go_enter Tryz.func3, Tryz.ntmps3
  go_upto_region 1 with fail
  rw [← hX]
  clear hX
  cases hs : shM m with
  | false =>
    rw [hs] at HSA
    clear HSB HIA HIB
    go_wp2_with (first | (refine wpList_load_mid rfl _ _ rfl _ _ rfl _ _ HQA.out Tryz.underlying25 rfl (by kernel_rfl) ?_) | (go_at_call 8; refine HSA.out.mono ?_; rintro e V1 ⟨rfl, hb1⟩; have HB1 := hide (HB0.out.trans (hb1.mono HB0.out.size)); have HQA1 := hide (range_bel HQA.out hb1); have HQB1 := hide (range_bel HQB.out hb1); clear hb1) | (go_at_call 9; refine (HWK.out _ HB1.out).mono ?_; rintro e V9 ⟨rfl, hb9⟩; have HB9 := hide (HB1.out.trans (hb9.mono HB1.out.size)); clear hb9))
    go_ret
    exact ⟨rfl, HB9.out⟩
  | true =>
  rw [hs] at HSA
  cases hs' : shM n with
  | false =>
    rw [hs'] at HSB
    clear HIA HIB
    go_wp2_with (first | (refine wpList_load_mid rfl _ _ rfl _ _ rfl _ _ HQA.out Tryz.underlying25 rfl (by kernel_rfl) ?_) | (refine wpList_load_want (by go_simp; done) _ _ rfl _ _ rfl _ _ HQB1.out Tryz.underlying25 rfl (by kernel_rfl) ?_) | (go_at_call 8; refine (HSB.out _ HB1.out).mono ?_; rintro e V2 ⟨rfl, hb2⟩; have HB2 := hide (HB1.out.trans (hb2.mono HB1.out.size)); have HQA2 := hide (range_bel HQA1.out hb2); have HQB2 := hide (range_bel HQB1.out hb2); clear hb2) | (go_at_call 8; refine HSA.out.mono ?_; rintro e V1 ⟨rfl, hb1⟩; have HB1 := hide (HB0.out.trans (hb1.mono HB0.out.size)); have HQA1 := hide (range_bel HQA.out hb1); have HQB1 := hide (range_bel HQB.out hb1); clear hb1) | (go_at_call 9; refine (HWK.out _ HB2.out).mono ?_; rintro e V9 ⟨rfl, hb9⟩; have HB9 := hide (HB2.out.trans (hb9.mono HB2.out.size)); clear hb9))
    go_ret
    exact ⟨rfl, HB9.out⟩
  | true =>
  rw [hs'] at HSB
  have htx := shM_txc hs
  have hln := shM_lnc hs
  obtain ⟨hd8, hb12, _⟩ := shM_is hs
  obtain ⟨VA, hVA⟩ : ∃ V : Value, V = .agg #[.int .i64 m.k, .int .i64 m.fr, .int .i64 m.tn, .int .i64 m.t, .bool m.pre, .bool m.ok, .int .i64 m.ld, .int .i64 m.pa, .int .i64 m.pt, .int .i64 m.hi, .int .i64 m.co, .slice ab m.bs.length cb, .int .i64 m.sz, .int .i64 m.po, .slice ad m.da.length cd] := ⟨_, rfl⟩
  obtain ⟨VB, hVB⟩ : ∃ V : Value, V = .agg #[.int .i64 n.k, .int .i64 n.fr, .int .i64 n.tn, .int .i64 n.t, .bool n.pre, .bool n.ok, .int .i64 n.ld, .int .i64 n.pa, .int .i64 n.pt, .int .i64 n.hi, .int .i64 n.co, .slice ab' n.bs.length cb', .int .i64 n.sz, .int .i64 n.po, .slice ad' n.da.length cd'] := ⟨_, rfl⟩
  rw [← hVA] at HIA
  rw [← hVB] at HIB
  have HVA := hide hVA
  have HVB := hide hVB
  have HCK := hide (fun W (h : Below w.heap.size w W) => mcheck_any m VA W (HIA.out W h) htx (by omega))
  have HRC := hide (fun W (h : Below w.heap.size w W) => rmcheck_any m VA W (HIA.out W h) htx)
  have HWR : Hid (∀ W, Below w.heap.size w W → Calls Tryz.prog 10 #[ev (evM m), wrT (chkM m)] W fun e w' => e = .returned (.bool true) ∧ Below W.heap.size W w') := hide (fun W h => mwrong_any (evM m) (chkM m) (-1) W (tells_M m) (HG.out.below h))
  have HS1 := hide (fun W (h : Below w.heap.size w W) => msame_any m n VA VB W (HIA.out W h) (HIB.out W h) hby hby' (by omega) hln)
  have HS2 := hide (fun W (h : Below w.heap.size w W) => rmsame_any m n VA VB W (HIA.out W h) (HIB.out W h) (by omega) (by omega) hln)
  have HCP := hide (fun W (h : Below w.heap.size w W) => mcopy_any m VA W (HIA.out W h) (by omega) (by omega) hln)
  have HSS := hide (fun W (h : Below w.heap.size w W) v hx => rmsame_eq m v VA W hx (HIA.out W h) (by omega) (by omega) hln)
  generalize ev (evM m) = E at *
  generalize wrT (chkM m) = R at *
  generalize sameM m n = sb at *
  clear hVA hVB hs hs' htx hln hd8 hb12 hby hby' HIA HIB
  go_upto_region 3 with (first | (refine wpList_load_mid rfl _ _ rfl _ _ rfl _ _ HQA.out Tryz.underlying25 rfl (by kernel_rfl) ?_) | (refine wpList_load_want (by go_simp; done) _ _ rfl _ _ rfl _ _ HQB1.out Tryz.underlying25 rfl (by kernel_rfl) ?_) | (go_at_call 8; refine (HSB.out _ HB1.out).mono ?_; rintro e V2 ⟨rfl, hb2⟩; have HB2 := hide (HB1.out.trans (hb2.mono HB1.out.size)); have HQA2 := hide (range_bel HQA1.out hb2); have HQB2 := hide (range_bel HQB1.out hb2); clear hb2) | (go_at_call 8; refine HSA.out.mono ?_; rintro e V1 ⟨rfl, hb1⟩; have HB1 := hide (HB0.out.trans (hb1.mono HB0.out.size)); have HQA1 := hide (range_bel HQA.out hb1); have HQB1 := hide (range_bel HQB.out hb1); clear hb1))
  have HFF : Hid (∀ W, Below V2.heap.size V2 W → (fun W : World => (W.rangeAt w.heap.size 0 [.int .i64 m.k, .int .i64 m.fr, .int .i64 m.tn, .int .i64 m.t, .bool m.pre, .bool m.ok, .int .i64 m.ld, .int .i64 m.pa, .int .i64 m.pt, .int .i64 m.hi, .int .i64 m.co, .slice ab m.bs.length cb, .int .i64 m.sz, .int .i64 m.po, .slice ad m.da.length cd] ∧ W.rangeAt (w.heap.size + 1) 0 [.int .i64 n.k, .int .i64 n.fr, .int .i64 n.tn, .int .i64 n.t, .bool n.pre, .bool n.ok, .int .i64 n.ld, .int .i64 n.pa, .int .i64 n.pt, .int .i64 n.hi, .int .i64 n.co, .slice ab' n.bs.length cb', .int .i64 n.sz, .int .i64 n.po, .slice ad' n.da.length cd'])) W) := hide (fun W h => ⟨range_bel HQA2.out h, range_bel HQB2.out h⟩)
  have HS0 := hide (hs_drew HFF.out (Nat.le_refl _))
  have HBB : Hid (∀ W, Below V2.heap.size V2 W → Below w.heap.size w W) := hide (fun W h => HB2.out.trans (h.mono HB2.out.size))
  clear HQA HQB HQA1 HQB1 HQA2 HQB2 HSA HSB HB0 HB1
  refine wp_region_held_drew (S := fun W => (W.rangeAt w.heap.size 0 [.int .i64 m.k, .int .i64 m.fr, .int .i64 m.tn, .int .i64 m.t, .bool m.pre, .bool m.ok, .int .i64 m.ld, .int .i64 m.pa, .int .i64 m.pt, .int .i64 m.hi, .int .i64 m.co, .slice ab m.bs.length cb, .int .i64 m.sz, .int .i64 m.po, .slice ad m.da.length cd] ∧ W.rangeAt (w.heap.size + 1) 0 [.int .i64 n.k, .int .i64 n.fr, .int .i64 n.tn, .int .i64 n.t, .bool n.pre, .bool n.ok, .int .i64 n.ld, .int .i64 n.pa, .int .i64 n.pt, .int .i64 n.hi, .int .i64 n.co, .slice ab' n.bs.length cb', .int .i64 n.sz, .int .i64 n.po, .slice ad' n.da.length cd']) ∧ Below V2.heap.size V2 W ∧ V2.heap.size ≤ W.heap.size) (by kernel_rfl) HS0.out (fun hHeld => ?_)
  refine wpAnyH_take (i := 0) (oi := _) (v := VA) rfl (by kernel_rfl) (by kernel_rfl) (by kernel_rfl) (fun _ _ _ h => h) (by rw [HVA.out]; exact yieldsIf_load_mid (by rfl) _ _ rfl _ _ rfl ([.int .i64 m.k, .int .i64 m.fr, .int .i64 m.tn, .int .i64 m.t, .bool m.pre, .bool m.ok, .int .i64 m.ld, .int .i64 m.pa, .int .i64 m.pt, .int .i64 m.hi, .int .i64 m.co, .slice ab m.bs.length cb, .int .i64 m.sz, .int .i64 m.po, .slice ad m.da.length cd]) _ (fun W hW => hW.1.1) Tryz.underlying25 rfl (by kernel_rfl)) hHeld ?_
  change wpAnyH _ _ _ _ _ _ _ (Act.put _ (some 14) _) _
  simp only [Act.put, List.setIfInBounds_toArray, List.set_cons_zero, List.set_cons_succ]
  refine wpAnyH_take (i := 2) (oi := _) (v := VA) rfl (by kernel_rfl) (by kernel_rfl) (by kernel_rfl) (fun _ _ _ h => h) (by rw [HVA.out]; exact yieldsIf_load_mid (by rfl) _ _ rfl _ _ rfl ([.int .i64 m.k, .int .i64 m.fr, .int .i64 m.tn, .int .i64 m.t, .bool m.pre, .bool m.ok, .int .i64 m.ld, .int .i64 m.pa, .int .i64 m.pt, .int .i64 m.hi, .int .i64 m.co, .slice ab m.bs.length cb, .int .i64 m.sz, .int .i64 m.po, .slice ad m.da.length cd]) _ (fun W hW => hW.1.1) Tryz.underlying25 rfl (by kernel_rfl)) hHeld ?_
  change wpAnyH _ _ _ _ _ _ _ (Act.put _ (some 16) _) _
  simp only [Act.put, List.setIfInBounds_toArray, List.set_cons_zero, List.set_cons_succ]
  refine wpAnyH_ready (rs := [1]) (by kernel_rfl) (by simp) ?_
  refine AllReadyH.cons (o := _) rfl (fun K hK => ?_) AllReadyH.nil
  go_simp
  go_at_call 11
  refine (HCK.out _ (HBB.out _ hHeld.2.1)).mono ?_
  rintro e w15 ⟨rfl, hb⟩
  go_wp2_with fail
  refine hK.out _ _ ?_ (fun hHeld1 => ?_)
  · exact hs_call HFF.out hb hHeld
  clear hK K hHeld
  have hHeld := hHeld1
  clear hHeld1
  clear hb
  refine wpAnyH_ready (rs := [3]) (by kernel_rfl) (by simp) ?_
  refine AllReadyH.cons (o := _) rfl (fun K hK => ?_) AllReadyH.nil
  go_simp
  go_at_call 12
  refine (HRC.out _ (HBB.out _ hHeld.2.1)).mono ?_
  rintro e w17 ⟨rfl, hb⟩
  go_wp2_with fail
  refine hK.out _ _ ?_ (fun hHeld1 => ?_)
  · exact hs_call HFF.out hb hHeld
  clear hK K hHeld
  have hHeld := hHeld1
  clear hHeld1
  clear hb
  refine wpAnyH_ready (rs := [4]) (by kernel_rfl) (by simp) ?_
  refine AllReadyH.cons (o := _) rfl (fun K hK => ?_) AllReadyH.nil
  go_simp
  go_at_call 10
  refine (HWR.out _ (HBB.out _ hHeld.2.1)).mono ?_
  rintro e w18 ⟨rfl, hb⟩
  go_wp2_with fail
  refine hK.out _ _ ?_ (fun hHeld1 => ?_)
  · exact hs_call HFF.out hb hHeld
  clear hK K hHeld
  have hHeld := hHeld1
  clear hHeld1
  clear hb
  refine wpAnyH_take (i := 5) (oi := _) (v := .bool true) rfl (by kernel_rfl) (by kernel_rfl) (by kernel_rfl) (fun _ _ _ h => h) (Or.inl ⟨by rfl, by intro w hSw; go_simp⟩) hHeld ?_
  change wpAnyH _ _ _ _ _ _ _ (Act.put _ (some 19) _) _
  simp only [Act.put, List.setIfInBounds_toArray, List.set_cons_zero, List.set_cons_succ]
  refine wpAnyH_take (i := 6) (oi := _) (v := VA) rfl (by kernel_rfl) (by kernel_rfl) (by kernel_rfl) (fun _ _ _ h => h) (by rw [HVA.out]; exact yieldsIf_load_mid (by rfl) _ _ rfl _ _ rfl ([.int .i64 m.k, .int .i64 m.fr, .int .i64 m.tn, .int .i64 m.t, .bool m.pre, .bool m.ok, .int .i64 m.ld, .int .i64 m.pa, .int .i64 m.pt, .int .i64 m.hi, .int .i64 m.co, .slice ab m.bs.length cb, .int .i64 m.sz, .int .i64 m.po, .slice ad m.da.length cd]) _ (fun W hW => hW.1.1) Tryz.underlying25 rfl (by kernel_rfl)) hHeld ?_
  change wpAnyH _ _ _ _ _ _ _ (Act.put _ (some 20) _) _
  simp only [Act.put, List.setIfInBounds_toArray, List.set_cons_zero, List.set_cons_succ]
  refine wpAnyH_take (i := 7) (oi := _) (v := VB) rfl (by kernel_rfl) (by kernel_rfl) (by kernel_rfl) (fun _ _ _ h => h) (by rw [HVB.out]; exact yieldsIf_load_mid (by rfl) _ _ rfl _ _ rfl ([.int .i64 n.k, .int .i64 n.fr, .int .i64 n.tn, .int .i64 n.t, .bool n.pre, .bool n.ok, .int .i64 n.ld, .int .i64 n.pa, .int .i64 n.pt, .int .i64 n.hi, .int .i64 n.co, .slice ab' n.bs.length cb', .int .i64 n.sz, .int .i64 n.po, .slice ad' n.da.length cd']) _ (fun W hW => hW.1.2) Tryz.underlying25 rfl (by kernel_rfl)) hHeld ?_
  change wpAnyH _ _ _ _ _ _ _ (Act.put _ (some 21) _) _
  simp only [Act.put, List.setIfInBounds_toArray, List.set_cons_zero, List.set_cons_succ]
  refine wpAnyH_take (i := 9) (oi := _) (v := VA) rfl (by kernel_rfl) (by kernel_rfl) (by kernel_rfl) (fun _ _ _ h => h) (by rw [HVA.out]; exact yieldsIf_load_mid (by rfl) _ _ rfl _ _ rfl ([.int .i64 m.k, .int .i64 m.fr, .int .i64 m.tn, .int .i64 m.t, .bool m.pre, .bool m.ok, .int .i64 m.ld, .int .i64 m.pa, .int .i64 m.pt, .int .i64 m.hi, .int .i64 m.co, .slice ab m.bs.length cb, .int .i64 m.sz, .int .i64 m.po, .slice ad m.da.length cd]) _ (fun W hW => hW.1.1) Tryz.underlying25 rfl (by kernel_rfl)) hHeld ?_
  change wpAnyH _ _ _ _ _ _ _ (Act.put _ (some 23) _) _
  simp only [Act.put, List.setIfInBounds_toArray, List.set_cons_zero, List.set_cons_succ]
  refine wpAnyH_take (i := 10) (oi := _) (v := VB) rfl (by kernel_rfl) (by kernel_rfl) (by kernel_rfl) (fun _ _ _ h => h) (by rw [HVB.out]; exact yieldsIf_load_mid (by rfl) _ _ rfl _ _ rfl ([.int .i64 n.k, .int .i64 n.fr, .int .i64 n.tn, .int .i64 n.t, .bool n.pre, .bool n.ok, .int .i64 n.ld, .int .i64 n.pa, .int .i64 n.pt, .int .i64 n.hi, .int .i64 n.co, .slice ab' n.bs.length cb', .int .i64 n.sz, .int .i64 n.po, .slice ad' n.da.length cd']) _ (fun W hW => hW.1.2) Tryz.underlying25 rfl (by kernel_rfl)) hHeld ?_
  change wpAnyH _ _ _ _ _ _ _ (Act.put _ (some 24) _) _
  simp only [Act.put, List.setIfInBounds_toArray, List.set_cons_zero, List.set_cons_succ]
  refine wpAnyH_ready (rs := [8]) (by kernel_rfl) (by simp) ?_
  refine AllReadyH.cons (o := _) rfl (fun K hK => ?_) AllReadyH.nil
  go_simp
  go_at_call 13
  refine (HS1.out _ (HBB.out _ hHeld.2.1)).mono ?_
  rintro e w22 ⟨rfl, hb⟩
  go_wp2_with fail
  refine hK.out _ _ ?_ (fun hHeld1 => ?_)
  · exact hs_call HFF.out hb hHeld
  clear hK K hHeld
  have hHeld := hHeld1
  clear hHeld1
  clear hb
  refine wpAnyH_ready (rs := [11]) (by kernel_rfl) (by simp) ?_
  refine AllReadyH.cons (o := _) rfl (fun K hK => ?_) AllReadyH.nil
  go_simp
  go_at_call 14
  refine (HS2.out _ (HBB.out _ hHeld.2.1)).mono ?_
  rintro e w25 ⟨rfl, hb⟩
  go_wp2_with fail
  refine hK.out _ _ ?_ (fun hHeld1 => ?_)
  · exact hs_call HFF.out hb hHeld
  clear hK K hHeld
  have hHeld := hHeld1
  clear hHeld1
  clear hb
  refine wpAnyH_take (i := 12) (oi := _) (v := .bool true) rfl (by kernel_rfl) (by kernel_rfl) (by kernel_rfl) (fun _ _ _ h => h) (Or.inl ⟨by rfl, by intro w hSw; go_simp⟩) hHeld ?_
  change wpAnyH _ _ _ _ _ _ _ (Act.put _ (some 26) _) _
  simp only [Act.put, List.setIfInBounds_toArray, List.set_cons_zero, List.set_cons_succ]
  refine wpAnyH_take (i := 13) (oi := _) (v := .bool true) rfl (by kernel_rfl) (by kernel_rfl) (by kernel_rfl) (fun _ _ _ h => h) (Or.inl ⟨by rfl, by intro w hSw; go_simp⟩) hHeld ?_
  change wpAnyH _ _ _ _ _ _ _ (Act.put _ (some 27) _) _
  simp only [Act.put, List.setIfInBounds_toArray, List.set_cons_zero, List.set_cons_succ]
  refine wpAnyH_take (i := 14) (oi := _) (v := .bool true) rfl (by kernel_rfl) (by kernel_rfl) (by kernel_rfl) (fun _ _ _ h => h) (Or.inl ⟨by rfl, by intro w hSw; go_simp⟩) hHeld ?_
  change wpAnyH _ _ _ _ _ _ _ (Act.put _ (some 28) _) _
  simp only [Act.put, List.setIfInBounds_toArray, List.set_cons_zero, List.set_cons_succ]
  refine wpAnyH_take (i := 15) (oi := _) (v := VA) rfl (by kernel_rfl) (by kernel_rfl) (by kernel_rfl) (fun _ _ _ h => h) (by rw [HVA.out]; exact yieldsIf_load_mid (by rfl) _ _ rfl _ _ rfl ([.int .i64 m.k, .int .i64 m.fr, .int .i64 m.tn, .int .i64 m.t, .bool m.pre, .bool m.ok, .int .i64 m.ld, .int .i64 m.pa, .int .i64 m.pt, .int .i64 m.hi, .int .i64 m.co, .slice ab m.bs.length cb, .int .i64 m.sz, .int .i64 m.po, .slice ad m.da.length cd]) _ (fun W hW => hW.1.1) Tryz.underlying25 rfl (by kernel_rfl)) hHeld ?_
  change wpAnyH _ _ _ _ _ _ _ (Act.put _ (some 29) _) _
  simp only [Act.put, List.setIfInBounds_toArray, List.set_cons_zero, List.set_cons_succ]
  refine wpAnyH_take (i := 17) (oi := _) (v := VA) rfl (by kernel_rfl) (by kernel_rfl) (by kernel_rfl) (fun _ _ _ h => h) (by rw [HVA.out]; exact yieldsIf_load_mid (by rfl) _ _ rfl _ _ rfl ([.int .i64 m.k, .int .i64 m.fr, .int .i64 m.tn, .int .i64 m.t, .bool m.pre, .bool m.ok, .int .i64 m.ld, .int .i64 m.pa, .int .i64 m.pt, .int .i64 m.hi, .int .i64 m.co, .slice ab m.bs.length cb, .int .i64 m.sz, .int .i64 m.po, .slice ad m.da.length cd]) _ (fun W hW => hW.1.1) Tryz.underlying25 rfl (by kernel_rfl)) hHeld ?_
  change wpAnyH _ _ _ _ _ _ _ (Act.put _ (some 31) _) _
  simp only [Act.put, List.setIfInBounds_toArray, List.set_cons_zero, List.set_cons_succ]
  refine wpAnyH_ready (rs := [16]) (by kernel_rfl) (by simp) ?_
  refine AllReadyH.cons (o := _) rfl (fun K hK => ?_) AllReadyH.nil
  go_simp
  go_at_call 15
  refine (HCP.out _ (HBB.out _ hHeld.2.1)).mono ?_
  rintro e w30 ⟨v30, rfl, hx30, hb⟩
  go_wp2_with fail
  refine hK.out _ _ ?_ (fun hHeld1 => ?_)
  · exact hs_call HFF.out hb hHeld
  clear hK K hHeld
  have hHeld := hHeld1
  clear hHeld1
  have HX30 := hide hx30
  clear hx30
  clear hb
  refine wpAnyH_ready (rs := [18]) (by kernel_rfl) (by simp) ?_
  refine AllReadyH.cons (o := _) rfl (fun K hK => ?_) AllReadyH.nil
  go_simp
  go_at_call 14
  refine (HSS.out _ (HBB.out _ hHeld.2.1) _ HX30.out).mono ?_
  rintro e w32 ⟨rfl, hb⟩
  go_wp2_with fail
  refine hK.out _ _ ?_ (fun hHeld1 => ?_)
  · exact hs_call HFF.out hb hHeld
  clear hK K hHeld
  have hHeld := hHeld1
  clear hHeld1
  clear HX30
  clear hb
  refine wpAnyH_take (i := 19) (oi := _) (v := .bool true) rfl (by kernel_rfl) (by kernel_rfl) (by kernel_rfl) (fun _ _ _ h => h) (Or.inl ⟨by rfl, by intro w hSw; go_simp⟩) hHeld ?_
  change wpAnyH _ _ _ _ _ _ _ (Act.put _ (some 33) _) _
  simp only [Act.put, List.setIfInBounds_toArray, List.set_cons_zero, List.set_cons_succ]
  refine wpAnyH_take (i := 20) (oi := _) (v := .bool true) rfl (by kernel_rfl) (by kernel_rfl) (by kernel_rfl) (fun _ _ _ h => h) (Or.inl ⟨by rfl, by intro w hSw; go_simp⟩) hHeld ?_
  change wpAnyH _ _ _ _ _ _ _ (Act.put _ (some 34) _) _
  simp only [Act.put, List.setIfInBounds_toArray, List.set_cons_zero, List.set_cons_succ]
  refine wpAnyH_ready (rs := [21]) (by kernel_rfl) (by simp) ?_
  refine AllReadyH.cons (o := _) rfl (fun K hK => ?_) AllReadyH.nil
  go_simp
  go_at_call 9
  refine (HWK.out _ (HBB.out _ hHeld.2.1)).mono ?_
  rintro e w35 ⟨rfl, hb⟩
  go_wp2_with fail
  refine hK.out _ _ ?_ (fun hHeld1 => ?_)
  · exact hs_call HFF.out hb hHeld
  clear hK K hHeld
  have hHeld := hHeld1
  clear hHeld1
  clear hb
  refine wpAnyH_take (i := 22) (oi := _) (v := .bool true) rfl (by kernel_rfl) (by kernel_rfl) (by kernel_rfl) (fun _ _ _ h => h) (Or.inl ⟨by rfl, by intro w hSw; go_simp⟩) hHeld ?_
  change wpAnyH _ _ _ _ _ _ _ (Act.put _ (some 36) _) _
  simp only [Act.put, List.setIfInBounds_toArray, List.set_cons_zero, List.set_cons_succ]
  refine wpAnyH_take (i := 23) (oi := _) (v := .bool true) rfl (by kernel_rfl) (by kernel_rfl) (by kernel_rfl) (fun _ _ _ h => h) (Or.inl ⟨by rfl, by intro w hSw; go_simp⟩) hHeld ?_
  change wpAnyH _ _ _ _ _ _ _ (Act.put _ (some 4) _) _
  simp only [Act.put, List.setIfInBounds_toArray, List.set_cons_zero, List.set_cons_succ]
  refine wpAnyH_done (by kernel_rfl) ?_ _
  have HBF := hide (HBB.out _ hHeld.2.1)
  clear hHeld
  go_wp2_with fail
  go_ret
  exact ⟨rfl, HBF.out⟩
end Go.Proofs.YtkpknkhacmggnaaGreatDoor
