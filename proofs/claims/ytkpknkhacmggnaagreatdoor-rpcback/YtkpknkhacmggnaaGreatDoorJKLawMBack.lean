/-
  RpcBack's WALK: a message that is put into a frame is read as what it was. Conditions: the message's slices' cells hold what they hold, its bytes are bytes; errors.errorType is laid.
-/
import Derived.Test.YtkpknkhacmggnaaGreatDoorJKRpcWk
import Derived.Test.YtkpknkhacmggnaaGreatDoorJKRpcCpa2
namespace Go.Proofs.YtkpknkhacmggnaaGreatDoor
open Go.RowKit

theorem shM_tx {m : Ms} (h : shM m = true) : TxM m := fun x hx r hr => sh_tx ((shL_is ((shM_is h).2.2 x hx)).2 r hr)
theorem shB_ln {r : Rc} (h : shB r = true) : LnR r := by
  unfold shB at h
  simp only [decide_eq_true_eq] at h
  exact ⟨by omega, by omega, by omega, by omega⟩
theorem shM_ln {m : Ms} (h : shM m = true) : LnM m := fun x hx => by
  have h1 := shL_is ((shM_is h).2.2 x hx)
  exact ⟨by omega, fun r hr => shB_ln (h1.2 r hr)⟩
theorem evP_ok {m : Ms} (h : evP m = none) : evM m = none ∧ (∀ x ∈ m.bs, (bytL x).length ≤ 16384) ∧ (tailM m).length ≤ 16384 := by
  unfold evP at h
  cases hq : evM m with
  | some q => rw [hq] at h; cases h
  | none =>
    rw [hq] at h
    simp only at h
    unfold evQ at h
    cases hl : lnBs m.bs 0 with
    | some q => rw [hl] at h; cases h
    | none =>
      rw [hl] at h
      simp only at h
      refine ⟨rfl, lnBs_all _ _ hl, ?_⟩
      split at h
      · assumption
      · cases h
set_option maxRecDepth 100000 in
set_option maxHeartbeats 16000000 in
theorem mback_law (m : Ms) (v : Value) (w : World) (hv : IsM w v m) (hby : Byt m.da) (hg : Hnd w) : Calls Tryz.prog 6 #[v] w fun e w' => e = .returned (.bool true) ∧ Below w.heap.size w w' := by
  have hsh := fun W (h : Below w.heap.size w W) => rmshort_any m v W (hv.below h)
  have HIA := hide (fun W (h : Below w.heap.size w W) => hv.below h)
  obtain ⟨ab, cb, ad, cd, qs, rfl, hm⟩ := isM_form hv
  have HG := hide hg
  have HWK := hide (fun W (h : Below w.heap.size w W) => mworks_any W (HG.out.below h))
  obtain ⟨X, hX⟩ : ∃ X, X = w.alloc (.cells #[.int .i64 m.k, .int .i64 m.fr, .int .i64 m.tn, .int .i64 m.t, .bool m.pre, .bool m.ok, .int .i64 m.ld, .int .i64 m.pa, .int .i64 m.pt, .int .i64 m.hi, .int .i64 m.co, .slice ab m.bs.length cb, .int .i64 m.sz, .int .i64 m.po, .slice ad m.da.length cd] 25) := ⟨_, rfl⟩
  have HQ : Hid (X.rangeAt w.heap.size 0 [.int .i64 m.k, .int .i64 m.fr, .int .i64 m.tn, .int .i64 m.t, .bool m.pre, .bool m.ok, .int .i64 m.ld, .int .i64 m.pa, .int .i64 m.pt, .int .i64 m.hi, .int .i64 m.co, .slice ab m.bs.length cb, .int .i64 m.sz, .int .i64 m.po, .slice ad m.da.length cd]) := hide (by rw [hX]; exact range_new w _ _)
  have HB : Hid (Below w.heap.size w X) := hide (by rw [hX]; exact (Below.refl _ _).alloc (Nat.le_refl _) _)
  clear hv hg hm
  unfold cellsM at hsh HIA ⊢
  go_enter Tryz.func6, Tryz.ntmps6
  go_upto_region 1 with fail
  rw [← hX]
  clear hX
  cases hs : shM m with
  | false =>
    have HSH := hide (hsh X HB.out)
    rw [hs] at HSH
    clear hsh
    go_wp2_with (first | (refine wpList_load_mid rfl _ _ rfl _ _ rfl _ _ HQ.out Tryz.underlying25 rfl (by kernel_rfl) ?_) | (go_at_call 8; refine HSH.out.mono ?_; rintro e V1 ⟨rfl, hb1⟩; have HB1 := hide (HB.out.trans (hb1.mono HB.out.size)); clear hb1) | (go_at_call 9; refine (HWK.out _ HB1.out).mono ?_; rintro e V9 ⟨rfl, hb9⟩; have HB9 := hide (HB1.out.trans (hb9.mono HB1.out.size)); clear hb9))
    go_ret
    exact ⟨rfl, HB9.out⟩
  | true =>
    have HSH := hide (hsh X HB.out)
    rw [hs] at HSH
    have htx := shM_tx hs
    have hln := shM_ln hs
    obtain ⟨hd8, hb12, _⟩ := shM_is hs
    have HTX := hide htx
    have HLN := hide hln
    have HBY := hide hby
    clear hsh htx hln hby hs
    go_upto_region 3 with (first | (refine wpList_load_mid rfl _ _ rfl _ _ rfl _ _ HQ.out Tryz.underlying25 rfl (by kernel_rfl) ?_) | (go_at_call 8; refine HSH.out.mono ?_; rintro e V1 ⟨rfl, hb1⟩))
    have HX1 := hide hb1
    have HB1 := hide (HB.out.trans (hb1.mono HB.out.size))
    have HQ1 := hide (range_bel HQ.out hb1)
    clear hb1 HSH
    have HP0 := hide (mput_any m _ V1 (HIA.out V1 HB1.out) HTX.out (by omega))
    cases hp : evP m with
    | some q =>
      obtain ⟨F', U, hFU⟩ := ev_form q
      have HPU : Hid (Calls Tryz.prog 16 #[.agg #[.int .i64 m.k, .int .i64 m.fr, .int .i64 m.tn, .int .i64 m.t, .bool m.pre, .bool m.ok, .int .i64 m.ld, .int .i64 m.pa, .int .i64 m.pt, .int .i64 m.hi, .int .i64 m.co, .slice ab m.bs.length cb, .int .i64 m.sz, .int .i64 m.po, .slice ad m.da.length cd]] V1 fun e w' => e = .returned (.tuple #[.agg #[.int .i64 0, .slice none 0 0], .iface F' U]) ∧ Below V1.heap.size V1 w') := hide (HP0.out.mono (by
        rintro e w' ⟨h1, h2⟩
        rw [hp] at h1
        simp only at h1
        rw [hFU] at h1
        exact ⟨h1, h2⟩))
      clear HP0 hp hFU
      go_upto_region 4 with (first | (refine wpList_load_mid rfl _ _ rfl _ _ rfl _ _ HQ1.out Tryz.underlying25 rfl (by kernel_rfl) ?_) | (go_at_call 16; refine HPU.out.mono ?_; rintro e V2 ⟨rfl, hb2⟩))
      have HB2 := hide ((HB1.out.trans (hb2.mono HB1.out.size)).alloc (Nat.le_trans HB1.out.size hb2.size) (.cells #[.int .i64 0, .slice none 0 0] 41))
      go_wp2_with (first | (go_at_call 9; refine (HWK.out _ HB2.out).mono ?_; rintro e V9 ⟨rfl, hb9⟩; have HB9 := hide (HB2.out.trans (hb9.mono HB2.out.size)); clear hb9))
      go_ret
      exact ⟨rfl, HB9.out⟩
    | none =>
      obtain ⟨hev, hlen, h16⟩ := evP_ok hp
      have HRB := hide (readM_back m (evM_none.1 hev) HBY.out hlen)
      have HTB := hide (tailM_byt hev HBY.out)
      have HPU : Hid (Calls Tryz.prog 16 #[.agg #[.int .i64 m.k, .int .i64 m.fr, .int .i64 m.tn, .int .i64 m.t, .bool m.pre, .bool m.ok, .int .i64 m.ld, .int .i64 m.pa, .int .i64 m.pt, .int .i64 m.hi, .int .i64 m.co, .slice ab m.bs.length cb, .int .i64 m.sz, .int .i64 m.po, .slice ad m.da.length cd]] V1 fun e w' => ∃ a c, e = .returned (.tuple #[.agg #[.int .i64 m.k, .slice a (tailM m).length c], .nilIface]) ∧ Sl bc w' (.slice a (tailM m).length c) (tailM m) ∧ Below V1.heap.size V1 w') := hide (HP0.out.mono (by
        rintro e w' ⟨h1, h2⟩
        rw [hp] at h1
        obtain ⟨y, rfl, hs⟩ := h1
        obtain ⟨a, c, rfl⟩ := hs.form
        exact ⟨a, c, rfl, hs, h2⟩))
      clear HP0 hp hev hlen
      generalize tailM m = TM at *
      go_upto_region 4 with (first | (refine wpList_load_mid rfl _ _ rfl _ _ rfl _ _ HQ1.out Tryz.underlying25 rfl (by kernel_rfl) ?_) | (go_at_call 16; refine HPU.out.mono ?_; rintro e V2 ⟨ay, cy, rfl, hs2, hb2⟩))
      obtain ⟨Y2, hY2⟩ : ∃ Y, Y = V2.alloc (.cells #[.int .i64 m.k, .slice ay TM.length cy] 41) := ⟨_, rfl⟩
      have hbY : Below V2.heap.size V2 Y2 := by rw [hY2]; exact (Below.refl _ _).alloc (Nat.le_refl _) _
      have f0 : Y2.cell? ⟨V2.heap.size, 0, none⟩ = some (.int .i64 m.k) := by rw [hY2]; simp
      have f1 : Y2.cell? ⟨V2.heap.size, 1, none⟩ = some (.slice ay TM.length cy) := by rw [hY2]; simp
      have HX2 := hide (hb2.trans (hbY.mono hb2.size))
      have HS2 := hide (hs2.below hbY)
      have HB2 := hide (HB1.out.trans (HX2.out.mono HB1.out.size))
      have HQ2 := hide (range_bel HQ1.out HX2.out)
      show Code.wp _ _ _ _ _
      rw [show (V2.alloc (.cells #[.int .i64 m.k, .slice ay TM.length cy] 41)) = Y2 from hY2.symm]
      clear hY2 hbY hs2 hb2 HPU
      generalize hd2 : V2.heap.size = d2 at *
      clear hd2
      have HRD : Hid (Calls Tryz.prog 19 #[.agg #[.int .i64 m.k, .slice ay TM.length cy]] Y2 fun e w' => ∃ a4 c4 a5 c5, e = .returned (.tuple #[.agg #[.int .i64 m.k, .int .i64 m.fr, .int .i64 m.tn, .int .i64 m.t, .bool m.pre, .bool m.ok, .int .i64 m.ld, .int .i64 m.pa, .int .i64 m.pt, .int .i64 m.hi, .int .i64 m.co, .slice a4 m.bs.length c4, .int .i64 m.sz, .int .i64 m.po, .slice a5 m.da.length c5], .nilIface]) ∧ IsM w' (.agg #[.int .i64 m.k, .int .i64 m.fr, .int .i64 m.tn, .int .i64 m.t, .bool m.pre, .bool m.ok, .int .i64 m.ld, .int .i64 m.pa, .int .i64 m.pt, .int .i64 m.hi, .int .i64 m.co, .slice a4 m.bs.length c4, .int .i64 m.sz, .int .i64 m.po, .slice a5 m.da.length c5]) m ∧ Below Y2.heap.size Y2 w') := hide ((mread_any m.k _ TM Y2 HS2.out (by omega) HTB.out (HG.out.below HB2.out)).mono (by
        rintro e w' ⟨vx, X', rfl, hx, ht, hb⟩
        rw [HRB.out] at hx ht
        rw [tells_none ht rfl]
        have hi := hx.is
        obtain ⟨a4, c4, a5, c5, qs', rfl, hm'⟩ := isM_form hi
        exact ⟨a4, c4, a5, c5, rfl, hi, hb⟩))
      go_upto_region 7 with (first | (go_at_call 19; refine HRD.out.mono ?_; rintro e V5 ⟨a4, c4, a5, c5, rfl, hi5, hb5⟩))
      obtain ⟨Y5, hY5⟩ : ∃ Y, Y = V5.alloc (.cells #[.int .i64 m.k, .int .i64 m.fr, .int .i64 m.tn, .int .i64 m.t, .bool m.pre, .bool m.ok, .int .i64 m.ld, .int .i64 m.pa, .int .i64 m.pt, .int .i64 m.hi, .int .i64 m.co, .slice a4 m.bs.length c4, .int .i64 m.sz, .int .i64 m.po, .slice a5 m.da.length c5] 25) := ⟨_, rfl⟩
      have hbY5 : Below V5.heap.size V5 Y5 := by rw [hY5]; exact (Below.refl _ _).alloc (Nat.le_refl _) _
      have HR5 : Hid (Y5.rangeAt V5.heap.size 0 [.int .i64 m.k, .int .i64 m.fr, .int .i64 m.tn, .int .i64 m.t, .bool m.pre, .bool m.ok, .int .i64 m.ld, .int .i64 m.pa, .int .i64 m.pt, .int .i64 m.hi, .int .i64 m.co, .slice a4 m.bs.length c4, .int .i64 m.sz, .int .i64 m.po, .slice a5 m.da.length c5]) := hide (by rw [hY5]; exact range_new V5 _ _)
      have HX5 := hide (hb5.trans (hbY5.mono hb5.size))
      have HB5 := hide (HB2.out.trans (HX5.out.mono HB2.out.size))
      have HQ5 := hide (range_bel HQ2.out HX5.out)
      have HSM := hide (rmsame_eq m _ _ Y5 (hi5.below hbY5) (HIA.out Y5 HB5.out) (by omega) (by omega) HLN.out)
      rw [← hY5]
      clear hY5 hbY5 hi5 hb5 HRD f0 f1
      generalize hd5 : V5.heap.size = d5 at *
      clear hd5
      go_wp2_with (first | (refine wpList_load_want (by go_simp) _ _ rfl _ _ rfl _ _ HR5.out Tryz.underlying25 rfl (by kernel_rfl) ?_) | (refine wpList_load_want (by go_simp) _ _ rfl _ _ rfl _ _ HQ5.out Tryz.underlying25 rfl (by kernel_rfl) ?_) | (go_at_call 14; refine HSM.out.mono ?_; rintro e V6 ⟨rfl, hb6⟩; have HB6 := hide (HB5.out.trans (hb6.mono HB5.out.size)); clear hb6) | (go_at_call 9; refine (HWK.out _ HB6.out).mono ?_; rintro e V9 ⟨rfl, hb9⟩; have HB9 := hide (HB6.out.trans (hb9.mono HB6.out.size)); clear hb9))
      go_ret
      exact ⟨rfl, HB9.out⟩
end Go.Proofs.YtkpknkhacmggnaaGreatDoor
