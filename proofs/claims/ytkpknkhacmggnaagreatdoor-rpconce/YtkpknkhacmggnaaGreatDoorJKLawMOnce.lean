/-
  RpcOnce's WALK: a frame that is read was put together in just that way, and what is read may be. Conditions: the bytes' cells hold them, each is a byte; errors.errorType is laid.
-/
import Derived.Test.YtkpknkhacmggnaaGreatDoorJKRpcWk
import Derived.Test.YtkpknkhacmggnaaGreatDoorJKRpcCpa2
import Derived.Test.YtkpknkhacmggnaaGreatDoorJKRpcDk
namespace Go.Proofs.YtkpknkhacmggnaaGreatDoor
open Go.RowKit

theorem evP_of {m : Ms} (h : (chkM m).2.2 = 0) (hb : ∀ x ∈ m.bs, (bytL x).length ≤ 16384) (hl : (tailM m).length ≤ 16384) : evP m = none := by
  unfold evP
  rw [evM_none.2 h]
  unfold evQ
  simp only
  rw [lnBs_none _ _ hb]
  simp only
  rw [if_pos hl]
set_option maxRecDepth 100000 in
set_option maxHeartbeats 16000000 in
theorem monce_law (k : Int) (v : Value) (l : List Int) (w : World) (hv : Sl bc w v l) (hby : Byt l) (hg : Hnd w) : Calls Tryz.prog 7 #[.int .i64 k, v] w fun e w' => e = .returned (.bool true) ∧ Below w.heap.size w w' := by
  obtain ⟨ao, cap, rfl⟩ := hv.form
  have HG := hide hg
  have HWK := hide (fun W (h : Below w.heap.size w W) => mworks_any W (HG.out.below h))
  have HB0 : Hid (Below w.heap.size w w) := hide (Below.refl _ _)
  have HV := hide hv
  have HBY := hide hby
  by_cases hlen : 1500 < l.length
  · have hI : (1500 : Int) < (l.length : Int) := by omega
    clear hv hby hg
    go_enter Tryz.func7, Tryz.ntmps7
    go_wp2_with (first | (go_at_call 9; refine (HWK.out _ HB0.out).mono ?_; rintro e V9 ⟨rfl, hb9⟩; have HB9 := hide (HB0.out.trans (hb9.mono HB0.out.size)); clear hb9))
    go_ret
    exact ⟨rfl, HB9.out⟩
  have hI : ¬ (1500 : Int) < (l.length : Int) := by omega
  have HR0 := hide (mread_any k (.slice ao l.length cap) l w hv (by omega) hby hg)
  have HZE : Hid ((readM k l).1.2.2 ≠ 0 → (readM k l).2 = Ms.zero) := hide readM_zero
  have HON := hide (fun h => readM_once k l hby h)
  unfold RdP at HR0
  generalize readM k l = RM at *
  obtain ⟨T, m⟩ := RM
  simp only at HR0 HZE HON
  clear hv hby hg
  by_cases hc : T.2.2 = 0
  case neg =>
    have hm := HZE.out hc
    subst hm
    have HRD : Hid (Calls Tryz.prog 19 #[.agg #[.int .i64 k, .slice ao l.length cap]] w fun e w' => ∃ a4 c4 a5 c5 F' U, e = .returned (.tuple #[.agg #[.int .i64 0, .int .i64 0, .int .i64 0, .int .i64 0, .bool false, .bool false, .int .i64 0, .int .i64 0, .int .i64 0, .int .i64 0, .int .i64 0, .slice a4 0 c4, .int .i64 0, .int .i64 0, .slice a5 0 c5], .iface F' U]) ∧ IsM w' (.agg #[.int .i64 0, .int .i64 0, .int .i64 0, .int .i64 0, .bool false, .bool false, .int .i64 0, .int .i64 0, .int .i64 0, .int .i64 0, .int .i64 0, .slice a4 0 c4, .int .i64 0, .int .i64 0, .slice a5 0 c5]) Ms.zero ∧ Below w.heap.size w w') := hide (HR0.out.mono (by
      rintro e w' ⟨vx, X', rfl, hx, ht, hb⟩
      obtain ⟨l', rfl⟩ := tells_is ht hc
      obtain ⟨F', U, e⟩ := ev_form (l', T.2.2)
      rw [e]
      have hi := hx.is
      obtain ⟨a4, c4, a5, c5, qs', rfl, hm'⟩ := isM_form hi
      exact ⟨a4, c4, a5, c5, F', U, rfl, hi, hb⟩))
    clear HR0 HZE HON
    go_enter Tryz.func7, Tryz.ntmps7
    go_upto_region 4 with (first | (go_at_call 19; refine HRD.out.mono ?_; rintro e V5 ⟨a4, c4, a5, c5, F', U, rfl, hi5, hb5⟩))
    obtain ⟨Y5, hY5⟩ : ∃ Y, Y = V5.alloc (.cells #[.int .i64 0, .int .i64 0, .int .i64 0, .int .i64 0, .bool false, .bool false, .int .i64 0, .int .i64 0, .int .i64 0, .int .i64 0, .int .i64 0, .slice a4 0 c4, .int .i64 0, .int .i64 0, .slice a5 0 c5] 25) := ⟨_, rfl⟩
    have hbY5 : Below V5.heap.size V5 Y5 := by rw [hY5]; exact (Below.refl _ _).alloc (Nat.le_refl _) _
    have HR5 : Hid (Y5.rangeAt V5.heap.size 0 [.int .i64 0, .int .i64 0, .int .i64 0, .int .i64 0, .bool false, .bool false, .int .i64 0, .int .i64 0, .int .i64 0, .int .i64 0, .int .i64 0, .slice a4 0 c4, .int .i64 0, .int .i64 0, .slice a5 0 c5]) := hide (by rw [hY5]; exact range_new V5 _ _)
    have HB5 := hide (hb5.trans (hbY5.mono hb5.size))
    have HSM := hide (rmsame_eq Ms.zero _ (.agg #[.int .i64 0, .int .i64 0, .int .i64 0, .int .i64 0, .bool false, .bool false, .int .i64 0, .int .i64 0, .int .i64 0, .int .i64 0, .int .i64 0, .slice none 0 0, .int .i64 0, .int .i64 0, .slice none 0 0]) Y5 (hi5.below hbY5) (isM_zero Y5) (by decide) (by decide) (fun x hx => by simp [Ms.zero] at hx))
    rw [← hY5]
    clear hY5 hbY5 hi5 hb5 HRD
    generalize hd5 : V5.heap.size = d5 at *
    clear hd5
    go_wp2_with (first | (refine wpList_load_mid rfl _ _ rfl _ _ rfl _ _ HR5.out Tryz.underlying25 rfl (by kernel_rfl) ?_) | (go_at_call 14; refine HSM.out.mono ?_; rintro e V6 ⟨rfl, hb6⟩; have HB6 := hide (HB5.out.trans (hb6.mono HB5.out.size)); clear hb6) | (go_at_call 9; refine (HWK.out _ HB6.out).mono ?_; rintro e V9 ⟨rfl, hb9⟩; have HB9 := hide (HB6.out.trans (hb9.mono HB6.out.size)); clear hb9))
    go_ret
    exact ⟨rfl, HB9.out⟩
  obtain ⟨hk, hch, hok, htl⟩ := HON.out hc
  subst hk
  obtain ⟨htx, h8⟩ := msOk_tx hok
  have hep := evP_of hch (fun x hx => (hok.bs x hx).2) (by rw [htl]; omega)
  have HTX := hide htx
  have HCH := hide hch
  have HTL := hide htl
  have HEP := hide hep
  have HRD : Hid (Calls Tryz.prog 19 #[.agg #[.int .i64 m.k, .slice ao l.length cap]] w fun e w' => ∃ a4 c4 a5 c5, e = .returned (.tuple #[.agg #[.int .i64 m.k, .int .i64 m.fr, .int .i64 m.tn, .int .i64 m.t, .bool m.pre, .bool m.ok, .int .i64 m.ld, .int .i64 m.pa, .int .i64 m.pt, .int .i64 m.hi, .int .i64 m.co, .slice a4 m.bs.length c4, .int .i64 m.sz, .int .i64 m.po, .slice a5 m.da.length c5], .nilIface]) ∧ IsM w' (.agg #[.int .i64 m.k, .int .i64 m.fr, .int .i64 m.tn, .int .i64 m.t, .bool m.pre, .bool m.ok, .int .i64 m.ld, .int .i64 m.pa, .int .i64 m.pt, .int .i64 m.hi, .int .i64 m.co, .slice a4 m.bs.length c4, .int .i64 m.sz, .int .i64 m.po, .slice a5 m.da.length c5]) m ∧ Below w.heap.size w w') := hide (HR0.out.mono (by
    rintro e w' ⟨vx, X', rfl, hx, ht, hb⟩
    rw [tells_none ht hc]
    have hi := hx.is
    obtain ⟨a4, c4, a5, c5, qs', rfl, hm'⟩ := isM_form hi
    exact ⟨a4, c4, a5, c5, rfl, hi, hb⟩))
  clear HR0 HZE HON htx hch htl hep hok
  go_enter Tryz.func7, Tryz.ntmps7
  go_upto_region 4 with (first | (go_at_call 19; refine HRD.out.mono ?_; rintro e V5 ⟨a4, c4, a5, c5, rfl, hi5, hb5⟩))
  obtain ⟨Y5, hY5⟩ : ∃ Y, Y = V5.alloc (.cells #[.int .i64 m.k, .int .i64 m.fr, .int .i64 m.tn, .int .i64 m.t, .bool m.pre, .bool m.ok, .int .i64 m.ld, .int .i64 m.pa, .int .i64 m.pt, .int .i64 m.hi, .int .i64 m.co, .slice a4 m.bs.length c4, .int .i64 m.sz, .int .i64 m.po, .slice a5 m.da.length c5] 25) := ⟨_, rfl⟩
  have hbY5 : Below V5.heap.size V5 Y5 := by rw [hY5]; exact (Below.refl _ _).alloc (Nat.le_refl _) _
  have HR5 : Hid (Y5.rangeAt V5.heap.size 0 [.int .i64 m.k, .int .i64 m.fr, .int .i64 m.tn, .int .i64 m.t, .bool m.pre, .bool m.ok, .int .i64 m.ld, .int .i64 m.pa, .int .i64 m.pt, .int .i64 m.hi, .int .i64 m.co, .slice a4 m.bs.length c4, .int .i64 m.sz, .int .i64 m.po, .slice a5 m.da.length c5]) := hide (by rw [hY5]; exact range_new V5 _ _)
  have HB5 := hide (hb5.trans (hbY5.mono hb5.size))
  have HI5 := hide (hi5.below hbY5)
  rw [← hY5]
  clear hY5 hbY5 hi5 hb5 HRD
  generalize hd5 : V5.heap.size = d5 at *
  clear hd5
  have HPU : Hid (Calls Tryz.prog 16 #[.agg #[.int .i64 m.k, .int .i64 m.fr, .int .i64 m.tn, .int .i64 m.t, .bool m.pre, .bool m.ok, .int .i64 m.ld, .int .i64 m.pa, .int .i64 m.pt, .int .i64 m.hi, .int .i64 m.co, .slice a4 m.bs.length c4, .int .i64 m.sz, .int .i64 m.po, .slice a5 m.da.length c5]] Y5 fun e w' => ∃ a c, e = .returned (.tuple #[.agg #[.int .i64 m.k, .slice a l.length c], .nilIface]) ∧ Sl bc w' (.slice a l.length c) l ∧ Below Y5.heap.size Y5 w') := hide ((mput_any m _ Y5 HI5.out HTX.out (by omega)).mono (by
    rintro e w' ⟨h1, h2⟩
    rw [HEP.out] at h1
    obtain ⟨y, rfl, hs⟩ := h1
    rw [HTL.out] at hs
    obtain ⟨a, c, rfl⟩ := hs.form
    exact ⟨a, c, rfl, hs, h2⟩))
  go_upto_region 7 with (first | (refine wpList_load_mid rfl _ _ rfl _ _ rfl _ _ HR5.out Tryz.underlying25 rfl (by kernel_rfl) ?_) | (go_at_call 16; refine HPU.out.mono ?_; rintro e V7 ⟨ay, cy, rfl, hs7, hb7⟩))
  obtain ⟨Y7, hY7⟩ : ∃ Y, Y = V7.alloc (.cells #[.int .i64 m.k, .slice ay l.length cy] 41) := ⟨_, rfl⟩
  have hbY7 : Below V7.heap.size V7 Y7 := by rw [hY7]; exact (Below.refl _ _).alloc (Nat.le_refl _) _
  have f0 : Y7.cell? ⟨V7.heap.size, 0, none⟩ = some (.int .i64 m.k) := by rw [hY7]; simp
  have f1 : Y7.cell? ⟨V7.heap.size, 1, none⟩ = some (.slice ay l.length cy) := by rw [hY7]; simp
  have HX7 := hide (hb7.trans (hbY7.mono hb7.size))
  have HB7 := hide (HB5.out.trans (HX7.out.mono HB5.out.size))
  have HSB := hide (same_bytes _ _ l Y7 (hs7.below hbY7) (HV.out.below HB7.out) (by omega))
  have HCK : Hid (∀ W, Below Y7.heap.size Y7 W → Calls Tryz.prog 12 #[.agg #[.int .i64 m.k, .int .i64 m.fr, .int .i64 m.tn, .int .i64 m.t, .bool m.pre, .bool m.ok, .int .i64 m.ld, .int .i64 m.pa, .int .i64 m.pt, .int .i64 m.hi, .int .i64 m.co, .slice a4 m.bs.length c4, .int .i64 m.sz, .int .i64 m.po, .slice a5 m.da.length c5]] W fun e w' => e = .returned (.agg #[.string (chkM m).1, .int .i64 (chkM m).2.1, .int .i64 0, .int .i64 (-1)]) ∧ Below W.heap.size W w') := hide (fun W h => by
    have := rmcheck_any m _ W ((HI5.out.below HX7.out).below h) HTX.out
    unfold wrT at this
    rw [HCH.out] at this
    exact this)
  have HR7 := hide (range_bel HR5.out HX7.out)
  rw [← hY7]
  clear hY7 hbY7 hs7 hb7 HPU HR5
  generalize (chkM m).1 = o9 at *
  generalize (chkM m).2.1 = n9 at *
  generalize hd7 : V7.heap.size = d7 at *
  clear hd7
  have hfd1 : ∀ W : World, (Instr.field 36 (.agg #[.string o9, .int .i64 n9, .int .i64 0, .int .i64 (-1)]) 0).run Tryz.prog W = .ok (.agg #[.string o9, .int .i64 n9, .int .i64 0]) W := fun _ => by kernel_rfl
  have hfd2 : ∀ W : World, (Instr.field 34 (.agg #[.string o9, .int .i64 n9, .int .i64 0]) 2).run Tryz.prog W = .ok (.int .i64 0) W := fun _ => by kernel_rfl
  go_wp2_with (first | (go_at_call 18; refine HSB.out.mono ?_; rintro e V2 ⟨rfl, hb2⟩; have HX2 := hide hb2; have HB2 := hide (HB7.out.trans (hb2.mono HB7.out.size)); have HR2 := hide (range_bel HR7.out hb2); clear hb2) | (refine wpList_load_want (by go_simp) _ _ rfl _ _ rfl _ _ HR2.out Tryz.underlying25 rfl (by kernel_rfl) ?_) | (go_at_call 12; refine (HCK.out _ HX2.out).mono ?_; rintro e V6 ⟨rfl, hb6⟩; have HB6 := hide (HB2.out.trans (hb6.mono HB2.out.size)); clear hb6) | (go_at_call 9; refine (HWK.out _ HB6.out).mono ?_; rintro e V9 ⟨rfl, hb9⟩; have HB9 := hide (HB6.out.trans (hb9.mono HB6.out.size)); clear hb9))
  go_ret
  exact ⟨rfl, HB9.out⟩
end Go.Proofs.YtkpknkhacmggnaaGreatDoor
