/-
  BatchBack's WALK: a batch that is written is read as what it was; bytes that are read were written in just that way. Conditions: the records' cells and the bytes' cells hold them; errors.errorType is laid.
-/
import Derived.Test.YtgbcjmpnkejpeaaGreatDoorJBatWk
import Derived.Test.YtgbcjmpnkejpeaaGreatDoorJBatSr
import Derived.Test.YtgbcjmpnkejpeaaGreatDoorJBatSma2
import Derived.Test.YtgbcjmpnkejpeaaGreatDoorJWnuma3
namespace Go.Proofs.YtgbcjmpnkejpeaaGreatDoor
open Go.RowKit

theorem sh_ln {r : Rc} (h : shB r = true) : LnR r := by
  unfold shB at h
  simp only [decide_eq_true_eq] at h
  exact ⟨by omega, by omega, by omega, by omega⟩
theorem read_lnB (l : List Int) (hby : Byt l) : ∀ r ∈ (readB l).2.rs, LnR r := by
  by_cases h : (readB l).1.c = 0
  · obtain ⟨h1, _, _⟩ := readB_once l hby h
    obtain ⟨_, _, _, h4⟩ := bw_ok h1
    exact fun r hr => chk_ln (h4 r hr)
  · rw [readB_zero h]; exact fun r hr => by simp [Bt.zero] at hr
theorem read_txB (l : List Int) (hby : Byt l) : ∀ r ∈ (readB l).2.rs, TxR r := by
  by_cases h : (readB l).1.c = 0
  · obtain ⟨h1, _, _⟩ := readB_once l hby h
    obtain ⟨_, _, _, h4⟩ := bw_ok h1
    intro r hr
    have hi := chk_is (h4 r hr)
    have hn : ∀ (S : List UInt8) (b : Bool), nameA S b = true → S.length ≤ 1000 := fun S b e => by
      have := nameA_asks e
      split at this
      · omega
      · rw [this]; simp
    exact ⟨hn _ _ hi.nm, hn _ _ hi.ky, by have := hi.va; omega, hn _ _ hi.rk⟩
  · rw [readB_zero h]; exact fun r hr => by simp [Bt.zero] at hr
theorem read_nB (l : List Int) (hby : Byt l) : (readB l).2.rs.length ≤ 64 := by
  by_cases h : (readB l).1.c = 0
  · obtain ⟨h1, _, _⟩ := readB_once l hby h
    obtain ⟨_, _, h3, _⟩ := bw_ok h1
    exact h3.2
  · rw [readB_zero h]; simp [Bt.zero]
/-- What behind a call of Read: its batch in new cells. -/
theorem box_in (W : World) (x : Bt) (ao : Option Addr) (n cap : Nat) {Y : World} (hY : Y = W.alloc (.cells #[.int .i64 x.t, .int .i64 x.b, .slice ao n cap] 48)) : Below W.heap.size W Y ∧ ∀ V, Below Y.heap.size Y V → V.cell? ⟨W.heap.size, 0, none⟩ = some (.int .i64 x.t) ∧ V.cell? ⟨W.heap.size, 1, none⟩ = some (.int .i64 x.b) ∧ V.cell? ⟨W.heap.size, 2, none⟩ = some (.slice ao n cap) := by
  subst hY
  exact ⟨(Below.refl _ _).alloc (Nat.le_refl _) _, three_new W _ _ _⟩
set_option maxRecDepth 100000 in
set_option maxHeartbeats 16000000 in
theorem bback_long {ok : Nat → Prop} (t bs : Int) (ao : Option Addr) (cap : Nat) (ps : List Rp) (bo : Option Addr) (capb : Nat) (l : List Int) (w : World) (hv : Rl (fun _ => True) ok w (.slice ao ps.length cap) ps) (hvb : Sl bc w (.slice bo l.length capb) l) (hby : Byt l) (hg : Hnd w) (h : shL (rcl ps) = false ∨ 1500 < l.length) :
    Calls Tryz.prog 7 #[.agg #[.int .i64 t, .int .i64 bs, .slice ao ps.length cap], .slice bo l.length capb] w fun e w' => e = .returned (.bool true) ∧ Below w.heap.size w w' := by
  have HV := hide hv
  have HG := hide hg
  have HBYB := hide hby
  have HVB := hide hvb
  have HB0 : Hid (Below w.heap.size w (w.alloc (.cells #[.int .i64 t, .int .i64 bs, .slice ao ps.length cap] 48))) := hide ((Below.refl _ _).alloc (Nat.le_refl _) _)
  have HT : Hid (∀ V, Below (w.alloc (.cells #[.int .i64 t, .int .i64 bs, .slice ao ps.length cap] 48)).heap.size (w.alloc (.cells #[.int .i64 t, .int .i64 bs, .slice ao ps.length cap] 48)) V → V.cell? ⟨w.heap.size, 0, none⟩ = some (.int .i64 t) ∧ V.cell? ⟨w.heap.size, 1, none⟩ = some (.int .i64 bs) ∧ V.cell? ⟨w.heap.size, 2, none⟩ = some (.slice ao ps.length cap)) := hide (three_new w _ _ _)
  have HSH := hide (fun W (h : Below w.heap.size w W) => bshort_any (.slice ao ps.length cap) ps W (HV.out.below h))
  have HWK := hide (fun W (h : Below w.heap.size w W) => bworks_any W (HG.out.below h))
  clear hv hg hby hvb
  by_cases hs : shL (rcl ps) = true
  · have h2 : 1500 < l.length := by rcases h with h | h; (rw [hs] at h; cases h); (exact h)
    have h2I : (1500 : Int) < (l.length : Int) := by omega
    rw [hs] at HSH
    clear h
    go_enter Tryz.func7, Tryz.ntmps7
    go_wp2_with (first | (go_at_call 18; refine (HSH.out _ HB0.out).mono ?_; rintro e V1 ⟨rfl, hb1⟩; have HB1 := hide (HB0.out.trans (hb1.mono HB0.out.size)); have HX1 := hide hb1; clear hb1) | (go_at_call 19; refine (HWK.out _ HB1.out).mono ?_; rintro e V2 ⟨rfl, hb2⟩; have HB2 := hide (HB1.out.trans (hb2.mono HB1.out.size)); clear hb2))
    go_ret
    exact ⟨rfl, HB2.out⟩
  · have hs' : shL (rcl ps) = false := by simpa using hs
    rw [hs'] at HSH
    clear h hs
    go_enter Tryz.func7, Tryz.ntmps7
    go_wp2_with (first | (go_at_call 18; refine (HSH.out _ HB0.out).mono ?_; rintro e V1 ⟨rfl, hb1⟩; have HB1 := hide (HB0.out.trans (hb1.mono HB0.out.size)); have HX1 := hide hb1; clear hb1) | (go_at_call 19; refine (HWK.out _ HB1.out).mono ?_; rintro e V2 ⟨rfl, hb2⟩; have HB2 := hide (HB1.out.trans (hb2.mono HB1.out.size)); clear hb2))
    go_ret
    exact ⟨rfl, HB2.out⟩
set_option maxRecDepth 100000 in
set_option maxHeartbeats 32000000 in
theorem bback_bad {ok : Nat → Prop} (t bs : Int) (ao : Option Addr) (cap : Nat) (ps : List Rp) (bo : Option Addr) (capb : Nat) (l : List Int) (w : World) (hv : Rl (fun _ => True) ok w (.slice ao ps.length cap) ps) (hvb : Sl bc w (.slice bo l.length capb) l) (hby : Byt l) (hg : Hnd w) (hs : shL (rcl ps) = true) (hl : l.length ≤ 1500) (hb : ¬ ((bw ⟨t, bs, rcl ps⟩).c = 0 ∧ (bytL ⟨t, bs, rcl ps⟩).length ≤ 16384)) :
    Calls Tryz.prog 7 #[.agg #[.int .i64 t, .int .i64 bs, .slice ao ps.length cap], .slice bo l.length capb] w fun e w' => e = .returned (.bool true) ∧ Below w.heap.size w w' := by
  have HV := hide hv
  have HG := hide hg
  have HBYB := hide hby
  have HVB := hide hvb
  have HB0 : Hid (Below w.heap.size w (w.alloc (.cells #[.int .i64 t, .int .i64 bs, .slice ao ps.length cap] 48))) := hide ((Below.refl _ _).alloc (Nat.le_refl _) _)
  have HT : Hid (∀ V, Below (w.alloc (.cells #[.int .i64 t, .int .i64 bs, .slice ao ps.length cap] 48)).heap.size (w.alloc (.cells #[.int .i64 t, .int .i64 bs, .slice ao ps.length cap] 48)) V → V.cell? ⟨w.heap.size, 0, none⟩ = some (.int .i64 t) ∧ V.cell? ⟨w.heap.size, 1, none⟩ = some (.int .i64 bs) ∧ V.cell? ⟨w.heap.size, 2, none⟩ = some (.slice ao ps.length cap)) := hide (three_new w _ _ _)
  have HSH := hide (fun W (h : Below w.heap.size w W) => bshort_any (.slice ao ps.length cap) ps W (HV.out.below h))
  have HWK := hide (fun W (h : Below w.heap.size w W) => bworks_any W (HG.out.below h))
  clear hv hg hby hvb
  rw [hs] at HSH
  have HTXA : Hid (∀ r ∈ rcl ps, TxR r) := hide (fun r hr => sh_tx ((shL_is hs).2 r hr))
  have HLNA : Hid (∀ r ∈ rcl ps, LnR r) := hide (fun r hr => sh_ln ((shL_is hs).2 r hr))
  have hn80 : (rcl ps).length ≤ 80 := (shL_is hs).1
  have hlI : ¬ (1500 : Int) < (l.length : Int) := by omega
  have HIA : Hid (∀ W, Below w.heap.size w W → IsB (fun _ => True) ok W (.agg #[.int .i64 t, .int .i64 bs, .slice ao ps.length cap]) ⟨t, bs, rcl ps⟩) := hide (fun W h => ⟨_, ps, rfl, HV.out.below h, rfl⟩)
  have HP := hide (fun W (h : Below w.heap.size w W) => bput_any ⟨t, bs, rcl ps⟩ _ W (HIA.out W h) HTXA.out)
  clear hs
  go_enter Tryz.func7, Tryz.ntmps7
  go_upto_region 1 with fail
  generalize w.alloc (.cells #[.int .i64 t, .int .i64 bs, .slice ao ps.length cap] 48) = Y0 at HB0 HT ⊢
  obtain ⟨i0, i1, i2⟩ := HT.out Y0 (Below.refl _ _)
  go_upto_region 3 with (first | (go_at_call 18; refine (HSH.out _ HB0.out).mono ?_; rintro e V1 ⟨rfl, hb1⟩; have HB1 := hide (HB0.out.trans (hb1.mono HB0.out.size)); have HX1 := hide hb1; clear hb1))
  clear i0 i1 i2
  obtain ⟨i0, i1, i2⟩ := HT.out V1 HX1.out
  have HP1 := hide (HP.out V1 HB1.out)
  have HP2 : Hid (Calls Tryz.prog 27 #[.agg #[.int .i64 t, .int .i64 bs, .slice ao ps.length cap]] V1 fun e w' => ∃ F U, e = .returned (.tuple #[.slice none 0 0, .iface F U]) ∧ Below V1.heap.size V1 w') := hide (HP1.out.mono (by
    rintro e w' ⟨h1, h2⟩
    by_cases hc : (bw ⟨t, bs, rcl ps⟩).c = 0
    · rw [if_pos hc, if_neg (fun q => hb ⟨hc, q⟩)] at h1
      exact ⟨_, _, h1, h2⟩
    · rw [if_neg hc] at h1
      unfold erB at h1
      rw [if_neg hc] at h1
      split at h1
      · exact ⟨_, _, h1, h2⟩
      · exact ⟨_, _, h1, h2⟩))
  clear HP1 HP hb
  go_upto_region 8 with (first | (go_at_call 27; refine HP2.out.mono ?_; rintro e V5 ⟨F5, U5, rfl, hb5⟩))
  have HB5 := hide (HB1.out.trans (hb5.mono HB1.out.size))
  clear hb5 HP2 i0 i1 i2 HT HX1 HB1 HIA
  have HRB := hide (bread_any (.slice bo l.length capb) l V5 (HVB.out.below HB5.out) (by omega) HBYB.out (HG.out.below HB5.out))
  have HON := hide (fun h => readB_once l HBYB.out h)
  have HLN := hide (read_lnB l HBYB.out)
  have HTX := hide (read_txB l HBYB.out)
  have hn64 := read_nB l HBYB.out
  have HZE : Hid ((readB l).1.c ≠ 0 → (readB l).2 = Bt.zero) := hide readB_zero
  generalize readB l = RB at *
  obtain ⟨sE, x⟩ := RB
  simp only at HRB HON HLN HTX HZE hn64
  go_upto_region 9 with (first | (go_at_call 30; refine HRB.out.mono ?_; rintro e R1 ⟨vx, rfl, hx1, hbr⟩; obtain ⟨ax, cx, pxs, rfl, hlx, hpx⟩ := isB_form hx1; clear hx1))
  obtain ⟨Y, hY⟩ : ∃ Y, Y = R1.alloc (.cells #[.int .i64 x.t, .int .i64 x.b, .slice ax x.rs.length cx] 48) := ⟨_, rfl⟩
  obtain ⟨hbY, hTY⟩ := box_in R1 x ax _ cx hY
  rw [← hY]
  have HBR := hide (HB5.out.trans (hbr.mono HB5.out.size))
  have HBY := hide (HBR.out.trans (hbY.mono HBR.out.size))
  have HTY := hide hTY
  have HIX : Hid (∀ W, Below Y.heap.size Y W → IsB (fun _ => True) (fun _ => True) W (.agg #[.int .i64 x.t, .int .i64 x.b, .slice ax x.rs.length cx]) x) := hide (fun W h => ⟨_, pxs, rfl, ((hlx.below hbY).below h).any, hpx⟩)
  clear hY hbr hbY hTY hlx hpx HRB HBR
  generalize R1.heap.size = D at *
  obtain ⟨y0, y1, y2⟩ := HTY.out Y (Below.refl _ _)
  by_cases hc : sE.c = 0
  case neg =>
    have hx0 := HZE.out hc
    subst hx0
    have HSM := hide (rbsame_any Bt.zero Bt.zero _ _ Y (HIX.out Y (Below.refl _ _)) (isB_zero (fun _ => True) (fun _ => True) Y) (by decide) (fun r hr => by simp [Bt.zero] at hr))
    rw [sameBt_self] at HSM
    rw [show erN sE.op sE.pt sE.c = ft sE.op sE.pt sE.c from if_neg hc]
    unfold ft
    go_wp2_with (first | (go_at_call 24; refine HSM.out.mono ?_; rintro e V2 ⟨rfl, hb2⟩; have HB1 := hide (HBY.out.trans (hb2.mono HBY.out.size)); clear hb2) | (go_at_call 19; refine (HWK.out _ HB1.out).mono ?_; rintro e V3 ⟨rfl, hb9⟩; have HB9 := hide (HB1.out.trans (hb9.mono HB1.out.size)); clear hb9))
    go_ret
    exact ⟨rfl, HB9.out⟩
  obtain ⟨hbw, hbl, hl16⟩ := HON.out hc
  rw [show erN sE.op sE.pt sE.c = .nilIface from if_pos hc]
  have HPX := hide (bput_any x _ Y (HIX.out Y (Below.refl _ _)) HTX.out)
  have HPY : Hid (Calls Tryz.prog 27 #[.agg #[.int .i64 x.t, .int .i64 x.b, .slice ax x.rs.length cx]] Y fun e w' => ∃ a2 c2, e = .returned (.tuple #[.slice a2 l.length c2, .nilIface]) ∧ Sl bc w' (.slice a2 l.length c2) l ∧ Below Y.heap.size Y w') := hide (HPX.out.mono (by
    rintro e w' ⟨h1, h2⟩
    rw [if_pos hbw, hbl, if_pos hl16] at h1
    obtain ⟨y, rfl, ho⟩ := h1
    obtain ⟨a2, c2, rfl⟩ := ho.form
    exact ⟨a2, c2, rfl, ho.sl, h2⟩))
  clear HPX hbw hbl HON HZE HTX
  go_upto_region 12 with (first | (go_at_call 27; refine HPY.out.mono ?_; rintro e V4 ⟨a2, c2, rfl, hs4, hb4⟩))
  have HBV := hide (HBY.out.trans (hb4.mono HBY.out.size))
  have HSB := hide (same_bytes _ _ l V4 hs4 (HVB.out.below HBV.out) (by omega))
  clear hs4 hb4 HPY
  go_wp2_with (first | (go_at_call 29; refine HSB.out.mono ?_; rintro e V2 ⟨rfl, hb2⟩; have HB1 := hide (HBV.out.trans (hb2.mono HBV.out.size)); clear hb2) | (go_at_call 19; refine (HWK.out _ HB1.out).mono ?_; rintro e V3 ⟨rfl, hb9⟩; have HB9 := hide (HB1.out.trans (hb9.mono HB1.out.size)); clear hb9))
  go_ret
  exact ⟨rfl, HB9.out⟩
set_option maxRecDepth 100000 in
set_option maxHeartbeats 32000000 in
theorem bback_ok {ok : Nat → Prop} (t bs : Int) (ao : Option Addr) (cap : Nat) (ps : List Rp) (bo : Option Addr) (capb : Nat) (l : List Int) (w : World) (hv : Rl (fun _ => True) ok w (.slice ao ps.length cap) ps) (hvb : Sl bc w (.slice bo l.length capb) l) (hby : Byt l) (hg : Hnd w) (hs : shL (rcl ps) = true) (hl : l.length ≤ 1500) (hc0 : (bw ⟨t, bs, rcl ps⟩).c = 0) (hm : (bytL ⟨t, bs, rcl ps⟩).length ≤ 16384) :
    Calls Tryz.prog 7 #[.agg #[.int .i64 t, .int .i64 bs, .slice ao ps.length cap], .slice bo l.length capb] w fun e w' => e = .returned (.bool true) ∧ Below w.heap.size w w' := by
  have HV := hide hv
  have HG := hide hg
  have HBYB := hide hby
  have HVB := hide hvb
  have HB0 : Hid (Below w.heap.size w (w.alloc (.cells #[.int .i64 t, .int .i64 bs, .slice ao ps.length cap] 48))) := hide ((Below.refl _ _).alloc (Nat.le_refl _) _)
  have HT : Hid (∀ V, Below (w.alloc (.cells #[.int .i64 t, .int .i64 bs, .slice ao ps.length cap] 48)).heap.size (w.alloc (.cells #[.int .i64 t, .int .i64 bs, .slice ao ps.length cap] 48)) V → V.cell? ⟨w.heap.size, 0, none⟩ = some (.int .i64 t) ∧ V.cell? ⟨w.heap.size, 1, none⟩ = some (.int .i64 bs) ∧ V.cell? ⟨w.heap.size, 2, none⟩ = some (.slice ao ps.length cap)) := hide (three_new w _ _ _)
  have HSH := hide (fun W (h : Below w.heap.size w W) => bshort_any (.slice ao ps.length cap) ps W (HV.out.below h))
  have HWK := hide (fun W (h : Below w.heap.size w W) => bworks_any W (HG.out.below h))
  clear hv hg hby hvb
  rw [hs] at HSH
  have HTXA : Hid (∀ r ∈ rcl ps, TxR r) := hide (fun r hr => sh_tx ((shL_is hs).2 r hr))
  have HLNA : Hid (∀ r ∈ rcl ps, LnR r) := hide (fun r hr => sh_ln ((shL_is hs).2 r hr))
  have hn80 : (rcl ps).length ≤ 80 := (shL_is hs).1
  have hlI : ¬ (1500 : Int) < (l.length : Int) := by omega
  have HIA : Hid (∀ W, Below w.heap.size w W → IsB (fun _ => True) ok W (.agg #[.int .i64 t, .int .i64 bs, .slice ao ps.length cap]) ⟨t, bs, rcl ps⟩) := hide (fun W h => ⟨_, ps, rfl, HV.out.below h, rfl⟩)
  have HP := hide (fun W (h : Below w.heap.size w W) => bput_any ⟨t, bs, rcl ps⟩ _ W (HIA.out W h) HTXA.out)
  clear hs
  go_enter Tryz.func7, Tryz.ntmps7
  go_upto_region 1 with fail
  generalize w.alloc (.cells #[.int .i64 t, .int .i64 bs, .slice ao ps.length cap] 48) = Y0 at HB0 HT ⊢
  obtain ⟨i0, i1, i2⟩ := HT.out Y0 (Below.refl _ _)
  go_upto_region 3 with (first | (go_at_call 18; refine (HSH.out _ HB0.out).mono ?_; rintro e V1 ⟨rfl, hb1⟩; have HB1 := hide (HB0.out.trans (hb1.mono HB0.out.size)); have HX1 := hide hb1; clear hb1))
  clear i0 i1 i2
  obtain ⟨i0, i1, i2⟩ := HT.out V1 HX1.out
  have HP1 := hide (HP.out V1 HB1.out)
  have HBT : Hid (Byt (bytL ⟨t, bs, rcl ps⟩)) := hide (by
    obtain ⟨h1, h2, h3, h4⟩ := bw_ok hc0
    unfold bytL headL
    intro z hz
    rcases List.mem_append.1 hz with q | q
    · rcases List.mem_append.1 q with q | q
      · exact intL_byt _ z q
      · rcases List.mem_append.1 q with q | q
        · exact intL_byt _ z q
        · exact intL_byt _ z q
    · exact putsL_byt _ h4 z q)
  have HBK := hide (readB_back ⟨t, bs, rcl ps⟩ hc0 hm)
  have HP2 : Hid (Calls Tryz.prog 27 #[.agg #[.int .i64 t, .int .i64 bs, .slice ao ps.length cap]] V1 fun e w' => ∃ a2 c2, e = .returned (.tuple #[.slice a2 (bytL ⟨t, bs, rcl ps⟩).length c2, .nilIface]) ∧ Sl bc w' (.slice a2 (bytL ⟨t, bs, rcl ps⟩).length c2) (bytL ⟨t, bs, rcl ps⟩) ∧ Below V1.heap.size V1 w') := hide (HP1.out.mono (by
    rintro e w' ⟨h1, h2⟩
    rw [if_pos hc0, if_pos hm] at h1
    obtain ⟨y, rfl, ho⟩ := h1
    obtain ⟨a2, c2, rfl⟩ := ho.form
    exact ⟨a2, c2, rfl, ho.sl, h2⟩))
  clear HP1 HP hc0
  generalize bytL ⟨t, bs, rcl ps⟩ = L at *
  go_upto_region 4 with (first | (go_at_call 27; refine HP2.out.mono ?_; rintro e V5 ⟨a5, c5, rfl, hs5, hb5⟩))
  have HB5 := hide (HB1.out.trans (hb5.mono HB1.out.size))
  have HX5 := hide (HX1.out.trans (hb5.mono HX1.out.size))
  have HRA := hide (bread_any (.slice a5 L.length c5) L V5 hs5 (by omega) HBT.out (HG.out.below HB5.out))
  rw [HBK.out] at HRA
  simp only at HRA
  rw [show erN (okS L.length).op (okS L.length).pt (okS L.length).c = .nilIface from if_pos rfl] at HRA
  clear hs5 hb5 HP2 i0 i1 i2 HB1 HX1 HBT HBK
  go_upto_region 6 with (first | (go_at_call 30; refine HRA.out.mono ?_; rintro e R6 ⟨vx, rfl, hx6, hb6⟩; obtain ⟨a6, c6, ps6, rfl, hl6, hp6⟩ := isB_form hx6; clear hx6))
  obtain ⟨Y6, hY6⟩ : ∃ Y, Y = R6.alloc (.cells #[.int .i64 t, .int .i64 bs, .slice a6 (rcl ps).length c6] 48) := ⟨_, rfl⟩
  obtain ⟨hbY6, hTY6⟩ := box_in R6 ⟨t, bs, rcl ps⟩ a6 _ c6 hY6
  have HX6 := hide ((HX5.out.trans (hb6.mono HX5.out.size)).trans (hbY6.mono (Nat.le_trans HX5.out.size hb6.size)))
  have HB6 := hide ((HB5.out.trans (hb6.mono HB5.out.size)).trans (hbY6.mono (Nat.le_trans HB5.out.size hb6.size)))
  show Code.wp _ _ _ _ _
  rw [show (R6.alloc (.cells #[.int .i64 t, .int .i64 bs, .slice a6 (rcl ps).length c6] 48)) = Y6 from hY6.symm]
  have HI6 : Hid (IsB (fun _ => True) (fun _ => True) Y6 (.agg #[.int .i64 t, .int .i64 bs, .slice a6 (rcl ps).length c6]) ⟨t, bs, rcl ps⟩) := hide ⟨_, ps6, rfl, (hl6.below hbY6).any, hp6⟩
  obtain ⟨y0, y1, y2⟩ := hTY6 Y6 (Below.refl _ _)
  obtain ⟨i0, i1, i2⟩ := HT.out Y6 HX6.out
  simp only at y0 y1
  have HSA := hide (rbsame_any ⟨t, bs, rcl ps⟩ ⟨t, bs, rcl ps⟩ _ _ Y6 HI6.out (HIA.out Y6 HB6.out) (by show (rcl ps).length ≤ 100000; omega) HLNA.out)
  rw [sameBt_self] at HSA
  clear hY6 hbY6 hTY6 hb6 hl6 hp6 HRA HX5 HB5 HI6
  generalize R6.heap.size = D6 at *
  go_upto_region 8 with (first | (go_at_call 24; refine HSA.out.mono ?_; rintro e V7 ⟨rfl, hb7⟩; have HB7 := hide (HB6.out.trans (hb7.mono HB6.out.size)); clear hb7))
  clear i0 i1 i2 y0 y1 y2 HSA HT HX6 HB6 HIA hm
  have HRB := hide (bread_any (.slice bo l.length capb) l V7 (HVB.out.below HB7.out) (by omega) HBYB.out (HG.out.below HB7.out))
  have HON := hide (fun h => readB_once l HBYB.out h)
  have HLN := hide (read_lnB l HBYB.out)
  have HTX := hide (read_txB l HBYB.out)
  have hn64 := read_nB l HBYB.out
  have HZE : Hid ((readB l).1.c ≠ 0 → (readB l).2 = Bt.zero) := hide readB_zero
  generalize readB l = RB at *
  obtain ⟨sE, x⟩ := RB
  simp only at HRB HON HLN HTX HZE hn64
  go_upto_region 9 with (first | (go_at_call 30; refine HRB.out.mono ?_; rintro e R1 ⟨vx, rfl, hx1, hbr⟩; obtain ⟨ax, cx, pxs, rfl, hlx, hpx⟩ := isB_form hx1; clear hx1))
  obtain ⟨Y, hY⟩ : ∃ Y, Y = R1.alloc (.cells #[.int .i64 x.t, .int .i64 x.b, .slice ax x.rs.length cx] 48) := ⟨_, rfl⟩
  obtain ⟨hbY, hTY⟩ := box_in R1 x ax _ cx hY
  rw [← hY]
  have HBR := hide (HB7.out.trans (hbr.mono HB7.out.size))
  have HBY := hide (HBR.out.trans (hbY.mono HBR.out.size))
  have HTY := hide hTY
  have HIX : Hid (∀ W, Below Y.heap.size Y W → IsB (fun _ => True) (fun _ => True) W (.agg #[.int .i64 x.t, .int .i64 x.b, .slice ax x.rs.length cx]) x) := hide (fun W h => ⟨_, pxs, rfl, ((hlx.below hbY).below h).any, hpx⟩)
  clear hY hbr hbY hTY hlx hpx HRB HBR
  generalize R1.heap.size = D at *
  obtain ⟨y0, y1, y2⟩ := HTY.out Y (Below.refl _ _)
  by_cases hc : sE.c = 0
  case neg =>
    have hx0 := HZE.out hc
    subst hx0
    have HSM := hide (rbsame_any Bt.zero Bt.zero _ _ Y (HIX.out Y (Below.refl _ _)) (isB_zero (fun _ => True) (fun _ => True) Y) (by decide) (fun r hr => by simp [Bt.zero] at hr))
    rw [sameBt_self] at HSM
    rw [show erN sE.op sE.pt sE.c = ft sE.op sE.pt sE.c from if_neg hc]
    unfold ft
    go_wp2_with (first | (go_at_call 24; refine HSM.out.mono ?_; rintro e V2 ⟨rfl, hb2⟩; have HB1 := hide (HBY.out.trans (hb2.mono HBY.out.size)); clear hb2) | (go_at_call 19; refine (HWK.out _ HB1.out).mono ?_; rintro e V3 ⟨rfl, hb9⟩; have HB9 := hide (HB1.out.trans (hb9.mono HB1.out.size)); clear hb9))
    go_ret
    exact ⟨rfl, HB9.out⟩
  obtain ⟨hbw, hbl, hl16⟩ := HON.out hc
  rw [show erN sE.op sE.pt sE.c = .nilIface from if_pos hc]
  have HPX := hide (bput_any x _ Y (HIX.out Y (Below.refl _ _)) HTX.out)
  have HPY : Hid (Calls Tryz.prog 27 #[.agg #[.int .i64 x.t, .int .i64 x.b, .slice ax x.rs.length cx]] Y fun e w' => ∃ a2 c2, e = .returned (.tuple #[.slice a2 l.length c2, .nilIface]) ∧ Sl bc w' (.slice a2 l.length c2) l ∧ Below Y.heap.size Y w') := hide (HPX.out.mono (by
    rintro e w' ⟨h1, h2⟩
    rw [if_pos hbw, hbl, if_pos hl16] at h1
    obtain ⟨y, rfl, ho⟩ := h1
    obtain ⟨a2, c2, rfl⟩ := ho.form
    exact ⟨a2, c2, rfl, ho.sl, h2⟩))
  clear HPX hbw hbl HON HZE HTX
  go_upto_region 12 with (first | (go_at_call 27; refine HPY.out.mono ?_; rintro e V4 ⟨a2, c2, rfl, hs4, hb4⟩))
  have HBV := hide (HBY.out.trans (hb4.mono HBY.out.size))
  have HSB := hide (same_bytes _ _ l V4 hs4 (HVB.out.below HBV.out) (by omega))
  clear hs4 hb4 HPY
  go_wp2_with (first | (go_at_call 29; refine HSB.out.mono ?_; rintro e V2 ⟨rfl, hb2⟩; have HB1 := hide (HBV.out.trans (hb2.mono HBV.out.size)); clear hb2) | (go_at_call 19; refine (HWK.out _ HB1.out).mono ?_; rintro e V3 ⟨rfl, hb9⟩; have HB9 := hide (HB1.out.trans (hb9.mono HB1.out.size)); clear hb9))
  go_ret
  exact ⟨rfl, HB9.out⟩
/-- BatchBack answers true. -/
theorem bback_law {okb ok : Nat → Prop} (x : Bt) (v u : Value) (l : List Int) (w : World) (hv : IsB okb ok w v x) (hu : Sl bc w u l) (hby : Byt l) (hg : Hnd w) : Calls Tryz.prog 7 #[v, u] w fun e w' => e = .returned (.bool true) ∧ Below w.heap.size w w' := by
  obtain ⟨t, b, rs⟩ := x
  obtain ⟨a1, ps, rfl, h2, h3⟩ := hv
  simp only at h3
  subst h3
  obtain ⟨ao, cap, rfl⟩ := h2.form
  obtain ⟨bo, capb, rfl⟩ := hu.form
  have h2' := h2.imp (okb' := fun _ => True) (ok' := ok) (fun _ _ _ => trivial) (fun _ _ q => q) (fun _ _ _ _ => rfl)
  by_cases hs : shL (rcl ps) = true
  · by_cases hl : l.length ≤ 1500
    · by_cases hb : (bw ⟨t, b, rcl ps⟩).c = 0 ∧ (bytL ⟨t, b, rcl ps⟩).length ≤ 16384
      · exact bback_ok t b ao cap ps bo capb l w h2' hu hby hg hs hl hb.1 hb.2
      · exact bback_bad t b ao cap ps bo capb l w h2' hu hby hg hs hl hb
    · exact bback_long t b ao cap ps bo capb l w h2' hu hby hg (.inr (by omega))
  · exact bback_long t b ao cap ps bo capb l w h2' hu hby hg (.inl (by simpa using hs))
end Go.Proofs.YtgbcjmpnkejpeaaGreatDoor
