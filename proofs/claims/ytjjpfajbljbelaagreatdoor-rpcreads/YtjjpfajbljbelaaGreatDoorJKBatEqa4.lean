/-
  BATCHES OF EQUAL RECORDS (batch.Same, castellanref06.Same). Conditions: their cells hold them, nothing is too long.
  MESSAGES THAT ARE EQUAL (rpc.Same, castellanref07.Same). Conditions: their cells hold them, nothing is too long.
  A CURSOR's Text of 512, and castellanref07.some and yes, as functions of its state. Conditions: its bytes' cells hold them, no more than four thousand bytes.
  RecordReads' WALK: which records any bytes are, one behind the other, and what is wrong first, and where. Conditions: the bytes' cells hold them, each is a byte; errors.errorType is laid.
-/
import Derived.Test.YtjjpfajbljbelaaGreatDoorJKRpcRda3
import Derived.Test.YtjjpfajbljbelaaGreatDoorJKRecRrb
namespace Go.Proofs.YtjjpfajbljbelaaGreatDoor
open Go.RowKit
set_option maxRecDepth 100000
set_option maxHeartbeats 16000000
theorem eqf_someE {ok ok' : Nat → Prop} (b o cap b' o' cap' : Nat) (ps qs : List Rp) (w : World) (hl : ps.length = qs.length) (hn : ps.length ≤ 100000) (hrg : w.rangeAt b o (rcs ps)) (hrw : ∀ p ∈ ps, RwP ok w p) (hrg' : w.rangeAt b' o' (rcs qs)) (hrw' : ∀ p ∈ qs, RwP ok' w p) (hln : ∀ p ∈ ps, LnR p.1) (he : rcl ps = rcl qs) :
  Calls Tryz.prog 73 #[.slice (some ⟨b, o, none⟩) ps.length cap, .slice (some ⟨b', o', none⟩) qs.length cap', .func (.func 74) #[] #[]] w fun e w' => e = .returned (.bool (sameL (rcl ps) (rcl qs))) ∧ Below w.heap.size w w' := by
 have HEQ := hide he
 clear he
 have HR := hide hrg
 have HW := hide hrw
 have HR' := hide hrg'
 have HW' := hide hrw'
 have HL := hide hln
 clear hrg hrw hrg' hrw' hln
 rw [← hl]
 have HLE := hide hl
 clear hl
 go_enter Tryz.func73, Tryz.ntmps73
 go_wp2_with fail
 go_loopw [17] (fun i wr => ∃ j : Nat, j ≤ ps.length ∧ i = .int .i64 (j : Int) ∧ (∀ i, i < j → sameR ((rcl ps).getD i Rc.zero) ((rcl qs).getD i Rc.zero) = true) ∧ Below w.heap.size w wr) (fun i _ => ps.length - (intOf i).toNat)
 case atStart => exact ⟨0, Nat.zero_le _, rfl, fun i hi => by omega, Below.refl _ _⟩
 case round =>
  obtain ⟨j, hj, rfl, hall, hb⟩ := hrel
  have HA := hide hall
  have HB := hide hb
  clear hall hb
  by_cases hlt : j < ps.length
  ·have hlt' : j < qs.length := by have := HLE.out; omega
   have hltI : (j : Int) < (ps.length : Int) := by omega
   have HE := hide (range_bel (range_at HR.out hlt) HB.out)
   have HE' := hide (range_bel (range_at HR'.out hlt') HB.out)
   have HP := hide (HW.out _ (List.getElem_mem hlt))
   have HP' := hide (HW'.out _ (List.getElem_mem hlt'))
   have HX := hide (HL.out _ (List.getElem_mem hlt))
   have HN := hide (fun h => sameL_no hlt hlt' h)
   have HK : Hid (sameR ps[j].1 qs[j].1 = true → ∀ i, i < j + 1 → sameR ((rcl ps).getD i Rc.zero) ((rcl qs).getD i Rc.zero) = true) := hide (fun h i hi => by
    by_cases e : i = j
    ·subst e; rw [rcl_at hlt, rcl_at hlt']; exact h
    ·exact HA.out i (by omega))
   have HTN := hide (there_new wr)
   have HPQ : Hid (ps[j].1 = qs[j].1) := hide ((rcl_at hlt).symm.trans ((congrArg (fun l => l.getD j Rc.zero) HEQ.out).trans (rcl_at hlt')))
   generalize ps[j] = p at *
   generalize qs[j] = q at *
   go_upto_region 6 with (first | (refine wpList_load_mid rfl _ _ rfl _ _ rfl _ _ HE.out Tryz.underlying45 rfl (by kernel_rfl) ?_) | (refine wpList_store_mid rfl _ _ _ rfl wr.heap.size 0 (cel p).toArray rfl rfl HTN.out (by kernel_rfl) (cel_all _) ?_))
   obtain ⟨V, hV⟩ : ∃ V, V = (wr.alloc (.cells #[.int .i64 0, .int .i64 0, .int .i64 0, .int .i64 0, .int .i64 0, .int .i64 0, .int .i64 0, .int .i64 0, .int .i64 0, .bool false, .string ⟨#[]⟩, .string ⟨#[]⟩, .string ⟨#[]⟩, .string ⟨#[]⟩, .slice none 0 0, .slice none 0 0, .slice none 0 0, .slice none 0 0] 45)).setCells wr.heap.size 0 (cel p) := ⟨_, rfl⟩
   obtain ⟨hbV, hrV, hzV⟩ := laidP wr p hV
   have HRV := hide hrV
   have HBV := hide (HB.out.trans (hbV.mono HB.out.size))
   have HEV := hide (range_bel HE'.out hbV)
   have HTV := hide (there_new V)
   rw [← hV]
   clear hV hrV hbV hzV HTN HE HB
   go_upto_region 7 with (first | (refine wpList_load_mid rfl _ _ rfl _ _ rfl _ _ HEV.out Tryz.underlying45 rfl (by kernel_rfl) ?_) | (refine wpList_store_mid rfl _ _ _ rfl V.heap.size 0 (cel q).toArray rfl rfl HTV.out (by kernel_rfl) (cel_all _) ?_))
   obtain ⟨U, hU⟩ : ∃ U, U = (V.alloc (.cells #[.int .i64 0, .int .i64 0, .int .i64 0, .int .i64 0, .int .i64 0, .int .i64 0, .int .i64 0, .int .i64 0, .int .i64 0, .bool false, .string ⟨#[]⟩, .string ⟨#[]⟩, .string ⟨#[]⟩, .string ⟨#[]⟩, .slice none 0 0, .slice none 0 0, .slice none 0 0, .slice none 0 0] 45)).setCells V.heap.size 0 (cel q) := ⟨_, rfl⟩
   obtain ⟨hbU, hrU, _⟩ := laidP V q hU
   have HRU := hide hrU
   have HRV2 := hide (range_bel HRV.out hbU)
   have HBU := hide (HBV.out.trans (hbU.mono HBV.out.size))
   rw [← hU]
   clear hU hrU hbU HTV HEV HRV
   have HC := hide (csame_eq p.1 q.1 _ _ U (HP.out.below HBU.out).is (HP'.out.below HBU.out).is HX.out HPQ.out)
   clear HP HP' HX HW HW' HR HR' HL HE'
   cases hs : sameR p.1 q.1 with
   | true =>
    rw [hs] at HC
    go_wp2_with (first | (refine wpList_load_mid rfl _ _ rfl _ _ rfl _ _ HRV2.out Tryz.underlying45 rfl (by kernel_rfl) ?_) | (refine wpList_load_mid rfl _ _ rfl _ _ rfl _ _ HRU.out Tryz.underlying45 rfl (by kernel_rfl) ?_) | (go_at_call 74; refine HC.out.mono ?_; rintro e w5 ⟨rfl, hb5⟩; have HB5 := hide (HBU.out.trans (hb5.mono HBU.out.size)); clear hb5))
    go_roundw
    case rel => exact ⟨j + 1, by omega, by go_num, HK.out hs, HB5.out⟩
    case measure => simp [intOf]; omega
   | false =>
    rw [hs] at HC
    go_wp2_with (first | (refine wpList_load_mid rfl _ _ rfl _ _ rfl _ _ HRV2.out Tryz.underlying45 rfl (by kernel_rfl) ?_) | (refine wpList_load_mid rfl _ _ rfl _ _ rfl _ _ HRU.out Tryz.underlying45 rfl (by kernel_rfl) ?_) | (go_at_call 74; refine HC.out.mono ?_; rintro e w5 ⟨rfl, hb5⟩; have HB5 := hide (HBU.out.trans (hb5.mono HBU.out.size)); clear hb5))
    go_ret
    exact ⟨ret_b (HN.out hs), HB5.out⟩
  ·obtain rfl : j = ps.length := by omega
   have hf := sameL_yes HLE.out HA.out
   clear hlt HR HR' HW HW' HL
   go_wp2_with fail
   go_ret
   exact ⟨ret_b hf, HB.out⟩
theorem eqf_anyE {okb ok okb' ok' : Nat → Prop} (ao bo : Option Addr) (cap cap' : Nat) (ps qs : List Rp) (w : World) (hv : Rl okb ok w (.slice ao ps.length cap) ps) (hu : Rl okb' ok' w (.slice bo qs.length cap') qs) (hn : ps.length ≤ 100000) (hln : ∀ p ∈ ps, LnR p.1) (he : rcl ps = rcl qs) :
  Calls Tryz.prog 73 #[.slice ao ps.length cap, .slice bo qs.length cap', .func (.func 74) #[] #[]] w fun e w' => e = .returned (.bool (sameL (rcl ps) (rcl qs))) ∧ Below w.heap.size w w' := by
 by_cases hl : ps.length = qs.length
 ·by_cases h0 : 0 < ps.length
  ·obtain ⟨b, o, rfl, h1⟩ := hv.rg h0
   obtain ⟨b', o', rfl, h2⟩ := hu.rg (by omega)
   exact eqf_someE b o cap b' o' cap' ps qs w hl hn h1 hv.2 h2 hu.2 hln he
  ·have e1 : ps = [] := List.length_eq_zero_iff.1 (by omega)
   have e2 : qs = [] := List.length_eq_zero_iff.1 (by omega)
   subst e1 e2
   exact eqf_none ao bo cap cap' w
 ·rw [sameL_len (by rw [rcl_len, rcl_len]; exact hl)]
  exact eqf_len ao bo _ _ cap cap' w hl
theorem bsame_anyE {okb ok okb' ok' : Nat → Prop} (x y : Bt) (v u : Value) (w : World) (hv : IsB okb ok w v x) (hu : IsB okb' ok' w u y) (hn : x.rs.length ≤ 100000) (hln : ∀ r ∈ x.rs, LnR r) (he : x.rs = y.rs) : Calls Tryz.prog 39 #[v, u] w fun e w' => e = .returned (.bool (sameBt x y)) ∧ Below w.heap.size w w' := by
 obtain ⟨t, b, rs⟩ := x
 obtain ⟨t', b', rs'⟩ := y
 obtain ⟨a1, ps, rfl, h2, h3⟩ := hv
 obtain ⟨a2, qs, rfl, k2, k3⟩ := hu
 simp only at h3 k3 hn hln he
 subst h3 k3
 obtain ⟨ao, cap, rfl⟩ := h2.form
 obtain ⟨bo, cap', rfl⟩ := k2.form
 exact bsame_go t b t' b' ao bo _ _ cap cap' _ w (hide fun W h => eqf_anyE ao bo cap cap' ps qs W (h2.below h) (k2.below h) (by rwa [rcl_len] at hn) (fun p hp => hln p.1 (List.mem_map.2 ⟨p, hp, rfl⟩)) he)
theorem rbsame_someE {ok ok' : Nat → Prop} (t bs : Int) (b o cap b' o' cap' : Nat) (ps qs : List Rp) (w : World) (hl : ps.length = qs.length) (hn : ps.length ≤ 100000) (hrg : w.rangeAt b o (rcs ps)) (hrw : ∀ p ∈ ps, RwP ok w p) (hrg' : w.rangeAt b' o' (rcs qs)) (hrw' : ∀ p ∈ qs, RwP ok' w p) (hln : ∀ p ∈ ps, LnR p.1) (he : rcl ps = rcl qs) :
  Calls Tryz.prog 63 #[.agg #[.int .i64 t, .int .i64 bs, .slice (some ⟨b, o, none⟩) ps.length cap], .agg #[.int .i64 t, .int .i64 bs, (.slice (some ⟨b', o', none⟩) ps.length cap')]] w fun e w' => e = .returned (.bool (sameL (rcl ps) (rcl qs))) ∧ Below w.heap.size w w' := by
 have HEQ := hide he
 clear he
 have HR := hide hrg
 have HW := hide hrw
 have HR' := hide hrg'
 have HW' := hide hrw'
 have HL := hide hln
 have HLE := hide hl
 clear hrg hrw hrg' hrw' hln hl
 have HB0 : Hid (Below w.heap.size w ((w.alloc (.cells #[.int .i64 t, .int .i64 bs, .slice (some ⟨b, o, none⟩) ps.length cap] 48)).alloc (.cells #[.int .i64 t, .int .i64 bs, (.slice (some ⟨b', o', none⟩) ps.length cap')] 48))) := hide (((Below.refl _ _).alloc (Nat.le_refl _) _).alloc (by simp) _)
 have HX := hide (six_in w (.int .i64 t) (.int .i64 bs) (.slice (some ⟨b, o, none⟩) ps.length cap) (.int .i64 t) (.int .i64 bs) (.slice (some ⟨b', o', none⟩) ps.length cap') (X := ((w.alloc (.cells #[.int .i64 t, .int .i64 bs, .slice (some ⟨b, o, none⟩) ps.length cap] 48)).alloc (.cells #[.int .i64 t, .int .i64 bs, (.slice (some ⟨b', o', none⟩) ps.length cap')] 48))) rfl)
 go_enter Tryz.func63, Tryz.ntmps63
 go_upto_region 3 with fail
 generalize ((w.alloc (.cells #[.int .i64 t, .int .i64 bs, .slice (some ⟨b, o, none⟩) ps.length cap] 48)).alloc (.cells #[.int .i64 t, .int .i64 bs, (.slice (some ⟨b', o', none⟩) ps.length cap')] 48)) = X at HB0 HX ⊢
 go_wp2_with fail
 go_loopw [5] (fun i wr => ∃ j : Nat, j ≤ ps.length ∧ i = .int .i64 (j : Int) ∧ (∀ i, i < j → sameR ((rcl ps).getD i Rc.zero) ((rcl qs).getD i Rc.zero) = true) ∧ Below X.heap.size X wr) (fun i _ => ps.length - (intOf i).toNat)
 case atStart => exact ⟨0, Nat.zero_le _, rfl, fun i hi => by omega, Below.refl _ _⟩
 case round =>
  obtain ⟨j, hj, rfl, hall, hb⟩ := hrel
  have HA := hide hall
  have HB := hide hb
  clear hall hb
  obtain ⟨⟨_, _, i2⟩, _, _, k2⟩ := HX.out wr HB.out
  by_cases hlt : j < ps.length
  ·have hlt' : j < qs.length := by have := HLE.out; omega
   have hltI : (j : Int) < (ps.length : Int) := by omega
   have hbw : Below w.heap.size w wr := HB0.out.trans (HB.out.mono HB0.out.size)
   have HE := hide (range_bel (range_at HR.out hlt) hbw)
   have HE' := hide (range_bel (range_at HR'.out hlt') hbw)
   have HP := hide ((HW.out _ (List.getElem_mem hlt)).below hbw)
   have HP' := hide ((HW'.out _ (List.getElem_mem hlt')).below hbw)
   have HLX := hide (HL.out _ (List.getElem_mem hlt))
   have HN := hide (fun h => sameL_no hlt hlt' h)
   have HK : Hid (sameR ps[j].1 qs[j].1 = true → ∀ i, i < j + 1 → sameR ((rcl ps).getD i Rc.zero) ((rcl qs).getD i Rc.zero) = true) := hide (fun h i hi => by
    by_cases e : i = j
    ·subst e; rw [rcl_at hlt, rcl_at hlt']; exact h
    ·exact HA.out i (by omega))
   have HPQ : Hid (ps[j].1 = qs[j].1) := hide ((rcl_at hlt).symm.trans ((congrArg (fun l => l.getD j Rc.zero) HEQ.out).trans (rcl_at hlt')))
   generalize ps[j] = p at *
   generalize qs[j] = q at *
   have HF : Hid (∀ W, Below wr.heap.size wr W → (fun W : World => (W.cell? ⟨w.heap.size, 2, none⟩ = some (.slice (some ⟨b, o, none⟩) ps.length cap) ∧ W.cell? ⟨w.heap.size + 1, 2, none⟩ = some (.slice (some ⟨b', o', none⟩) ps.length cap') ∧ W.rangeAt b (o + j * 18) (cel p) ∧ W.rangeAt b' (o' + j * 18) (cel q))) W) := hide (fun W h => by
    obtain ⟨⟨_, _, e1⟩, _, _, e2⟩ := HX.out W (HB.out.trans (h.mono HB.out.size))
    exact ⟨e1, e2, range_bel HE.out h, range_bel HE'.out h⟩)
   have HC := hide (fun W (h : Below wr.heap.size wr W) => rsame_eq p.1 q.1 _ _ W (HP.out.below h).is (HP'.out.below h).is HLX.out HPQ.out)
   have HS0 := hide (hs_drew HF.out (Nat.le_refl _))
   clear hbw HE HE' HP HP' HLX HW HW' HR HR' HL
   go_upto_region 6 with fail
   clear i2 k2
   cases hs : sameR p.1 q.1 with
   | true =>
    rw [hs] at HC
    refine wp_region_held_drew (S := fun W => (W.cell? ⟨w.heap.size, 2, none⟩ = some (.slice (some ⟨b, o, none⟩) ps.length cap) ∧ W.cell? ⟨w.heap.size + 1, 2, none⟩ = some (.slice (some ⟨b', o', none⟩) ps.length cap') ∧ W.rangeAt b (o + j * 18) (cel p) ∧ W.rangeAt b' (o' + j * 18) (cel q)) ∧ Below wr.heap.size wr W ∧ wr.heap.size ≤ W.heap.size) (by kernel_rfl) HS0.out (fun hHeld => ?_)
    refine tk 0 34 (.pointer (some ⟨w.heap.size, 2, none⟩)) rfl rfl hHeld ?_
    simp only [Act.put, zA, zB, zC]
    refine tk 1 35 (.slice (some ⟨b, o, none⟩) ps.length cap) rfl rfl hHeld ?_
    simp only [Act.put, zA, zB, zC]
    refine tk 2 36 (.int .i64 (j : Int)) rfl rfl hHeld ?_
    simp only [Act.put, zA, zB, zC]
    refine tk 3 37 (.pointer (some ⟨b, o + j * 18, none⟩)) rfl rfl hHeld ?_
    simp only [Act.put, zA, zB, zC]
    refine tky 4 38 (_) rfl rfl (yieldsIf_load_mid (by rfl) _ _ rfl _ _ rfl (cel p) _ (fun W hW => hW.1.2.2.1) Tryz.underlying45 rfl (by kernel_rfl)) hHeld ?_
    simp only [Act.put, zA, zB, zC]
    refine tk 5 39 (.pointer (some ⟨w.heap.size + 1, 2, none⟩)) rfl rfl hHeld ?_
    simp only [Act.put, zA, zB, zC]
    refine tk 6 40 ((.slice (some ⟨b', o', none⟩) ps.length cap')) rfl rfl hHeld ?_
    simp only [Act.put, zA, zB, zC]
    refine tk 7 41 (.int .i64 (j : Int)) rfl rfl hHeld ?_
    simp only [Act.put, zA, zB, zC]
    refine tk 8 42 (.pointer (some ⟨b', o' + j * 18, none⟩)) rfl rfl hHeld ?_
    simp only [Act.put, zA, zB, zC]
    refine tky 9 43 (_) rfl rfl (yieldsIf_load_mid (by rfl) _ _ rfl _ _ rfl (cel q) _ (fun W hW => hW.1.2.2.2) Tryz.underlying45 rfl (by kernel_rfl)) hHeld ?_
    simp only [Act.put, zA, zB, zC]
    refine wpAnyH_ready (rs := [10]) (by kernel_rfl) (by simp) ?_
    refine AllReadyH.cons (o := _) rfl (fun K hK => ?_) AllReadyH.nil
    go_simp
    go_at_call 95
    refine (HC.out _ hHeld.2.1).mono ?_
    rintro e w44 ⟨rfl, hb⟩
    go_wp2_with fail
    refine hK.out _ _ ?_ (fun hHeld1 => ?_)
    ·exact hs_call HF.out hb hHeld
    clear hK K hHeld
    have hHeld := hHeld1
    clear hHeld1
    clear hb
    refine tk 11 45 (.bool false) rfl rfl hHeld ?_
    simp only [Act.put, zA, zB, zC]
    refine wpAnyH_done (by kernel_rfl) ?_ _
    have HBF := hide (HB.out.trans (hHeld.2.1.mono HB.out.size))
    clear hHeld
    go_wp2_with fail
    go_roundw
    case rel => exact ⟨j + 1, by omega, by go_num, HK.out hs, HBF.out⟩
    case measure => simp [intOf]; omega
   | false =>
    rw [hs] at HC
    refine wp_region_held_drew (S := fun W => (W.cell? ⟨w.heap.size, 2, none⟩ = some (.slice (some ⟨b, o, none⟩) ps.length cap) ∧ W.cell? ⟨w.heap.size + 1, 2, none⟩ = some (.slice (some ⟨b', o', none⟩) ps.length cap') ∧ W.rangeAt b (o + j * 18) (cel p) ∧ W.rangeAt b' (o' + j * 18) (cel q)) ∧ Below wr.heap.size wr W ∧ wr.heap.size ≤ W.heap.size) (by kernel_rfl) HS0.out (fun hHeld => ?_)
    refine tk 0 34 (.pointer (some ⟨w.heap.size, 2, none⟩)) rfl rfl hHeld ?_
    simp only [Act.put, zA, zB, zC]
    refine tk 1 35 (.slice (some ⟨b, o, none⟩) ps.length cap) rfl rfl hHeld ?_
    simp only [Act.put, zA, zB, zC]
    refine tk 2 36 (.int .i64 (j : Int)) rfl rfl hHeld ?_
    simp only [Act.put, zA, zB, zC]
    refine tk 3 37 (.pointer (some ⟨b, o + j * 18, none⟩)) rfl rfl hHeld ?_
    simp only [Act.put, zA, zB, zC]
    refine tky 4 38 (_) rfl rfl (yieldsIf_load_mid (by rfl) _ _ rfl _ _ rfl (cel p) _ (fun W hW => hW.1.2.2.1) Tryz.underlying45 rfl (by kernel_rfl)) hHeld ?_
    simp only [Act.put, zA, zB, zC]
    refine tk 5 39 (.pointer (some ⟨w.heap.size + 1, 2, none⟩)) rfl rfl hHeld ?_
    simp only [Act.put, zA, zB, zC]
    refine tk 6 40 ((.slice (some ⟨b', o', none⟩) ps.length cap')) rfl rfl hHeld ?_
    simp only [Act.put, zA, zB, zC]
    refine tk 7 41 (.int .i64 (j : Int)) rfl rfl hHeld ?_
    simp only [Act.put, zA, zB, zC]
    refine tk 8 42 (.pointer (some ⟨b', o' + j * 18, none⟩)) rfl rfl hHeld ?_
    simp only [Act.put, zA, zB, zC]
    refine tky 9 43 (_) rfl rfl (yieldsIf_load_mid (by rfl) _ _ rfl _ _ rfl (cel q) _ (fun W hW => hW.1.2.2.2) Tryz.underlying45 rfl (by kernel_rfl)) hHeld ?_
    simp only [Act.put, zA, zB, zC]
    refine wpAnyH_ready (rs := [10]) (by kernel_rfl) (by simp) ?_
    refine AllReadyH.cons (o := _) rfl (fun K hK => ?_) AllReadyH.nil
    go_simp
    go_at_call 95
    refine (HC.out _ hHeld.2.1).mono ?_
    rintro e w44 ⟨rfl, hb⟩
    go_wp2_with fail
    refine hK.out _ _ ?_ (fun hHeld1 => ?_)
    ·exact hs_call HF.out hb hHeld
    clear hK K hHeld
    have hHeld := hHeld1
    clear hHeld1
    clear hb
    refine tk 11 45 (.bool true) rfl rfl hHeld ?_
    simp only [Act.put, zA, zB, zC]
    refine wpAnyH_done (by kernel_rfl) ?_ _
    have HBF := hide (HB0.out.trans ((HB.out.trans (hHeld.2.1.mono HB.out.size)).mono HB0.out.size))
    clear hHeld
    go_wp2_with fail
    go_ret
    exact ⟨ret_b (HN.out hs), HBF.out⟩
  ·obtain rfl : j = ps.length := by omega
   have hf := sameL_yes HLE.out HA.out
   have HBF := hide (HB0.out.trans (HB.out.mono HB0.out.size))
   clear hlt HR HR' HW HW' HL
   go_wp2_with fail
   go_ret
   exact ⟨ret_b hf, HBF.out⟩
theorem rbsame_anyE {okb ok okb' ok' : Nat → Prop} (x y : Bt) (v u : Value) (w : World) (hv : IsB okb ok w v x) (hu : IsB okb' ok' w u y) (hn : x.rs.length ≤ 100000) (hln : ∀ r ∈ x.rs, LnR r) (he : x.rs = y.rs) : Calls Tryz.prog 63 #[v, u] w fun e w' => e = .returned (.bool (sameBt x y)) ∧ Below w.heap.size w w' := by
 obtain ⟨t, b, rs⟩ := x
 obtain ⟨t', b', rs'⟩ := y
 obtain ⟨a1, ps, rfl, h2, h3⟩ := hv
 obtain ⟨a2, qs, rfl, k2, k3⟩ := hu
 simp only at h3 k3 hn hln he
 subst h3 k3
 obtain ⟨ao, cap, rfl⟩ := h2.form
 obtain ⟨bo, cap', rfl⟩ := k2.form
 by_cases hs : t = t' ∧ b = b' ∧ ps.length = qs.length
 ·obtain ⟨rfl, rfl, hl⟩ := hs
  have e : sameBt ⟨t, b, rcl ps⟩ ⟨t, b, rcl qs⟩ = sameL (rcl ps) (rcl qs) := by unfold sameBt; simp
  rw [e]
  by_cases h0 : 0 < ps.length
  ·obtain ⟨g, o, rfl, h4⟩ := h2.rg h0
   obtain ⟨g', o', rfl, k4⟩ := k2.rg (by omega)
   rw [← hl]
   exact rbsame_someE t b g o cap g' o' cap' ps qs w hl (by rwa [rcl_len] at hn) h4 h2.2 k4 k2.2 (fun p hp => hln p.1 (List.mem_map.2 ⟨p, hp, rfl⟩)) he
  ·have e1 : ps = [] := List.length_eq_zero_iff.1 (by omega)
   have e2 : qs = [] := List.length_eq_zero_iff.1 (by omega)
   subst e1 e2
   exact rbsame_none t b ao bo cap cap' w
 ·have e : sameBt ⟨t, b, rcl ps⟩ ⟨t', b', rcl qs⟩ = false := by
   unfold sameBt
   by_cases h1 : t = t'
   ·by_cases h4 : b = b'
    ·rw [sameL_len (by rw [rcl_len, rcl_len]; exact fun q => hs ⟨h1, h4, q⟩)]
     simp
    ·simp [h4]
   ·simp [h1]
  rw [e]
  exact rbsame_short t b t' b' ao bo _ _ cap cap' w hs
theorem eqb_someE (b o cap b' o' cap' : Nat) (ps qs : List Bq) (w : World) (hl : ps.length = qs.length) (hn : ps.length ≤ 100000) (hrg : w.rangeAt b o (bcs ps)) (hrw : ∀ p ∈ ps, Rl (fun _ => True) (fun _ => True) w p.u p.ps) (hrg' : w.rangeAt b' o' (bcs qs)) (hrw' : ∀ p ∈ qs, Rl (fun _ => True) (fun _ => True) w p.u p.ps) (hln : ∀ p ∈ ps, (btq p).rs.length ≤ 100000 ∧ ∀ r ∈ (btq p).rs, LnR r) (he : bts ps = bts qs) :
  Calls Tryz.prog 38 #[.slice (some ⟨b, o, none⟩) ps.length cap, .slice (some ⟨b', o', none⟩) qs.length cap', .func (.func 39) #[] #[]] w fun e w' => e = .returned (.bool (sameBs (bts ps) (bts qs))) ∧ Below w.heap.size w w' := by
 have HEQ := hide he
 clear he
 have HR := hide hrg
 have HW := hide hrw
 have HR' := hide hrg'
 have HW' := hide hrw'
 have HL := hide hln
 clear hrg hrw hrg' hrw' hln
 rw [← hl]
 have HLE := hide hl
 clear hl
 go_enter Tryz.func38, Tryz.ntmps38
 go_wp2_with fail
 go_loopw [17] (fun i wr => ∃ j : Nat, j ≤ ps.length ∧ i = .int .i64 (j : Int) ∧ (∀ i, i < j → sameBt ((bts ps).getD i Bt.zero) ((bts qs).getD i Bt.zero) = true) ∧ Below w.heap.size w wr) (fun i _ => ps.length - (intOf i).toNat)
 case atStart => exact ⟨0, Nat.zero_le _, rfl, fun i hi => by omega, Below.refl _ _⟩
 case round =>
  obtain ⟨j, hj, rfl, hall, hb⟩ := hrel
  have HA := hide hall
  have HB := hide hb
  clear hall hb
  by_cases hlt : j < ps.length
  ·have hlt' : j < qs.length := by have := HLE.out; omega
   have hltI : (j : Int) < (ps.length : Int) := by omega
   have HE := hide (range_bel (brange_at HR.out hlt) HB.out)
   have HE' := hide (range_bel (brange_at HR'.out hlt') HB.out)
   have HP := hide (HW.out _ (List.getElem_mem hlt))
   have HP' := hide (HW'.out _ (List.getElem_mem hlt'))
   have HX := hide (HL.out _ (List.getElem_mem hlt))
   have HN := hide (fun h => sameBs_no hlt hlt' h)
   have HK : Hid (sameBt (btq ps[j]) (btq qs[j]) = true → ∀ i, i < j + 1 → sameBt ((bts ps).getD i Bt.zero) ((bts qs).getD i Bt.zero) = true) := hide (fun h i hi => by
    by_cases e : i = j
    ·subst e; rw [bts_at hlt, bts_at hlt']; exact h
    ·exact HA.out i (by omega))
   have HTN := hide (there_newB wr)
   have HPQ : Hid (btq ps[j] = btq qs[j]) := hide ((bts_at hlt).symm.trans ((congrArg (fun l => l.getD j Bt.zero) HEQ.out).trans (bts_at hlt')))
   generalize ps[j] = p at *
   generalize qs[j] = q at *
   have HOC := hide (bce_all HP.out.form3)
   go_upto_region 6 with (first | (refine wpList_load_mid rfl _ _ rfl _ _ rfl _ _ HE.out Tryz.underlying48 rfl (by kernel_rfl) ?_) | (refine wpList_store_mid rfl _ _ _ rfl wr.heap.size 0 (bce p).toArray rfl rfl HTN.out (by kernel_rfl) HOC.out ?_))
   obtain ⟨V, hV⟩ : ∃ V, V = (wr.alloc (.cells #[.int .i64 0, .int .i64 0, .slice none 0 0] 48)).setCells wr.heap.size 0 (bce p) := ⟨_, rfl⟩
   obtain ⟨hbV, hrV, hzV⟩ := laidB wr p hV
   have HRV := hide hrV
   have HBV := hide (HB.out.trans (hbV.mono HB.out.size))
   have HEV := hide (range_bel HE'.out hbV)
   have HTV := hide (there_newB V)
   clear HOC
   have HOC := hide (bce_all HP'.out.form3)
   rw [← hV]
   clear hV hrV hbV hzV HTN HE HB
   go_upto_region 7 with (first | (refine wpList_load_mid rfl _ _ rfl _ _ rfl _ _ HEV.out Tryz.underlying48 rfl (by kernel_rfl) ?_) | (refine wpList_store_mid rfl _ _ _ rfl V.heap.size 0 (bce q).toArray rfl rfl HTV.out (by kernel_rfl) HOC.out ?_))
   obtain ⟨U, hU⟩ : ∃ U, U = (V.alloc (.cells #[.int .i64 0, .int .i64 0, .slice none 0 0] 48)).setCells V.heap.size 0 (bce q) := ⟨_, rfl⟩
   obtain ⟨hbU, hrU, _⟩ := laidB V q hU
   have HRU := hide hrU
   have HRV2 := hide (range_bel HRV.out hbU)
   have HBU := hide (HBV.out.trans (hbU.mono HBV.out.size))
   rw [← hU]
   clear hU hrU hbU HTV HEV HRV
   have HC := hide (bsame_anyE (okb := fun _ => True) (ok := fun _ => True) (okb' := fun _ => True) (ok' := fun _ => True) (btq p) (btq q) (.agg (bce p).toArray) (.agg (bce q).toArray) U ⟨p.u, p.ps, rfl, HP.out.below HBU.out, rfl⟩ ⟨q.u, q.ps, rfl, HP'.out.below HBU.out, rfl⟩ HX.out.1 HX.out.2 (congrArg Bt.rs HPQ.out))
   clear HP HP' HX HW HW' HR HR' HL HE'
   cases hs : sameBt (btq p) (btq q) with
   | true =>
    rw [hs] at HC
    go_wp2_with (first | (refine wpList_load_mid rfl _ _ rfl _ _ rfl _ _ HRV2.out Tryz.underlying48 rfl (by kernel_rfl) ?_) | (refine wpList_load_mid rfl _ _ rfl _ _ rfl _ _ HRU.out Tryz.underlying48 rfl (by kernel_rfl) ?_) | (go_at_call 39; refine HC.out.mono ?_; rintro e w5 ⟨rfl, hb5⟩; have HB5 := hide (HBU.out.trans (hb5.mono HBU.out.size)); clear hb5))
    go_roundw
    case rel => exact ⟨j + 1, by omega, by go_num, HK.out hs, HB5.out⟩
    case measure => simp [intOf]; omega
   | false =>
    rw [hs] at HC
    go_wp2_with (first | (refine wpList_load_mid rfl _ _ rfl _ _ rfl _ _ HRV2.out Tryz.underlying48 rfl (by kernel_rfl) ?_) | (refine wpList_load_mid rfl _ _ rfl _ _ rfl _ _ HRU.out Tryz.underlying48 rfl (by kernel_rfl) ?_) | (go_at_call 39; refine HC.out.mono ?_; rintro e w5 ⟨rfl, hb5⟩; have HB5 := hide (HBU.out.trans (hb5.mono HBU.out.size)); clear hb5))
    go_ret
    exact ⟨ret_b (HN.out hs), HB5.out⟩
  ·obtain rfl : j = ps.length := by omega
   have hf := sameBs_yes HLE.out HA.out
   clear hlt HR HR' HW HW' HL
   go_wp2_with fail
   go_ret
   exact ⟨ret_b hf, HB.out⟩
theorem eqb_anyE (ao bo : Option Addr) (cap cap' : Nat) (ps qs : List Bq) (w : World) (hv : Bl w (.slice ao ps.length cap) ps) (hu : Bl w (.slice bo qs.length cap') qs) (hn : ps.length ≤ 100000) (hln : ∀ p ∈ ps, (btq p).rs.length ≤ 100000 ∧ ∀ r ∈ (btq p).rs, LnR r) (he : bts ps = bts qs) :
  Calls Tryz.prog 38 #[.slice ao ps.length cap, .slice bo qs.length cap', .func (.func 39) #[] #[]] w fun e w' => e = .returned (.bool (sameBs (bts ps) (bts qs))) ∧ Below w.heap.size w w' := by
 by_cases hl : ps.length = qs.length
 ·by_cases h0 : 0 < ps.length
  ·obtain ⟨b, o, rfl, h1⟩ := hv.rg h0
   obtain ⟨b', o', rfl, h2⟩ := hu.rg (by omega)
   exact eqb_someE b o cap b' o' cap' ps qs w hl hn h1 hv.2 h2 hu.2 hln he
  ·have e1 : ps = [] := List.length_eq_zero_iff.1 (by omega)
   have e2 : qs = [] := List.length_eq_zero_iff.1 (by omega)
   subst e1 e2
   exact eqb_none ao bo cap cap' w
 ·rw [sameBs_len (by rw [bts_len, bts_len]; exact hl)]
  exact eqb_len ao bo _ _ cap cap' w hl
theorem msame_eqE (a : Ms) (v u : Value) (w : World) (hv : IsM w v a) (hu : IsM w u a) (ha : Byt a.da) (hn : a.bs.length ≤ 100000) (hln : LnM a) : Calls Tryz.prog 10 #[v, u] w fun e w' => e = .returned (.bool true) ∧ Below w.heap.size w w' := by
 obtain ⟨ab, cb, ad, cd, qs, rfl, hm⟩ := isM_form hv
 obtain ⟨ab', cb', ad', cd', qs', rfl, hm'⟩ := isM_form hu
 have heq := fun W (h : Below w.heap.size w W) => eqb_anyE ab ab' cb cb' qs qs' W (by rw [hm.len]; exact hm.bl.below h) (by rw [hm'.len]; exact hm'.bl.below h) (by rw [hm.len]; exact hn) (fun p hp => hln (btq p) (by rw [← hm.bs]; exact List.mem_map.2 ⟨p, hp, rfl⟩)) (hm.bs.trans hm'.bs.symm)
 rw [hm.len, hm'.len, hm.bs, hm'.bs, sameBs_self] at heq
 have hbe := fun W (h : Below w.heap.size w W) => beq_any _ _ _ _ W (hm.da.below h) (hm'.da.below h) ha ha
 rw [decide_eq_true rfl] at hbe
 exact msame_ego a.k a.fr a.tn a.t a.ld a.pa a.pt a.hi a.co a.sz a.po a.pre a.ok ab ad ab' ad' _ cb _ cd _ cb' _ cd' w (hide (fun W => msn_eq _ _ _ _ _ _ _ _ _ _ _ _ _ _ _ _ _ _ _ _ _ _ _ _ _ W)) (hide hbe) (hide heq)
theorem rall_someE (b o cap b' o' cap' : Nat) (qs rs : List Bq) (w : World) (hl : qs.length = rs.length) (hn : qs.length ≤ 100000) (hrg : w.rangeAt b o (bcs qs)) (hrw : ∀ q ∈ qs, Rl (fun _ => True) (fun _ => True) w q.u q.ps) (hrg' : w.rangeAt b' o' (bcs rs)) (hrw' : ∀ q ∈ rs, Rl (fun _ => True) (fun _ => True) w q.u q.ps)
  (hln : ∀ q ∈ qs, (btq q).rs.length ≤ 100000 ∧ ∀ r ∈ (btq q).rs, LnR r) (he : bts qs = bts rs) :
  Calls Tryz.prog 29 #[.slice (some ⟨b, o, none⟩) qs.length cap, (.slice (some ⟨b', o', none⟩) qs.length cap')] w fun e w' => e = .returned (.bool (sameBs (bts qs) (bts rs))) ∧ Below w.heap.size w w' := by
 have HEQ := hide he
 clear he
 have HR := hide hrg
 have HW := hide hrw
 have HR' := hide hrg'
 have HW' := hide hrw'
 have HL := hide hln
 have HLE := hide hl
 clear hrg hrw hrg' hrw' hln hl
 go_enter Tryz.func29, Tryz.ntmps29
 go_wp2_with fail
 go_loopw [5] (fun i wr => ∃ j : Nat, j ≤ qs.length ∧ i = .int .i64 (j : Int) ∧ Hid (∀ i, i < j → sameBt ((bts qs).getD i Bt.zero) ((bts rs).getD i Bt.zero) = true) ∧ Below w.heap.size w wr) (fun i _ => qs.length - (intOf i).toNat)
 case atStart => exact ⟨0, Nat.zero_le _, rfl, hide (fun i hi => by omega), Below.refl _ _⟩
 case round =>
  obtain ⟨j, hj, rfl, HA, hb⟩ := hrel
  have HB := hide hb
  clear hb
  by_cases hlt : j < qs.length
  ·have hlt' : j < rs.length := by have := HLE.out; omega
   have hltI : (j : Int) < (qs.length : Int) := by omega
   have HE := hide (range_bel (brange_at HR.out hlt) HB.out)
   have HE' := hide (range_bel (brange_at HR'.out hlt') HB.out)
   have HP := hide ((HW.out _ (List.getElem_mem hlt)).below HB.out)
   have HP' := hide ((HW'.out _ (List.getElem_mem hlt')).below HB.out)
   have HLX := hide (HL.out _ (List.getElem_mem hlt))
   have HN := hide (fun h => sameBs_no hlt hlt' h)
   have HK : Hid (sameBt (btq qs[j]) (btq rs[j]) = true → ∀ i, i < j + 1 → sameBt ((bts qs).getD i Bt.zero) ((bts rs).getD i Bt.zero) = true) := hide (fun h i hi => by
    by_cases e : i = j
    ·subst e; rw [bts_at hlt, bts_at hlt']; exact h
    ·exact HA.out i (by omega))
   have HPQ : Hid (btq qs[j] = btq rs[j]) := hide ((bts_at hlt).symm.trans ((congrArg (fun l => l.getD j Bt.zero) HEQ.out).trans (bts_at hlt')))
   generalize qs[j] = p at *
   generalize rs[j] = q at *
   have HF : Hid (∀ W, Below wr.heap.size wr W → (fun W : World => (W.rangeAt b (o + j * 3) (bce p) ∧ W.rangeAt b' (o' + j * 3) (bce q))) W) := hide (fun W h => ⟨range_bel HE.out h, range_bel HE'.out h⟩)
   have HC := hide (fun W (h : Below wr.heap.size wr W) => rbsame_anyE (btq p) (btq q) (.agg (bce p).toArray) (.agg (bce q).toArray) W (okb := fun _ => True) (ok := fun _ => True) (okb' := fun _ => True) (ok' := fun _ => True) ⟨p.u, p.ps, rfl, HP.out.below h, rfl⟩ ⟨q.u, q.ps, rfl, HP'.out.below h, rfl⟩ HLX.out.1 HLX.out.2 (congrArg Bt.rs HPQ.out))
   have HS0 := hide (hs_drew HF.out (Nat.le_refl _))
   clear HE HE' HP HP' HLX HW HW' HR HR' HL
   go_upto_region 6 with fail
   cases hs : sameBt (btq p) (btq q) with
   | true =>
    rw [hs] at HC
    refine wp_region_held_drew (S := fun W => (W.rangeAt b (o + j * 3) (bce p) ∧ W.rangeAt b' (o' + j * 3) (bce q)) ∧ Below wr.heap.size wr W ∧ wr.heap.size ≤ W.heap.size) (by kernel_rfl) HS0.out (fun hHeld => ?_)
    refine tk 0 17 (.slice (some ⟨b, o, none⟩) qs.length cap) rfl rfl hHeld ?_
    simp only [Act.put, zA, zB, zC]
    refine tk 1 18 (.int .i64 (j : Int)) rfl rfl hHeld ?_
    simp only [Act.put, zA, zB, zC]
    refine tk 2 19 (.pointer (some ⟨b, o + j * 3, none⟩)) rfl rfl hHeld ?_
    simp only [Act.put, zA, zB, zC]
    refine tky 3 20 (_) rfl rfl (yieldsIf_load_mid (by rfl) _ _ rfl _ _ rfl (bce p) _ (fun W hW => hW.1.1) Tryz.underlying48 rfl (by kernel_rfl)) hHeld ?_
    simp only [Act.put, zA, zB, zC]
    refine tk 4 21 ((.slice (some ⟨b', o', none⟩) qs.length cap')) rfl rfl hHeld ?_
    simp only [Act.put, zA, zB, zC]
    refine tk 5 22 (.int .i64 (j : Int)) rfl rfl hHeld ?_
    simp only [Act.put, zA, zB, zC]
    refine tk 6 23 (.pointer (some ⟨b', o' + j * 3, none⟩)) rfl rfl hHeld ?_
    simp only [Act.put, zA, zB, zC]
    refine tky 7 24 (_) rfl rfl (yieldsIf_load_mid (by rfl) _ _ rfl _ _ rfl (bce q) _ (fun W hW => hW.1.2) Tryz.underlying48 rfl (by kernel_rfl)) hHeld ?_
    simp only [Act.put, zA, zB, zC]
    refine wpAnyH_ready (rs := [8]) (by kernel_rfl) (by simp) ?_
    refine AllReadyH.cons (o := _) rfl (fun K hK => ?_) AllReadyH.nil
    go_simp
    go_at_call 63
    refine (HC.out _ hHeld.2.1).mono ?_
    rintro e w44 ⟨rfl, hb⟩
    go_wp2_with fail
    refine hK.out _ _ ?_ (fun hHeld1 => ?_)
    ·exact hs_call HF.out hb hHeld
    clear hK K hHeld
    have hHeld := hHeld1
    clear hHeld1
    clear hb
    refine tk 9 26 (.bool false) rfl rfl hHeld ?_
    simp only [Act.put, zA, zB, zC]
    refine wpAnyH_done (by kernel_rfl) ?_ _
    have HBF := hide (HB.out.trans (hHeld.2.1.mono HB.out.size))
    clear hHeld
    go_wp2_with fail
    go_roundw
    case rel => exact ⟨j + 1, by omega, by go_num, hide (HK.out hs), HBF.out⟩
    case measure => simp [intOf]; omega
   | false =>
    rw [hs] at HC
    refine wp_region_held_drew (S := fun W => (W.rangeAt b (o + j * 3) (bce p) ∧ W.rangeAt b' (o' + j * 3) (bce q)) ∧ Below wr.heap.size wr W ∧ wr.heap.size ≤ W.heap.size) (by kernel_rfl) HS0.out (fun hHeld => ?_)
    refine tk 0 17 (.slice (some ⟨b, o, none⟩) qs.length cap) rfl rfl hHeld ?_
    simp only [Act.put, zA, zB, zC]
    refine tk 1 18 (.int .i64 (j : Int)) rfl rfl hHeld ?_
    simp only [Act.put, zA, zB, zC]
    refine tk 2 19 (.pointer (some ⟨b, o + j * 3, none⟩)) rfl rfl hHeld ?_
    simp only [Act.put, zA, zB, zC]
    refine tky 3 20 (_) rfl rfl (yieldsIf_load_mid (by rfl) _ _ rfl _ _ rfl (bce p) _ (fun W hW => hW.1.1) Tryz.underlying48 rfl (by kernel_rfl)) hHeld ?_
    simp only [Act.put, zA, zB, zC]
    refine tk 4 21 ((.slice (some ⟨b', o', none⟩) qs.length cap')) rfl rfl hHeld ?_
    simp only [Act.put, zA, zB, zC]
    refine tk 5 22 (.int .i64 (j : Int)) rfl rfl hHeld ?_
    simp only [Act.put, zA, zB, zC]
    refine tk 6 23 (.pointer (some ⟨b', o' + j * 3, none⟩)) rfl rfl hHeld ?_
    simp only [Act.put, zA, zB, zC]
    refine tky 7 24 (_) rfl rfl (yieldsIf_load_mid (by rfl) _ _ rfl _ _ rfl (bce q) _ (fun W hW => hW.1.2) Tryz.underlying48 rfl (by kernel_rfl)) hHeld ?_
    simp only [Act.put, zA, zB, zC]
    refine wpAnyH_ready (rs := [8]) (by kernel_rfl) (by simp) ?_
    refine AllReadyH.cons (o := _) rfl (fun K hK => ?_) AllReadyH.nil
    go_simp
    go_at_call 63
    refine (HC.out _ hHeld.2.1).mono ?_
    rintro e w44 ⟨rfl, hb⟩
    go_wp2_with fail
    refine hK.out _ _ ?_ (fun hHeld1 => ?_)
    ·exact hs_call HF.out hb hHeld
    clear hK K hHeld
    have hHeld := hHeld1
    clear hHeld1
    clear hb
    refine tk 9 26 (.bool true) rfl rfl hHeld ?_
    simp only [Act.put, zA, zB, zC]
    refine wpAnyH_done (by kernel_rfl) ?_ _
    have HBF := hide (HB.out.trans (hHeld.2.1.mono HB.out.size))
    clear hHeld
    go_wp2_with fail
    go_ret
    exact ⟨ret_b (HN.out hs), HBF.out⟩
  ·obtain rfl : j = qs.length := by omega
   have hf := sameBs_yes HLE.out HA.out
   clear hlt HR HR' HW HW' HL
   go_wp2_with fail
   go_ret
   exact ⟨ret_b hf, HB.out⟩
theorem rall_anyE (ao bo : Option Addr) (cap cap' : Nat) (ps qs : List Bq) (w : World) (hv : Bl w (.slice ao ps.length cap) ps) (hu : Bl w (.slice bo qs.length cap') qs) (hn : ps.length ≤ 100000) (hln : ∀ p ∈ ps, (btq p).rs.length ≤ 100000 ∧ ∀ r ∈ (btq p).rs, LnR r) (he : bts ps = bts qs) :
  Calls Tryz.prog 29 #[.slice ao ps.length cap, .slice bo qs.length cap'] w fun e w' => e = .returned (.bool (sameBs (bts ps) (bts qs))) ∧ Below w.heap.size w w' := by
 by_cases hl : ps.length = qs.length
 ·by_cases h0 : 0 < ps.length
  ·obtain ⟨b, o, rfl, h1⟩ := hv.rg h0
   obtain ⟨b', o', rfl, h2⟩ := hu.rg (by omega)
   have := rall_someE b o cap b' o' cap' ps qs w hl hn h1 hv.2 h2 hu.2 hln he
   rwa [show Value.slice (some ⟨b', o', none⟩) qs.length cap' = .slice (some ⟨b', o', none⟩) ps.length cap' by rw [hl]]
  ·have e1 : ps = [] := List.length_eq_zero_iff.1 (by omega)
   have e2 : qs = [] := List.length_eq_zero_iff.1 (by omega)
   subst e1 e2
   exact all_none ao bo cap cap' w
 ·rw [sameBs_len (by rw [bts_len, bts_len]; exact hl)]
  exact rall_len ao bo _ _ cap cap' w hl
theorem rmsame_eqE (a : Ms) (v u : Value) (w : World) (hv : IsM w v a) (hu : IsM w u a) (hd : a.da.length ≤ 40000) (hn : a.bs.length ≤ 100000) (hln : LnM a) : Calls Tryz.prog 7 #[v, u] w fun e w' => e = .returned (.bool true) ∧ Below w.heap.size w w' := by
 obtain ⟨ab, cb, ad, cd, qs, rfl, hm⟩ := isM_form hv
 obtain ⟨ab', cb', ad', cd', qs', rfl, hm'⟩ := isM_form hu
 have heq := fun W (h : Below w.heap.size w W) => rall_anyE ab ab' cb cb' qs qs' W (by rw [hm.len]; exact hm.bl.below h) (by rw [hm'.len]; exact hm'.bl.below h) (by rw [hm.len]; exact hn) (fun p hp => hln (btq p) (by rw [← hm.bs]; exact List.mem_map.2 ⟨p, hp, rfl⟩)) (hm.bs.trans hm'.bs.symm)
 rw [hm.len, hm'.len, hm.bs, hm'.bs, sameBs_self] at heq
 exact rmsame_ego a.k a.fr a.tn a.t a.ld a.pa a.pt a.hi a.co a.sz a.po a.pre a.ok ab ad ab' ad' _ cb _ cd _ cb' _ cd' w (hide (fun W h => same_bytes _ _ _ W (hm.da.below h) (hm'.da.below h) hd)) (hide heq)
theorem cudata_gs (p : Nat) (v : Value) (l : List Int) (s : Gs) (w0 w : World) (hr : CuG w p v s) (hv : Sl bc w0 v l) (hW : Below w0.heap.size w0 w) (hp0 : w0.heap.size ≤ p) (hl : l.length ≤ 4000) (hby : Byt l) (hs : s.pt ≤ l.length) :
  Calls Tryz.prog 24 #[.pointer (some ⟨p, 0, none⟩), .int .i64 512] w fun e w' => ∃ u, e = .returned u ∧ Slk (fun b => b < w0.heap.size ∨ w.heap.size ≤ b) bc w' u (gD l s).2 ∧ CuG w' p v (gD l s).1 ∧ Bx p w w' := by
 have hp : p < w.heap.size := cell_block hr.c0
 have hF := fun W (h : Below w.heap.size w W) => (hr.below h).cells
 unfold gD
 by_cases hc : s.c = 0
 ·rw [if_pos hc]
  have hbad : (textS l s.pt 512).1 ≠ 0 → (textS l s.pt 512).2.2.1 = s.pt := by
   unfold textS
   simp only
   split
   ·split
    ·intro _; rfl
    ·intro q; exact absurd rfl q
   ·intro _; rfl
  have hask : askS l s.pt 3 512 0 = ⟨(textS l s.pt 512).1, (textS l s.pt 512).2.1, s.pt, (textS l s.pt 512).2.2.1, 0, false, (textS l s.pt 512).2.2.2, []⟩ := rfl
  rcases hq : textS l s.pt 512 with ⟨c, op, k, T⟩
  rw [hq] at hbad hask
  simp only at hbad hask
  refine (cutext_go p v s.pt s.c (whS s) (mkS c op k s.pt).pt (mkS c op k s.pt).c (whS (mkS c op k s.pt)) 0 512 s.op (mkS c op k s.pt).op false T.length 0 w hp hr.fz w0.heap.size hp0 T hF (hide fun W h => ?_)).mono ?_
  ·have hcall := refRead_any v l s.pt 3 512 0 (whS s) s.op w0 W hv (hW.trans (h.mono hW.size)) hl hby hs (by decide) (by decide)
   rw [hask] at hcall
   simp only at hcall
   rw [st_gs c _ _ _ hbad] at hcall
   rw [hc]
   refine hcall.mono ?_
   rintro e w' ⟨vt, vr, rfl, h1, h2, h3⟩
   have h4 := h1.slk
   obtain ⟨x1, x3, rfl⟩ := h1.sl.form
   obtain ⟨y1, y3, rfl⟩ := h2.sl.form
   exact ⟨x1, x3, y1, y3, rfl, h4, h3⟩
  ·rintro e w' ⟨z1, z3, rfl, h1, ⟨a0, a1, a2, a3, a4⟩, h2, h3⟩
   exact ⟨_, rfl, h1, ⟨a0, a1, a2, a3, a4, h2⟩, h3⟩
 ·rw [if_neg hc]
  refine (cutext_go p v s.pt s.c (whS s) s.pt s.c (whS s) 0 512 s.op s.op false 0 0 w hp hr.fz w0.heap.size hp0 [] hF (hide fun W h => ?_)).mono ?_
  ·refine (read_err v s.pt s.c (whS s) 3 512 0 s.op W (by simpa using hc)).mono ?_
   rintro e w' ⟨rfl, h3⟩
   exact ⟨_, _, _, _, rfl, .inl ⟨_, _, rfl, rfl⟩, h3⟩
  ·rintro e w' ⟨z1, z3, rfl, h1, ⟨a0, a1, a2, a3, a4⟩, h2, h3⟩
   exact ⟨_, rfl, h1, ⟨a0, a1, a2, a3, a4, h2⟩, h3⟩
theorem cdsome_gs (p : Nat) (v : Value) (l : List Int) (asks : Bool) (s : Gs) (w0 w : World) (hr : CuG w p v s) (hv : Sl bc w0 v l) (hW : Below w0.heap.size w0 w) (hl : l.length ≤ 4000) (hby : Byt l) (hs : s.pt ≤ l.length) :
  Calls Tryz.prog 23 #[.pointer (some ⟨p, 0, none⟩), .bool asks] w fun e w' => e = .returned (.int .i64 (if asks then (gN 1073741824 l s).2 else 0)) ∧ CuG w' p v (if asks then (gN 1073741824 l s).1 else s) ∧ Bx p w w' := by
 have HC := hide (cuint_gs p v l 1073741824 s w0 w hr hv hW hl hby hs (by decide) (by decide))
 have HR := hide hr
 generalize gN 1073741824 l s = G at *
 clear hr hv hW
 cases asks with
 | true =>
  go_enter Tryz.func23, Tryz.ntmps23
  go_wp2_with (first | (go_at_call 20; refine HC.out.mono ?_; rintro e w1 ⟨rfl, h1, h2⟩; have H1 := hide h1; have H2 := hide h2; clear h1 h2))
  go_ret
  exact ⟨rfl, by simpa using H1.out, H2.out⟩
 | false =>
  go_enter Tryz.func23, Tryz.ntmps23
  go_wp2_with fail
  go_ret
  exact ⟨rfl, by simpa using HR.out, Bx.refl _ _⟩
theorem cdyes_gs (p : Nat) (v : Value) (l : List Int) (asks : Bool) (s : Gs) (w0 w : World) (hr : CuG w p v s) (hv : Sl bc w0 v l) (hW : Below w0.heap.size w0 w) (hl : l.length ≤ 4000) (hby : Byt l) (hs : s.pt ≤ l.length) :
  Calls Tryz.prog 21 #[.pointer (some ⟨p, 0, none⟩), .bool asks] w fun e w' => e = .returned (.bool (if asks then (gF l s).2 else false)) ∧ CuG w' p v (if asks then (gF l s).1 else s) ∧ Bx p w w' := by
 have HC := hide (cuflag_gs p v l s w0 w hr hv hW hl hby hs)
 have HR := hide hr
 generalize gF l s = G at *
 clear hr hv hW
 cases asks with
 | true =>
  go_enter Tryz.func21, Tryz.ntmps21
  go_wp2_with (first | (go_at_call 57; refine HC.out.mono ?_; rintro e w1 ⟨rfl, h1, h2⟩; have H1 := hide h1; have H2 := hide h2; clear h1 h2))
  go_ret
  exact ⟨rfl, by simpa using H1.out, H2.out⟩
 | false =>
  go_enter Tryz.func21, Tryz.ntmps21
  go_wp2_with fail
  go_ret
  exact ⟨rfl, by simpa using HR.out, Bx.refl _ _⟩
structure Two (w W : World) (p q : Nat) (v : Value) (l : List Int) (s : Gs) : Prop where
 rd : RdG W p v s
 cu : CuG W q v s
 pt : s.pt ≤ l.length
 be : Below w.heap.size w W
 hp : w.heap.size ≤ p
 hq : w.heap.size ≤ q
 ne : p ≠ q
 lq : q < W.heap.size
theorem Two.below {w W W' : World} {p q : Nat} {v : Value} {l : List Int} {s : Gs} (h : Two w W p q v l s) (hb : Below W.heap.size W W') : Two w W' p q v l s :=
 ⟨h.rd.below hb, h.cu.below hb, h.pt, h.be.trans (hb.mono h.be.size), h.hp, h.hq, h.ne, Nat.lt_of_lt_of_le h.lq hb.size⟩
end Go.Proofs.YtjjpfajbljbelaaGreatDoor
