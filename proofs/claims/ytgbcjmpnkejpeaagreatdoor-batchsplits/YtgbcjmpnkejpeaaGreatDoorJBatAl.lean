/-
  WHETHER TWO ROWS OF BATCHES ARE THE SAME, BY THE DOCUMENT (castellanref06.All): those that are. Conditions: the batches' cells hold them, their records' rows are not too long.
-/
import Derived.Test.YtgbcjmpnkejpeaaGreatDoorJBatOfa3
import Derived.Test.YtgbcjmpnkejpeaaGreatDoorJBatSr
namespace Go.Proofs.YtgbcjmpnkejpeaaGreatDoor
open Go.RowKit

theorem brange_at {W : World} {b o : Nat} {qs : List Bq} (h : W.rangeAt b o (bcs qs)) {i : Nat} (hi : i < qs.length) : W.rangeAt b (o + i * 3) (bce qs[i]) := fun j u hu => by
  have := h (i * 3 + j) u (bcs_get qs i hi j u hu)
  rwa [← Nat.add_assoc] at this
set_option maxRecDepth 100000 in
set_option maxHeartbeats 4000000 in
theorem all_none (ao bo : Option Addr) (cap cap' : Nat) (w : World) : Calls Tryz.prog 37 #[.slice ao 0 cap, .slice bo 0 cap'] w fun e w' => e = .returned (.bool true) ∧ Below w.heap.size w w' := by
  go_enter Tryz.func37, Tryz.ntmps37
  go_wp2_with fail
  go_loopw [5] (fun i wr => i = .int .i64 0 ∧ Below w.heap.size w wr) (fun _ _ => 0)
  case atStart => exact ⟨rfl, Below.refl _ _⟩
  case round =>
    obtain ⟨rfl, hb⟩ := hrel
    have HB := hide hb
    clear hb
    go_wp2_with fail
    go_ret
    exact ⟨rfl, HB.out⟩
set_option maxRecDepth 100000 in
set_option maxHeartbeats 16000000 in
theorem all_some (b o cap b' o' cap' : Nat) (qs rs : List Bq) (w : World) (hl : qs.length = rs.length) (hn : qs.length ≤ 100000) (hrg : w.rangeAt b o (bcs qs)) (hrw : ∀ q ∈ qs, Rl (fun _ => True) (fun _ => True) w q.u q.ps) (hrg' : w.rangeAt b' o' (bcs rs)) (hrw' : ∀ q ∈ rs, Rl (fun _ => True) (fun _ => True) w q.u q.ps)
    (hln : ∀ q ∈ qs, (btq q).rs.length ≤ 100000 ∧ ∀ r ∈ (btq q).rs, LnR r) (heq : ∀ i (h : i < qs.length) (h' : i < rs.length), btq rs[i] = btq qs[i]) :
    Calls Tryz.prog 37 #[.slice (some ⟨b, o, none⟩) qs.length cap, (.slice (some ⟨b', o', none⟩) qs.length cap')] w fun e w' => e = .returned (.bool true) ∧ Below w.heap.size w w' := by
  have HR := hide hrg
  have HW := hide hrw
  have HR' := hide hrg'
  have HW' := hide hrw'
  have HL := hide hln
  have HLE := hide hl
  have HEQ := hide heq
  clear hrg hrw hrg' hrw' hln hl heq
  go_enter Tryz.func37, Tryz.ntmps37
  go_wp2_with fail
  go_loopw [5] (fun i wr => ∃ j : Nat, j ≤ qs.length ∧ i = .int .i64 (j : Int) ∧ Below w.heap.size w wr) (fun i _ => qs.length - (intOf i).toNat)
  case atStart => exact ⟨0, Nat.zero_le _, rfl, Below.refl _ _⟩
  case round =>
    obtain ⟨j, hj, rfl, hb⟩ := hrel
    have HB := hide hb
    clear hb
    by_cases hlt : j < qs.length
    · have hlt' : j < rs.length := by have := HLE.out; omega
      have hltI : (j : Int) < (qs.length : Int) := by omega
      have HE := hide (range_bel (brange_at HR.out hlt) HB.out)
      have HE' := hide (range_bel (brange_at HR'.out hlt') HB.out)
      have HP := hide ((HW.out _ (List.getElem_mem hlt)).below HB.out)
      have HP' := hide ((HW'.out _ (List.getElem_mem hlt')).below HB.out)
      have HLX := hide (HL.out _ (List.getElem_mem hlt))
      have HQ := hide (HEQ.out j hlt hlt')
      generalize qs[j] = p at *
      generalize rs[j] = q at *
      have HF : Hid (∀ W, Below wr.heap.size wr W → (fun W : World => (W.rangeAt b (o + j * 3) (bce p) ∧ W.rangeAt b' (o' + j * 3) (bce q))) W) := hide (fun W h => ⟨range_bel HE.out h, range_bel HE'.out h⟩)
      have HC0 := hide (fun W (h : Below wr.heap.size wr W) => rbsame_any (btq p) (btq q) (.agg (bce p).toArray) (.agg (bce q).toArray) W (okb := fun _ => True) (ok := fun _ => True) (okb' := fun _ => True) (ok' := fun _ => True) ⟨p.u, p.ps, rfl, HP.out.below h, rfl⟩ ⟨q.u, q.ps, rfl, HP'.out.below h, rfl⟩ HLX.out.1 HLX.out.2)
      rw [HQ.out, sameBt_self] at HC0
      have HC := HC0
      have HS0 := hide (hs_drew HF.out (Nat.le_refl _))
      clear HC0 HE HE' HP HP' HLX HW HW' HR HR' HL HQ HEQ
      go_upto_region 6 with fail
      refine wp_region_held_drew (S := fun W => (W.rangeAt b (o + j * 3) (bce p) ∧ W.rangeAt b' (o' + j * 3) (bce q)) ∧ Below wr.heap.size wr W ∧ wr.heap.size ≤ W.heap.size) (by kernel_rfl) HS0.out (fun hHeld => ?_)
      refine wpAnyH_take (i := 0) (oi := _) (v := .slice (some ⟨b, o, none⟩) qs.length cap) rfl (by kernel_rfl) (by kernel_rfl) (by kernel_rfl) (fun _ _ _ h => h) (Or.inl ⟨by rfl, by intro w hSw; go_simp⟩) hHeld ?_
      change wpAnyH _ _ _ _ _ _ _ (Act.put _ (some 17) _) _
      simp only [Act.put, List.setIfInBounds_toArray, List.set_cons_zero, List.set_cons_succ]
      refine wpAnyH_take (i := 1) (oi := _) (v := .int .i64 (j : Int)) rfl (by kernel_rfl) (by kernel_rfl) (by kernel_rfl) (fun _ _ _ h => h) (Or.inl ⟨by rfl, by intro w hSw; go_simp⟩) hHeld ?_
      change wpAnyH _ _ _ _ _ _ _ (Act.put _ (some 18) _) _
      simp only [Act.put, List.setIfInBounds_toArray, List.set_cons_zero, List.set_cons_succ]
      refine wpAnyH_take (i := 2) (oi := _) (v := .pointer (some ⟨b, o + j * 3, none⟩)) rfl (by kernel_rfl) (by kernel_rfl) (by kernel_rfl) (fun _ _ _ h => h) (Or.inl ⟨by rfl, by intro w hSw; go_simp⟩) hHeld ?_
      change wpAnyH _ _ _ _ _ _ _ (Act.put _ (some 19) _) _
      simp only [Act.put, List.setIfInBounds_toArray, List.set_cons_zero, List.set_cons_succ]
      refine wpAnyH_take (i := 3) (oi := _) (v := _) rfl (by kernel_rfl) (by kernel_rfl) (by kernel_rfl) (fun _ _ _ h => h) (yieldsIf_load_mid (by rfl) _ _ rfl _ _ rfl (bce p) _ (fun W hW => hW.1.1) Tryz.underlying48 rfl (by kernel_rfl)) hHeld ?_
      change wpAnyH _ _ _ _ _ _ _ (Act.put _ (some 20) _) _
      simp only [Act.put, List.setIfInBounds_toArray, List.set_cons_zero, List.set_cons_succ]
      refine wpAnyH_take (i := 4) (oi := _) (v := (.slice (some ⟨b', o', none⟩) qs.length cap')) rfl (by kernel_rfl) (by kernel_rfl) (by kernel_rfl) (fun _ _ _ h => h) (Or.inl ⟨by rfl, by intro w hSw; go_simp⟩) hHeld ?_
      change wpAnyH _ _ _ _ _ _ _ (Act.put _ (some 21) _) _
      simp only [Act.put, List.setIfInBounds_toArray, List.set_cons_zero, List.set_cons_succ]
      refine wpAnyH_take (i := 5) (oi := _) (v := .int .i64 (j : Int)) rfl (by kernel_rfl) (by kernel_rfl) (by kernel_rfl) (fun _ _ _ h => h) (Or.inl ⟨by rfl, by intro w hSw; go_simp⟩) hHeld ?_
      change wpAnyH _ _ _ _ _ _ _ (Act.put _ (some 22) _) _
      simp only [Act.put, List.setIfInBounds_toArray, List.set_cons_zero, List.set_cons_succ]
      refine wpAnyH_take (i := 6) (oi := _) (v := .pointer (some ⟨b', o' + j * 3, none⟩)) rfl (by kernel_rfl) (by kernel_rfl) (by kernel_rfl) (fun _ _ _ h => h) (Or.inl ⟨by rfl, by intro w hSw; go_simp⟩) hHeld ?_
      change wpAnyH _ _ _ _ _ _ _ (Act.put _ (some 23) _) _
      simp only [Act.put, List.setIfInBounds_toArray, List.set_cons_zero, List.set_cons_succ]
      refine wpAnyH_take (i := 7) (oi := _) (v := _) rfl (by kernel_rfl) (by kernel_rfl) (by kernel_rfl) (fun _ _ _ h => h) (yieldsIf_load_mid (by rfl) _ _ rfl _ _ rfl (bce q) _ (fun W hW => hW.1.2) Tryz.underlying48 rfl (by kernel_rfl)) hHeld ?_
      change wpAnyH _ _ _ _ _ _ _ (Act.put _ (some 24) _) _
      simp only [Act.put, List.setIfInBounds_toArray, List.set_cons_zero, List.set_cons_succ]
      refine wpAnyH_ready (rs := [8]) (by kernel_rfl) (by simp) ?_
      refine AllReadyH.cons (o := _) rfl (fun K hK => ?_) AllReadyH.nil
      go_simp
      go_at_call 24
      refine (HC.out _ hHeld.2.1).mono ?_
      rintro e w44 ⟨rfl, hb⟩
      go_wp2_with fail
      refine hK.out _ _ ?_ (fun hHeld1 => ?_)
      · exact hs_call HF.out hb hHeld
      clear hK K hHeld
      have hHeld := hHeld1
      clear hHeld1
      clear hb
      refine wpAnyH_take (i := 9) (oi := _) (v := .bool false) rfl (by kernel_rfl) (by kernel_rfl) (by kernel_rfl) (fun _ _ _ h => h) (Or.inl ⟨by rfl, by intro w hSw; go_simp⟩) hHeld ?_
      change wpAnyH _ _ _ _ _ _ _ (Act.put _ (some 26) _) _
      simp only [Act.put, List.setIfInBounds_toArray, List.set_cons_zero, List.set_cons_succ]
      refine wpAnyH_done (by kernel_rfl) ?_ _
      have HBF := hide (HB.out.trans (hHeld.2.1.mono HB.out.size))
      clear hHeld
      go_wp2_with fail
      go_roundw
      case rel => exact ⟨j + 1, by omega, by go_num, HBF.out⟩
      case measure => simp [intOf]; omega
    · obtain rfl : j = qs.length := by omega
      clear hlt HR HR' HW HW' HL HEQ
      go_wp2_with fail
      go_ret
      exact ⟨rfl, HB.out⟩
theorem all_any (v u : Value) (qs rs : List Bq) (w : World) (hv : Bl w v qs) (hu : Bl w u rs) (hn : qs.length ≤ 100000) (hln : ∀ x ∈ bts qs, x.rs.length ≤ 100000 ∧ ∀ r ∈ x.rs, LnR r) (heq : bts qs = bts rs) :
    Calls Tryz.prog 37 #[v, u] w fun e w' => e = .returned (.bool true) ∧ Below w.heap.size w w' := by
  have hl : qs.length = rs.length := by
    have := congrArg List.length heq
    simpa [bts] using this
  by_cases h0 : 0 < qs.length
  · rcases hv.1 with ⟨_, _, e, _⟩ | ⟨b, o, cap, rfl, h2, h3, h4⟩
    · subst e; simp at h0
    rcases hu.1 with ⟨_, _, e, _⟩ | ⟨b', o', cap', rfl, k2, k3, k4⟩
    · subst e; rw [hl] at h0; simp at h0
    rw [← hl]
    refine all_some b o cap b' o' cap' qs rs w hl hn h4 hv.2 k4 hu.2 (fun q hq => hln (btq q) (List.mem_map.2 ⟨q, hq, rfl⟩)) (fun i h h' => ?_)
    have e1 : (bts qs)[i]? = some (btq qs[i]) := by simp [bts, h]
    have e2 : (bts rs)[i]? = some (btq rs[i]) := by simp [bts, h']
    rw [heq, e2] at e1
    exact Option.some.inj e1
  · have e1 : qs = [] := List.length_eq_zero_iff.1 (by omega)
    have e2 : rs = [] := List.length_eq_zero_iff.1 (by omega)
    subst e1 e2
    obtain ⟨ao, cap, rfl⟩ := hv.form
    obtain ⟨bo, cap', rfl⟩ := hu.form
    exact all_none ao bo cap cap' w
end Go.Proofs.YtgbcjmpnkejpeaaGreatDoor
