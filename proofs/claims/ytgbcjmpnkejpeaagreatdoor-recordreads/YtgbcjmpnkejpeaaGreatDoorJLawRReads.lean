/-
  RecordReads' WALK: its rounds, the region that draws its order step by step; its end.
-/
import Derived.Test.YtgbcjmpnkejpeaaGreatDoorJRecRl
namespace Go.Proofs.YtgbcjmpnkejpeaaGreatDoor
open Go.RowKit

set_option maxRecDepth 100000 in
set_option maxHeartbeats 32000000 in
theorem rreads_go (ao : Option Addr) (cap : Nat) (l : List Int) (n : Int) (w : World) (hv : Sl bc w (.slice ao l.length cap) l) (hby : Byt l) (hl : l.length ≤ 1500) (hn : 0 ≤ n ∧ n ≤ 255) (hg : Hnd w) :
    Calls Tryz.prog 3 #[.slice ao l.length cap, .int .u8 n] w fun e w' => e = .returned (.bool true) ∧ Below w.heap.size w w' := by
  have hpos : 0 < w.heap.size := cell_block hg
  have HV := hide hv
  have HBY := hide hby
  have HG := hide hg
  have HWK := hide (fun W (h : Below w.heap.size w W) => works_any W (HG.out.below h))
  have hlI : ¬ (1500 : Int) < (l.length : Int) := by omega
  have HRD := hide (read_any ao l.length cap w)
  obtain ⟨N, hN⟩ : ∃ N : Nat, n % 9 = (N : Int) := ⟨(n % 9).toNat, by omega⟩
  have hN8 : N ≤ 8 := by omega
  have hnw : IntKind.i64.wrap n = n := by rw [IntKind.wrap_i64]; omega
  clear hg hby hv
  go_enter Tryz.func3, Tryz.ntmps3
  go_upto_region 4 with (first | (go_at_call 10; refine HRD.out.mono ?_; rintro e W1 ⟨rfl, hr1, hb1⟩))
  have H2 : Hid (Two w (W1.alloc (.cells #[.slice ao l.length cap, .int .i64 0, .int .i64 0, .string ⟨#[]⟩, .int .i64 0] 31)) w.heap.size W1.heap.size (.slice ao l.length cap) l (okS 0)) := hide (by
    have hba : Below W1.heap.size W1 (W1.alloc (.cells #[.slice ao l.length cap, .int .i64 0, .int .i64 0, .string ⟨#[]⟩, .int .i64 0] 31)) := (Below.refl _ _).alloc (Nat.le_refl _) _
    have hlt : w.heap.size < W1.heap.size := hr1.lt
    exact ⟨RdG.below (s := okS 0) hr1 hba, ⟨by simp, by simp [okS], by simp [okS], by simp [okS], by simp [okS, whS], fun i => World.frozen?_alloc_at _ _ _ _ (by simp)⟩, Nat.zero_le _, hb1.trans (hba.mono hb1.size), Nat.le_refl _, by omega, by omega, by simp⟩)
  clear hr1 hb1 HRD
  go_upto_region 7 with fail
  generalize W1.alloc (.cells #[.slice ao l.length cap, .int .i64 0, .int .i64 0, .string ⟨#[]⟩, .int .i64 0] 31) = X at H2 ⊢
  generalize W1.heap.size = q at H2 ⊢
  clear W1
  go_wp2_with fail
  go_loopw [7] (fun i wr => ∃ (j : Nat) (s : Gs), j ≤ N ∧ i = .int .i64 (j : Int) ∧ Two w wr w.heap.size q (.slice ao l.length cap) l s) (fun i _ => N - (intOf i).toNat)
  case atStart => exact ⟨0, okS 0, Nat.zero_le _, rfl, H2.out⟩
  case round =>
    obtain ⟨j, s, hj, rfl, h2⟩ := hrel
    clear H2
    have H2 := hide h2
    clear h2
    by_cases hlt : j < N
    · have hltI : (j : Int) < (N : Int) := by omega
      have HPT := hide (read_pt (s := s) HBY.out H2.out.pt)
      have HLN := hide (read_ln l s)
      have HC1 := hide (fun W (h : RdG W w.heap.size (.slice ao l.length cap) s) (hb : Below w.heap.size w W) (hpt : s.pt ≤ l.length) => cread_any w.heap.size (.slice ao l.length cap) l s W h ((HV.out.out (Nat.le_refl _)).below hb) (by omega) HBY.out hpt (HG.out.below hb) (by show w.heap.size ≠ 0; omega))
      have HC2 := hide (fun W (h : CuG W q (.slice ao l.length cap) s) (hb : Below w.heap.size w W) => rread_any q (.slice ao l.length cap) l s w W h HV.out hb H2.out.hq (by omega) HBY.out H2.out.pt)
      generalize readG l s = RR at *
      obtain ⟨s2, r⟩ := RR
      simp only at HPT HLN HC1 HC2
      go_upto_region 10 with fail
      go_cut [41] (fun b W => b = .bool false ∧ Two w W w.heap.size q (.slice ao l.length cap) l s2)
      case first =>
        refine wp_region_held_drew (S := fun _ => True) (by kernel_rfl) trivial (fun hHeld => ?_)
        have H0 := hide (H2.out.below ((Below.refl _ _).drew))
        generalize wr.drew = W0 at H0 ⊢
        refine wpAnyH_take (i := 0) (oi := _) (v := .pointer (some ⟨w.heap.size, 0, none⟩)) rfl (by kernel_rfl) (by kernel_rfl) (by kernel_rfl) (fun _ _ _ h => h) (Or.inl ⟨by rfl, by intro w hSw; go_simp⟩) hHeld ?_
        change wpAnyH _ _ _ _ _ _ _ (Act.put _ (some 26) _) _
        simp only [Act.put, List.setIfInBounds_toArray, List.set_cons_zero, List.set_cons_succ]
        refine wpAnyH_take (i := 2) (oi := _) (v := .pointer (some ⟨q, 0, none⟩)) rfl (by kernel_rfl) (by kernel_rfl) (by kernel_rfl) (fun _ _ _ h => h) (Or.inl ⟨by rfl, by intro w hSw; go_simp⟩) hHeld ?_
        change wpAnyH _ _ _ _ _ _ _ (Act.put _ (some 28) _) _
        simp only [Act.put, List.setIfInBounds_toArray, List.set_cons_zero, List.set_cons_succ]
        refine wpAnyH_ready (rs := [1]) (by kernel_rfl) (by simp) ?_
        refine AllReadyH.cons (o := _) rfl (fun K hK => ?_) AllReadyH.nil
        go_simp
        go_at_call 12
        refine (HC1.out _ H0.out.rd H0.out.be H0.out.pt).mono ?_
        rintro e w1 ⟨vx, rfl, hx, hr, hb⟩
        go_wp2_with fail
        refine hK.out _ _ ?_ (fun hHeld1 => ?_)
        · exact trivial
        clear hK K hHeld
        have hHeld := hHeld1
        clear hHeld1
        have HX := hide hx
        have H1r := hide hr
        have H1b := hide hb
        clear hx hr hb
        have hne := H0.out.ne
        have hlq := H0.out.lq
        refine wpAnyH_ready (rs := [3]) (by kernel_rfl) (by simp) ?_
        refine AllReadyH.cons (o := _) rfl (fun K hK => ?_) AllReadyH.nil
        go_simp
        go_at_call 13
        refine (HC2.out w1 (cuG_bx H0.out.cu H1b.out (Ne.symm hne)) (below_bx H0.out.be H1b.out (Nat.le_refl _) H0.out.be.size)).mono ?_
        rintro e w2 ⟨vy, rfl, hy, hr, hb⟩
        go_wp2_with fail
        refine hK.out _ _ ?_ (fun hHeld1 => ?_)
        · exact trivial
        clear hK K hHeld
        have hHeld := hHeld1
        clear hHeld1
        have H3 := hide (show Two w w2 w.heap.size q (.slice ao l.length cap) l s2 from ⟨rdG_bx H1r.out hb hne, hr, HPT.out, below_bx (below_bx H0.out.be H1b.out (Nat.le_refl _) H0.out.be.size) hb H0.out.hq (Nat.le_trans H0.out.be.size H1b.out.size), H0.out.hp, H0.out.hq, hne, Nat.lt_of_lt_of_le hlq (Nat.le_trans H1b.out.size hb.size)⟩)
        replace HX := hide (isR_bx HX.out hb (by omega))
        have HY := hide hy
        clear hy hr hb H1r H1b H0
        have HSM := hide (rsame_any _ _ vx vy _ HX.out HY.out HLN.out)
        rw [sameR_self] at HSM
        refine wpAnyH_ready (rs := [4]) (by kernel_rfl) (by simp) ?_
        refine AllReadyH.cons (o := _) rfl (fun K hK => ?_) AllReadyH.nil
        go_simp
        go_at_call 11
        refine (HSM.out).mono ?_
        rintro e w4 ⟨rfl, hb4⟩
        go_wp2_with fail
        refine hK.out _ _ ?_ (fun hHeld1 => ?_)
        · exact trivial
        clear hK K hHeld
        have hHeld := hHeld1
        clear hHeld1
        have H4 := hide (H3.out.below hb4)
        clear hb4 H3 HSM HX HY HC1 HC2
        refine wpAnyH_take (i := 5) (oi := _) (v := .bool false) rfl (by kernel_rfl) (by kernel_rfl) (by kernel_rfl) (fun _ _ _ h => h) (Or.inl ⟨by rfl, by intro w hSw; go_simp⟩) hHeld ?_
        change wpAnyH _ _ _ _ _ _ _ (Act.put _ (some 31) _) _
        simp only [Act.put, List.setIfInBounds_toArray, List.set_cons_zero, List.set_cons_succ]
        refine wpAnyH_take (i := 6) (oi := _) (v := .bool false) rfl (by kernel_rfl) (by kernel_rfl) (by kernel_rfl) (fun _ _ _ h => h) (Or.inl ⟨by rfl, by intro w hSw; go_simp⟩) hHeld ?_
        change wpAnyH _ _ _ _ _ _ _ (Act.put _ (some 32) _) _
        simp only [Act.put, List.setIfInBounds_toArray, List.set_cons_zero, List.set_cons_succ]
        refine wpAnyH_take (i := 7) (oi := _) (v := .pointer (some ⟨w.heap.size, 0, none⟩)) rfl (by kernel_rfl) (by kernel_rfl) (by kernel_rfl) (fun _ _ _ h => h) (Or.inl ⟨by rfl, by intro w hSw; go_simp⟩) hHeld ?_
        change wpAnyH _ _ _ _ _ _ _ (Act.put _ (some 33) _) _
        simp only [Act.put, List.setIfInBounds_toArray, List.set_cons_zero, List.set_cons_succ]
        refine wpAnyH_take (i := 9) (oi := _) (v := .pointer (some ⟨q, 0, none⟩)) rfl (by kernel_rfl) (by kernel_rfl) (by kernel_rfl) (fun _ _ _ h => h) (Or.inl ⟨by rfl, by intro w hSw; go_simp⟩) hHeld ?_
        change wpAnyH _ _ _ _ _ _ _ (Act.put _ (some 35) _) _
        simp only [Act.put, List.setIfInBounds_toArray, List.set_cons_zero, List.set_cons_succ]
        refine wpAnyH_take (i := 10) (oi := _) (v := .pointer (some ⟨q, 0, none⟩)) rfl (by kernel_rfl) (by kernel_rfl) (by kernel_rfl) (fun _ _ _ h => h) (Or.inl ⟨by rfl, by intro w hSw; go_simp⟩) hHeld ?_
        change wpAnyH _ _ _ _ _ _ _ (Act.put _ (some 36) _) _
        simp only [Act.put, List.setIfInBounds_toArray, List.set_cons_zero, List.set_cons_succ]
        refine wpAnyH_take (i := 11) (oi := _) (v := .pointer (some ⟨q, 1, none⟩)) rfl (by kernel_rfl) (by kernel_rfl) (by kernel_rfl) (fun _ _ _ h => h) (Or.inl ⟨by rfl, by intro w hSw; go_simp⟩) hHeld ?_
        change wpAnyH _ _ _ _ _ _ _ (Act.put _ (some 37) _) _
        simp only [Act.put, List.setIfInBounds_toArray, List.set_cons_zero, List.set_cons_succ]
        refine wpAnyH_take (i := 12) (oi := _) (v := .pointer (some ⟨q, 1, none⟩)) rfl (by kernel_rfl) (by kernel_rfl) (by kernel_rfl) (fun _ _ _ h => h) (Or.inl ⟨by rfl, by intro w hSw; go_simp⟩) hHeld ?_
        change wpAnyH _ _ _ _ _ _ _ (Act.put _ (some 38) _) _
        simp only [Act.put, List.setIfInBounds_toArray, List.set_cons_zero, List.set_cons_succ]
        refine wpAnyH_ready (rs := [8, 13]) (by kernel_rfl) (by simp) ?_
        refine AllReadyH.cons (o := _) rfl (fun K hK => ?_) (AllReadyH.cons (o := _) rfl (fun K hK => ?_) AllReadyH.nil)
        · go_simp
          go_at_call 14
          refine (at_any _ _ _ _ _ H4.out.rd).mono ?_
          rintro e w5 ⟨rfl, hw5⟩
          go_wp2_with fail
          refine hK.out _ _ ?_ (fun hHeld1 => ?_)
          · exact trivial
          clear hK K hHeld
          have hHeld := hHeld1
          clear hHeld1
          clear hw5
          refine wpAnyH_ready (rs := [13]) (by kernel_rfl) (by simp) ?_
          refine AllReadyH.cons (o := _) rfl (fun K hK => ?_) AllReadyH.nil
          have i1 := H4.out.cu.c1
          go_simp
          clear i1
          refine hK.out _ _ ?_ (fun hHeld1 => ?_)
          · exact trivial
          clear hK K hHeld
          have hHeld := hHeld1
          clear hHeld1
          refine wpAnyH_take (i := 14) (oi := _) (v := .bool false) rfl (by kernel_rfl) (by kernel_rfl) (by kernel_rfl) (fun _ _ _ h => h) (Or.inl ⟨by rfl, by intro w hSw; go_simp⟩) hHeld ?_
          change wpAnyH _ _ _ _ _ _ _ (Act.put _ (some 40) _) _
          simp only [Act.put, List.setIfInBounds_toArray, List.set_cons_zero, List.set_cons_succ]
          refine wpAnyH_take (i := 15) (oi := _) (v := .bool false) rfl (by kernel_rfl) (by kernel_rfl) (by kernel_rfl) (fun _ _ _ h => h) (Or.inl ⟨by rfl, by intro w hSw; go_simp⟩) hHeld ?_
          change wpAnyH _ _ _ _ _ _ _ (Act.put _ (some 41) _) _
          simp only [Act.put, List.setIfInBounds_toArray, List.set_cons_zero, List.set_cons_succ]
          refine wpAnyH_done (by kernel_rfl) ?_ _
          clear hHeld
          go_wp2_with fail
          go_meet
          exact ⟨rfl, H4.out⟩
        · have i1 := H4.out.cu.c1
          go_simp
          clear i1
          refine hK.out _ _ ?_ (fun hHeld1 => ?_)
          · exact trivial
          clear hK K hHeld
          have hHeld := hHeld1
          clear hHeld1
          refine wpAnyH_ready (rs := [8]) (by kernel_rfl) (by simp) ?_
          refine AllReadyH.cons (o := _) rfl (fun K hK => ?_) AllReadyH.nil
          go_simp
          go_at_call 14
          refine (at_any _ _ _ _ _ H4.out.rd).mono ?_
          rintro e w5 ⟨rfl, hw5⟩
          go_wp2_with fail
          refine hK.out _ _ ?_ (fun hHeld1 => ?_)
          · exact trivial
          clear hK K hHeld
          have hHeld := hHeld1
          clear hHeld1
          clear hw5
          refine wpAnyH_take (i := 14) (oi := _) (v := .bool false) rfl (by kernel_rfl) (by kernel_rfl) (by kernel_rfl) (fun _ _ _ h => h) (Or.inl ⟨by rfl, by intro w hSw; go_simp⟩) hHeld ?_
          change wpAnyH _ _ _ _ _ _ _ (Act.put _ (some 40) _) _
          simp only [Act.put, List.setIfInBounds_toArray, List.set_cons_zero, List.set_cons_succ]
          refine wpAnyH_take (i := 15) (oi := _) (v := .bool false) rfl (by kernel_rfl) (by kernel_rfl) (by kernel_rfl) (fun _ _ _ h => h) (Or.inl ⟨by rfl, by intro w hSw; go_simp⟩) hHeld ?_
          change wpAnyH _ _ _ _ _ _ _ (Act.put _ (some 41) _) _
          simp only [Act.put, List.setIfInBounds_toArray, List.set_cons_zero, List.set_cons_succ]
          refine wpAnyH_done (by kernel_rfl) ?_ _
          clear hHeld
          go_wp2_with fail
          go_meet
          exact ⟨rfl, H4.out⟩
      case rest =>
        obtain ⟨rfl, h4⟩ := hcut
        have H4 := hide h4
        clear h4 H2 HC1 HC2 HLN HPT
        go_wp2_with fail
        go_roundw
        case rel => exact ⟨j + 1, s2, by omega, by go_num, H4.out⟩
        case measure => simp [intOf]; omega
    · have hge : ¬ (j : Int) < (N : Int) := by omega
      have HE := hide (cuend_gs q (.slice ao l.length cap) l s w wr H2.out.cu HV.out)
      rw [show (if s.pt < l.length then refS ⟨#[101, 110, 100]⟩ 5 s else s) = endS l s from rfl] at HE
      go_upto_region 13 with (first | (go_at_call 15; refine HE.out.mono ?_; rintro e w3 ⟨rfl, hc3, hb3⟩))
      have hne := H2.out.ne
      have hbe : Below w.heap.size w w3 := below_bx H2.out.be hb3 H2.out.hq H2.out.be.size
      have HEN := hide (fun W (hr : RdG W w.heap.size (.slice ao l.length cap) s) => rend_gs w.heap.size ao cap l s W hr)
      have hrd := rdG_bx H2.out.rd hb3 hne
      generalize endS l s = sE at *
      have HF : Hid (∀ W, CuG W q (.slice ao l.length cap) sE → (W.cell? ⟨q, 2, none⟩ = some (.int .i64 sE.c) ∧ W.cell? ⟨q, 3, none⟩ = some (.string sE.op) ∧ W.cell? ⟨q, 4, none⟩ = some (.int .i64 (whS sE)))) := hide (fun W h => ⟨h.c2, h.c3, h.c4⟩)
      have HC3 := hide hc3
      have HB3 := hide hbe
      have HR3 := hide hrd
      have HWR := hide (fun W (h : Hnd W) => wrong_gs sE W h)
      have HGB : Hid (∀ W, Below w.heap.size w W → Hnd W) := hide (fun W h => HG.out.below h)
      have HS0 : Hid ((CuG w3.drew q (.slice ao l.length cap) sE) ∧ Below w.heap.size w w3.drew) := hide ⟨HC3.out.below (Below.refl _ _).drew, HB3.out.trans ((Below.refl _ _).drew)⟩
      have HR4 := hide (HR3.out.below (Below.refl _ _).drew)
      clear hc3 hb3 hbe hrd HE H2 HR3
      refine wp_region_held_drew (S := fun W => (CuG W q (.slice ao l.length cap) sE) ∧ Below w.heap.size w W) (by kernel_rfl) HS0.out (fun hHeld => ?_)
      generalize w3.drew = W0 at HR4 hHeld ⊢
      clear HS0
      refine wpAnyH_take (i := 0) (oi := _) (v := .pointer (some ⟨w.heap.size, 0, none⟩)) rfl (by kernel_rfl) (by kernel_rfl) (by kernel_rfl) (fun _ _ _ h => h) (Or.inl ⟨by rfl, by intro w hSw; go_simp⟩) hHeld ?_
      change wpAnyH _ _ _ _ _ _ _ (Act.put _ (some 44) _) _
      simp only [Act.put, List.setIfInBounds_toArray, List.set_cons_zero, List.set_cons_succ]
      refine wpAnyH_take (i := 2) (oi := _) (v := .pointer (some ⟨q, 0, none⟩)) rfl (by kernel_rfl) (by kernel_rfl) (by kernel_rfl) (fun _ _ _ h => h) (Or.inl ⟨by rfl, by intro w hSw; go_simp⟩) hHeld ?_
      change wpAnyH _ _ _ _ _ _ _ (Act.put _ (some 46) _) _
      simp only [Act.put, List.setIfInBounds_toArray, List.set_cons_zero, List.set_cons_succ]
      refine wpAnyH_take (i := 3) (oi := _) (v := .pointer (some ⟨q, 0, none⟩)) rfl (by kernel_rfl) (by kernel_rfl) (by kernel_rfl) (fun _ _ _ h => h) (Or.inl ⟨by rfl, by intro w hSw; go_simp⟩) hHeld ?_
      change wpAnyH _ _ _ _ _ _ _ (Act.put _ (some 47) _) _
      simp only [Act.put, List.setIfInBounds_toArray, List.set_cons_zero, List.set_cons_succ]
      refine wpAnyH_take (i := 4) (oi := _) (v := .pointer (some ⟨q, 1, none⟩)) rfl (by kernel_rfl) (by kernel_rfl) (by kernel_rfl) (fun _ _ _ h => h) (Or.inl ⟨by rfl, by intro w hSw; go_simp⟩) hHeld ?_
      change wpAnyH _ _ _ _ _ _ _ (Act.put _ (some 48) _) _
      simp only [Act.put, List.setIfInBounds_toArray, List.set_cons_zero, List.set_cons_succ]
      refine wpAnyH_take (i := 5) (oi := _) (v := .pointer (some ⟨q, 3, none⟩)) rfl (by kernel_rfl) (by kernel_rfl) (by kernel_rfl) (fun _ _ _ h => h) (Or.inl ⟨by rfl, by intro w hSw; go_simp⟩) hHeld ?_
      change wpAnyH _ _ _ _ _ _ _ (Act.put _ (some 49) _) _
      simp only [Act.put, List.setIfInBounds_toArray, List.set_cons_zero, List.set_cons_succ]
      refine wpAnyH_take (i := 6) (oi := _) (v := .string sE.op) rfl (by kernel_rfl) (by kernel_rfl) (by kernel_rfl) (fun _ _ _ h => h) (Or.inl ⟨by rfl, by intro w hSw; have hc2 := hSw.1.c2; have hc3 := hSw.1.c3; have hc4 := hSw.1.c4; go_simp⟩) hHeld ?_
      change wpAnyH _ _ _ _ _ _ _ (Act.put _ (some 50) _) _
      simp only [Act.put, List.setIfInBounds_toArray, List.set_cons_zero, List.set_cons_succ]
      refine wpAnyH_take (i := 7) (oi := _) (v := .pointer (some ⟨q, 0, none⟩)) rfl (by kernel_rfl) (by kernel_rfl) (by kernel_rfl) (fun _ _ _ h => h) (Or.inl ⟨by rfl, by intro w hSw; go_simp⟩) hHeld ?_
      change wpAnyH _ _ _ _ _ _ _ (Act.put _ (some 51) _) _
      simp only [Act.put, List.setIfInBounds_toArray, List.set_cons_zero, List.set_cons_succ]
      refine wpAnyH_take (i := 8) (oi := _) (v := .pointer (some ⟨q, 0, none⟩)) rfl (by kernel_rfl) (by kernel_rfl) (by kernel_rfl) (fun _ _ _ h => h) (Or.inl ⟨by rfl, by intro w hSw; go_simp⟩) hHeld ?_
      change wpAnyH _ _ _ _ _ _ _ (Act.put _ (some 52) _) _
      simp only [Act.put, List.setIfInBounds_toArray, List.set_cons_zero, List.set_cons_succ]
      refine wpAnyH_take (i := 9) (oi := _) (v := .pointer (some ⟨q, 1, none⟩)) rfl (by kernel_rfl) (by kernel_rfl) (by kernel_rfl) (fun _ _ _ h => h) (Or.inl ⟨by rfl, by intro w hSw; go_simp⟩) hHeld ?_
      change wpAnyH _ _ _ _ _ _ _ (Act.put _ (some 53) _) _
      simp only [Act.put, List.setIfInBounds_toArray, List.set_cons_zero, List.set_cons_succ]
      refine wpAnyH_take (i := 10) (oi := _) (v := .pointer (some ⟨q, 4, none⟩)) rfl (by kernel_rfl) (by kernel_rfl) (by kernel_rfl) (fun _ _ _ h => h) (Or.inl ⟨by rfl, by intro w hSw; go_simp⟩) hHeld ?_
      change wpAnyH _ _ _ _ _ _ _ (Act.put _ (some 54) _) _
      simp only [Act.put, List.setIfInBounds_toArray, List.set_cons_zero, List.set_cons_succ]
      refine wpAnyH_take (i := 11) (oi := _) (v := .int .i64 (whS sE)) rfl (by kernel_rfl) (by kernel_rfl) (by kernel_rfl) (fun _ _ _ h => h) (Or.inl ⟨by rfl, by intro w hSw; have hc2 := hSw.1.c2; have hc3 := hSw.1.c3; have hc4 := hSw.1.c4; go_simp⟩) hHeld ?_
      change wpAnyH _ _ _ _ _ _ _ (Act.put _ (some 55) _) _
      simp only [Act.put, List.setIfInBounds_toArray, List.set_cons_zero, List.set_cons_succ]
      refine wpAnyH_take (i := 12) (oi := _) (v := .pointer (some ⟨q, 0, none⟩)) rfl (by kernel_rfl) (by kernel_rfl) (by kernel_rfl) (fun _ _ _ h => h) (Or.inl ⟨by rfl, by intro w hSw; go_simp⟩) hHeld ?_
      change wpAnyH _ _ _ _ _ _ _ (Act.put _ (some 56) _) _
      simp only [Act.put, List.setIfInBounds_toArray, List.set_cons_zero, List.set_cons_succ]
      refine wpAnyH_take (i := 13) (oi := _) (v := .pointer (some ⟨q, 0, none⟩)) rfl (by kernel_rfl) (by kernel_rfl) (by kernel_rfl) (fun _ _ _ h => h) (Or.inl ⟨by rfl, by intro w hSw; go_simp⟩) hHeld ?_
      change wpAnyH _ _ _ _ _ _ _ (Act.put _ (some 57) _) _
      simp only [Act.put, List.setIfInBounds_toArray, List.set_cons_zero, List.set_cons_succ]
      refine wpAnyH_take (i := 14) (oi := _) (v := .pointer (some ⟨q, 1, none⟩)) rfl (by kernel_rfl) (by kernel_rfl) (by kernel_rfl) (fun _ _ _ h => h) (Or.inl ⟨by rfl, by intro w hSw; go_simp⟩) hHeld ?_
      change wpAnyH _ _ _ _ _ _ _ (Act.put _ (some 58) _) _
      simp only [Act.put, List.setIfInBounds_toArray, List.set_cons_zero, List.set_cons_succ]
      refine wpAnyH_take (i := 15) (oi := _) (v := .pointer (some ⟨q, 2, none⟩)) rfl (by kernel_rfl) (by kernel_rfl) (by kernel_rfl) (fun _ _ _ h => h) (Or.inl ⟨by rfl, by intro w hSw; go_simp⟩) hHeld ?_
      change wpAnyH _ _ _ _ _ _ _ (Act.put _ (some 59) _) _
      simp only [Act.put, List.setIfInBounds_toArray, List.set_cons_zero, List.set_cons_succ]
      refine wpAnyH_take (i := 16) (oi := _) (v := .int .i64 sE.c) rfl (by kernel_rfl) (by kernel_rfl) (by kernel_rfl) (fun _ _ _ h => h) (Or.inl ⟨by rfl, by intro w hSw; have hc2 := hSw.1.c2; have hc3 := hSw.1.c3; have hc4 := hSw.1.c4; go_simp⟩) hHeld ?_
      change wpAnyH _ _ _ _ _ _ _ (Act.put _ (some 60) _) _
      simp only [Act.put, List.setIfInBounds_toArray, List.set_cons_zero, List.set_cons_succ]
      refine wpAnyH_take (i := 17) (oi := _) (v := .agg #[.string sE.op, .int .i64 (whS sE), .int .i64 sE.c]) rfl (by kernel_rfl) (by kernel_rfl) (by kernel_rfl) (fun _ _ _ h => h) (Or.inl ⟨by rfl, by intro w hSw; go_simp⟩) hHeld ?_
      change wpAnyH _ _ _ _ _ _ _ (Act.put _ (some 61) _) _
      simp only [Act.put, List.setIfInBounds_toArray, List.set_cons_zero, List.set_cons_succ]
      refine wpAnyH_ready (rs := [1]) (by kernel_rfl) (by simp) ?_
      refine AllReadyH.cons (o := _) rfl (fun K hK => ?_) AllReadyH.nil
      go_simp
      go_at_call 17
      refine (HEN.out W0 HR4.out).mono ?_
      rintro e w4 ⟨rfl, hr4, hb4⟩
      go_wp2_with fail
      refine hK.out _ _ ?_ (fun hHeld1 => ?_)
      · exact ⟨cuG_bx hHeld.1 hb4 (Ne.symm hne), below_bx hHeld.2 hb4 (Nat.le_refl _) hHeld.2.size⟩
      clear hK K hHeld
      have hHeld := hHeld1
      clear hHeld1
      clear hr4 hb4 HR4
      refine wpAnyH_ready (rs := [18]) (by kernel_rfl) (by simp) ?_
      refine AllReadyH.cons (o := _) rfl (fun K hK => ?_) AllReadyH.nil
      go_simp
      go_at_call 16
      refine (HWR.out _ (HGB.out _ hHeld.2)).mono ?_
      rintro e w5 ⟨rfl, hb5⟩
      go_wp2_with fail
      refine hK.out _ _ ?_ (fun hHeld1 => ?_)
      · exact ⟨hHeld.1.below hb5, hHeld.2.trans (hb5.mono hHeld.2.size)⟩
      clear hK K hHeld
      have hHeld := hHeld1
      clear hHeld1
      clear hb5
      refine wpAnyH_take (i := 19) (oi := _) (v := .bool true) rfl (by kernel_rfl) (by kernel_rfl) (by kernel_rfl) (fun _ _ _ h => h) (Or.inl ⟨by rfl, by intro w hSw; go_simp⟩) hHeld ?_
      change wpAnyH _ _ _ _ _ _ _ (Act.put _ (some 63) _) _
      simp only [Act.put, List.setIfInBounds_toArray, List.set_cons_zero, List.set_cons_succ]
      refine wpAnyH_ready (rs := [20]) (by kernel_rfl) (by simp) ?_
      refine AllReadyH.cons (o := _) rfl (fun K hK => ?_) AllReadyH.nil
      go_simp
      go_at_call 9
      refine (HWK.out _ hHeld.2).mono ?_
      rintro e w6 ⟨rfl, hb6⟩
      go_wp2_with fail
      refine hK.out _ _ ?_ (fun hHeld1 => ?_)
      · exact ⟨hHeld.1.below hb6, hHeld.2.trans (hb6.mono hHeld.2.size)⟩
      clear hK K hHeld
      have hHeld := hHeld1
      clear hHeld1
      clear hb6
      refine wpAnyH_take (i := 21) (oi := _) (v := .bool true) rfl (by kernel_rfl) (by kernel_rfl) (by kernel_rfl) (fun _ _ _ h => h) (Or.inl ⟨by rfl, by intro w hSw; go_simp⟩) hHeld ?_
      change wpAnyH _ _ _ _ _ _ _ (Act.put _ (some 65) _) _
      simp only [Act.put, List.setIfInBounds_toArray, List.set_cons_zero, List.set_cons_succ]
      refine wpAnyH_take (i := 22) (oi := _) (v := .bool true) rfl (by kernel_rfl) (by kernel_rfl) (by kernel_rfl) (fun _ _ _ h => h) (Or.inl ⟨by rfl, by intro w hSw; go_simp⟩) hHeld ?_
      change wpAnyH _ _ _ _ _ _ _ (Act.put _ (some 4) _) _
      simp only [Act.put, List.setIfInBounds_toArray, List.set_cons_zero, List.set_cons_succ]
      refine wpAnyH_done (by kernel_rfl) ?_ _
      have HBF := hide hHeld.2
      clear hHeld
      go_wp2_with fail
      go_ret
      exact ⟨rfl, HBF.out⟩
set_option maxRecDepth 100000 in
set_option maxHeartbeats 4000000 in
theorem rreads_long (ao : Option Addr) (cap L : Nat) (n : Int) (w : World) (hl : 1500 < L) (hg : Hnd w) :
    Calls Tryz.prog 3 #[.slice ao L cap, .int .u8 n] w fun e w' => e = .returned (.bool true) ∧ Below w.heap.size w w' := by
  have hlI : (1500 : Int) < (L : Int) := by omega
  have HW := hide (works_any w hg)
  clear hg
  go_enter Tryz.func3, Tryz.ntmps3
  go_wp2_with (first | (go_at_call 9; refine HW.out.mono ?_; rintro e w1 ⟨rfl, hb1⟩))
  go_ret
  exact ⟨rfl, hb1⟩
/-- RecordReads answers true. -/
theorem rreads_law (v : Value) (l : List Int) (n : Int) (w : World) (hv : Sl bc w v l) (hby : Byt l) (hn : 0 ≤ n ∧ n ≤ 255) (hg : Hnd w) :
    Calls Tryz.prog 3 #[v, .int .u8 n] w fun e w' => e = .returned (.bool true) ∧ Below w.heap.size w w' := by
  obtain ⟨ao, cap, rfl⟩ := hv.form
  by_cases hl : l.length ≤ 1500
  · exact rreads_go ao cap l n w hv hby hl hn hg
  · exact rreads_long ao cap l.length n w (by omega) hg
end Go.Proofs.YtgbcjmpnkejpeaaGreatDoor
