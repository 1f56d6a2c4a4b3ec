/-
  SpansParts' WALK: two logs that are the same up to some place: asked by the other's end they part, and cut back they part no more. Conditions: the steps are bytes.
-/
import Derived.Test.YtkihdceieljkgaaSpT
import Derived.Test.YtkihdceieljkgaaSpW
namespace Go.Proofs.Ytkihdceieljkgaa
open Go.RowKit

theorem cut_bt (ao : Option Addr) (n cap k : Nat) (hk : k ≤ cap) (W : World) : (Instr.slice 32 (.slice ao n cap) none (some (.int .i64 (k : Int))) none).run Try.prog W = .ok (.slice ao k cap) W := by
  have h1 : (k : Int) ≤ (cap : Int) := by omega
  cases ao with
  | none => simp [Instr.slice, go_sem, h1]
  | some a => simp [Instr.slice, go_sem, h1]
theorem ofL_len (base t : Int) (ts : List Int) : (ofL base t ts).length ≤ ts.length + 1 := spk_len base t ts ts.length
theorem lastN_at {C : List Int} {m : Nat} (h : m < C.length) : lastN C (m + 1) = C[m] := by
  unfold lastN
  rw [if_neg (by omega), Nat.add_sub_cancel, List.getElem?_eq_getElem h]
  rfl
theorem rw_newS (w : World) : Rw w.heap.size (w.alloc (.cells #[] 5)) (.slice (some ⟨w.heap.size, 0, none⟩) 0 0) 0 [] :=
  ⟨Nat.le_refl _, Nat.zero_le _, .inr ⟨w.heap.size, rfl, Nat.le_refl _, Array.getElem?_push_size⟩⟩
set_option maxRecDepth 100000 in
set_option maxHeartbeats 16000000 in
theorem parts_over (vb vm vo : Value) (lb lm lo : List Int) (w : World) (hb : Sl u8v w vb lb) (hm : Sl u8v w vm lm) (ho : Sl u8v w vo lo) (h : 60 < lb.length ∨ 60 < lm.length ∨ 60 < lo.length) : Calls Try.prog 5 #[vb, vm, vo] w fun e w' => e = .returned (.bool true) ∧ Below w.heap.size w w' := by
  have HWK := hide (fun W => works_any W)
  obtain ⟨ab, cb, rfl⟩ := hb.form
  obtain ⟨am, cm, rfl⟩ := hm.form
  obtain ⟨ao, co, rfl⟩ := ho.form
  clear hb hm ho
  by_cases h1 : 60 < lb.length
  · have h1I : (60 : Int) < (lb.length : Int) := by omega
    clear h
    go_enter Try.func5, Try.ntmps5
    go_wp2_with (first | (go_at_call 7; refine (HWK.out _).mono ?_; rintro e W2 ⟨rfl, hb⟩; have HB := hide hb; clear hb HWK))
    go_ret
    exact ⟨rfl, HB.out⟩
  · have h1I : ¬ (60 : Int) < (lb.length : Int) := by omega
    have h1J : (lb.length : Int) ≤ 60 := by omega
    by_cases h2 : 60 < lm.length
    · have h2I : (60 : Int) < (lm.length : Int) := by omega
      clear h
      go_enter Try.func5, Try.ntmps5
      go_wp2_with (first | (go_at_call 7; refine (HWK.out _).mono ?_; rintro e W2 ⟨rfl, hb⟩; have HB := hide hb; clear hb HWK))
      go_ret
      exact ⟨rfl, HB.out⟩
    · have h2I : ¬ (60 : Int) < (lm.length : Int) := by omega
      have h2J : (lm.length : Int) ≤ 60 := by omega
      have h3I : (60 : Int) < (lo.length : Int) := by omega
      clear h
      go_enter Try.func5, Try.ntmps5
      go_wp2_with (first | (go_at_call 7; refine (HWK.out _).mono ?_; rintro e W2 ⟨rfl, hb⟩; have HB := hide hb; clear hb HWK))
      go_ret
      exact ⟨rfl, HB.out⟩
set_option maxRecDepth 100000 in
set_option maxHeartbeats 64000000 in
theorem parts_go (vb vm vo : Value) (lb lm lo : List Int) (w : World) (hb : Sl u8v w vb lb) (hm : Sl u8v w vm lm) (ho : Sl u8v w vo lo) (yb : ∀ x ∈ lb, 0 ≤ x ∧ x ≤ 255) (ym : ∀ x ∈ lm, 0 ≤ x ∧ x ≤ 255) (yo : ∀ x ∈ lo, 0 ≤ x ∧ x ≤ 255) (h1 : lb.length ≤ 60) (h2 : lm.length ≤ 60) (h3 : lo.length ≤ 60) : Calls Try.prog 5 #[vb, vm, vo] w fun e w' => e = .returned (.bool true) ∧ Below w.heap.size w w' := by
  have HWK := hide (fun W => works_any W)
  have HTW := hide (two_of h1 h2 h3)
  have HB := hide hb
  have HM := hide hm
  have HO := hide ho
  have YB := hide yb
  have YM := hide (fun x (h : x ∈ lb ++ lm) => (List.mem_append.1 h).elim (yb x) (ym x))
  have YO := hide (fun x (h : x ∈ lb ++ lo) => (List.mem_append.1 h).elim (yb x) (yo x))
  have HLB := hide (risT_len lb)
  have HLA := hide (risT_len (lb ++ lm))
  have HLC := hide (risT_len (lb ++ lo))
  have HN1 := hide (And.intro h1 (And.intro h2 h3))
  obtain ⟨ab, cb, rfl⟩ := hb.form
  obtain ⟨am, cm, rfl⟩ := hm.form
  obtain ⟨ao, co, rfl⟩ := ho.form
  clear hb hm ho yb ym yo
  have h1I : ¬ (60 : Int) < (lb.length : Int) := by omega
  have h1J : (lb.length : Int) ≤ 60 := by omega
  have h2I : ¬ (60 : Int) < (lm.length : Int) := by omega
  have h2J : (lm.length : Int) ≤ 60 := by omega
  have h3I : ¬ (60 : Int) < (lo.length : Int) := by omega
  have h3J : (lo.length : Int) ≤ 60 := by omega
  go_enter Try.func5, Try.ntmps5
  go_upto_region 4 with (first | (go_at_call 14; refine (rising_any _ lb _ HB.out YB.out (by omega)).mono ?_; rintro e W1 ⟨v1, rfl, hv1, hb⟩; have HV1 := hide hv1.form; have BE := hide hb; replace HB := hide (HB.out.below hb); replace HM := hide (HM.out.below hb); replace HO := hide (HO.out.below hb); clear hb hv1))
  obtain ⟨a1, k1, rfl⟩ := HV1.out
  clear HV1
  have HSZ1 := hide BE.out.size
  have hal1 : Below W1.heap.size W1 (W1.alloc (.cells #[] 5)) := (Below.refl _ _).alloc (Nat.le_refl _) _
  have HR1 := hide (rw_newS W1)
  have HAL := hide hal1
  clear hal1
  go_upto_region 5 with (first
    | (at_builtin; refine wpList_append_sl _ rfl _ _ rfl W1.heap.size _ 0 [] rfl HR1.out HAL.out.size _ lb rfl (HB.out.below HAL.out) (by omega) ?_; intro w1 v1 cur1 hp1; have HP1 := hide hp1; clear hp1 HR1)
    | (at_builtin; refine wpList_append_sl _ rfl _ _ rfl W1.heap.size _ (0 + lb.length) cur1 rfl HP1.out.rw (HAL.out.trans HP1.out.below).size _ lm rfl (HM.out.below (HAL.out.trans HP1.out.below)) (by omega) ?_; intro w2 v2 cur2 hp2; have HP2 := hide (app_two HP1.out hp2); clear hp2 HP1)
    | (go_at_call 14; refine (rising_any _ (lb ++ lm) _ HP2.out.1 YM.out (by rw [List.length_append]; omega)).mono ?_; rintro e W2 ⟨v3, rfl, hv3, hb⟩; have HA := hide hv3; have hb2 := bt (HAL.out.trans HP2.out.2) hb; replace BE := hide (bt BE.out hb2); replace HB := hide (HB.out.below hb2); replace HO := hide (HO.out.below hb2); clear hb hb2 hv3 HM))
  rw [HLB.out]
  have hal2 : Below W2.heap.size W2 (W2.alloc (.cells #[] 5)) := (Below.refl _ _).alloc (Nat.le_refl _) _
  have HR2 := hide (rw_newS W2)
  have HAL2 := hide hal2
  have HAF := hide (And.intro HP2.out.2.size HAL.out.size)
  clear hal2 HAL
  go_upto_region 6 with (first
    | (at_builtin; refine wpList_append_sl _ rfl _ _ rfl W2.heap.size _ 0 [] rfl HR2.out HAL2.out.size _ lb rfl (HB.out.below HAL2.out) (by omega) ?_; intro w3 v4 cur3 hp3; have HP3 := hide hp3; clear hp3 HR2)
    | (at_builtin; refine wpList_append_sl _ rfl _ _ rfl W2.heap.size _ (0 + lb.length) cur3 rfl HP3.out.rw (HAL2.out.trans HP3.out.below).size _ lo rfl (HO.out.below (HAL2.out.trans HP3.out.below)) (by omega) ?_; intro w4 v5 cur4 hp4; have HP4 := hide (app_two HP3.out hp4); clear hp4 HP3)
    | (go_at_call 14; refine (rising_any _ (lb ++ lo) _ HP4.out.1 YO.out (by rw [List.length_append]; omega)).mono ?_; rintro e W3 ⟨v6, rfl, hv6, hb⟩; have HC := hide hv6; have hb2 := bt (HAL2.out.trans HP4.out.2) hb; have HA3 := hide (HA.out.below hb2); have HSZ := hide (HAL2.out.trans HP4.out.2).size; have BE3 := hide (bt BE.out hb2); clear hb hb2 hv6 HB HO))
  have HP : Hid (lb.length ≤ (risT (lb ++ lm)).length ∧ lb.length ≤ (risT (lb ++ lo)).length ∧ (risT (lb ++ lm)).length ≤ 120 ∧ (risT (lb ++ lo)).length ≤ 120) := hide (by
    have := HLA.out
    have := HLC.out
    rw [List.length_append] at *
    omega)
  have HWA : Hid (w.heap.size ≤ w2.heap.size) := hide (by have := HAF.out; have := HSZ1.out; omega)
  have HWC : Hid (w.heap.size ≤ w4.heap.size) := hide (by have := HSZ.out; have := BE.out.size; omega)
  have HNE : Hid (∀ g, v6.ownBlock = some g → v3.ownBlock ≠ some g) := hide (fun g e e2 => by
    have h1 := HA.out.lt g e2
    have h2 := HC.out.lt g e
    have := HSZ.out
    omega)
  have XA : Hid (∀ x ∈ risT (lb ++ lm), 1 ≤ x ∧ x ≤ 241) := hide (fun x hx => by have := risT_mem hx; rw [List.length_append] at this; omega)
  have XC : Hid (∀ x ∈ risT (lb ++ lo), 1 ≤ x ∧ x ≤ 241) := hide (fun x hx => by have := risT_mem hx; rw [List.length_append] at this; omega)
  rw [← HLA.out, ← HLC.out] at HTW
  clear HA BE HLA HLC HLB HP2 HP4 HAL2 YB YM YO HN1 HAF HSZ1 HSZ
  obtain ⟨aa, ka, ea⟩ := HA3.out.form
  obtain ⟨ac, kc, ec⟩ := HC.out.form
  generalize w2.heap.size = BA at *
  generalize w4.heap.size = BC at *
  generalize risT (lb ++ lm) = TA at *
  generalize risT (lb ++ lo) = TC at *
  generalize lb.length = P at *
  subst ea
  subst ec
  obtain ⟨nA, hnA⟩ : ∃ n, TA.length = n := ⟨_, rfl⟩
  obtain ⟨nC, hnC⟩ : ∃ n, TC.length = n := ⟨_, rfl⟩
  have HNA := hide hnA
  have HNC := hide hnC
  rw [hnA] at HTW HP HNE HA3 ⊢
  rw [hnC] at HTW HP HNE HC ⊢
  clear hnA hnC
  have hnA1 : nA ≤ 120 := HP.out.2.2.1
  have hnC1 : nC ≤ 120 := HP.out.2.2.2
  go_wp2
  go_loopw [10] (fun i W => ∃ k : Nat, P ≤ k ∧ k ≤ nC ∧ i = .int .i64 k ∧ Bow W BC (.slice ac nC kc) (bumpK TC P 1000 k) ∧ Bow W BA (.slice aa nA ka) TA ∧ Below w.heap.size w W) (fun i _ => nC - (ivS i).toNat)
  case atStart => exact ⟨P, Nat.le_refl _, HP.out.2.1, rfl, by rw [bumpK_none]; exact HC.out, HA3.out, BE3.out⟩
  case round =>
    clear HC HA3 BE3
    obtain ⟨k, hPk, hk, rfl, hc, ha, hb⟩ := hrel
    have HC := hide hc
    have HA := hide ha
    have BE := hide hb
    clear hc ha hb
    by_cases hlt : k < nC
    · have hlt2 : k < (bumpK TC P 1000 k).length := by rw [bumpK_len, HNC.out]; exact hlt
      have hlt3 : k < TC.length := by rw [HNC.out]; exact hlt
      obtain ⟨g, cap, e, -, hg1, hg2, hfz⟩ := HC.out.two hlt2
      obtain rfl := (Value.slice.inj e).1
      clear e
      have c0 := HC.out.cell hlt2
      rw [bumpK_get hlt3] at c0
      obtain ⟨hx1, hx2⟩ := XC.out _ (List.getElem_mem hlt3)
      have HST := hide (bumpK_step (d := 1000) hPk hlt3)
      have hf := hfz (k * 3)
      clear hfz
      have HBS := hide (HC.out.set hlt2 (TC[k] + 1000))
      rw [HST.out] at HBS
      have HAS := hide (HA.out.other (HNE.out g rfl) (k * 3) (.int .i64 (TC[k] + 1000)))
      have HBE := hide (BE.out.setCell (p := ⟨g, k * 3, none⟩) (Nat.le_trans HWC.out hg1) (.int .i64 (TC[k] + 1000)))
      clear HST HC HA BE
      generalize TC[k] = x at *
      have hltI : (k : Int) < (nC : Int) := by omega
      go_wp2
      exact ⟨⟨k + 1, by omega, by omega, by go_num, HBS.out, HAS.out, HBE.out⟩, by simp [ivS]; omega⟩
    · obtain rfl : nC = k := by omega
      go_wp2
      go_loopw [11] (fun i W => ∃ k : Nat, P ≤ k ∧ k ≤ nA ∧ i = .int .i64 k ∧ Bow W BA (.slice aa nA ka) (bumpK TA P 500 k) ∧ Bow W BC (.slice ac nC kc) (bumpK TC P 1000 nC) ∧ Below w.heap.size w W) (fun i _ => nA - (ivS i).toNat)
      case atStart => exact ⟨P, Nat.le_refl _, HP.out.1, rfl, by rw [bumpK_none]; exact HA.out, HC.out, BE.out⟩
      case round =>
        clear HC HA BE
        obtain ⟨k, hPk, hk, rfl, ha, hc, hb⟩ := hrel
        have HC := hide hc
        have HA := hide ha
        have BE := hide hb
        clear hc ha hb
        by_cases hlt : k < nA
        · have hlt2 : k < (bumpK TA P 500 k).length := by rw [bumpK_len, HNA.out]; exact hlt
          have hlt3 : k < TA.length := by rw [HNA.out]; exact hlt
          obtain ⟨g, cap, e, -, hg1, hg2, hfz⟩ := HA.out.two hlt2
          obtain rfl := (Value.slice.inj e).1
          clear e
          have c0 := HA.out.cell hlt2
          rw [bumpK_get hlt3] at c0
          obtain ⟨hx1, hx2⟩ := XA.out _ (List.getElem_mem hlt3)
          have HST := hide (bumpK_step (d := 500) hPk hlt3)
          have hf := hfz (k * 3)
          clear hfz
          have HBS := hide (HA.out.set hlt2 (TA[k] + 500))
          rw [HST.out] at HBS
          have HAS := hide (HC.out.other (fun e => HNE.out g e rfl) (k * 3) (.int .i64 (TA[k] + 500)))
          have HBE := hide (BE.out.setCell (p := ⟨g, k * 3, none⟩) (Nat.le_trans HWA.out hg1) (.int .i64 (TA[k] + 500)))
          clear HST HC HA BE
          generalize TA[k] = x at *
          have hltI : (k : Int) < (nA : Int) := by omega
          go_wp2
          exact ⟨⟨k + 1, by omega, by omega, by go_num, HBS.out, HAS.out, HBE.out⟩, by simp [ivS]; omega⟩
        · obtain rfl : nA = k := by omega
          have NA : Hid ((bumpK TA P 500 nA).length = nA) := hide (by rw [bumpK_len, HNA.out])
          have NC : Hid ((bumpK TC P 1000 nC).length = nC) := hide (by rw [bumpK_len, HNC.out])
          have SA := hide HA.out.sbt
          have SC := hide HC.out.sbt
          clear HA HC XA XC HNE HNA HNC
          generalize bumpK TA P 500 nA = A at *
          generalize bumpK TC P 1000 nC = C at *
          have hPA : P ≤ nA := HP.out.1
          have hPC : P ≤ nC := HP.out.2.1
          have hPAI : ¬ (nA : Int) < (P : Int) := by omega
          have hPAD : decide ((nA : Int) < (P : Int)) = false := decide_eq_false hPAI
          go_upto_region 15 with (first
            | (go_at_call 15; refine (of_any 0 0 _ A _ SA.out (by rw [NA.out]; omega) (by omega) (by omega)).mono ?_; rintro e W4 ⟨vx, rfl, hx, hb⟩; have SX := hide hx.ssp; have SA4 := hide (SA.out.below hb); replace SC := hide (SC.out.below hb); replace BE := hide (bt BE.out hb); clear hb hx SA)
            | (go_at_call 15; refine (of_any 0 0 _ C _ SC.out (by rw [NC.out]; omega) (by omega) (by omega)).mono ?_; rintro e W5 ⟨vy, rfl, hx, hb⟩; have SY := hide hx.ssp; have SA := hide (SA4.out.below hb); replace SC := hide (SC.out.below hb); replace SX := hide (SX.out.below hb); have BE5 := hide (bt BE.out hb); clear hb hx SA4 BE))
          have LX : Hid ((ofL 0 0 A).length ≤ 100000) := hide (Nat.le_trans (ofL_len _ _ _) (by rw [NA.out]; omega))
          have LY : Hid (∀ E, (ofL 0 0 (C.take E)).length ≤ 100000) := hide (fun E => Nat.le_trans (ofL_len _ _ _) (by rw [List.length_take]; have := NC.out; omega))
          obtain ⟨hkc, hSCa⟩ : nC ≤ kc ∧ True := by
            obtain ⟨_, _, e, hcc, _⟩ := SC.out
            cases e
            rw [NC.out] at hcc
            exact ⟨hcc, trivial⟩
          clear hSCa
          go_wp2
          go_loopw [13, 14, 15] (fun y e n W => ∃ E k : Nat, n = .int .i64 k ∧ e = .int .i64 E ∧ ((k = 0 ∧ E = nC) ∨ (k = 1 ∧ E = P)) ∧ Ssp W y (ofL 0 0 (C.take E)) ∧ Below W5.heap.size W5 W) (fun _ _ n _ => 200 - (ivS n).toNat)
          case atStart => exact ⟨nC, 0, rfl, rfl, .inl ⟨rfl, rfl⟩, by rw [← NC.out, List.take_length]; exact SY.out, Below.refl _ _⟩
          case round =>
            clear SY
            obtain ⟨E, k, rfl, rfl, hEk, hy, hb⟩ := hrel
            have HY := hide hy
            have HB := hide hb
            clear hy hb
            have hk200 : (k : Int) < 200 := by omega
            by_cases hEP : E = P
            · obtain rfl : P = E := hEP.symm
              clear hEk
              by_cases h0 : P = 0
              · have hP0 : ¬ (0 : Int) < (P : Int) := by omega
                have hP1 : (P : Int) ≤ 0 := by omega
                have hP2 : ((P : Int) == 0) = true := by simp [h0]
                clear h0
                obtain ⟨p0, p1, p2, hpt⟩ : ∃ p0 p1 p2, partL (ofL 0 0 A) (nA : Int) 0 (P : Int) = (p0, p1, p2) := ⟨_, _, _, rfl⟩
                have HPT := hide hpt
                clear hpt
                cases p2 with
                | false =>
                  go_wp2_with (first | (go_at_call 10; refine (part_any _ (ofL 0 0 A) _ _ _ _ (SX.out.below HB.out) LX.out).mono ?_; rw [HPT.out]; rintro e W6 ⟨rfl, hb⟩; replace HY := hide (HY.out.below hb); replace HB := hide (bt HB.out hb); clear hb))
                  go_loopw [21] (fun i W => ∃ q : Nat, q ≤ P ∧ i = .int .i64 q ∧ Below W5.heap.size W5 W) (fun i _ => P - (ivS i).toNat)
                  case atStart => exact ⟨0, Nat.zero_le _, rfl, HB.out⟩
                  case round =>
                    clear HB
                    obtain ⟨q, hq, rfl, hb⟩ := hrel
                    have HB := hide hb
                    clear hb
                    by_cases hlt : q < P
                    · exact absurd hlt (by omega)
                    · obtain rfl : P = q := by omega
                      have hPge : (0 : Int) ≤ (P : Int) := by omega
                      go_wp2_with (first | (go_at_call 7; refine (HWK.out _).mono ?_; rintro e W9 ⟨rfl, hb⟩; replace HB := hide (bt HB.out hb); clear hb))
                      go_ret
                      exact ⟨rfl, bt BE5.out HB.out⟩
                | true =>
                  go_wp2_with (first | (go_at_call 10; refine (part_any _ (ofL 0 0 A) _ _ _ _ (SX.out.below HB.out) LX.out).mono ?_; rw [HPT.out]; rintro e W6 ⟨rfl, hb⟩; replace HY := hide (HY.out.below hb); replace HB := hide (bt HB.out hb); clear hb))
                  go_loopw [21] (fun i W => ∃ q : Nat, q ≤ P ∧ i = .int .i64 q ∧ Below W5.heap.size W5 W) (fun i _ => P - (ivS i).toNat)
                  case atStart => exact ⟨0, Nat.zero_le _, rfl, HB.out⟩
                  case round =>
                    clear HB
                    obtain ⟨q, hq, rfl, hb⟩ := hrel
                    have HB := hide hb
                    clear hb
                    by_cases hlt : q < P
                    · exact absurd hlt (by omega)
                    · obtain rfl : P = q := by omega
                      have hPge : (0 : Int) ≤ (P : Int) := by omega
                      go_wp2_with (first | (go_at_call 7; refine (HWK.out _).mono ?_; rintro e W9 ⟨rfl, hb⟩; replace HB := hide (bt HB.out hb); clear hb))
                      go_ret
                      exact ⟨rfl, bt BE5.out HB.out⟩
              · have hpos : 0 < P := by omega
                have hP0 : (0 : Int) < (P : Int) := by omega
                obtain ⟨m, hm⟩ : ∃ m, P = m + 1 := ⟨P - 1, by omega⟩
                have hP1 : (P : Int) - 1 = (m : Int) := by omega
                have hmC : m < nC := by omega
                have hmI : (m : Int) < (nC : Int) := by omega
                obtain ⟨za, zo, zc, e, -, d9⟩ := (SC.out.below HB.out).at (k := m) (by rw [NC.out]; exact hmC)
                obtain rfl := (Value.slice.inj e).1
                clear e
                have hpt := two_on HTW.out hpos
                rw [NA.out, show lastN C P = C[m]'(by rw [NC.out]; exact hmC) by rw [hm]; exact lastN_at _] at hpt
                have HPT := hide hpt
                clear hpt h0 hpos hm
                obtain ⟨x9, hx9⟩ : ∃ x, C[m]'(by rw [NC.out]; exact hmC) = x := ⟨_, rfl⟩
                rw [hx9] at d9 HPT
                clear hx9
                go_wp2_with (first | (go_at_call 10; refine (part_any _ (ofL 0 0 A) _ _ _ _ (SX.out.below HB.out) LX.out).mono ?_; rw [HPT.out]; rintro e W6 ⟨rfl, hb⟩; replace HY := hide (HY.out.below hb); replace HB := hide (bt HB.out hb); clear hb))
                clear d9 hP1 hmC hmI
                go_loopw [21] (fun i W => ∃ q : Nat, q ≤ P ∧ i = .int .i64 q ∧ Below W5.heap.size W5 W) (fun i _ => P - (ivS i).toNat)
                case atStart => exact ⟨0, Nat.zero_le _, rfl, HB.out⟩
                case round =>
                  clear HB
                  obtain ⟨q, hq, rfl, hb⟩ := hrel
                  have HB := hide hb
                  clear hb
                  by_cases hlt : q < P
                  · have hqa : q < nA := by omega
                    have hqc : q < nC := by omega
                    obtain ⟨xa, xo, xc, e, -, d0⟩ := (SA.out.below HB.out).at (k := q) (by rw [NA.out]; exact hqa)
                    cases (Value.slice.inj e).1
                    clear e
                    obtain ⟨za, zo, zc, e, -, d1⟩ := (SC.out.below HB.out).at (k := q) (by rw [NC.out]; exact hqc)
                    cases (Value.slice.inj e).1
                    clear e
                    have HSM := HTW.out.same q hlt
                    obtain ⟨x, hx⟩ : ∃ x, A[q]'(by rw [NA.out]; exact hqa) = x := ⟨_, rfl⟩
                    rw [hx] at d0
                    rw [← HSM, hx] at d1
                    clear hx HSM
                    have hltI : (q : Int) < (P : Int) := by omega
                    have hqaI : (q : Int) < (nA : Int) := by omega
                    have hqcI : (q : Int) < (nC : Int) := by omega
                    have hne : (x != x) = false := by simp
                    go_wp2
                    go_quiet (fail)
                    go_wp2
                    exact ⟨⟨q + 1, by omega, by go_num, below_drewN HB.out _⟩, by simp [ivS]; omega⟩
                  · obtain rfl : P = q := by omega
                    have hPge : (0 : Int) ≤ (P : Int) := by omega
                    go_wp2_with (first | (go_at_call 7; refine (HWK.out _).mono ?_; rintro e W9 ⟨rfl, hb⟩; replace HB := hide (bt HB.out hb); clear hb))
                    go_ret
                    exact ⟨rfl, bt BE5.out HB.out⟩
            · obtain ⟨rfl, rfl⟩ : k = 0 ∧ nC = E := by omega
              clear hEk
              have hlt : P < nC := by omega
              obtain ⟨m, hm⟩ : ∃ m, nC = m + 1 := ⟨nC - 1, by omega⟩
              have hP0 : (0 : Int) < (nC : Int) := by omega
              have hP1 : (nC : Int) - 1 = (m : Int) := by omega
              have hP2 : ((nC : Int) == 0) = false := by simp; omega
              have hmC : m < nC := by omega
              have hmI : (m : Int) < (nC : Int) := by omega
              have hPI : (P : Int) < (nC : Int) := by omega
              obtain ⟨za, zo, zc, e, -, d9⟩ := (SC.out.below HB.out).at (k := m) (by rw [NC.out]; exact hmC)
              obtain rfl := (Value.slice.inj e).1
              clear e
              obtain ⟨t, u, hpt, hkp⟩ := two_back HTW.out (by rw [NC.out]; exact hlt)
              rw [NC.out, NA.out, show lastN C nC = C[m]'(by rw [NC.out]; exact hmC) from (congrArg (lastN C) hm).trans (lastN_at _)] at hpt
              rw [NC.out] at hkp
              have HPT := hide hpt
              have HKP := hide hkp
              have HTK : Hid (C.take nC = C) := hide (by rw [← NC.out, List.take_length])
              rw [HTK.out] at HY
              have LYC : Hid ((ofL 0 0 C).length ≤ 100000) := hide (by have := LY.out nC; rwa [HTK.out] at this)
              have hcut := cut_bt (some ⟨za, zo, none⟩) nC kc P (by omega)
              have HTP : Hid ((C.take P).length ≤ 90000) := hide (by rw [List.length_take]; omega)
              have HPL : Hid (P ≤ C.length) := hide (by rw [NC.out]; exact hPC)
              clear hpt hkp hm HTK
              obtain ⟨x9, hx9⟩ : ∃ x, C[m]'(by rw [NC.out]; exact hmC) = x := ⟨_, rfl⟩
              rw [hx9] at d9 HPT
              clear hx9
              go_wp2_with (first
                | (go_at_call 10; refine (part_any _ (ofL 0 0 A) _ _ _ _ (SX.out.below HB.out) LX.out).mono ?_; rw [HPT.out]; rintro e W6 ⟨rfl, hb⟩; replace HY := hide (HY.out.below hb); replace HB := hide (bt HB.out hb); clear hb)
                | (go_at_call 12; refine (keep_any _ (ofL 0 0 C) _ _ _ _ HY.out LYC.out).mono ?_; rw [HKP.out]; rintro e W7 ⟨rfl, hb⟩; replace HB := hide (bt HB.out hb); clear hb HY)
                | (go_at_call 15; refine (of_any 0 0 _ (C.take P) _ ((SC.out.below HB.out).take HPL.out) HTP.out (by omega) (by omega)).mono ?_; rintro e W8 ⟨vz, rfl, hz, hb⟩; have HZ := hide hz.ssp; replace HB := hide (bt HB.out hb); clear hb hz))
              exact ⟨⟨P, 1, rfl, rfl, .inr ⟨rfl, rfl⟩, HZ.out, HB.out⟩, by simp [ivS]⟩
theorem parts_law (vb vm vo : Value) (lb lm lo : List Int) (w : World) (hb : Sl u8v w vb lb) (hm : Sl u8v w vm lm) (ho : Sl u8v w vo lo) (yb : ∀ x ∈ lb, 0 ≤ x ∧ x ≤ 255) (ym : ∀ x ∈ lm, 0 ≤ x ∧ x ≤ 255) (yo : ∀ x ∈ lo, 0 ≤ x ∧ x ≤ 255) : Calls Try.prog 5 #[vb, vm, vo] w fun e w' => e = .returned (.bool true) ∧ Below w.heap.size w w' := by
  by_cases h : 60 < lb.length ∨ 60 < lm.length ∨ 60 < lo.length
  · exact parts_over vb vm vo lb lm lo w hb hm ho h
  · exact parts_go vb vm vo lb lm lo w hb hm ho yb ym yo (by omega) (by omega) (by omega)
end Go.Proofs.Ytkihdceieljkgaa
