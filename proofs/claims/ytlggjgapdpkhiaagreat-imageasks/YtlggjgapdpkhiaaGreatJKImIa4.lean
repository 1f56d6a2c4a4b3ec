/-
  WHETHER A PARTITION MAY FOLLOW (image.follows), AND A BROKER BE TURNED (image.turns).
  MANY ROWS AS ONE (slices.Grow, slices.Concat).
  ONE THAT IS PUT AT A PLACE (image.put), ahead of what is there, or in its stead.
  WHAT STEPS KEEP, as mathematics.
-/
import Derived.Test.YtlggjgapdpkhiaaGreatJKImGa5
import Derived.Test.YtlggjgapdpkhiaaGreatJKImCda5
import Derived.Test.YtlggjgapdpkhiaaGreatJKImCba5
import Derived.Test.YtlggjgapdpkhiaaGreatJKImMa5
import Derived.Test.YtlggjgapdpkhiaaGreatJKRecMa5
namespace Go.Proofs.YtlggjgapdpkhiaaGreat
open Go.RowKit
set_option maxRecDepth 100000 in
set_option maxHeartbeats 16000000 in
theorem follows_any (l : List Pp) (v : Value) (q : Pp) (r : Rc) (a14 a15 a16 a17 : Option Addr) (c14 c15 c16 c17 : Nat) (w : World) (hv : Rs ptc w v l) (hp : ∀ o ∈ l, PtR w o ∧ WfP o.1) (hq : PtR w q) (h0 : 0 ≤ r.pa) (hll : l.length ≤ 100000) :
  Calls Tryz.prog 124 #[v, .agg (cR r a14 a15 a16 a17 c14 c15 c16 c17).toArray, .agg (ptc q).toArray] w fun e w' => ∃ E, e = .returned E ∧ Erc (folP (l.map (·.1)) r q.1) E ∧ Below w.heap.size w w' := by
 obtain ⟨ao, cap, rfl, hcap, hrg⟩ := hv
 obtain ⟨ANS, hANS⟩ : ∃ A, A = folP (l.map (·.1)) r q.1 := ⟨_, rfl⟩
 rw [← hANS]
 unfold folP at hANS
 rw [List.length_map] at hANS
 unfold cR
 by_cases hk : r.k = 8
 ·rw [if_pos hk] at hANS
  have hk1 : (r.k == 8) = true := by simpa using hk
  by_cases hl : r.pa = (l.length : Int)
  ·rw [if_pos hl] at hANS
   have hl1 : (r.pa != (l.length : Int)) = false := by simpa using hl
   have HANS := Hd hANS
   clear hANS hrg hp hq hk hl
   unfold ptc
   go_enter Tryz.func124, Tryz.ntmps124
   go_wp2_with fail
   go_ret
   exact ⟨_, rfl, .inl ⟨HANS.out, rfl⟩, below_al2 _ _ _⟩
  ·rw [if_neg hl] at hANS
   have hl1 : (r.pa != (l.length : Int)) = true := by simpa using hl
   have HANS := Hd hANS
   clear hANS hrg hp hq hk hl
   unfold ptc
   go_enter Tryz.func124, Tryz.ntmps124
   go_wp2_with fail
   go_ret
   exact ⟨_, rfl, by rw [HANS.out]; exact erc_code (by decide), below_al2 _ _ _⟩
 ·rw [if_neg hk] at hANS
  have hk1 : (r.k == 8) = false := by simpa using hk
  by_cases hl : l.length ≤ r.pa.toNat
  ·rw [List.getElem?_eq_none (by rw [List.length_map]; exact hl)] at hANS
   have hl1 : (l.length : Int) ≤ r.pa := by omega
   have HANS := Hd hANS
   clear hANS hrg hp hq hk hl
   unfold ptc
   go_enter Tryz.func124, Tryz.ntmps124
   go_wp2_with fail
   go_ret
   exact ⟨_, rfl, by rw [HANS.out]; exact erc_code (by decide), below_al2 _ _ _⟩
  ·have hi : r.pa.toNat < l.length := by omega
   obtain ⟨i, hin⟩ : ∃ i : Nat, i = r.pa.toNat := ⟨_, rfl⟩
   rw [← hin] at hANS hi
   rw [List.getElem?_eq_getElem (by rw [List.length_map]; exact hi), List.getElem_map] at hANS
   have hl1 : ¬ (l.length : Int) ≤ r.pa := by omega
   have hl2 : r.pa < (l.length : Int) := by omega
   obtain ⟨b, o, rfl, hr⟩ := hrg (by omega)
   have hpa : r.pa = (i : Int) := by omega
   obtain ⟨hoq, hol⟩ := hp l[i] (List.getElem_mem hi)
   have HE := Hd (fm_at encP hr hi)
   have HSM := Hd (fun W (h : Below w.heap.size w W) => Same_any l[i] q W (hoq.below h) (hq.below h) hol)
   have HEP : Hid (0 ≤ (l[i]).1.ep ∧ (l[i]).1.ep ≤ 1073741824) := Hd hol.ep
   generalize l[i] = y at *
   have HANS := Hd hANS
   clear hANS hp hq hr hoq hol hl hin
   obtain ⟨⟨ids, isr, ld, ep, ad, dr⟩, ⟨a0, a1, a2, a3, c0, c1, c2, c3⟩⟩ := q
   obtain ⟨⟨jds, jsr, kd, kp, kad, kdr⟩, ⟨b0, b1, b2, b3, d0, d1, d2, d3⟩⟩ := y
   have hep := HEP.out
   dsimp only at HANS HSM hep
   have hiI : (i : Int) < (l.length : Int) := by omega
   have hkI : ¬ (r.k = 8) := hk
   unfold ptc at *
   dsimp only at *
   generalize samP ⟨jds, jsr, kd, kp, kad, kdr⟩ ⟨ids, isr, ld, ep, ad, dr⟩ = sm at HANS HSM
   have HK4 := Hd hpa
   obtain ⟨HR0, HQ0, HB0⟩ := Bx.mk2 w [.int .i64 r.k, .int .i64 r.br, .int .i64 r.ep, .int .i64 r.tp, .int .i64 r.pa, .int .i64 r.le, .int .i64 r.cl, .int .i64 r.se, .int .i64 r.co, .bool r.fl, .string ⟨r.nm.toArray⟩, .string ⟨r.ky.toArray⟩, .string ⟨r.va.toArray⟩, .string ⟨r.rk.toArray⟩, .slice a14 r.ids.length c14, .slice a15 r.isr.length c15, .slice a16 r.ad.length c16, .slice a17 r.dr.length c17] [.slice a0 ids.length c0, .slice a1 isr.length c1, .int .i64 ld, .int .i64 ep, .slice a2 ad.length c2, .slice a3 dr.length c3] 65 44 (Below.refl _ _)
   clear hpa hk
   go_enter Tryz.func124, Tryz.ntmps124
   go_upto_region 1 with fail
   generalize ((w.alloc (.cells (List.toArray [Value.int .i64 r.k, .int .i64 r.br, .int .i64 r.ep, .int .i64 r.tp, .int .i64 r.pa, .int .i64 r.le, .int .i64 r.cl, .int .i64 r.se, .int .i64 r.co, .bool r.fl, .string ⟨r.nm.toArray⟩, .string ⟨r.ky.toArray⟩, .string ⟨r.va.toArray⟩, .string ⟨r.rk.toArray⟩, .slice a14 r.ids.length c14, .slice a15 r.isr.length c15, .slice a16 r.ad.length c16, .slice a17 r.dr.length c17]) 65)).alloc (.cells (List.toArray [Value.slice a0 ids.length c0, .slice a1 isr.length c1, .int .i64 ld, .int .i64 ep, .slice a2 ad.length c2, .slice a3 dr.length c3]) 44)) = X at HR0 HQ0 HB0 ⊢
   have HB := Hd HB0
   replace HE := Hd (rg_bel HE.out HB0)
   have r0 := HR0.at 0 _ rfl
   have r4 := HR0.at 4 _ rfl
   obtain ⟨p0, p1, p2, p3, p4, p5⟩ := HQ0.c6
   have hx0 : w.heap.size < X.heap.size := HR0.l
   have hx1 : w.heap.size + 1 < X.heap.size := HQ0.l
   have HQQ := Hd HQ0
   have HRR := Hd HR0
   have HK1 := Hd hk1
   clear HR0 HQ0 HB0
   rw [HK4.out] at r4 hl1 hl2
   have hne1 : wrap64 (kp + 1) = kp + 1 := by unfold wrap64; omega
   clear hrg hkI hll hcap h0 r0 r4 p0 p1 p2 p3 p4 p5 hk1
   clear hx0 hx1
   have r0 := HRR.out.at 0 _ rfl
   have r4 := HRR.out.at 4 _ rfl
   rw [HK4.out] at r4
   have hk1 := HK1.out
   go_upto_region 8 with (refine wpList_load_mid rfl _ _ rfl _ _ rfl _ _ HE.out Tryz.underlying44 rfl (by kernel_rfl) ?_)
   clear r0 r4 hk1
   replace HQQ := Hd (HQQ.out.alloc (.cells (List.toArray [Value.slice b0 jds.length d0, .slice b1 jsr.length d1, .int .i64 kd, .int .i64 kp, .slice b2 kad.length d2, .slice b3 kdr.length d3]) 44))
   have HYY := Hd (Bx.new X [Value.slice b0 jds.length d0, .slice b1 jsr.length d1, .int .i64 kd, .int .i64 kp, .slice b2 kad.length d2, .slice b3 kdr.length d3] 44)
   replace HB := Hd (bt HB.out (bA X (.cells (List.toArray [Value.slice b0 jds.length d0, .slice b1 jsr.length d1, .int .i64 kd, .int .i64 kp, .slice b2 kad.length d2, .slice b3 kdr.length d3]) 44)))
   generalize X.alloc (.cells (List.toArray [Value.slice b0 jds.length d0, .slice b1 jsr.length d1, .int .i64 kd, .int .i64 kp, .slice b2 kad.length d2, .slice b3 kdr.length d3]) 44) = Y at HQQ HYY HB ⊢
   obtain ⟨p0, p1, p2, p3, p4, p5⟩ := HQQ.out.c6
   obtain ⟨y0, y1, y2, y3, y4, y5⟩ := HYY.out.c6
   cases h1 : (ep != kp + 1) with
   | false =>
    cases sm with
    | true =>
     have HA : Hid (ANS = 10) := Hd (HANS.out.trans (by simp [*]))
     go_wp2_with (first | (go_at_call 20; refine (HSM.out _ HB.out).mono ?_; rintro e w1 ⟨rfl, hb⟩; replace HB := Hd (bt HB.out hb); clear hb HSM))
     go_ret
     exact ⟨_, rfl, by rw [HA.out]; exact erc_code (by decide), HB.out⟩
    | false =>
     have HA : Hid (ANS = 0) := Hd (HANS.out.trans (by simp [*]))
     go_wp2_with (first | (go_at_call 20; refine (HSM.out _ HB.out).mono ?_; rintro e w1 ⟨rfl, hb⟩; replace HB := Hd (bt HB.out hb); clear hb HSM))
     go_ret
     exact ⟨_, rfl, .inl ⟨HA.out, rfl⟩, HB.out⟩
   | true =>
    cases h2 : (ep != kp) with
    | true =>
     have HA : Hid (ANS = 11) := Hd (HANS.out.trans (by simp [*]))
     go_wp2_with (first | (go_at_call 20; refine (HSM.out _ HB.out).mono ?_; rintro e w1 ⟨rfl, hb⟩; replace HB := Hd (bt HB.out hb); clear hb HSM))
     go_ret
     exact ⟨_, rfl, by rw [HA.out]; exact erc_code (by decide), HB.out⟩
    | false =>
     cases h3 : (ld != kd) with
     | true =>
      have HA : Hid (ANS = 11) := Hd (HANS.out.trans (by simp [*]))
      go_wp2_with (first | (go_at_call 20; refine (HSM.out _ HB.out).mono ?_; rintro e w1 ⟨rfl, hb⟩; replace HB := Hd (bt HB.out hb); clear hb HSM))
      go_ret
      exact ⟨_, rfl, by rw [HA.out]; exact erc_code (by decide), HB.out⟩
     | false =>
      cases sm with
      | true =>
       have HA : Hid (ANS = 10) := Hd (HANS.out.trans (by simp [*]))
       go_wp2_with (first | (go_at_call 20; refine (HSM.out _ HB.out).mono ?_; rintro e w1 ⟨rfl, hb⟩; replace HB := Hd (bt HB.out hb); clear hb HSM))
       go_ret
       exact ⟨_, rfl, by rw [HA.out]; exact erc_code (by decide), HB.out⟩
      | false =>
       have HA : Hid (ANS = 0) := Hd (HANS.out.trans (by simp [*]))
       go_wp2_with (first | (go_at_call 20; refine (HSM.out _ HB.out).mono ?_; rintro e w1 ⟨rfl, hb⟩; replace HB := Hd (bt HB.out hb); clear hb HSM))
       go_ret
       exact ⟨_, rfl, .inl ⟨HA.out, rfl⟩, HB.out⟩
end Go.Proofs.YtlggjgapdpkhiaaGreat
namespace Go.Proofs.YtlggjgapdpkhiaaGreat
open Go.RowKit
set_option maxRecDepth 100000
set_option maxHeartbeats 8000000
theorem growP_any (n : Nat) (w : World) (hn : n ≤ 1000000) : Calls Tryz.prog 157 #[.slice none 0 0, .int .i64 (n : Int)] w fun e w' => ∃ v, e = .returned v ∧ Ro ptc 6 44 w' w.heap.size v [] ∧ Below w.heap.size w w' := by
 have h2 : wrap64 ((0 : Int) - 0) = 0 := by unfold wrap64; omega
 have h1 : ¬ ((n : Int) < 0) := by omega
 rcases Nat.eq_zero_or_pos n with h0 | h0
 ·subst h0
  clear hn h1
  go_enter Tryz.func157, Tryz.ntmps157
  go_wp2_with fail
  go_ret
  exact ⟨_, rfl, ro_nil _ _ _ _ _, Below.refl _ _⟩
 ·have h3 : wrap64 ((n : Int) - 0) = (n : Int) := by unfold wrap64; omega
  have h4 : (n : Int) > 0 := by omega
  have hz := fun ty => grow_zeros (I := 3) tyiP (by decide) Tryz.underlying3 w n h0 hn ty
  obtain ⟨G, c, hG, hnG, hm, hc⟩ := hz 36
  have HU := Hd (fun W => upto_run tyiP (some ⟨w.heap.size, 0, none⟩) n G 0 (Nat.zero_le _) hnG W)
  have HG := Hd hG
  have HR := Hd (ro_room ptc 6 44 w G c hm hc)
  clear hz hG hm hc
  go_enter Tryz.func157, Tryz.ntmps157
  go_wp2_with (at_builtin; refine Lib.wpList_append_run _ rfl _ _ _ _ rfl _ _ rfl rfl _ _ HG.out ?_)
  all_goals
   go_ret
   exact ⟨_, rfl, HR.out, below_dal _ _⟩
theorem concP_3 (v1 v2 v3 : Value) (l1 l2 l3 : List Pp) (B : Nat) (w : World) (hB : Bx w B [v1, v2, v3]) (h1 : Rs ptc w v1 l1) (h2 : Rs ptc w v2 l2) (h3 : Rs ptc w v3 l3) (hl1 : l1.length ≤ 200000) (hl2 : l2.length ≤ 200000) (hl3 : l3.length ≤ 200000) :
  Calls Tryz.prog 147 #[.slice (some ⟨B, 0, none⟩) 3 3] w fun e w' => ∃ v, e = .returned v ∧ Ro ptc 6 44 w' w.heap.size v (l1 ++ l2 ++ l3) ∧ Below w.heap.size w w' := by
 have HG := Hd (fun n hn => growP_any n w hn)
 obtain ⟨a1, c1, rfl⟩ := h1.form
 obtain ⟨a2, c2, rfl⟩ := h2.form
 obtain ⟨a3, c3, rfl⟩ := h3.form
 have HB := Hd (fun W (h : Below w.heap.size w W) => (hB.below h).c3)
 have H1 := Hd (fun W (h : Below w.heap.size w W) => h1.below h)
 have H2 := Hd (fun W (h : Below w.heap.size w W) => h2.below h)
 have H3 := Hd (fun W (h : Below w.heap.size w W) => h3.below h)
 obtain ⟨b0, b1, b2⟩ := hB.c3
 have hbl := hB.l
 clear h1 h2 h3 hB
 go_enter Tryz.func147, Tryz.ntmps147
 go_wp2_with fail
 refine wp_loop_rounds 4 ?_
 rw [rounds_succ]
 go_wp2_with fail
 rw [rounds_succ]
 go_wp2_with fail
 rw [rounds_succ]
 go_wp2_with fail
 rw [rounds_succ]
 have HN : Hid (((l1.length : Int) + l2.length + l3.length) = ((l1.length + l2.length + l3.length : Nat) : Int)) := Hd (by omega)
 have HK : Hid (l1.length + l2.length + l3.length ≤ 1000000) := Hd (by omega)
 go_wp2_with (go_at_call 157; first | rw [HN.out] | skip; refine (HG.out _ HK.out).mono ?_; rintro e w1 ⟨v, rfl, hr, hb⟩; obtain ⟨d0, d1, d2⟩ := HB.out _ hb; have HR := Hd hr; have HBl := Hd hb; clear hr hb HG b0 b1 b2)
 refine wp_loop_rounds 4 ?_
 rw [rounds_succ]
 go_wp2_with (at_builtin; refine wR tyiP encP _ rfl _ _ rfl w.heap.size _ [] rfl HR.out HBl.out.size _ l1 rfl (H1.out _ HBl.out) (by rw [List.length_nil]; omega) ?_; intro v1 w2 hr _ hb; rw [List.nil_append] at hr; obtain ⟨d0, d1, d2⟩ := HB.out _ (HBl.out.trans hb); replace HR := Hd hr; replace HBl := Hd (HBl.out.trans hb); clear hr hb)
 rw [rounds_succ]
 go_wp2_with (at_builtin; refine wR tyiP encP _ rfl _ _ rfl w.heap.size _ l1 rfl HR.out HBl.out.size _ l2 rfl (H2.out _ HBl.out) (by omega) ?_; intro v2 w3 hr _ hb; obtain ⟨d0, d1, d2⟩ := HB.out _ (HBl.out.trans hb); replace HR := Hd hr; replace HBl := Hd (HBl.out.trans hb); clear hr hb)
 rw [rounds_succ]
 go_wp2_with (at_builtin; refine wR tyiP encP _ rfl _ _ rfl w.heap.size _ (l1 ++ l2) rfl HR.out HBl.out.size _ l3 rfl (H3.out _ HBl.out) (by rw [List.length_append]; omega) ?_; intro v3 w4 hr _ hb; obtain ⟨d0, d1, d2⟩ := HB.out _ (HBl.out.trans hb); replace HR := Hd hr; replace HBl := Hd (HBl.out.trans hb); clear hr hb)
 rw [rounds_succ]
 go_wp2_with fail
 go_ret
 exact ⟨_, rfl, HR.out, HBl.out⟩
end Go.Proofs.YtlggjgapdpkhiaaGreat
namespace Go.Proofs.YtlggjgapdpkhiaaGreat
open Go.RowKit
set_option maxRecDepth 100000
set_option maxHeartbeats 8000000
theorem putP_new (l : List Pp) (ao : Option Addr) (n cap i : Nat) (x : Pp) (w : World) (hn : n = l.length) (hv : Rs ptc w (.slice ao n cap) l) (hi : i ≤ l.length) (hl : l.length ≤ 100000) :
  Calls Tryz.prog 125 #[.slice ao n cap, .int .i64 (i : Int), .bool false, .agg (ptc x).toArray] w fun e w' => ∃ v, e = .returned v ∧ Ro ptc 6 44 w' w.heap.size v (l.take i ++ x :: l.drop i) ∧ Below w.heap.size w w' := by
 subst hn
 obtain ⟨ao', hr, hd⟩ := hv.from tyiP encP i hi
 have hu := fun W => upto_run tyiP ao l.length cap i hi hv.cap.2 W
 have HP := Hd (fun o1 T U => put_frame (f := ptc) w o1 x T U (.slice ao i cap) (.slice ao' (l.length - i) (cap - i)))
 have HC := Hd (fun W (hb : Below w.heap.size w W) (hB : Bx W (w.heap.size + 1 + 1) [.slice ao i cap, .slice (some ⟨w.heap.size + 1, 0, none⟩) 1 1, .slice ao' (l.length - i) (cap - i)]) (hx : Rs ptc W (.slice (some ⟨w.heap.size + 1, 0, none⟩) 1 1) [x]) => concP_3 _ _ _ (l.take i) [x] (l.drop i) _ W hB ((hv.below hb).upto encP i hi) hx (hd W hb) (by rw [List.length_take]; omega) (by simp) (by rw [List.length_drop]; omega))
 have HE : Hid (l.take i ++ [x] ++ l.drop i = l.take i ++ x :: l.drop i) := Hd (by simp)
 clear hv hd
 unfold ptc at *
 go_enter Tryz.func125, Tryz.ntmps125
 go_upto_region 4 with fail
 go_region_with (go_at_call 147; obtain ⟨p1, p2, p3⟩ := HP.out _ _ _; refine (HC.out _ p3 p1 p2).mono ?_; rintro e w1 ⟨v, rfl, hr, hb⟩; rw [HE.out] at hr; have HR := Hd (hr.mono p3.size); have HB := Hd (bt p3 hb); clear hr hb p1 p2 p3)
 all_goals
  go_wp2_with fail
  go_ret
  exact ⟨_, rfl, HR.out, HB.out⟩
theorem putP_old (l : List Pp) (ao : Option Addr) (n cap i : Nat) (x : Pp) (w : World) (hn : n = l.length) (hv : Rs ptc w (.slice ao n cap) l) (hi : i < l.length) (hl : l.length ≤ 100000) :
  Calls Tryz.prog 125 #[.slice ao n cap, .int .i64 (i : Int), .bool true, .agg (ptc x).toArray] w fun e w' => ∃ v, e = .returned v ∧ Ro ptc 6 44 w' w.heap.size v (l.take i ++ x :: l.drop (i + 1)) ∧ Below w.heap.size w w' := by
 subst hn
 obtain ⟨ao', hr, hd⟩ := hv.from tyiP encP i (Nat.le_of_lt hi)
 have hdl : (l.drop i).length = l.length - i := List.length_drop
 obtain ⟨ao2, hr2, hd2⟩ := (show Rs ptc w (.slice ao' (l.drop i).length (cap - i)) (l.drop i) from hdl ▸ hd w (Below.refl _ _)).from tyiP encP 1 (by omega)
 rw [hdl] at hr2 hd2
 have hdd : (l.drop i).drop 1 = l.drop (i + 1) := by rw [List.drop_drop]
 rw [hdd] at hd2
 have hu := fun W => upto_run tyiP ao l.length cap i (Nat.le_of_lt hi) hv.cap.2 W
 replace hr2 : ∀ W, (Instr.slice 36 (.slice ao' (l.length - i) (cap - i)) (some (.int .i64 1)) none none).run Tryz.prog W = .ok (.slice ao2 (l.length - i - 1) (cap - i - 1)) W := hr2
 have HP := Hd (fun o1 T U => put_frame (f := ptc) w o1 x T U (.slice ao i cap) (.slice ao2 (l.length - i - 1) (cap - i - 1)))
 have HC := Hd (fun W (hb : Below w.heap.size w W) (hB : Bx W (w.heap.size + 1 + 1) [.slice ao i cap, .slice (some ⟨w.heap.size + 1, 0, none⟩) 1 1, .slice ao2 (l.length - i - 1) (cap - i - 1)]) (hx : Rs ptc W (.slice (some ⟨w.heap.size + 1, 0, none⟩) 1 1) [x]) => concP_3 _ _ _ (l.take i) [x] (l.drop (i + 1)) _ W hB ((hv.below hb).upto encP i (Nat.le_of_lt hi)) hx (hd2 W hb) (by rw [List.length_take]; omega) (by simp) (by rw [List.length_drop]; omega))
 have HE : Hid (l.take i ++ [x] ++ l.drop (i + 1) = l.take i ++ x :: l.drop (i + 1)) := Hd (by simp)
 clear hv hd hd2 hdl hdd
 unfold ptc at *
 go_enter Tryz.func125, Tryz.ntmps125
 go_upto_region 4 with fail
 go_region_with (go_at_call 147; obtain ⟨p1, p2, p3⟩ := HP.out _ _ _; refine (HC.out _ p3 p1 p2).mono ?_; rintro e w1 ⟨v, rfl, hr, hb⟩; rw [HE.out] at hr; have HR := Hd (hr.mono p3.size); have HB := Hd (bt p3 hb); clear hr hb p1 p2 p3)
 all_goals
  go_wp2_with fail
  go_ret
  exact ⟨_, rfl, HR.out, HB.out⟩
end Go.Proofs.YtlggjgapdpkhiaaGreat
namespace Go.Proofs.YtlggjgapdpkhiaaGreat
open Go.RowKit
theorem rcis_pt {r : Rc} (h : RcIs r) : WfP (ptOf r) ∧ 0 ≤ r.pa := by
 have h0 := rowB_asks h.ids
 have h1 := rowB_asks h.isr
 have h2 := rowB_asks h.ad
 have h3 := rowB_asks h.dr
 have he := numB_asks h.ep
 have hp := numB_asks h.pa
 refine ⟨⟨?_, ?_, ?_, ?_, ?_⟩, ?_⟩
 ·show r.ids.length ≤ 7
  split at h0
  ·exact h0.1
  ·rw [h0]; decide
 ·show r.isr.length ≤ 7
  split at h1
  ·exact h1.1
  ·rw [h1]; decide
 ·show r.ad.length ≤ 7
  split at h2
  ·exact h2.1
  ·rw [h2]; decide
 ·show r.dr.length ≤ 7
  split at h3
  ·exact h3.1
  ·rw [h3]; decide
 ·show 0 ≤ r.ep ∧ r.ep ≤ 1073741824
  split at he <;> omega
 ·split at hp <;> omega
theorem fB_putB (l : List Bk) (c : Bk) (i : Int) : fB (putB l c) i = if i = c.id then some c else fB l i := by
 unfold fB putB
 rw [List.find?_append]
 by_cases h : i = c.id
 ·rw [if_pos h, List.find?_eq_none.2 (fun x hx => by
   have := (List.mem_filter.1 hx).2
   simp only [decide_eq_true_eq] at this
   simp only [idB, beq_iff_eq]; omega), Option.none_or, List.find?_cons_of_pos (by simp [idB, h])]
 ·rw [if_neg h, List.find?_cons_of_neg (by simp only [idB, beq_iff_eq]; omega)]
  rw [List.find?_filter, List.find?_filter]
  by_cases h2 : i < c.id
  ·have e1 : (fun a : Bk => decide (decide (a.id < c.id) = true ∧ idB i a = true)) = idB i := by
    funext x
    by_cases hx : x.id = i
    ·simp [idB, hx, h2]
    ·simp [idB, hx]
   have e2 : List.find? (fun a : Bk => decide (decide (c.id < a.id) = true ∧ idB i a = true)) l = none := by
    rw [List.find?_eq_none]
    intro x _
    simp only [idB, beq_iff_eq, decide_eq_true_eq]; omega
   rw [e1, e2, Option.or_none]
  ·have e1 : (fun a : Bk => decide (decide (c.id < a.id) = true ∧ idB i a = true)) = idB i := by
    funext x
    by_cases hx : x.id = i
    ·have : c.id < i := by omega
     simp [idB, hx, this]
    ·simp [idB, hx]
   have e2 : List.find? (fun a : Bk => decide (decide (a.id < c.id) = true ∧ idB i a = true)) l = none := by
    rw [List.find?_eq_none]
    intro x _
    simp only [idB, beq_iff_eq, decide_eq_true_eq]; omega
   rw [e1, e2, Option.none_or]
theorem fB_remB (l : List Bk) (id i : Int) : fB (remB l id) i = if i = id then none else fB l i := by
 unfold fB remB
 rw [List.find?_filter]
 by_cases h : i = id
 ·rw [if_pos h, List.find?_eq_none]
  intro x _
  simp only [idB, beq_iff_eq, decide_eq_true_eq, Bool.not_eq_true', beq_eq_false_iff_ne, ne_eq]; omega
 ·rw [if_neg h]
  congr 1
  funext x
  by_cases hx : x.id = i
  ·simp [idB, hx, h]
  ·simp [idB, hx]
theorem alive_putB (l : List Bk) (c : Bk) (i : Int) : alive (putB l c) i = if i = c.id then !c.fe else alive l i := by
 unfold alive
 rw [fB_putB]
 by_cases h : i = c.id
 ·rw [if_pos h, if_pos h]
 ·rw [if_neg h, if_neg h]
theorem alive_remB (l : List Bk) (id i : Int) : alive (remB l id) i = if i = id then false else alive l i := by
 unfold alive
 rw [fB_remB]
 by_cases h : i = id
 ·rw [if_pos h, if_pos h]
 ·rw [if_neg h, if_neg h]
def mvP (p : Pt) : Bool := p.ad.any (fun i => !p.ids.contains i) || p.dr.any (fun i => !p.ids.contains i) || p.ad.any (fun i => p.dr.contains i)
theorem right_iff {l : List Bk} {p : Pt} : right l p = 0 ↔ (p.ids ≠ [] ∧ ∀ i ∈ p.ids, (fB l i).isSome = true) ∧ (p.isr ≠ [] ∧ ∀ i ∈ p.isr, i ∈ p.ids) ∧ (p.ld = 0 ∨ p.ld ∈ p.isr ∧ alive l p.ld = true) ∧ mvP p = false := by
 unfold right
 by_cases h1 : (p.ids.isEmpty || p.ids.any fun i => (fB l i).isNone) = true
 ·rw [if_pos h1]
  refine ⟨fun h => absurd h (by decide), fun ⟨⟨a, b⟩, _⟩ => ?_⟩
  rw [Bool.or_eq_true] at h1
  rcases h1 with h1 | h1
  ·exact absurd (List.isEmpty_iff.1 h1) a
  ·obtain ⟨i, hi, hn⟩ := List.any_eq_true.1 h1
   have := b i hi
   rw [Option.isNone_iff_eq_none.1 hn] at this
   cases this
 ·rw [if_neg h1]
  have h1' := Bool.or_eq_false_iff.1 (Bool.eq_false_iff.2 h1)
  have a1 : p.ids ≠ [] := fun q => by rw [q] at h1'; exact absurd h1'.1 (by decide)
  have a2 : ∀ i ∈ p.ids, (fB l i).isSome = true := fun i hi => by
   have := List.any_eq_false.1 h1'.2 i hi
   cases hx : fB l i with
   | none => rw [hx] at this; exact absurd rfl this
   | some _ => rfl
  by_cases h2 : (p.isr.isEmpty || p.isr.any fun i => !p.ids.contains i) = true
  ·rw [if_pos h2]
   refine ⟨fun h => absurd h (by decide), fun ⟨_, ⟨a, b⟩, _⟩ => ?_⟩
   rw [Bool.or_eq_true] at h2
   rcases h2 with h2 | h2
   ·exact absurd (List.isEmpty_iff.1 h2) a
   ·obtain ⟨i, hi, hn⟩ := List.any_eq_true.1 h2
    have := b i hi
    simp [this] at hn
  ·rw [if_neg h2]
   have h2' := Bool.or_eq_false_iff.1 (Bool.eq_false_iff.2 h2)
   have b1 : p.isr ≠ [] := fun q => by rw [q] at h2'; exact absurd h2'.1 (by decide)
   have b2 : ∀ i ∈ p.isr, i ∈ p.ids := fun i hi => by
    have := List.any_eq_false.1 h2'.2 i hi
    simpa using this
   by_cases h3 : (p.ld != 0 && (!p.isr.contains p.ld || !alive l p.ld)) = true
   ·rw [if_pos h3]
    refine ⟨fun h => absurd h (by decide), fun ⟨_, _, c, _⟩ => ?_⟩
    rw [Bool.and_eq_true] at h3
    rcases c with c | ⟨c, d⟩
    ·rw [c] at h3; exact absurd h3.1 (by decide)
    ·rw [d] at h3; simp [c] at h3
   ·rw [if_neg h3]
    have c1 : p.ld = 0 ∨ p.ld ∈ p.isr ∧ alive l p.ld = true := by
     by_cases h0 : p.ld = 0
     ·exact .inl h0
     ·refine .inr ?_
      simp [h0] at h3
      exact h3
    show (if mvP p = true then (18 : Int) else 0) = 0 ↔ _
    cases hm : mvP p with
    | true => exact ⟨fun h => absurd h (by decide), fun h => absurd h.2.2.2 (by decide)⟩
    | false => exact ⟨fun _ => ⟨⟨a1, a2⟩, ⟨b1, b2⟩, c1, rfl⟩, fun _ => rfl⟩
theorem right_putB {l : List Bk} {p : Pt} {c : Bk} (h : right l p = 0) (hf : c.fe = true → alive l c.id = false ∨ p.ld ≠ c.id) : right (putB l c) p = 0 := by
 rw [right_iff] at *
 obtain ⟨⟨a1, a2⟩, b, d, e⟩ := h
 refine ⟨⟨a1, fun i hi => ?_⟩, b, ?_, e⟩
 ·rw [fB_putB]
  split
  ·rfl
  ·exact a2 i hi
 ·rcases d with d | ⟨d1, d2⟩
  ·exact .inl d
  ·refine .inr ⟨d1, ?_⟩
   rw [alive_putB]
   split
   ·rename_i q
    cases hc : c.fe with
    | false => rfl
    | true =>
     rcases hf hc with z | z
     ·rw [← q, d2] at z; cases z
     ·exact absurd q z
   ·exact d2
theorem right_remB {l : List Bk} {p : Pt} {id : Int} (h : right l p = 0) (hu : ¬ id ∈ p.ids) : right (remB l id) p = 0 := by
 rw [right_iff] at *
 obtain ⟨⟨a1, a2⟩, b, d, e⟩ := h
 refine ⟨⟨a1, fun i hi => ?_⟩, b, ?_, e⟩
 ·rw [fB_remB, if_neg (fun q : i = id => hu (q ▸ hi))]
  exact a2 i hi
 ·rcases d with d | ⟨d1, d2⟩
  ·exact .inl d
  ·refine .inr ⟨d1, ?_⟩
   rw [alive_remB, if_neg (fun q : p.ld = id => hu (q ▸ b.2 _ d1))]
   exact d2
theorem leads_no {l : List Tp} {id : Int} (h : leads l id = false) : ∀ t ∈ l, ∀ p ∈ t.ps, p.ld ≠ id := fun t ht p hp q => by
 have h1 := List.any_eq_false.1 h t ht
 exact h1 (List.any_eq_true.2 ⟨p, hp, by simpa using q⟩)
theorem used_no {l : List Tp} {id : Int} (h : used l id = false) : ∀ t ∈ l, ∀ p ∈ t.ps, ¬ id ∈ p.ids := fun t ht p hp q => by
 have h1 := List.any_eq_false.1 h t ht
 exact h1 (List.any_eq_true.2 ⟨p, hp, by simpa using q⟩)
inductive Stp (m : Im) (r : Rc) : Im → Prop
 | noop : Stp m r m
 | bro (c : Bk) (hf : c.fe = true → alive m.br c.id = false ∨ leads m.ts c.id = false) : Stp m r { m with br := putB m.br c }
 | gone (id : Int) (hu : used m.ts id = false) : Stp m r { m with br := remB m.br id }
 | top (h1 : r.tp = m.la + 1) (h2 : r.tp ≤ 1073741824) (h3 : fN m.ts r.nm = none) (h4 : m.ts.length < 256) : Stp m r { m with ts := m.ts ++ [⟨r.tp, r.nm, []⟩], la := r.tp }
 | drop (id : Int) : Stp m r { m with ts := m.ts.filter (fun t => !idT id t), cf := m.cf.filter fun c => !(c.tp == id) }
 | part (t : Tp) (h1 : fT m.ts r.tp = some t) (h2 : right m.br (ptOf r) = 0) (h3 : folP t.ps r (ptOf r) = 0) (h4 : rowB r.ids true = true) (hw : WfP (ptOf r)) (h5 : 0 ≤ r.pa) : Stp m r { m with ts := setT m.ts r.tp (putP t.ps r.pa.toNat (ptOf r)) }
 | crem (q : Cf → Bool) : Stp m r { m with cf := m.cf.filter q }
 | cput (c : Cf) : Stp m r { m with cf := putC m.cf c }
 | dput (d : Dn) : Stp m r { m with dn := putD m.dn d }
theorem fB_id {l : List Bk} {id : Int} {b : Bk} (h : fB l id = some b) : b.id = id := by
 have := List.find?_some h
 simpa [idB] using this
theorem stepI_stp {m : Im} {r : Rc} (h : RcIs r) (h0 : (stepI m r).2 = 0) : Stp m r (stepI m r).1 := by
 revert h0
 unfold stepI
 by_cases k2 : r.k = 2
 ·rw [if_pos k2]
  unfold regB
  cases hf : fB m.br r.br with
  | none => exact fun _ => .bro _ (fun _ => .inl (by show alive m.br r.br = false; unfold alive; rw [hf]))
  | some b =>
   simp only
   by_cases h1 : r.ep ≤ b.ep
   ·rw [if_pos h1]; exact fun q => absurd q (by decide : ¬ (11 : Int) = 0)
   ·rw [if_neg h1]
    by_cases h2 : leads m.ts r.br = true
    ·rw [if_pos h2]; exact fun q => absurd q (by decide : ¬ (10 : Int) = 0)
    ·rw [if_neg h2]
     exact fun _ => .bro _ (fun _ => .inr (Bool.eq_false_iff.2 h2))
 rw [if_neg k2]
 by_cases k3 : r.k = 3 ∨ r.k = 4 ∨ r.k = 5 ∨ r.k = 6
 ·rw [if_pos k3]
  unfold turB
  cases hf : fB m.br r.br with
  | none => exact fun q => absurd q (by decide : ¬ (8 : Int) = 0)
  | some b =>
   have hid := fB_id hf
   simp only
   by_cases h1 : b.ep = r.ep
   ·rw [if_pos h1]
    unfold trnB
    split
    ·split
     ·exact fun q => absurd q (by decide : ¬ (10 : Int) = 0)
     ·rename_i h2
      have h2' := Bool.or_eq_false_iff.1 (Bool.eq_false_iff.2 h2)
      exact fun _ => .bro _ (fun _ => .inr h2'.2)
    ·split
     ·split
      ·exact fun q => absurd q (by decide : ¬ (10 : Int) = 0)
      ·exact fun _ => .bro _ (fun q => by cases q)
     ·split
      ·split
       ·exact fun q => absurd q (by decide : ¬ (10 : Int) = 0)
       ·rename_i h2
        have h2' := Bool.or_eq_false_iff.1 (Bool.eq_false_iff.2 h2)
        exact fun _ => .bro _ (fun (q : b.fe = true) => by rw [h2'.1] at q; cases q)
      ·split
       ·exact fun q => absurd q (by decide : ¬ (10 : Int) = 0)
       ·rename_i h2
        exact fun _ => .gone _ (Bool.eq_false_iff.2 h2)
   ·rw [if_neg h1]; exact fun q => absurd q (by decide : ¬ (11 : Int) = 0)
 rw [if_neg k3]
 by_cases k7 : r.k = 7
 ·rw [if_pos k7]
  unfold crtT
  have ht := numB_asks h.tp
  have hh : hasL r.k 116 = true := by rw [k7]; decide
  rw [hh, if_pos rfl] at ht
  split
  ·rename_i h1
   split
   ·exact fun q => absurd q (by decide : ¬ (9 : Int) = 0)
   ·rename_i h2
    split
    ·exact fun q => absurd q (by decide : ¬ (6 : Int) = 0)
    ·rename_i h3
     refine fun _ => .top h1 ht.2 ?_ (by omega)
     cases hx : fN m.ts r.nm with
     | none => rfl
     | some _ => rw [hx] at h2; exact absurd rfl h2
  ·exact fun q => absurd q (by decide : ¬ (10 : Int) = 0)
 rw [if_neg k7]
 by_cases k8 : r.k = 8 ∨ r.k = 9
 ·rw [if_pos k8]
  unfold repP
  have hi := h.ids
  have hh : hasL r.k 105 = true := by rcases k8 with q | q <;> rw [q] <;> decide
  rw [hh] at hi
  cases hf : fT m.ts r.tp with
  | none => exact fun q => absurd q (by decide : ¬ (8 : Int) = 0)
  | some t =>
   simp only
   split
   ·rename_i h1
    split
    ·rename_i h2
     exact fun _ => .part t hf h1 h2 hi (rcis_pt h).1 (rcis_pt h).2
    ·rename_i h2
     exact fun q => absurd q h2
   ·rename_i h1
    exact fun q => absurd q h1
 rw [if_neg k8]
 by_cases k10 : r.k = 10
 ·rw [if_pos k10]
  unfold cfgC
  split
  ·exact fun q => absurd q (by decide : ¬ (8 : Int) = 0)
  ·split
   ·split
    ·exact fun q => absurd q (by decide : ¬ (8 : Int) = 0)
    ·exact fun _ => .crem _
   ·exact fun _ => .cput _
 rw [if_neg k10]
 by_cases k11 : r.k = 11
 ·rw [if_pos k11]
  unfold drpT
  split
  ·exact fun _ => .drop _
  ·exact fun q => absurd q (by decide : ¬ (8 : Int) = 0)
 rw [if_neg k11]
 by_cases k12 : r.k = 12
 ·rw [if_pos k12]
  unfold ansD
  split
  ·exact fun q => absurd q (by decide : ¬ (9 : Int) = 0)
  ·exact fun _ => .dput _
 rw [if_neg k12]
 exact fun _ => .noop
theorem stepI_err {m : Im} {r : Rc} (h : (stepI m r).2 ≠ 0) : (stepI m r).1 = m := by
 revert h
 unfold stepI regB turB trnB crtT repP cfgC drpT ansD
 intro h
 repeat' split
 all_goals first | rfl | (exfalso; simp_all)
theorem app_err {m : Im} {r : Rc} (h : (app m r).2 ≠ 0) : (app m r).1 = m := by
 unfold app at *
 split
 ·rename_i hc
  rw [if_pos hc] at h
  exact stepI_err h
 ·rfl
theorem app_stp (m : Im) (r : Rc) : Stp m r (app m r).1 := by
 by_cases h : (app m r).2 = 0
 ·unfold app at *
  by_cases hc : (chk r).2.2 = 0
  ·rw [if_pos hc] at *
   exact stepI_stp (chk_is hc) h
  ·rw [if_neg hc]
   exact .noop
 ·rw [app_err h]
  exact .noop
theorem fil2 {α : Type} (p q : α → Bool) (h : ∀ x, p x = true → q x = false) : ∀ l : List α, (l.filter p).length + (l.filter q).length ≤ l.length
 | [] => by simp
 | x :: l => by
  have ih := fil2 p q h l
  cases hp : p x with
  | true => rw [List.filter_cons_of_pos hp, List.filter_cons_of_neg (by rw [h x hp]; decide)]; simp only [List.length_cons]; omega
  | false =>
   rw [List.filter_cons_of_neg (by rw [hp]; decide)]
   cases hq : q x with
   | true => rw [List.filter_cons_of_pos hq]; simp only [List.length_cons]; omega
   | false => rw [List.filter_cons_of_neg (by rw [hq]; decide)]; simp only [List.length_cons]; omega
theorem putB_len (l : List Bk) (c : Bk) : (putB l c).length ≤ l.length + 1 := by
 have := fil2 (fun x : Bk => decide (x.id < c.id)) (fun x => decide (c.id < x.id)) (fun x h => by
  have h' := of_decide_eq_true h
  exact decide_eq_false (by omega)) l
 unfold putB
 simp only [List.length_append, List.length_cons]
 omega
theorem putC_len (l : List Cf) (c : Cf) : (putC l c).length ≤ l.length + 1 := by
 have := fil2 (fun x : Cf => decide (cmpC x c.tp c.ky < 0)) (fun x => decide (0 < cmpC x c.tp c.ky)) (fun x h => by
  have h' := of_decide_eq_true h
  exact decide_eq_false (by omega)) l
 unfold putC
 simp only [List.length_append, List.length_cons]
 omega
theorem putB_asc {l : List Bk} (h : l.Pairwise fun x y => x.id < y.id) (c : Bk) : (putB l c).Pairwise fun x y => x.id < y.id := by
 unfold putB
 refine List.pairwise_append.2 ⟨h.filter _, List.pairwise_cons.2 ⟨fun y hy => ?_, h.filter _⟩, fun x hx y hy => ?_⟩
 ·exact of_decide_eq_true (List.mem_filter.1 hy).2
 ·have hx' := of_decide_eq_true (List.mem_filter.1 hx).2
  rcases List.mem_cons.1 hy with rfl | hy
  ·exact hx'
  ·have hy' := of_decide_eq_true (List.mem_filter.1 hy).2
   omega
theorem putC_asc {l : List Cf} (h : l.Pairwise ltC) (c : Cf) : (putC l c).Pairwise ltC := by
 unfold putC
 refine List.pairwise_append.2 ⟨h.filter _, List.pairwise_cons.2 ⟨fun y hy => ?_, h.filter _⟩, fun x hx y hy => ?_⟩
 ·exact ltC_of_pos (v := c.va) (of_decide_eq_true (List.mem_filter.1 hy).2)
 ·have hx' : ltC x c := ltC_of_neg (v := c.va) (of_decide_eq_true (List.mem_filter.1 hx).2)
  rcases List.mem_cons.1 hy with rfl | hy
  ·exact hx'
  ·exact ltC_trans hx' (ltC_of_pos (v := c.va) (of_decide_eq_true (List.mem_filter.1 hy).2))
theorem fT_mem {l : List Tp} {id : Int} {t : Tp} (h : fT l id = some t) : t ∈ l ∧ t.id = id := ⟨List.mem_of_find?_eq_some h, by
 have := List.find?_some h
 simpa [idT] using this⟩
theorem setT_mem {l : List Tp} {id : Int} {q : List Pt} {t : Tp} (h : t ∈ setT l id q) : ∃ u ∈ l, t.id = u.id ∧ t.nm = u.nm ∧ ((u.id = id ∧ t.ps = q) ∨ (u.id ≠ id ∧ t = u)) := by
 obtain ⟨u, hu, rfl⟩ := List.mem_map.1 h
 by_cases e : u.id = id
 ·rw [if_pos e]; exact ⟨u, hu, rfl, rfl, .inl ⟨e, rfl⟩⟩
 ·rw [if_neg e]; exact ⟨u, hu, rfl, rfl, .inr ⟨e, rfl⟩⟩
theorem putP_mem {l : List Pt} {n : Nat} {p q : Pt} (h : q ∈ putP l n p) : q = p ∨ q ∈ l := by
 unfold putP at h
 rcases List.mem_append.1 h with h | h
 ·exact .inr (List.mem_of_mem_take h)
 ·rcases List.mem_cons.1 h with h | h
  ·exact .inl h
  ·exact .inr (List.mem_of_mem_drop h)
theorem putP_len (l : List Pt) (n : Nat) (p : Pt) : (putP l n p).length ≤ l.length + 1 := by
 unfold putP
 simp only [List.length_append, List.length_cons, List.length_take, List.length_drop]
 omega
theorem Wf.stp {m m' : Im} {r : Rc} {N : Nat} (h : Wf m N) (hs : Stp m r m') : Wf m' (N + 1) := by
 obtain ⟨b, t, c, u, la, nb, nt, nc, nd, np, p⟩ := h
 have np' : ∀ t ∈ m.ts, t.ps.length ≤ N + 1 := fun t ht => Nat.le_succ_of_le (np t ht)
 cases hs with
 | noop => exact ⟨b, t, c, u, la, by omega, by omega, by omega, by omega, np', p⟩
 | bro x hf =>
  have := putB_len m.br x
  exact ⟨putB_asc b x, t, c, u, la, by show (putB m.br x).length ≤ _; omega, by show m.ts.length ≤ _; omega, by show m.cf.length ≤ _; omega, by show m.dn.length ≤ _; omega, np', p⟩
 | gone id hu =>
  have : (remB m.br id).length ≤ m.br.length := List.length_filter_le _ _
  exact ⟨b.filter _, t, c, u, la, by show (remB m.br id).length ≤ _; omega, by show m.ts.length ≤ _; omega, by show m.cf.length ≤ _; omega, by show m.dn.length ≤ _; omega, np', p⟩
 | top h1 h2 h3 h4 =>
  refine ⟨b, ?_, c, fun x hx => ?_, by show 0 ≤ r.tp ∧ r.tp ≤ _; omega, by show m.br.length ≤ _; omega, by show (m.ts ++ [_]).length ≤ _; rw [List.length_append]; simp only [List.length_cons, List.length_nil]; omega, by show m.cf.length ≤ _; omega, by show m.dn.length ≤ _; omega, fun x hx => ?_, fun x hx => ?_⟩
  ·refine List.pairwise_append.2 ⟨t, List.pairwise_cons.2 ⟨fun _ h => (by cases h), List.Pairwise.nil⟩, fun x hx y hy => ?_⟩
   obtain rfl := List.mem_singleton.1 hy
   have := (u x hx).2
   show x.id < r.tp
   omega
  ·rcases List.mem_append.1 hx with hx | hx
   ·have := u x hx
    show 1 ≤ x.id ∧ x.id ≤ r.tp
    omega
   ·obtain rfl := List.mem_singleton.1 hx
    show 1 ≤ r.tp ∧ r.tp ≤ r.tp
    omega
  ·rcases List.mem_append.1 hx with hx | hx
   ·exact np' x hx
   ·obtain rfl := List.mem_singleton.1 hx
    exact Nat.zero_le _
  ·rcases List.mem_append.1 hx with hx | hx
   ·exact p x hx
   ·obtain rfl := List.mem_singleton.1 hx
    intro q hq; cases hq
 | drop id =>
  have h1 : (m.ts.filter (fun t => !idT id t)).length ≤ m.ts.length := List.length_filter_le _ _
  have h2 : (m.cf.filter (fun c => !(c.tp == id))).length ≤ m.cf.length := List.length_filter_le _ _
  exact ⟨b, t.filter _, c.filter _, fun x hx => u x (List.mem_filter.1 hx).1, la, by show m.br.length ≤ _; omega, by show (m.ts.filter (fun t => !idT id t)).length ≤ _; omega, by show (m.cf.filter (fun c => !(c.tp == id))).length ≤ _; omega, by show m.dn.length ≤ _; omega, fun x hx => np' x (List.mem_filter.1 hx).1, fun x hx => p x (List.mem_filter.1 hx).1⟩
 | part x h1 h2 h3 h4 hw h5 =>
  obtain ⟨hx, he⟩ := fT_mem h1
  refine ⟨b, ?_, c, fun y hy => ?_, la, by show m.br.length ≤ _; omega, by show (setT m.ts _ _).length ≤ _; unfold setT; rw [List.length_map]; omega, by show m.cf.length ≤ _; omega, by show m.dn.length ≤ _; omega, fun y hy => ?_, fun y hy q hq => ?_⟩
  ·show (setT m.ts _ _).Pairwise _
   unfold setT
   rw [List.pairwise_map]
   refine t.imp fun {x y} q => ?_
   split <;> split <;> exact q
  ·obtain ⟨v, hv, e1, _, _⟩ := setT_mem hy
   rw [e1]
   exact u v hv
  ·obtain ⟨v, hv, _, _, e | e⟩ := setT_mem hy
   ·rw [e.2]
    exact Nat.le_trans (putP_len _ _ _) (Nat.succ_le_succ (np x hx))
   ·rw [e.2]; exact np' v hv
  ·obtain ⟨v, hv, _, _, e | e⟩ := setT_mem hy
   ·rw [e.2] at hq
    rcases putP_mem hq with rfl | hq
    ·exact hw
    ·exact p x hx q hq
   ·rw [e.2] at hq; exact p v hv q hq
 | crem q =>
  have h2 : (m.cf.filter q).length ≤ m.cf.length := List.length_filter_le _ _
  exact ⟨b, t, c.filter _, u, la, by show m.br.length ≤ _; omega, by show m.ts.length ≤ _; omega, by show (m.cf.filter q).length ≤ _; omega, by show m.dn.length ≤ _; omega, np', p⟩
 | cput q =>
  have h2 := putC_len m.cf q
  exact ⟨b, t, putC_asc c q, u, la, by show m.br.length ≤ _; omega, by show m.ts.length ≤ _; omega, by show (putC m.cf q).length ≤ _; omega, by show m.dn.length ≤ _; omega, np', p⟩
 | dput d =>
  exact ⟨b, t, c, u, la, by show m.br.length ≤ _; omega, by show m.ts.length ≤ _; omega, by show m.cf.length ≤ _; omega, by show (putD m.dn d).length ≤ _; unfold putD; simp only [List.length_append, List.length_drop, List.length_cons, List.length_nil]; omega, np', p⟩
theorem Wf.mono {m : Im} {N M : Nat} (h : Wf m N) (hn : N ≤ M) : Wf m M := ⟨h.b, h.t, h.c, h.u, h.la, Nat.le_trans h.nb hn, Nat.le_trans h.nt hn, Nat.le_trans h.nc hn, Nat.le_trans h.nd hn, fun t ht => Nat.le_trans (h.np t ht) hn, h.p⟩
theorem wf_app {m : Im} {N : Nat} (h : Wf m N) (r : Rc) : Wf (app m r).1 (N + 1) := h.stp (app_stp m r)
theorem wf_zero (N : Nat) : Wf Im.zero N := ⟨List.Pairwise.nil, List.Pairwise.nil, List.Pairwise.nil, fun _ h => (by cases h), ⟨by decide, by decide⟩, Nat.zero_le _, Nat.zero_le _, Nat.zero_le _, Nat.zero_le _, fun _ h => (by cases h), fun _ h => (by cases h)⟩
theorem wf_made {m : Im} : ∀ {l : List Rc} {N : Nat}, Wf m N → Wf (made m l) (N + l.length) := by
 intro l
 induction l generalizing m with
 | nil => exact fun h => h
 | cons r l ih =>
  intro N h
  have := ih (wf_app h r)
  rw [List.length_cons]
  show Wf (made (app m r).1 l) _
  rw [show N + (l.length + 1) = N + 1 + l.length by omega]
  exact this
structure Who (m : Im) : Prop where
 n : m.ts.Pairwise fun x y => x.nm ≠ y.nm
 r : ∀ t ∈ m.ts, ∀ p ∈ t.ps, right m.br p = 0 ∧ rowB p.ids true = true
 d : m.dn.length ≤ 64
 t : m.ts.length ≤ 256
theorem Who.stp {m m' : Im} {r : Rc} (h : Who m) (hs : Stp m r m') : Who m' := by
 obtain ⟨n, rr, d, t⟩ := h
 cases hs with
 | noop => exact ⟨n, rr, d, t⟩
 | bro c hf =>
  refine ⟨n, fun x hx p hp => ⟨right_putB (rr x hx p hp).1 (fun q => ?_), (rr x hx p hp).2⟩, d, t⟩
  rcases hf q with z | z
  ·exact .inl z
  ·exact .inr (leads_no z x hx p hp)
 | gone id hu => exact ⟨n, fun x hx p hp => ⟨right_remB (rr x hx p hp).1 (used_no hu x hx p hp), (rr x hx p hp).2⟩, d, t⟩
 | top h1 h2 h3 h4 =>
  refine ⟨List.pairwise_append.2 ⟨n, List.pairwise_cons.2 ⟨fun _ h => (by cases h), List.Pairwise.nil⟩, fun x hx y hy => ?_⟩, fun x hx => ?_, d, by show (m.ts ++ [_]).length ≤ _; rw [List.length_append]; simp only [List.length_cons, List.length_nil]; omega⟩
  ·obtain rfl := List.mem_singleton.1 hy
   have := List.find?_eq_none.1 h3 x hx
   simpa using this
  ·rcases List.mem_append.1 hx with hx | hx
   ·exact rr x hx
   ·obtain rfl := List.mem_singleton.1 hx
    intro q hq; cases hq
 | drop id => exact ⟨n.filter _, fun x hx => rr x (List.mem_filter.1 hx).1, d, Nat.le_trans (List.length_filter_le _ _) t⟩
 | part x h1 h2 h3 h4 hw h5 =>
  obtain ⟨hx, he⟩ := fT_mem h1
  refine ⟨?_, fun y hy q hq => ?_, d, by show (setT m.ts _ _).length ≤ _; unfold setT; rw [List.length_map]; omega⟩
  ·show (setT m.ts _ _).Pairwise _
   unfold setT
   rw [List.pairwise_map]
   refine n.imp fun {x y} q => ?_
   split <;> split <;> exact q
  ·obtain ⟨v, hv, _, _, e | e⟩ := setT_mem hy
   ·rw [e.2] at hq
    rcases putP_mem hq with rfl | hq
    ·exact ⟨h2, h4⟩
    ·exact rr x hx q hq
   ·rw [e.2] at hq; exact rr v hv q hq
 | crem q => exact ⟨n, rr, d, t⟩
 | cput q => exact ⟨n, rr, d, t⟩
 | dput q => exact ⟨n, rr, by show (putD m.dn q).length ≤ _; unfold putD; simp only [List.length_append, List.length_drop, List.length_cons, List.length_nil]; omega, t⟩
structure Rgn where
 tp : Int
 pa : Int
 ep : Int
 ld : Int
structure Rei (m : Im) (l : List Rgn) : Prop where
 la : ∀ y ∈ l, y.tp ≤ m.la
 ats : ∀ y ∈ l, ∀ t ∈ m.ts, t.id = y.tp → ∃ k : Nat, y.pa = k ∧ ∃ h : k < t.ps.length, y.ep < (t.ps[k]).ep ∨ y.ep = (t.ps[k]).ep ∧ y.ld = (t.ps[k]).ld
theorem fol_putP {l : List Pt} {r : Rc} {p : Pt} (h : folP l r p = 0) (h5 : 0 ≤ r.pa) (k : Nat) (hk : k < l.length) : ∃ h : k < (putP l r.pa.toNat p).length, (l[k]).ep < ((putP l r.pa.toNat p)[k]).ep ∨ (l[k]).ep = ((putP l r.pa.toNat p)[k]).ep ∧ (l[k]).ld = ((putP l r.pa.toNat p)[k]).ld := by
 unfold folP at h
 split at h
 ·split at h
  ·rename_i hn
   have hn' : r.pa.toNat = l.length := by omega
   refine ⟨by rw [hn']; unfold putP; simp; omega, .inr ?_⟩
   have : (putP l r.pa.toNat p)[k]? = some l[k] := by
    rw [hn']; unfold putP
    rw [List.take_length, List.getElem?_append_left hk, List.getElem?_eq_getElem hk]
   obtain ⟨hk', e⟩ := List.getElem?_eq_some_iff.1 this
   rw [e]
   exact ⟨rfl, rfl⟩
  ·exact absurd h (by decide)
 ·cases ho : l[r.pa.toNat]? with
  | none => rw [ho] at h; exact absurd h (by decide : ¬ (8 : Int) = 0)
  | some o =>
   rw [ho] at h
   simp only at h
   obtain ⟨hlt, ho'⟩ := List.getElem?_eq_some_iff.1 ho
   split at h
   ·exact absurd h (by decide)
   ·rename_i hep
    have hlen : (putP l r.pa.toNat p).length = l.length := by
     unfold putP
     simp only [List.length_append, List.length_take, List.length_cons, List.length_drop]
     omega
    refine ⟨by rw [hlen]; exact hk, ?_⟩
    by_cases hkk : k = r.pa.toNat
    ·have : (putP l r.pa.toNat p)[k]? = some p := by
      unfold putP
      rw [List.getElem?_append_right (by rw [List.length_take]; omega), List.length_take, show k - min r.pa.toNat l.length = 0 by omega]
      rfl
     obtain ⟨hk', e⟩ := List.getElem?_eq_some_iff.1 this
     rw [e]
     subst hkk
     rw [ho']
     by_cases q1 : p.ep = o.ep + 1
     ·exact .inl (by omega)
     ·refine .inr ?_
      simp [q1] at hep
      exact ⟨hep.1.symm, hep.2.symm⟩
    ·have : (putP l r.pa.toNat p)[k]? = some l[k] := by
      unfold putP
      by_cases hl : k < r.pa.toNat
      ·rw [List.getElem?_append_left (by rw [List.length_take]; omega), List.getElem?_take_of_lt hl, List.getElem?_eq_getElem hk]
      ·rw [List.getElem?_append_right (by rw [List.length_take]; omega), List.length_take, List.getElem?_cons, if_neg (by omega), List.getElem?_drop, List.getElem?_eq_getElem (by omega)]
       congr 2
       omega
     obtain ⟨hk', e⟩ := List.getElem?_eq_some_iff.1 this
     rw [e]
     exact .inr ⟨rfl, rfl⟩
theorem Rei.stp {m m' : Im} {r : Rc} {l : List Rgn} (h : Rei m l) (hs : Stp m r m') : Rei m' l := by
 obtain ⟨la, at_⟩ := h
 cases hs with
 | noop => exact ⟨la, at_⟩
 | bro c hf => exact ⟨la, at_⟩
 | gone id hu => exact ⟨la, at_⟩
 | top h1 h2 h3 h4 =>
  refine ⟨fun y hy => ?_, fun y hy t ht => ?_⟩
  ·have := la y hy
   show y.tp ≤ r.tp
   omega
  ·rcases List.mem_append.1 ht with ht | ht
   ·exact at_ y hy t ht
   ·obtain rfl := List.mem_singleton.1 ht
    intro e
    have := la y hy
    have e' : r.tp = y.tp := e
    omega
 | drop id => exact ⟨la, fun y hy t ht => at_ y hy t (List.mem_filter.1 ht).1⟩
 | part x h1 h2 h3 h4 hp h5 =>
  obtain ⟨hx, he⟩ := fT_mem h1
  refine ⟨la, fun y hy t ht e => ?_⟩
  obtain ⟨v, hv, e1, _, e2 | e2⟩ := setT_mem ht
  ·have hvx : x.id = y.tp := by omega
   obtain ⟨k, hk, hl, hc⟩ := at_ y hy x hx hvx
   obtain ⟨hl', hc'⟩ := fol_putP h3 h5 k hl
   refine ⟨k, hk, by rw [e2.2]; exact hl', ?_⟩
   have ee : ∀ (z : List Pt) (hz : z = putP x.ps r.pa.toNat (ptOf r)) (hlz : k < z.length), y.ep < (z[k]).ep ∨ y.ep = (z[k]).ep ∧ y.ld = (z[k]).ld := by
    rintro z rfl hlz
    rcases hc with q | ⟨q1, q2⟩ <;> rcases hc' with z | ⟨z1, z2⟩
    ·exact .inl (by omega)
    ·exact .inl (by omega)
    ·exact .inl (by omega)
    ·exact .inr ⟨by omega, by omega⟩
   exact ee _ e2.2 _
  ·obtain ⟨_, rfl⟩ := e2
   exact at_ y hy t hv e
 | crem q => exact ⟨la, at_⟩
 | cput q => exact ⟨la, at_⟩
 | dput q => exact ⟨la, at_⟩
theorem Rei.ok {m : Im} {l : List Rgn} (h : Rei m l) {y : Rgn} (hy : y ∈ l) {t : Tp} (ht : t ∈ m.ts) (k : Nat) (hk : k < t.ps.length) (h1 : y.tp = t.id) (h2 : y.pa = k) : y.ep < (t.ps[k]).ep ∨ y.ep = (t.ps[k]).ep ∧ y.ld = (t.ps[k]).ld := by
 obtain ⟨j, e, hj, hc⟩ := h.ats y hy t ht h1.symm
 obtain rfl : j = k := by omega
 exact hc
end Go.Proofs.YtlggjgapdpkhiaaGreat
