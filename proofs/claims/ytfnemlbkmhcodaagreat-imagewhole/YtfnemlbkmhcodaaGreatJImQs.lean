/-
  ARE PARTITIONS, TOPICS, IMAGES THE SAME, AS THE DOCUMENT HAS IT (castellanref15.SamePart; sameTopic and Same where they are). Conditions: partitions' rows are short; images in order, their lists no longer than a hundred thousand.
-/
import Derived.Test.YtfnemlbkmhcodaaGreatJImQa
import Derived.Test.YtfnemlbkmhcodaaGreatJImHa3
import Derived.Laws.StructEq
namespace Go.Proofs.YtfnemlbkmhcodaaGreat
open Go.RowKit

theorem samP_refl (p : Pt) : samP p p = true := by
  unfold samP
  simp
/-- Two boxes of a call's own. -/
structure Tb (w W : World) (xs ys : List Value) : Prop where
  a : Bx W w.heap.size xs
  c : Bx W (w.heap.size + 1) ys
  b : Below w.heap.size w W
theorem Tb.below {w W W' : World} {xs ys : List Value} (h : Tb w W xs ys) (hb : Below W.heap.size W W') : Tb w W' xs ys := ⟨h.a.below hb, h.c.below hb, bt h.b hb⟩
theorem Tb.drewN {w W : World} {xs ys : List Value} (h : Tb w W xs ys) (n : Nat) : Tb w (W.drewN n) xs ys := ⟨h.a.drewN n, h.c.drewN n, ⟨h.b.os, h.b.tape, h.b.output, h.b.size, h.b.block⟩⟩
theorem Tb.mk' (w : World) (xs ys : List Value) (t u : TypeId) : Tb w ((w.alloc (.cells xs.toArray t)).alloc (.cells ys.toArray u)) xs ys := by
  obtain ⟨h1, h2, h3⟩ := Bx.mk2 w xs ys t u (Below.refl _ _)
  exact ⟨h1, h2, h3⟩
theorem eqI_bq (a b : List Int) : eqI a b = (a == b) := by
  unfold eqI
  by_cases h : a = b
  · simp [h]
  · simp [h]
set_option maxRecDepth 100000 in
set_option maxHeartbeats 16000000 in
theorem rsamep_any (p q : Pp) (w : World) (hp : PtR w p) (hq : PtR w q) (hl : WfP p.1) : Calls Tryz.prog 21 #[.agg (ptc p).toArray, .agg (ptc q).toArray] w fun e w' => e = .returned (.bool (samP p.1 q.1)) ∧ Below w.heap.size w w' := by
  have HR0 : Hid (Tb w ((w.alloc (.cells (List.toArray [Value.slice p.2.a0 p.1.ids.length p.2.c0, .slice p.2.a1 p.1.isr.length p.2.c1, .int .i64 p.1.ld, .int .i64 p.1.ep, .slice p.2.a2 p.1.ad.length p.2.c2, .slice p.2.a3 p.1.dr.length p.2.c3]) 44)).alloc (.cells (List.toArray [Value.slice q.2.a0 q.1.ids.length q.2.c0, .slice q.2.a1 q.1.isr.length q.2.c1, .int .i64 q.1.ld, .int .i64 q.1.ep, .slice q.2.a2 q.1.ad.length q.2.c2, .slice q.2.a3 q.1.dr.length q.2.c3]) 44)) (ptc p) (ptc q)) := hide (Tb.mk' w (ptc p) (ptc q) 44 44)
  have HI0 := hide (fun W (h : Below w.heap.size w W) => ints_any _ _ p.1.ids q.1.ids W (hp.below h).s0 (hq.below h).s0 (Nat.le_trans hl.l0 (by decide)))
  have HI1 := hide (fun W (h : Below w.heap.size w W) => ints_any _ _ p.1.isr q.1.isr W (hp.below h).s1 (hq.below h).s1 (Nat.le_trans hl.l1 (by decide)))
  have HI2 := hide (fun W (h : Below w.heap.size w W) => ints_any _ _ p.1.ad q.1.ad W (hp.below h).s2 (hq.below h).s2 (Nat.le_trans hl.l2 (by decide)))
  have HI3 := hide (fun W (h : Below w.heap.size w W) => ints_any _ _ p.1.dr q.1.dr W (hp.below h).s3 (hq.below h).s3 (Nat.le_trans hl.l3 (by decide)))
  rw [eqI_bq] at HI0 HI1 HI2 HI3
  clear hp hq hl
  obtain ⟨R, hR⟩ : ∃ R, R = samP p.1 q.1 := ⟨_, rfl⟩
  rw [← hR]
  unfold samP at hR
  unfold ptc at *
  go_enter Tryz.func21, Tryz.ntmps21
  go_upto_region 1 with fail
  generalize (w.alloc (.cells (List.toArray [Value.slice p.2.a0 p.1.ids.length p.2.c0, .slice p.2.a1 p.1.isr.length p.2.c1, .int .i64 p.1.ld, .int .i64 p.1.ep, .slice p.2.a2 p.1.ad.length p.2.c2, .slice p.2.a3 p.1.dr.length p.2.c3]) 44)).alloc (.cells (List.toArray [Value.slice q.2.a0 q.1.ids.length q.2.c0, .slice q.2.a1 q.1.isr.length q.2.c1, .int .i64 q.1.ld, .int .i64 q.1.ep, .slice q.2.a2 q.1.ad.length q.2.c2, .slice q.2.a3 q.1.dr.length q.2.c3]) 44) = X at HR0 ⊢
  have HR := hide HR0.out
  clear HR0
  have p0 := HR.out.a.at 0 _ rfl
  have p1 := HR.out.a.at 1 _ rfl
  have p2 := HR.out.a.at 2 _ rfl
  have p3 := HR.out.a.at 3 _ rfl
  have p4 := HR.out.a.at 4 _ rfl
  have p5 := HR.out.a.at 5 _ rfl
  have q0 := HR.out.c.at 0 _ rfl
  have q1 := HR.out.c.at 1 _ rfl
  have q2 := HR.out.c.at 2 _ rfl
  have q3 := HR.out.c.at 3 _ rfl
  have q4 := HR.out.c.at 4 _ rfl
  have q5 := HR.out.c.at 5 _ rfl
  cases e1 : p.1.ld == q.1.ld with
  | false =>
    rw [e1] at hR
    have n1 : (p.1.ld != q.1.ld) = true := by simpa using e1
    clear e1
    have HRR := hide hR
    clear hR
    go_wp2_with (first | fail)
    go_ret
    exact ⟨by rw [HRR.out]; rfl, HR.out.b⟩
  | true =>
    rw [e1] at hR
    have n1 : (p.1.ld != q.1.ld) = false := by simpa using e1
    clear e1
    cases e2 : p.1.ep == q.1.ep with
    | false =>
      rw [e2] at hR
      have n2 : (p.1.ep != q.1.ep) = true := by simpa using e2
      clear e2
      have HRR := hide hR
      clear hR
      go_wp2_with (first | fail)
      go_ret
      exact ⟨by rw [HRR.out]; rfl, HR.out.b⟩
    | true =>
      rw [e2] at hR
      have n2 : (p.1.ep != q.1.ep) = false := by simpa using e2
      clear e2
      cases f0 : p.1.ids == q.1.ids with
      | false =>
        rw [f0] at hR HI0
        clear f0
        have HRR := hide hR
        clear hR
        go_wp2_with (first | (go_at_call 51; with_reducible refine (HI0.out _ HR.out.b).mono ?_; rintro e wz ⟨rfl, hbz⟩; replace HR := hide (HR.out.below hbz.below); have p0 := HR.out.a.at 0 _ rfl; have p1 := HR.out.a.at 1 _ rfl; have p4 := HR.out.a.at 4 _ rfl; have p5 := HR.out.a.at 5 _ rfl; have q0 := HR.out.c.at 0 _ rfl; have q1 := HR.out.c.at 1 _ rfl; have q4 := HR.out.c.at 4 _ rfl; have q5 := HR.out.c.at 5 _ rfl; clear hbz))
        go_ret
        exact ⟨by rw [HRR.out]; rfl, HR.out.b⟩
      | true =>
        rw [f0] at hR HI0
        clear f0
        cases f1 : p.1.isr == q.1.isr with
        | false =>
          rw [f1] at hR HI1
          clear f1
          have HRR := hide hR
          clear hR
          go_wp2_with (first | (go_at_call 51; with_reducible refine (HI0.out _ HR.out.b).mono ?_; rintro e wz ⟨rfl, hbz⟩; replace HR := hide (HR.out.below hbz.below); have p0 := HR.out.a.at 0 _ rfl; have p1 := HR.out.a.at 1 _ rfl; have p4 := HR.out.a.at 4 _ rfl; have p5 := HR.out.a.at 5 _ rfl; have q0 := HR.out.c.at 0 _ rfl; have q1 := HR.out.c.at 1 _ rfl; have q4 := HR.out.c.at 4 _ rfl; have q5 := HR.out.c.at 5 _ rfl; clear hbz) | (go_at_call 51; with_reducible refine (HI1.out _ HR.out.b).mono ?_; rintro e wz ⟨rfl, hbz⟩; replace HR := hide (HR.out.below hbz.below); have p0 := HR.out.a.at 0 _ rfl; have p1 := HR.out.a.at 1 _ rfl; have p4 := HR.out.a.at 4 _ rfl; have p5 := HR.out.a.at 5 _ rfl; have q0 := HR.out.c.at 0 _ rfl; have q1 := HR.out.c.at 1 _ rfl; have q4 := HR.out.c.at 4 _ rfl; have q5 := HR.out.c.at 5 _ rfl; clear hbz))
          go_ret
          exact ⟨by rw [HRR.out]; rfl, HR.out.b⟩
        | true =>
          rw [f1] at hR HI1
          clear f1
          cases f2 : p.1.ad == q.1.ad with
          | false =>
            rw [f2] at hR HI2
            clear f2
            have HRR := hide hR
            clear hR
            go_wp2_with (first | (go_at_call 51; with_reducible refine (HI0.out _ HR.out.b).mono ?_; rintro e wz ⟨rfl, hbz⟩; replace HR := hide (HR.out.below hbz.below); have p0 := HR.out.a.at 0 _ rfl; have p1 := HR.out.a.at 1 _ rfl; have p4 := HR.out.a.at 4 _ rfl; have p5 := HR.out.a.at 5 _ rfl; have q0 := HR.out.c.at 0 _ rfl; have q1 := HR.out.c.at 1 _ rfl; have q4 := HR.out.c.at 4 _ rfl; have q5 := HR.out.c.at 5 _ rfl; clear hbz) | (go_at_call 51; with_reducible refine (HI1.out _ HR.out.b).mono ?_; rintro e wz ⟨rfl, hbz⟩; replace HR := hide (HR.out.below hbz.below); have p0 := HR.out.a.at 0 _ rfl; have p1 := HR.out.a.at 1 _ rfl; have p4 := HR.out.a.at 4 _ rfl; have p5 := HR.out.a.at 5 _ rfl; have q0 := HR.out.c.at 0 _ rfl; have q1 := HR.out.c.at 1 _ rfl; have q4 := HR.out.c.at 4 _ rfl; have q5 := HR.out.c.at 5 _ rfl; clear hbz) | (go_at_call 51; with_reducible refine (HI2.out _ HR.out.b).mono ?_; rintro e wz ⟨rfl, hbz⟩; replace HR := hide (HR.out.below hbz.below); have p0 := HR.out.a.at 0 _ rfl; have p1 := HR.out.a.at 1 _ rfl; have p4 := HR.out.a.at 4 _ rfl; have p5 := HR.out.a.at 5 _ rfl; have q0 := HR.out.c.at 0 _ rfl; have q1 := HR.out.c.at 1 _ rfl; have q4 := HR.out.c.at 4 _ rfl; have q5 := HR.out.c.at 5 _ rfl; clear hbz))
            go_ret
            exact ⟨by rw [HRR.out]; rfl, HR.out.b⟩
          | true =>
            rw [f2] at hR HI2
            clear f2
            cases f3 : p.1.dr == q.1.dr with
            | false =>
              rw [f3] at hR HI3
              clear f3
              have HRR := hide hR
              clear hR
              go_wp2_with (first | (go_at_call 51; with_reducible refine (HI0.out _ HR.out.b).mono ?_; rintro e wz ⟨rfl, hbz⟩; replace HR := hide (HR.out.below hbz.below); have p0 := HR.out.a.at 0 _ rfl; have p1 := HR.out.a.at 1 _ rfl; have p4 := HR.out.a.at 4 _ rfl; have p5 := HR.out.a.at 5 _ rfl; have q0 := HR.out.c.at 0 _ rfl; have q1 := HR.out.c.at 1 _ rfl; have q4 := HR.out.c.at 4 _ rfl; have q5 := HR.out.c.at 5 _ rfl; clear hbz) | (go_at_call 51; with_reducible refine (HI1.out _ HR.out.b).mono ?_; rintro e wz ⟨rfl, hbz⟩; replace HR := hide (HR.out.below hbz.below); have p0 := HR.out.a.at 0 _ rfl; have p1 := HR.out.a.at 1 _ rfl; have p4 := HR.out.a.at 4 _ rfl; have p5 := HR.out.a.at 5 _ rfl; have q0 := HR.out.c.at 0 _ rfl; have q1 := HR.out.c.at 1 _ rfl; have q4 := HR.out.c.at 4 _ rfl; have q5 := HR.out.c.at 5 _ rfl; clear hbz) | (go_at_call 51; with_reducible refine (HI2.out _ HR.out.b).mono ?_; rintro e wz ⟨rfl, hbz⟩; replace HR := hide (HR.out.below hbz.below); have p0 := HR.out.a.at 0 _ rfl; have p1 := HR.out.a.at 1 _ rfl; have p4 := HR.out.a.at 4 _ rfl; have p5 := HR.out.a.at 5 _ rfl; have q0 := HR.out.c.at 0 _ rfl; have q1 := HR.out.c.at 1 _ rfl; have q4 := HR.out.c.at 4 _ rfl; have q5 := HR.out.c.at 5 _ rfl; clear hbz) | (go_at_call 51; with_reducible refine (HI3.out _ HR.out.b).mono ?_; rintro e wz ⟨rfl, hbz⟩; replace HR := hide (HR.out.below hbz.below); have p0 := HR.out.a.at 0 _ rfl; have p1 := HR.out.a.at 1 _ rfl; have p4 := HR.out.a.at 4 _ rfl; have p5 := HR.out.a.at 5 _ rfl; have q0 := HR.out.c.at 0 _ rfl; have q1 := HR.out.c.at 1 _ rfl; have q4 := HR.out.c.at 4 _ rfl; have q5 := HR.out.c.at 5 _ rfl; clear hbz))
              go_ret
              exact ⟨by rw [HRR.out]; rfl, HR.out.b⟩
            | true =>
              rw [f3] at hR HI3
              clear f3
              have HRR := hide hR
              clear hR
              go_wp2_with (first | (go_at_call 51; with_reducible refine (HI0.out _ HR.out.b).mono ?_; rintro e wz ⟨rfl, hbz⟩; replace HR := hide (HR.out.below hbz.below); have p0 := HR.out.a.at 0 _ rfl; have p1 := HR.out.a.at 1 _ rfl; have p4 := HR.out.a.at 4 _ rfl; have p5 := HR.out.a.at 5 _ rfl; have q0 := HR.out.c.at 0 _ rfl; have q1 := HR.out.c.at 1 _ rfl; have q4 := HR.out.c.at 4 _ rfl; have q5 := HR.out.c.at 5 _ rfl; clear hbz) | (go_at_call 51; with_reducible refine (HI1.out _ HR.out.b).mono ?_; rintro e wz ⟨rfl, hbz⟩; replace HR := hide (HR.out.below hbz.below); have p0 := HR.out.a.at 0 _ rfl; have p1 := HR.out.a.at 1 _ rfl; have p4 := HR.out.a.at 4 _ rfl; have p5 := HR.out.a.at 5 _ rfl; have q0 := HR.out.c.at 0 _ rfl; have q1 := HR.out.c.at 1 _ rfl; have q4 := HR.out.c.at 4 _ rfl; have q5 := HR.out.c.at 5 _ rfl; clear hbz) | (go_at_call 51; with_reducible refine (HI2.out _ HR.out.b).mono ?_; rintro e wz ⟨rfl, hbz⟩; replace HR := hide (HR.out.below hbz.below); have p0 := HR.out.a.at 0 _ rfl; have p1 := HR.out.a.at 1 _ rfl; have p4 := HR.out.a.at 4 _ rfl; have p5 := HR.out.a.at 5 _ rfl; have q0 := HR.out.c.at 0 _ rfl; have q1 := HR.out.c.at 1 _ rfl; have q4 := HR.out.c.at 4 _ rfl; have q5 := HR.out.c.at 5 _ rfl; clear hbz) | (go_at_call 51; with_reducible refine (HI3.out _ HR.out.b).mono ?_; rintro e wz ⟨rfl, hbz⟩; replace HR := hide (HR.out.below hbz.below); have p0 := HR.out.a.at 0 _ rfl; have p1 := HR.out.a.at 1 _ rfl; have p4 := HR.out.a.at 4 _ rfl; have p5 := HR.out.a.at 5 _ rfl; have q0 := HR.out.c.at 0 _ rfl; have q1 := HR.out.c.at 1 _ rfl; have q4 := HR.out.c.at 4 _ rfl; have q5 := HR.out.c.at 5 _ rfl; clear hbz))
              go_ret
              exact ⟨by rw [HRR.out]; rfl, HR.out.b⟩
set_option maxRecDepth 100000 in
set_option maxHeartbeats 16000000 in
theorem rsamet_any (x y : Tq) (w : World) (hx : TqR w x) (hy : TqR w y) (he : x.tp = y.tp) (hl : x.ps.length ≤ 100000) (hw : ∀ q ∈ x.ps, WfP q.1) : Calls Tryz.prog 56 #[.agg (tpc x).toArray, .agg (tpc y).toArray] w fun e w' => e = .returned (.bool true) ∧ Below w.heap.size w w' := by
  have HX := hide (fun W (h : Below w.heap.size w W) => hx.below h)
  have HY := hide (fun W (h : Below w.heap.size w W) => hy.below h)
  obtain ⟨xi, xn, xps, xa, xc⟩ := x
  obtain ⟨yi, yn, yps, ya, yc⟩ := y
  simp only [Tq.tp, Tp.mk.injEq] at he
  obtain ⟨rfl, rfl, hps⟩ := he
  have hln : xps.length = yps.length := by have := congrArg List.length hps; simpa using this
  have HW := hide hw
  have HPS := hide hps
  have HLN := hide hln
  clear hln
  have HR0 := hide (Tb.mk' w (tpc ⟨xi, xn, xps, xa, xc⟩) (tpc ⟨xi, xn, yps, ya, yc⟩) 38 38)
  clear hx hy hw hps
  unfold tpc at *
  dsimp only at *
  go_enter Tryz.func56, Tryz.ntmps56
  go_upto_region 1 with fail
  generalize (w.alloc (.cells (List.toArray [Value.int .i64 xi, .string ⟨xn.toArray⟩, .slice xa xps.length xc]) 38)).alloc (.cells (List.toArray [Value.int .i64 xi, .string ⟨xn.toArray⟩, .slice ya yps.length yc]) 38) = X at HR0 ⊢
  have HR := hide HR0.out
  clear HR0
  have a0 := HR.out.a.at 0 _ rfl
  have a1 := HR.out.a.at 1 _ rfl
  have a2 := HR.out.a.at 2 _ rfl
  have b0 := HR.out.c.at 0 _ rfl
  have b1 := HR.out.c.at 1 _ rfl
  have b2 := HR.out.c.at 2 _ rfl
  have n1 : (xi != xi) = false := by simp
  have n2 : (xn != xn) = false := by simp
  have n3 : ((xps.length : Int) != (yps.length : Int)) = false := by simp [HLN.out]
  go_upto_region 4 with fail
  clear a0 a1 a2 b0 b1 b2 n1 n2 n3
  go_loopw [5] (fun i W => ∃ k : Nat, k ≤ xps.length ∧ i = .int .i64 (k : Int) ∧ Tb w W [Value.int .i64 xi, .string ⟨xn.toArray⟩, .slice xa xps.length xc] [Value.int .i64 xi, .string ⟨xn.toArray⟩, .slice ya yps.length yc]) (fun i _ => xps.length - (ivQ i).toNat)
  case atStart => exact ⟨0, Nat.zero_le _, rfl, HR.out⟩
  case round =>
    clear HR
    obtain ⟨k, hk, rfl, hr⟩ := hrel
    have HR := hide hr
    clear hr
    have a2 := HR.out.a.at 2 _ rfl
    by_cases hlt : k < xps.length
    · have hltI : (k : Int) < (xps.length : Int) := by omega
      have hlt2 : k < yps.length := by have := HLN.out; omega
      have hlyI : (k : Int) < (yps.length : Int) := by omega
      obtain ⟨bx, ox, rfl, hrx⟩ := (HX.out wr HR.out.b).ps.rg (show 0 < xps.length by omega)
      obtain ⟨by_, oy, rfl, hry⟩ := (HY.out wr HR.out.b).ps.rg (show 0 < yps.length by omega)
      have HU := hide (fm_at encP hrx hlt)
      have HVV := hide (fm_at encP hry hlt2)
      have HSP : Hid (∀ W, Below wr.heap.size wr W → Calls Tryz.prog 21 #[.agg (ptc xps[k]).toArray, .agg (ptc yps[k]).toArray] W fun e w' => e = .returned (.bool true) ∧ Below W.heap.size W w') := hide (fun W h => by
        have hb := bt HR.out.b h
        have := rsamep_any xps[k] yps[k] W ((HX.out W hb).pt _ (List.getElem_mem hlt)) ((HY.out W hb).pt _ (List.getElem_mem hlt2)) (HW.out _ (List.getElem_mem hlt))
        have e1 : (xps[k]).1 = (yps[k]).1 := by
          have h1 : (xps.map (·.1))[k]? = some (xps[k]).1 := by rw [List.getElem?_map, List.getElem?_eq_getElem hlt]; rfl
          have h2 : (yps.map (·.1))[k]? = some (yps[k]).1 := by rw [List.getElem?_map, List.getElem?_eq_getElem hlt2]; rfl
          rw [HPS.out, h2] at h1
          exact (Option.some.inj h1).symm
        rw [e1, samP_refl] at this
        exact this)
      clear hrx hry
      generalize xps[k] = u at HU HSP
      generalize yps[k] = v at HVV HSP
      go_upto_region 6 with fail
      clear a2
      have hdw : Below wr.heap.size wr wr.drew := (Below.refl _ _).drew
      refine wp_region_held_drew (S := fun W => Tb w W [Value.int .i64 xi, .string ⟨xn.toArray⟩, .slice (some ⟨bx, ox, none⟩) xps.length xc] [Value.int .i64 xi, .string ⟨xn.toArray⟩, .slice (some ⟨by_, oy, none⟩) yps.length yc] ∧ W.rangeAt bx (ox + k * 6) (ptc u) ∧ W.rangeAt by_ (oy + k * 6) (ptc v)) (by kernel_rfl) ⟨HR.out.below hdw, rg_bel HU.out hdw, rg_bel HVV.out hdw⟩ (fun hHeld => ?_)
      have HSM := hide (fun W (h : Below wr.drew.heap.size wr.drew W) => HSP.out W (bt (hdw) h))
      generalize wr.drew = V4 at HSM hHeld ⊢
      clear hdw
      refine wpAnyH_take (i := 0) (oi := _) (v := .pointer (some ⟨w.heap.size, 2, none⟩)) rfl (by kernel_rfl) (by kernel_rfl) (by kernel_rfl) (fun _ _ _ h => h) (Or.inl ⟨by rfl, by intro w hSw; go_simp⟩) hHeld ?_
      change wpAnyH _ _ _ _ _ _ _ (Act.put _ (some 34) _) _
      simp only [Act.put, List.setIfInBounds_toArray, List.set_cons_zero, List.set_cons_succ]
      refine wpAnyH_take (i := 1) (oi := _) (v := .slice (some ⟨bx, ox, none⟩) xps.length xc) rfl (by kernel_rfl) (by kernel_rfl) (by kernel_rfl) (fun _ _ _ h => h) (Or.inl ⟨by rfl, by intro w hSw; have h0 := hSw.1.a.at 2 _ rfl; go_simp⟩) hHeld ?_
      change wpAnyH _ _ _ _ _ _ _ (Act.put _ (some 35) _) _
      simp only [Act.put, List.setIfInBounds_toArray, List.set_cons_zero, List.set_cons_succ]
      refine wpAnyH_take (i := 2) (oi := _) (v := .int .i64 (k : Int)) rfl (by kernel_rfl) (by kernel_rfl) (by kernel_rfl) (fun _ _ _ h => h) (Or.inl ⟨by rfl, by intro w hSw; go_simp⟩) hHeld ?_
      change wpAnyH _ _ _ _ _ _ _ (Act.put _ (some 36) _) _
      simp only [Act.put, List.setIfInBounds_toArray, List.set_cons_zero, List.set_cons_succ]
      refine wpAnyH_take (i := 3) (oi := _) (v := .pointer (some ⟨bx, ox + k * 6, none⟩)) rfl (by kernel_rfl) (by kernel_rfl) (by kernel_rfl) (fun _ _ _ h => h) (Or.inl ⟨by rfl, by intro w hSw; go_simp⟩) hHeld ?_
      change wpAnyH _ _ _ _ _ _ _ (Act.put _ (some 37) _) _
      simp only [Act.put, List.setIfInBounds_toArray, List.set_cons_zero, List.set_cons_succ]
      refine wpAnyH_take (i := 4) (oi := _) (v := _) rfl (by kernel_rfl) (by kernel_rfl) (by kernel_rfl) (fun _ _ _ h => h) (yieldsIf_load_mid (by rfl) _ _ rfl _ _ rfl (ptc u) _ (fun W hW => hW.2.1) Tryz.underlying44 rfl (by kernel_rfl)) hHeld ?_
      change wpAnyH _ _ _ _ _ _ _ (Act.put _ (some 38) _) _
      simp only [Act.put, List.setIfInBounds_toArray, List.set_cons_zero, List.set_cons_succ]
      refine wpAnyH_take (i := 5) (oi := _) (v := .pointer (some ⟨w.heap.size + 1, 2, none⟩)) rfl (by kernel_rfl) (by kernel_rfl) (by kernel_rfl) (fun _ _ _ h => h) (Or.inl ⟨by rfl, by intro w hSw; go_simp⟩) hHeld ?_
      change wpAnyH _ _ _ _ _ _ _ (Act.put _ (some 39) _) _
      simp only [Act.put, List.setIfInBounds_toArray, List.set_cons_zero, List.set_cons_succ]
      refine wpAnyH_take (i := 6) (oi := _) (v := .slice (some ⟨by_, oy, none⟩) yps.length yc) rfl (by kernel_rfl) (by kernel_rfl) (by kernel_rfl) (fun _ _ _ h => h) (Or.inl ⟨by rfl, by intro w hSw; have h0 := hSw.1.c.at 2 _ rfl; go_simp⟩) hHeld ?_
      change wpAnyH _ _ _ _ _ _ _ (Act.put _ (some 40) _) _
      simp only [Act.put, List.setIfInBounds_toArray, List.set_cons_zero, List.set_cons_succ]
      refine wpAnyH_take (i := 7) (oi := _) (v := .int .i64 (k : Int)) rfl (by kernel_rfl) (by kernel_rfl) (by kernel_rfl) (fun _ _ _ h => h) (Or.inl ⟨by rfl, by intro w hSw; go_simp⟩) hHeld ?_
      change wpAnyH _ _ _ _ _ _ _ (Act.put _ (some 41) _) _
      simp only [Act.put, List.setIfInBounds_toArray, List.set_cons_zero, List.set_cons_succ]
      refine wpAnyH_take (i := 8) (oi := _) (v := .pointer (some ⟨by_, oy + k * 6, none⟩)) rfl (by kernel_rfl) (by kernel_rfl) (by kernel_rfl) (fun _ _ _ h => h) (Or.inl ⟨by rfl, by intro w hSw; go_simp⟩) hHeld ?_
      change wpAnyH _ _ _ _ _ _ _ (Act.put _ (some 42) _) _
      simp only [Act.put, List.setIfInBounds_toArray, List.set_cons_zero, List.set_cons_succ]
      refine wpAnyH_take (i := 9) (oi := _) (v := _) rfl (by kernel_rfl) (by kernel_rfl) (by kernel_rfl) (fun _ _ _ h => h) (yieldsIf_load_mid (by rfl) _ _ rfl _ _ rfl (ptc v) _ (fun W hW => hW.2.2) Tryz.underlying44 rfl (by kernel_rfl)) hHeld ?_
      change wpAnyH _ _ _ _ _ _ _ (Act.put _ (some 43) _) _
      simp only [Act.put, List.setIfInBounds_toArray, List.set_cons_zero, List.set_cons_succ]
      refine wpAnyH_ready (rs := [10]) (by kernel_rfl) (by simp) ?_
      refine AllReadyH.cons (o := _) rfl (fun K hK => ?_) AllReadyH.nil
      go_simp
      go_at_call 21
      refine (HSM.out V4 (Below.refl _ _)).mono ?_
      rintro e V6 ⟨rfl, hbx⟩
      go_wp2_with fail
      refine hK.out _ _ ⟨hHeld.1.below hbx, rg_bel hHeld.2.1 hbx, rg_bel hHeld.2.2 hbx⟩ (fun hHeld1 => ?_)
      clear hK K hHeld
      have hHeld := hHeld1
      clear hHeld1
      refine wpAnyH_take (i := 11) (oi := _) (v := .bool false) rfl (by kernel_rfl) (by kernel_rfl) (by kernel_rfl) (fun _ _ _ h => h) (Or.inl ⟨by rfl, by intro w hSw; go_simp⟩) hHeld ?_
      change wpAnyH _ _ _ _ _ _ _ (Act.put _ (some 45) _) _
      simp only [Act.put, List.setIfInBounds_toArray, List.set_cons_zero, List.set_cons_succ]
      refine wpAnyH_done (by kernel_rfl) ?_ _
      replace HR := hide hHeld.1
      clear hHeld
      go_wp2_with fail
      go_roundw
      case rel => exact ⟨k + 1, by omega, by go_num, HR.out⟩
      case measure => simp [ivQ]; omega
    · obtain rfl : k = xps.length := by omega
      go_wp2_with fail
      go_ret
      exact ⟨rfl, HR.out.b⟩
end Go.Proofs.YtfnemlbkmhcodaaGreat
