/-
  TWO PARTITIONS HELD TOGETHER (image.Same). Conditions: the cells hold them, rows of no more than seven numbers.
  WHETHER A PARTITION MAY FOLLOW (image.follows), AND A BROKER BE TURNED (image.turns). Conditions: an image in order, a record that may be, rows of no more than seven numbers.
  MANY ROWS AS ONE (slices.Grow, slices.Concat). Conditions: their cells hold them, no more than two hundred thousand each.
-/
import Derived.Test.YtfnemlbkmhcodaaGreatJImDwBa3
import Derived.Test.YtfnemlbkmhcodaaGreatJImCea3
import Derived.Test.YtfnemlbkmhcodaaGreatJImCha3
namespace Go.Proofs.YtfnemlbkmhcodaaGreat
open Go.RowKit

theorem qt_below {w w' : World} (h : Qt w w') : Below w.heap.size w w' := by
  obtain ⟨n, rfl⟩ := h
  exact below_drewN (Below.refl _ _) n
theorem eqI_beq (a b : List Int) : (a == b) = eqI a b := by
  unfold eqI
  by_cases h : a = b
  · rw [decide_eq_true h, h]; simp
  · rw [decide_eq_false h]; simpa using h
set_option maxRecDepth 100000 in
set_option maxHeartbeats 16000000 in
theorem Same_any (p q : Pp) (w : World) (hp : PtR w p) (hq : PtR w q) (hl : WfP p.1) : Calls Tryz.prog 22 #[.agg (ptc p).toArray, .agg (ptc q).toArray] w fun e w' => e = .returned (.bool (samP p.1 q.1)) ∧ Below w.heap.size w w' := by
  obtain ⟨⟨ids, isr, ld, ep, ad, dr⟩, ⟨a0, a1, a2, a3, c0, c1, c2, c3⟩⟩ := p
  obtain ⟨⟨ids', isr', ld', ep', ad', dr'⟩, ⟨a0', a1', a2', a3', c0', c1', c2', c3'⟩⟩ := q
  have E0 := hide (fun W (h : Below w.heap.size w W) => equal_any _ _ ids ids' W (hp.s0.below h) (hq.s0.below h) (Nat.le_trans hl.l0 (by decide)))
  have E1 := hide (fun W (h : Below w.heap.size w W) => equal_any _ _ isr isr' W (hp.s1.below h) (hq.s1.below h) (Nat.le_trans hl.l1 (by decide)))
  have E2 := hide (fun W (h : Below w.heap.size w W) => equal_any _ _ ad ad' W (hp.s2.below h) (hq.s2.below h) (Nat.le_trans hl.l2 (by decide)))
  have E3 := hide (fun W (h : Below w.heap.size w W) => equal_any _ _ dr dr' W (hp.s3.below h) (hq.s3.below h) (Nat.le_trans hl.l3 (by decide)))
  clear hp hq hl
  unfold samP
  dsimp only
  rw [eqI_beq, eqI_beq, eqI_beq, eqI_beq]
  generalize eqI ids ids' = e0 at *
  generalize eqI isr isr' = e1 at *
  generalize eqI ad ad' = e2 at *
  generalize eqI dr dr' = e3 at *
  obtain ⟨ANS, hANS⟩ : ∃ A, A = (ld == ld' && ep == ep' && e0 && e1 && e2 && e3) := ⟨_, rfl⟩
  rw [← hANS]
  have HANS := hide hANS
  clear hANS
  obtain ⟨HX0, HY0, HB0⟩ := Bx.mk2 w [.slice a0 ids.length c0, .slice a1 isr.length c1, .int .i64 ld, .int .i64 ep, .slice a2 ad.length c2, .slice a3 dr.length c3] [.slice a0' ids'.length c0', .slice a1' isr'.length c1', .int .i64 ld', .int .i64 ep', .slice a2' ad'.length c2', .slice a3' dr'.length c3'] 44 44 (Below.refl _ _)
  unfold ptc
  dsimp only
  go_enter Tryz.func22, Tryz.ntmps22
  go_upto_region 1 with fail
  generalize ((w.alloc (.cells (List.toArray [Value.slice a0 ids.length c0, .slice a1 isr.length c1, .int .i64 ld, .int .i64 ep, .slice a2 ad.length c2, .slice a3 dr.length c3]) 44)).alloc (.cells (List.toArray [Value.slice a0' ids'.length c0', .slice a1' isr'.length c1', .int .i64 ld', .int .i64 ep', .slice a2' ad'.length c2', .slice a3' dr'.length c3']) 44)) = X at HX0 HY0 HB0 ⊢
  have HX := hide HX0
  have HY := hide HY0
  have HB := hide HB0
  clear HX0 HY0 HB0
  obtain ⟨x0, x1, x2, x3, x4, x5⟩ := HX.out.c6
  obtain ⟨y0, y1, y2, y3, y4, y5⟩ := HY.out.c6
  cases hld : (ld == ld') with
  | false =>
    go_wp2_with (first | (go_at_call 52; refine (E0.out _ HB.out).mono ?_; rintro e w1 ⟨rfl, hb⟩; replace HB := hide (bt HB.out (qt_below hb)); replace HX := hide (HX.out.below (qt_below hb)); replace HY := hide (HY.out.below (qt_below hb)); clear E0 hb x0 x1 x2 x3 x4 x5 y0 y1 y2 y3 y4 y5; obtain ⟨x0, x1, x2, x3, x4, x5⟩ := HX.out.c6; obtain ⟨y0, y1, y2, y3, y4, y5⟩ := HY.out.c6) | (go_at_call 52; refine (E1.out _ HB.out).mono ?_; rintro e w1 ⟨rfl, hb⟩; replace HB := hide (bt HB.out (qt_below hb)); replace HX := hide (HX.out.below (qt_below hb)); replace HY := hide (HY.out.below (qt_below hb)); clear E1 hb x0 x1 x2 x3 x4 x5 y0 y1 y2 y3 y4 y5; obtain ⟨x0, x1, x2, x3, x4, x5⟩ := HX.out.c6; obtain ⟨y0, y1, y2, y3, y4, y5⟩ := HY.out.c6) | (go_at_call 52; refine (E2.out _ HB.out).mono ?_; rintro e w1 ⟨rfl, hb⟩; replace HB := hide (bt HB.out (qt_below hb)); replace HX := hide (HX.out.below (qt_below hb)); replace HY := hide (HY.out.below (qt_below hb)); clear E2 hb x0 x1 x2 x3 x4 x5 y0 y1 y2 y3 y4 y5; obtain ⟨x0, x1, x2, x3, x4, x5⟩ := HX.out.c6; obtain ⟨y0, y1, y2, y3, y4, y5⟩ := HY.out.c6) | (go_at_call 52; refine (E3.out _ HB.out).mono ?_; rintro e w1 ⟨rfl, hb⟩; replace HB := hide (bt HB.out (qt_below hb)); replace HX := hide (HX.out.below (qt_below hb)); replace HY := hide (HY.out.below (qt_below hb)); clear E3 hb x0 x1 x2 x3 x4 x5 y0 y1 y2 y3 y4 y5; obtain ⟨x0, x1, x2, x3, x4, x5⟩ := HX.out.c6; obtain ⟨y0, y1, y2, y3, y4, y5⟩ := HY.out.c6))
    go_ret
    exact ⟨congrArg (fun b => Ending.returned (.bool b)) (HANS.out.trans (by simp [*])).symm, HB.out⟩
  | true =>
    cases hep : (ep == ep') with
    | false =>
      go_wp2_with (first | (go_at_call 52; refine (E0.out _ HB.out).mono ?_; rintro e w1 ⟨rfl, hb⟩; replace HB := hide (bt HB.out (qt_below hb)); replace HX := hide (HX.out.below (qt_below hb)); replace HY := hide (HY.out.below (qt_below hb)); clear E0 hb x0 x1 x2 x3 x4 x5 y0 y1 y2 y3 y4 y5; obtain ⟨x0, x1, x2, x3, x4, x5⟩ := HX.out.c6; obtain ⟨y0, y1, y2, y3, y4, y5⟩ := HY.out.c6) | (go_at_call 52; refine (E1.out _ HB.out).mono ?_; rintro e w1 ⟨rfl, hb⟩; replace HB := hide (bt HB.out (qt_below hb)); replace HX := hide (HX.out.below (qt_below hb)); replace HY := hide (HY.out.below (qt_below hb)); clear E1 hb x0 x1 x2 x3 x4 x5 y0 y1 y2 y3 y4 y5; obtain ⟨x0, x1, x2, x3, x4, x5⟩ := HX.out.c6; obtain ⟨y0, y1, y2, y3, y4, y5⟩ := HY.out.c6) | (go_at_call 52; refine (E2.out _ HB.out).mono ?_; rintro e w1 ⟨rfl, hb⟩; replace HB := hide (bt HB.out (qt_below hb)); replace HX := hide (HX.out.below (qt_below hb)); replace HY := hide (HY.out.below (qt_below hb)); clear E2 hb x0 x1 x2 x3 x4 x5 y0 y1 y2 y3 y4 y5; obtain ⟨x0, x1, x2, x3, x4, x5⟩ := HX.out.c6; obtain ⟨y0, y1, y2, y3, y4, y5⟩ := HY.out.c6) | (go_at_call 52; refine (E3.out _ HB.out).mono ?_; rintro e w1 ⟨rfl, hb⟩; replace HB := hide (bt HB.out (qt_below hb)); replace HX := hide (HX.out.below (qt_below hb)); replace HY := hide (HY.out.below (qt_below hb)); clear E3 hb x0 x1 x2 x3 x4 x5 y0 y1 y2 y3 y4 y5; obtain ⟨x0, x1, x2, x3, x4, x5⟩ := HX.out.c6; obtain ⟨y0, y1, y2, y3, y4, y5⟩ := HY.out.c6))
      go_ret
      exact ⟨congrArg (fun b => Ending.returned (.bool b)) (HANS.out.trans (by simp [*])).symm, HB.out⟩
    | true =>
      cases e0 with
      | false =>
        go_wp2_with (first | (go_at_call 52; refine (E0.out _ HB.out).mono ?_; rintro e w1 ⟨rfl, hb⟩; replace HB := hide (bt HB.out (qt_below hb)); replace HX := hide (HX.out.below (qt_below hb)); replace HY := hide (HY.out.below (qt_below hb)); clear E0 hb x0 x1 x2 x3 x4 x5 y0 y1 y2 y3 y4 y5; obtain ⟨x0, x1, x2, x3, x4, x5⟩ := HX.out.c6; obtain ⟨y0, y1, y2, y3, y4, y5⟩ := HY.out.c6) | (go_at_call 52; refine (E1.out _ HB.out).mono ?_; rintro e w1 ⟨rfl, hb⟩; replace HB := hide (bt HB.out (qt_below hb)); replace HX := hide (HX.out.below (qt_below hb)); replace HY := hide (HY.out.below (qt_below hb)); clear E1 hb x0 x1 x2 x3 x4 x5 y0 y1 y2 y3 y4 y5; obtain ⟨x0, x1, x2, x3, x4, x5⟩ := HX.out.c6; obtain ⟨y0, y1, y2, y3, y4, y5⟩ := HY.out.c6) | (go_at_call 52; refine (E2.out _ HB.out).mono ?_; rintro e w1 ⟨rfl, hb⟩; replace HB := hide (bt HB.out (qt_below hb)); replace HX := hide (HX.out.below (qt_below hb)); replace HY := hide (HY.out.below (qt_below hb)); clear E2 hb x0 x1 x2 x3 x4 x5 y0 y1 y2 y3 y4 y5; obtain ⟨x0, x1, x2, x3, x4, x5⟩ := HX.out.c6; obtain ⟨y0, y1, y2, y3, y4, y5⟩ := HY.out.c6) | (go_at_call 52; refine (E3.out _ HB.out).mono ?_; rintro e w1 ⟨rfl, hb⟩; replace HB := hide (bt HB.out (qt_below hb)); replace HX := hide (HX.out.below (qt_below hb)); replace HY := hide (HY.out.below (qt_below hb)); clear E3 hb x0 x1 x2 x3 x4 x5 y0 y1 y2 y3 y4 y5; obtain ⟨x0, x1, x2, x3, x4, x5⟩ := HX.out.c6; obtain ⟨y0, y1, y2, y3, y4, y5⟩ := HY.out.c6))
        go_ret
        exact ⟨congrArg (fun b => Ending.returned (.bool b)) (HANS.out.trans (by simp [*])).symm, HB.out⟩
      | true =>
        cases e1 with
        | false =>
          go_wp2_with (first | (go_at_call 52; refine (E0.out _ HB.out).mono ?_; rintro e w1 ⟨rfl, hb⟩; replace HB := hide (bt HB.out (qt_below hb)); replace HX := hide (HX.out.below (qt_below hb)); replace HY := hide (HY.out.below (qt_below hb)); clear E0 hb x0 x1 x2 x3 x4 x5 y0 y1 y2 y3 y4 y5; obtain ⟨x0, x1, x2, x3, x4, x5⟩ := HX.out.c6; obtain ⟨y0, y1, y2, y3, y4, y5⟩ := HY.out.c6) | (go_at_call 52; refine (E1.out _ HB.out).mono ?_; rintro e w1 ⟨rfl, hb⟩; replace HB := hide (bt HB.out (qt_below hb)); replace HX := hide (HX.out.below (qt_below hb)); replace HY := hide (HY.out.below (qt_below hb)); clear E1 hb x0 x1 x2 x3 x4 x5 y0 y1 y2 y3 y4 y5; obtain ⟨x0, x1, x2, x3, x4, x5⟩ := HX.out.c6; obtain ⟨y0, y1, y2, y3, y4, y5⟩ := HY.out.c6) | (go_at_call 52; refine (E2.out _ HB.out).mono ?_; rintro e w1 ⟨rfl, hb⟩; replace HB := hide (bt HB.out (qt_below hb)); replace HX := hide (HX.out.below (qt_below hb)); replace HY := hide (HY.out.below (qt_below hb)); clear E2 hb x0 x1 x2 x3 x4 x5 y0 y1 y2 y3 y4 y5; obtain ⟨x0, x1, x2, x3, x4, x5⟩ := HX.out.c6; obtain ⟨y0, y1, y2, y3, y4, y5⟩ := HY.out.c6) | (go_at_call 52; refine (E3.out _ HB.out).mono ?_; rintro e w1 ⟨rfl, hb⟩; replace HB := hide (bt HB.out (qt_below hb)); replace HX := hide (HX.out.below (qt_below hb)); replace HY := hide (HY.out.below (qt_below hb)); clear E3 hb x0 x1 x2 x3 x4 x5 y0 y1 y2 y3 y4 y5; obtain ⟨x0, x1, x2, x3, x4, x5⟩ := HX.out.c6; obtain ⟨y0, y1, y2, y3, y4, y5⟩ := HY.out.c6))
          go_ret
          exact ⟨congrArg (fun b => Ending.returned (.bool b)) (HANS.out.trans (by simp [*])).symm, HB.out⟩
        | true =>
          cases e2 with
          | false =>
            go_wp2_with (first | (go_at_call 52; refine (E0.out _ HB.out).mono ?_; rintro e w1 ⟨rfl, hb⟩; replace HB := hide (bt HB.out (qt_below hb)); replace HX := hide (HX.out.below (qt_below hb)); replace HY := hide (HY.out.below (qt_below hb)); clear E0 hb x0 x1 x2 x3 x4 x5 y0 y1 y2 y3 y4 y5; obtain ⟨x0, x1, x2, x3, x4, x5⟩ := HX.out.c6; obtain ⟨y0, y1, y2, y3, y4, y5⟩ := HY.out.c6) | (go_at_call 52; refine (E1.out _ HB.out).mono ?_; rintro e w1 ⟨rfl, hb⟩; replace HB := hide (bt HB.out (qt_below hb)); replace HX := hide (HX.out.below (qt_below hb)); replace HY := hide (HY.out.below (qt_below hb)); clear E1 hb x0 x1 x2 x3 x4 x5 y0 y1 y2 y3 y4 y5; obtain ⟨x0, x1, x2, x3, x4, x5⟩ := HX.out.c6; obtain ⟨y0, y1, y2, y3, y4, y5⟩ := HY.out.c6) | (go_at_call 52; refine (E2.out _ HB.out).mono ?_; rintro e w1 ⟨rfl, hb⟩; replace HB := hide (bt HB.out (qt_below hb)); replace HX := hide (HX.out.below (qt_below hb)); replace HY := hide (HY.out.below (qt_below hb)); clear E2 hb x0 x1 x2 x3 x4 x5 y0 y1 y2 y3 y4 y5; obtain ⟨x0, x1, x2, x3, x4, x5⟩ := HX.out.c6; obtain ⟨y0, y1, y2, y3, y4, y5⟩ := HY.out.c6) | (go_at_call 52; refine (E3.out _ HB.out).mono ?_; rintro e w1 ⟨rfl, hb⟩; replace HB := hide (bt HB.out (qt_below hb)); replace HX := hide (HX.out.below (qt_below hb)); replace HY := hide (HY.out.below (qt_below hb)); clear E3 hb x0 x1 x2 x3 x4 x5 y0 y1 y2 y3 y4 y5; obtain ⟨x0, x1, x2, x3, x4, x5⟩ := HX.out.c6; obtain ⟨y0, y1, y2, y3, y4, y5⟩ := HY.out.c6))
            go_ret
            exact ⟨congrArg (fun b => Ending.returned (.bool b)) (HANS.out.trans (by simp [*])).symm, HB.out⟩
          | true =>
            cases e3 with
            | false =>
              go_wp2_with (first | (go_at_call 52; refine (E0.out _ HB.out).mono ?_; rintro e w1 ⟨rfl, hb⟩; replace HB := hide (bt HB.out (qt_below hb)); replace HX := hide (HX.out.below (qt_below hb)); replace HY := hide (HY.out.below (qt_below hb)); clear E0 hb x0 x1 x2 x3 x4 x5 y0 y1 y2 y3 y4 y5; obtain ⟨x0, x1, x2, x3, x4, x5⟩ := HX.out.c6; obtain ⟨y0, y1, y2, y3, y4, y5⟩ := HY.out.c6) | (go_at_call 52; refine (E1.out _ HB.out).mono ?_; rintro e w1 ⟨rfl, hb⟩; replace HB := hide (bt HB.out (qt_below hb)); replace HX := hide (HX.out.below (qt_below hb)); replace HY := hide (HY.out.below (qt_below hb)); clear E1 hb x0 x1 x2 x3 x4 x5 y0 y1 y2 y3 y4 y5; obtain ⟨x0, x1, x2, x3, x4, x5⟩ := HX.out.c6; obtain ⟨y0, y1, y2, y3, y4, y5⟩ := HY.out.c6) | (go_at_call 52; refine (E2.out _ HB.out).mono ?_; rintro e w1 ⟨rfl, hb⟩; replace HB := hide (bt HB.out (qt_below hb)); replace HX := hide (HX.out.below (qt_below hb)); replace HY := hide (HY.out.below (qt_below hb)); clear E2 hb x0 x1 x2 x3 x4 x5 y0 y1 y2 y3 y4 y5; obtain ⟨x0, x1, x2, x3, x4, x5⟩ := HX.out.c6; obtain ⟨y0, y1, y2, y3, y4, y5⟩ := HY.out.c6) | (go_at_call 52; refine (E3.out _ HB.out).mono ?_; rintro e w1 ⟨rfl, hb⟩; replace HB := hide (bt HB.out (qt_below hb)); replace HX := hide (HX.out.below (qt_below hb)); replace HY := hide (HY.out.below (qt_below hb)); clear E3 hb x0 x1 x2 x3 x4 x5 y0 y1 y2 y3 y4 y5; obtain ⟨x0, x1, x2, x3, x4, x5⟩ := HX.out.c6; obtain ⟨y0, y1, y2, y3, y4, y5⟩ := HY.out.c6))
              go_ret
              exact ⟨congrArg (fun b => Ending.returned (.bool b)) (HANS.out.trans (by simp [*])).symm, HB.out⟩
            | true =>
              go_wp2_with (first | (go_at_call 52; refine (E0.out _ HB.out).mono ?_; rintro e w1 ⟨rfl, hb⟩; replace HB := hide (bt HB.out (qt_below hb)); replace HX := hide (HX.out.below (qt_below hb)); replace HY := hide (HY.out.below (qt_below hb)); clear E0 hb x0 x1 x2 x3 x4 x5 y0 y1 y2 y3 y4 y5; obtain ⟨x0, x1, x2, x3, x4, x5⟩ := HX.out.c6; obtain ⟨y0, y1, y2, y3, y4, y5⟩ := HY.out.c6) | (go_at_call 52; refine (E1.out _ HB.out).mono ?_; rintro e w1 ⟨rfl, hb⟩; replace HB := hide (bt HB.out (qt_below hb)); replace HX := hide (HX.out.below (qt_below hb)); replace HY := hide (HY.out.below (qt_below hb)); clear E1 hb x0 x1 x2 x3 x4 x5 y0 y1 y2 y3 y4 y5; obtain ⟨x0, x1, x2, x3, x4, x5⟩ := HX.out.c6; obtain ⟨y0, y1, y2, y3, y4, y5⟩ := HY.out.c6) | (go_at_call 52; refine (E2.out _ HB.out).mono ?_; rintro e w1 ⟨rfl, hb⟩; replace HB := hide (bt HB.out (qt_below hb)); replace HX := hide (HX.out.below (qt_below hb)); replace HY := hide (HY.out.below (qt_below hb)); clear E2 hb x0 x1 x2 x3 x4 x5 y0 y1 y2 y3 y4 y5; obtain ⟨x0, x1, x2, x3, x4, x5⟩ := HX.out.c6; obtain ⟨y0, y1, y2, y3, y4, y5⟩ := HY.out.c6) | (go_at_call 52; refine (E3.out _ HB.out).mono ?_; rintro e w1 ⟨rfl, hb⟩; replace HB := hide (bt HB.out (qt_below hb)); replace HX := hide (HX.out.below (qt_below hb)); replace HY := hide (HY.out.below (qt_below hb)); clear E3 hb x0 x1 x2 x3 x4 x5 y0 y1 y2 y3 y4 y5; obtain ⟨x0, x1, x2, x3, x4, x5⟩ := HX.out.c6; obtain ⟨y0, y1, y2, y3, y4, y5⟩ := HY.out.c6))
              go_ret
              exact ⟨congrArg (fun b => Ending.returned (.bool b)) (HANS.out.trans (by simp [*])).symm, HB.out⟩
end Go.Proofs.YtfnemlbkmhcodaaGreat
namespace Go.Proofs.YtfnemlbkmhcodaaGreat
open Go.RowKit

set_option maxRecDepth 100000 in
set_option maxHeartbeats 16000000 in
theorem follows_any (l : List Pp) (v : Value) (q : Pp) (r : Rc) (a14 a15 a16 a17 : Option Addr) (c14 c15 c16 c17 : Nat) (w : World) (hv : Rs ptc w v l) (hp : ∀ o ∈ l, PtR w o ∧ WfP o.1) (hq : PtR w q) (h0 : 0 ≤ r.pa) (hll : l.length ≤ 100000) :
    Calls Tryz.prog 130 #[v, .agg (cellsR r a14 a15 a16 a17 c14 c15 c16 c17).toArray, .agg (ptc q).toArray] w fun e w' => ∃ E, e = .returned E ∧ Erc (folP (l.map (·.1)) r q.1) E ∧ Below w.heap.size w w' := by
  obtain ⟨ao, cap, rfl, hcap, hrg⟩ := hv
  obtain ⟨ANS, hANS⟩ : ∃ A, A = folP (l.map (·.1)) r q.1 := ⟨_, rfl⟩
  rw [← hANS]
  unfold folP at hANS
  rw [List.length_map] at hANS
  unfold cellsR
  by_cases hk : r.k = 8
  · rw [if_pos hk] at hANS
    have hk1 : (r.k == 8) = true := by simpa using hk
    by_cases hl : r.pa = (l.length : Int)
    · rw [if_pos hl] at hANS
      have hl1 : (r.pa != (l.length : Int)) = false := by simpa using hl
      have HANS := hide hANS
      clear hANS hrg hp hq hk hl
      unfold ptc
      go_enter Tryz.func130, Tryz.ntmps130
      go_wp2_with fail
      go_ret
      exact ⟨_, rfl, .inl ⟨HANS.out, rfl⟩, below_al2 _ _ _⟩
    · rw [if_neg hl] at hANS
      have hl1 : (r.pa != (l.length : Int)) = true := by simpa using hl
      have HANS := hide hANS
      clear hANS hrg hp hq hk hl
      unfold ptc
      go_enter Tryz.func130, Tryz.ntmps130
      go_wp2_with fail
      go_ret
      exact ⟨_, rfl, by rw [HANS.out]; exact erc_code (by decide), below_al2 _ _ _⟩
  · rw [if_neg hk] at hANS
    have hk1 : (r.k == 8) = false := by simpa using hk
    by_cases hl : l.length ≤ r.pa.toNat
    · rw [List.getElem?_eq_none (by rw [List.length_map]; exact hl)] at hANS
      have hl1 : (l.length : Int) ≤ r.pa := by omega
      have HANS := hide hANS
      clear hANS hrg hp hq hk hl
      unfold ptc
      go_enter Tryz.func130, Tryz.ntmps130
      go_wp2_with fail
      go_ret
      exact ⟨_, rfl, by rw [HANS.out]; exact erc_code (by decide), below_al2 _ _ _⟩
    · have hi : r.pa.toNat < l.length := by omega
      obtain ⟨i, hin⟩ : ∃ i : Nat, i = r.pa.toNat := ⟨_, rfl⟩
      rw [← hin] at hANS hi
      rw [List.getElem?_eq_getElem (by rw [List.length_map]; exact hi), List.getElem_map] at hANS
      have hl1 : ¬ (l.length : Int) ≤ r.pa := by omega
      have hl2 : r.pa < (l.length : Int) := by omega
      obtain ⟨b, o, rfl, hr⟩ := hrg (by omega)
      have hpa : r.pa = (i : Int) := by omega
      obtain ⟨hoq, hol⟩ := hp l[i] (List.getElem_mem hi)
      have HE := hide (fm_at encP hr hi)
      have HSM := hide (fun W (h : Below w.heap.size w W) => Same_any l[i] q W (hoq.below h) (hq.below h) hol)
      have HEP : Hid (0 ≤ (l[i]).1.ep ∧ (l[i]).1.ep ≤ 1073741824) := hide hol.ep
      generalize l[i] = y at *
      have HANS := hide hANS
      clear hANS hp hq hr hoq hol hl hin
      obtain ⟨⟨ids, isr, ld, ep, ad, dr⟩, ⟨a0, a1, a2, a3, c0, c1, c2, c3⟩⟩ := q
      obtain ⟨⟨jds, jsr, kd, kp, kad, kdr⟩, ⟨b0, b1, b2, b3, d0, d1, d2, d3⟩⟩ := y
      have hep := HEP.out
      dsimp only at HANS HSM hep
      have hiI : (i : Int) < (l.length : Int) := by omega
      have hkI : ¬ (r.k = 8) := hk
      unfold ptc at *
      dsimp only at *
      generalize samP ⟨jds, jsr, kd, kp, kad, kdr⟩ ⟨ids, isr, ld, ep, ad, dr⟩ = sm at HANS HSM
      have HK4 := hide hpa
      obtain ⟨HR0, HQ0, HB0⟩ := Bx.mk2 w [.int .i64 r.k, .int .i64 r.br, .int .i64 r.ep, .int .i64 r.tp, .int .i64 r.pa, .int .i64 r.le, .int .i64 r.cl, .int .i64 r.se, .int .i64 r.co, .bool r.fl, .string ⟨r.nm.toArray⟩, .string ⟨r.ky.toArray⟩, .string ⟨r.va.toArray⟩, .string ⟨r.rk.toArray⟩, .slice a14 r.ids.length c14, .slice a15 r.isr.length c15, .slice a16 r.ad.length c16, .slice a17 r.dr.length c17] [.slice a0 ids.length c0, .slice a1 isr.length c1, .int .i64 ld, .int .i64 ep, .slice a2 ad.length c2, .slice a3 dr.length c3] 62 44 (Below.refl _ _)
      clear hpa hk
      go_enter Tryz.func130, Tryz.ntmps130
      go_upto_region 1 with fail
      generalize ((w.alloc (.cells (List.toArray [Value.int .i64 r.k, .int .i64 r.br, .int .i64 r.ep, .int .i64 r.tp, .int .i64 r.pa, .int .i64 r.le, .int .i64 r.cl, .int .i64 r.se, .int .i64 r.co, .bool r.fl, .string ⟨r.nm.toArray⟩, .string ⟨r.ky.toArray⟩, .string ⟨r.va.toArray⟩, .string ⟨r.rk.toArray⟩, .slice a14 r.ids.length c14, .slice a15 r.isr.length c15, .slice a16 r.ad.length c16, .slice a17 r.dr.length c17]) 62)).alloc (.cells (List.toArray [Value.slice a0 ids.length c0, .slice a1 isr.length c1, .int .i64 ld, .int .i64 ep, .slice a2 ad.length c2, .slice a3 dr.length c3]) 44)) = X at HR0 HQ0 HB0 ⊢
      have HB := hide HB0
      replace HE := hide (rg_bel HE.out HB0)
      have r0 := HR0.at 0 _ rfl
      have r4 := HR0.at 4 _ rfl
      obtain ⟨p0, p1, p2, p3, p4, p5⟩ := HQ0.c6
      have hx0 : w.heap.size < X.heap.size := HR0.l
      have hx1 : w.heap.size + 1 < X.heap.size := HQ0.l
      have HQQ := hide HQ0
      have HRR := hide HR0
      have HK1 := hide hk1
      clear HR0 HQ0 HB0
      rw [HK4.out] at r4 hl1 hl2
      have hne1 : wrap64 (kp + 1) = kp + 1 := by unfold wrap64; omega
      clear hrg hkI hll hcap h0 r0 r4 p0 p1 p2 p3 p4 p5 hk1
      clear hx0 hx1
      have r0 := HRR.out.at 0 _ rfl
      have r4 := HRR.out.at 4 _ rfl
      rw [HK4.out] at r4
      have hk1 := HK1.out
      go_upto_region 8 with (refine wpList_load_mid rfl _ _ rfl _ _ rfl _ _ HE.out Tryz.underlying44 rfl (by kernel_rfl) ?_)
      clear r0 r4 hk1
      replace HQQ := hide (HQQ.out.alloc (.cells (List.toArray [Value.slice b0 jds.length d0, .slice b1 jsr.length d1, .int .i64 kd, .int .i64 kp, .slice b2 kad.length d2, .slice b3 kdr.length d3]) 44))
      have HYY := hide (Bx.new X [Value.slice b0 jds.length d0, .slice b1 jsr.length d1, .int .i64 kd, .int .i64 kp, .slice b2 kad.length d2, .slice b3 kdr.length d3] 44)
      replace HB := hide (bt HB.out (below_al1 X (.cells (List.toArray [Value.slice b0 jds.length d0, .slice b1 jsr.length d1, .int .i64 kd, .int .i64 kp, .slice b2 kad.length d2, .slice b3 kdr.length d3]) 44)))
      generalize X.alloc (.cells (List.toArray [Value.slice b0 jds.length d0, .slice b1 jsr.length d1, .int .i64 kd, .int .i64 kp, .slice b2 kad.length d2, .slice b3 kdr.length d3]) 44) = Y at HQQ HYY HB ⊢
      obtain ⟨p0, p1, p2, p3, p4, p5⟩ := HQQ.out.c6
      obtain ⟨y0, y1, y2, y3, y4, y5⟩ := HYY.out.c6
      cases h1 : (ep != kp + 1) with
      | false =>
        cases sm with
        | true =>
          have HA : Hid (ANS = 10) := hide (HANS.out.trans (by simp [*]))
          go_wp2_with (first | (go_at_call 22; refine (HSM.out _ HB.out).mono ?_; rintro e w1 ⟨rfl, hb⟩; replace HB := hide (bt HB.out hb); clear hb HSM))
          go_ret
          exact ⟨_, rfl, by rw [HA.out]; exact erc_code (by decide), HB.out⟩
        | false =>
          have HA : Hid (ANS = 0) := hide (HANS.out.trans (by simp [*]))
          go_wp2_with (first | (go_at_call 22; refine (HSM.out _ HB.out).mono ?_; rintro e w1 ⟨rfl, hb⟩; replace HB := hide (bt HB.out hb); clear hb HSM))
          go_ret
          exact ⟨_, rfl, .inl ⟨HA.out, rfl⟩, HB.out⟩
      | true =>
        cases h2 : (ep != kp) with
        | true =>
          have HA : Hid (ANS = 11) := hide (HANS.out.trans (by simp [*]))
          go_wp2_with (first | (go_at_call 22; refine (HSM.out _ HB.out).mono ?_; rintro e w1 ⟨rfl, hb⟩; replace HB := hide (bt HB.out hb); clear hb HSM))
          go_ret
          exact ⟨_, rfl, by rw [HA.out]; exact erc_code (by decide), HB.out⟩
        | false =>
          cases h3 : (ld != kd) with
          | true =>
            have HA : Hid (ANS = 11) := hide (HANS.out.trans (by simp [*]))
            go_wp2_with (first | (go_at_call 22; refine (HSM.out _ HB.out).mono ?_; rintro e w1 ⟨rfl, hb⟩; replace HB := hide (bt HB.out hb); clear hb HSM))
            go_ret
            exact ⟨_, rfl, by rw [HA.out]; exact erc_code (by decide), HB.out⟩
          | false =>
            cases sm with
            | true =>
              have HA : Hid (ANS = 10) := hide (HANS.out.trans (by simp [*]))
              go_wp2_with (first | (go_at_call 22; refine (HSM.out _ HB.out).mono ?_; rintro e w1 ⟨rfl, hb⟩; replace HB := hide (bt HB.out hb); clear hb HSM))
              go_ret
              exact ⟨_, rfl, by rw [HA.out]; exact erc_code (by decide), HB.out⟩
            | false =>
              have HA : Hid (ANS = 0) := hide (HANS.out.trans (by simp [*]))
              go_wp2_with (first | (go_at_call 22; refine (HSM.out _ HB.out).mono ?_; rintro e w1 ⟨rfl, hb⟩; replace HB := hide (bt HB.out hb); clear hb HSM))
              go_ret
              exact ⟨_, rfl, .inl ⟨HA.out, rfl⟩, HB.out⟩
end Go.Proofs.YtfnemlbkmhcodaaGreat
namespace Go.Proofs.YtfnemlbkmhcodaaGreat
open Go.RowKit


set_option maxRecDepth 100000 in
set_option maxHeartbeats 4000000 in
theorem growP_any (n : Nat) (w : World) (hn : n ≤ 1000000) : Calls Tryz.prog 161 #[.slice none 0 0, .int .i64 (n : Int)] w fun e w' => ∃ v, e = .returned v ∧ Ro ptc 6 44 w' w.heap.size v [] ∧ Below w.heap.size w w' := by
  have h2 : wrap64 ((0 : Int) - 0) = 0 := by unfold wrap64; omega
  have h1 : ¬ ((n : Int) < 0) := by omega
  rcases Nat.eq_zero_or_pos n with h0 | h0
  · subst h0
    clear hn h1
    go_enter Tryz.func161, Tryz.ntmps161
    go_wp2_with fail
    go_ret
    exact ⟨_, rfl, ro_nil _ _ _ _ _, Below.refl _ _⟩
  · have h3 : wrap64 ((n : Int) - 0) = (n : Int) := by unfold wrap64; omega
    have h4 : (n : Int) > 0 := by omega
    have hz := fun ty => grow_zeros (I := 3) tyiP (by decide) Tryz.underlying3 w n h0 hn ty
    obtain ⟨G, c, hG, hnG, hm, hc⟩ := hz 36
    have HU := hide (fun W => upto_run tyiP (some ⟨w.heap.size, 0, none⟩) n G 0 (Nat.zero_le _) hnG W)
    have HG := hide hG
    have HR := hide (ro_room ptc 6 44 w G c hm hc)
    clear hz hG hm hc
    go_enter Tryz.func161, Tryz.ntmps161
    go_wp2_with (at_builtin; refine Lib.wpList_append_run _ rfl _ _ _ _ rfl _ _ rfl rfl _ _ HG.out ?_)
    all_goals
      go_ret
      exact ⟨_, rfl, HR.out, below_dal _ _⟩

set_option maxRecDepth 100000 in
set_option maxHeartbeats 8000000 in
theorem concP_3 (v1 v2 v3 : Value) (l1 l2 l3 : List Pp) (B : Nat) (w : World) (hB : Bx w B [v1, v2, v3]) (h1 : Rs ptc w v1 l1) (h2 : Rs ptc w v2 l2) (h3 : Rs ptc w v3 l3) (hl1 : l1.length ≤ 200000) (hl2 : l2.length ≤ 200000) (hl3 : l3.length ≤ 200000) :
    Calls Tryz.prog 151 #[.slice (some ⟨B, 0, none⟩) 3 3] w fun e w' => ∃ v, e = .returned v ∧ Ro ptc 6 44 w' w.heap.size v (l1 ++ l2 ++ l3) ∧ Below w.heap.size w w' := by
  have HG := hide (fun n hn => growP_any n w hn)
  obtain ⟨a1, c1, rfl⟩ := h1.form
  obtain ⟨a2, c2, rfl⟩ := h2.form
  obtain ⟨a3, c3, rfl⟩ := h3.form
  have HB := hide (fun W (h : Below w.heap.size w W) => (hB.below h).c3)
  have H1 := hide (fun W (h : Below w.heap.size w W) => h1.below h)
  have H2 := hide (fun W (h : Below w.heap.size w W) => h2.below h)
  have H3 := hide (fun W (h : Below w.heap.size w W) => h3.below h)
  obtain ⟨b0, b1, b2⟩ := hB.c3
  have hbl := hB.l
  clear h1 h2 h3 hB
  go_enter Tryz.func151, Tryz.ntmps151
  go_wp2_with fail
  refine wp_loop_rounds 4 ?_
  rw [rounds_succ]
  go_wp2_with fail
  rw [rounds_succ]
  go_wp2_with fail
  rw [rounds_succ]
  go_wp2_with fail
  rw [rounds_succ]
  have HN : Hid (((l1.length : Int) + l2.length + l3.length) = ((l1.length + l2.length + l3.length : Nat) : Int)) := hide (by omega)
  have HK : Hid (l1.length + l2.length + l3.length ≤ 1000000) := hide (by omega)
  go_wp2_with (go_at_call 161; first | rw [HN.out] | skip; refine (HG.out _ HK.out).mono ?_; rintro e w1 ⟨v, rfl, hr, hb⟩; obtain ⟨d0, d1, d2⟩ := HB.out _ hb; have HR := hide hr; have HBl := hide hb; clear hr hb HG b0 b1 b2)
  refine wp_loop_rounds 4 ?_
  rw [rounds_succ]
  go_wp2_with (at_builtin; refine wpList_appR tyiP encP _ rfl _ _ rfl w.heap.size _ [] rfl HR.out HBl.out.size _ l1 rfl (H1.out _ HBl.out) (by rw [List.length_nil]; omega) ?_; intro v1 w2 hr _ hb; rw [List.nil_append] at hr; obtain ⟨d0, d1, d2⟩ := HB.out _ (HBl.out.trans hb); replace HR := hide hr; replace HBl := hide (HBl.out.trans hb); clear hr hb)
  rw [rounds_succ]
  go_wp2_with (at_builtin; refine wpList_appR tyiP encP _ rfl _ _ rfl w.heap.size _ l1 rfl HR.out HBl.out.size _ l2 rfl (H2.out _ HBl.out) (by omega) ?_; intro v2 w3 hr _ hb; obtain ⟨d0, d1, d2⟩ := HB.out _ (HBl.out.trans hb); replace HR := hide hr; replace HBl := hide (HBl.out.trans hb); clear hr hb)
  rw [rounds_succ]
  go_wp2_with (at_builtin; refine wpList_appR tyiP encP _ rfl _ _ rfl w.heap.size _ (l1 ++ l2) rfl HR.out HBl.out.size _ l3 rfl (H3.out _ HBl.out) (by rw [List.length_append]; omega) ?_; intro v3 w4 hr _ hb; obtain ⟨d0, d1, d2⟩ := HB.out _ (HBl.out.trans hb); replace HR := hide hr; replace HBl := hide (HBl.out.trans hb); clear hr hb)
  rw [rounds_succ]
  go_wp2_with fail
  go_ret
  exact ⟨_, rfl, HR.out, HBl.out⟩
end Go.Proofs.YtfnemlbkmhcodaaGreat
