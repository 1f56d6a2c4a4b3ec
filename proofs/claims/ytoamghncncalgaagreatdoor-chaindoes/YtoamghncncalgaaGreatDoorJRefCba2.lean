/-
  THE DOCUMENT's RECORD AT A BLOCK, BEHIND A STAMP (castellanref09.one): the record that the mathematics says (recS), its blocks and its last stamp. Condition: fewer than eighty thousand blocks and writes.
  THE DOCUMENT's CHAIN IS OPENED (castellanref09.Open): what is wrong, or the records that stand one behind the other, where none stands, and the next stamp. Condition: fewer than eighty thousand blocks and writes.
-/
import Derived.Test.YtoamghncncalgaaGreatDoorJRefCaa2
import Derived.Test.YtoamghncncalgaaGreatDoorJDocFra2
import Derived.Test.YtoamghncncalgaaGreatDoorJChO
namespace Go.Proofs.YtoamghncncalgaaGreatDoor
open Go.RowKit

theorem Dd.form9 {W : World} {P : Nat → Prop} {v : Value} {s : Dst} (h : Dd W P v s) : ∃ a1 n1 k1 a2 n2 k2, v = .agg #[.int .i64 s.room, .slice a1 n1 k1, .slice a2 n2 k2] := by
  obtain ⟨vc, vl, qs, ls, rfl, hc, hl, _, _⟩ := h
  obtain ⟨a1, k1, rfl⟩ := hc.fm
  obtain ⟨a2, k2, rfl⟩ := hl.fm
  exact ⟨_, _, _, _, _, _, rfl⟩
theorem rread9_bad {P : Nat → Prop} (v : Value) (a : Int) (s : Dst) (w : World) (h : Dd w P v s) (ha : ¬ Num a) : Calls Tryz.prog 69 #[v, .int .i64 a] w fun e w' => e = .returned (.tuple #[.slice none 0 0, .int .i64 2]) ∧ Below w.heap.size w w' := by
  obtain ⟨a1, n1, k1, a2, n2, k2, rfl⟩ := h.form9
  have HA := hide ha
  clear ha h
  go_enter Tryz.func69, Tryz.ntmps69
  go_wp2_with (first | (go_at_call 60; refine (right_bad _ _ HA.out).mono ?_; rintro e w9 ⟨rfl, hw9⟩; rw [hw9]; clear hw9 w9))
  go_ret2
  exact ⟨rfl, al_d w _⟩
/-- What one answers. -/
def OneP (w w' : World) (e : Ending) (r : Option (List Int × Int)) : Prop := match r with
  | none => e = .returned (.tuple #[.slice none 0 0, .int .i64 0, .int .i64 0])
  | some q => ∃ vb, e = .returned (.tuple #[vb, .int .i64 (blks q.1.length), .int .i64 q.2]) ∧ Slp (fun k => w.heap.size ≤ k) w' vb q.1
/-- What the document's cell is, held against the piece. -/
theorem clS_eq {b : List Int} (h : b.take 8 = b.drop 56) : clS b = ((pcs b).st, (pcs b).bg, (pcs b).lf) := by
  unfold clS pcs
  rw [if_pos h]
  simp only [if_pos h]
theorem clS_ne {b : List Int} (h : ¬ b.take 8 = b.drop 56) : clS b = (0, false, 0) ∧ (pcs b).st = 0 := by
  refine ⟨if_neg h, ?_⟩
  unfold pcs
  simp only [if_neg h]
theorem pcsZ : (pcs zer).st = 0 ∧ (pcs zer).bg = false := by rw [pcs_zer]; exact ⟨rfl, rfl⟩
theorem bv_app (x y : List Int) : bv (x ++ y) = bv x ++ bv y := by simp [bv]
theorem Rw.set4 {B : Nat} {W : World} {v : Value} {n P : Nat} {cur : List Value} (h : Rw B W v n cur) (hp : P < B) {x y z u : Value} : Rw B ((((W.setCell ⟨P, 0, none⟩ x).setCell ⟨P, 1, none⟩ y).setCell ⟨P, 2, none⟩ z).setCell ⟨P, 3, none⟩ u) v n cur :=
  ⟨h.1, h.2.1, h.2.2.imp id (fun ⟨g, a1, a2, a3⟩ => ⟨g, a1, a2, (set4_heap (by omega) _ _ _ _).trans a3⟩)⟩
/-- Where the loop stands: k pieces, all but the last one in out. -/
structure On (w W : World) (P : Nat) (t : Cs) (at_ last : Int) (r : Int) (v1 v2 vb : Value) (f k : Nat) (p : Pc) (bp out : List Int) (gp : Nat) : Prop where
  rw : ∃ cur, Rw (P + 1) W vb out.length cur ∧ cur.take out.length = bv out
  x : B4 W P (.int .i64 p.st) (.bool p.bg) (.int .i64 p.lf) (.slice (some ⟨gp, 10, none⟩) 46 54)
  d : B3 W w.heap.size (.int .i64 r) v1 v2
  pb : p = pcs bp ∧ Blk bp
  hp : Rq W gp 5 bp
  re : recS t at_ last = recG t f (at_ + k) p (out ++ p.own)
  lf : p.lf ≤ 46 * (f + 1) ∧ 0 ≤ p.lf ∧ p.lf ≤ 16448
  st : 0 ≤ p.st ∧ p.st ≤ 1152921504606846976
  kf : 1 ≤ k ∧ k + f = 401 ∧ (1 < k → 0 < p.lf)
  ol : out.length = 46 * (k - 1)
  be : Below w.heap.size w W
  wp : w.heap.size < P
theorem own_46 {b : List Int} (h : Blk b) (hl : 46 < (pcs b).lf) : (pcs b).own = (b.drop 10).take 46 ∧ ((b.drop 10).take 46).length = 46 := by
  constructor
  · show (b.drop 10).take (min (lfO b) 46).toNat = _
    have : lfO b = (pcs b).lf := rfl
    rw [this, show (min (pcs b).lf 46).toNat = 46 by omega]
  · rw [List.length_take, List.length_drop, h.1]; omega
theorem part_sl {W : World} {gp : Nat} {bp : List Int} (h : Rq W gp 5 bp) (hb : bp.length = 64) {n : Nat} (hn : n ≤ 46) : Sl bc W (.slice (some ⟨gp, 10, none⟩) n 54) ((bp.drop 10).take n) := h.part 54 (by omega) (by omega)
theorem B3.lt9 {W : World} {g : Nat} {x y z : Value} (h : B3 W g x y z) : g < W.heap.size := cell_block h.c0
set_option maxRecDepth 100000 in
set_option maxHeartbeats 16000000 in
theorem one_any {Pd : Nat → Prop} (vd : Value) (s : Dst) (a last : Int) (w : World) (hd : Dd w Pd vd s) (hok : s.Ok) (hn : s.cs.length + s.lo.length < 80000) (ha : 0 ≤ a ∧ a ≤ 1073800000) (hla : 0 ≤ last) : Calls Tryz.prog 35 #[vd, .int .i64 a, .int .i64 last] w fun e w' => OneP w w' e (recS s.tk a last) ∧ Below w.heap.size w w' := by
  obtain ⟨a1, n1, k1, a2, n2, k2, rfl⟩ := hd.form9
  have HD := hide hd
  have HOK := hide hok
  obtain ⟨ha0, ha1⟩ := ha
  have HREC : Hid (recS s.tk a last = if (pcs (vw s.tk a)).bg = false ∨ (pcs (vw s.tk a)).st ≤ last ∨ 16448 < (pcs (vw s.tk a)).lf then none else recG s.tk 400 (a + 1) (pcs (vw s.tk a)) (pcs (vw s.tk a)).own) := hide rfl
  have HDB := hide (b3_new w (.int .i64 s.room) (.slice a1 n1 k1) (.slice a2 n2 k2) 37)
  have HB := hide ((Below.refl w.heap.size w).alloc (Nat.le_refl _) (.cells #[.int .i64 s.room, .slice a1 n1 k1, .slice a2 n2 k2] 37))
  clear hd hok
  go_enter Tryz.func35, Tryz.ntmps35
  go_upto_region 2 with fail
  generalize w.alloc (.cells #[.int .i64 s.room, .slice a1 n1 k1, .slice a2 n2 k2] 37) = W1 at HDB HB ⊢
  have d0 := HDB.out.c0
  have d1 := HDB.out.c1
  have d2 := HDB.out.c2
  by_cases hna : Num a
  · have HNA := hide hna
    have HVW : Hid ((look s.tk a).getD zer = vw s.tk a) := hide (vw_num hna).symm
    have HBK := hide (vw_blk HOK.out.tb a)
    clear hna
    go_upto_region 5 with (first | (go_at_call 69; refine (rread_ok _ a s _ (HD.out.below HB.out) HNA.out HOK.out hn).mono ?_; rintro e W2 ⟨g, rfl, hg, hgl, hb2⟩; rw [HVW.out] at hg; have HG2 : Hid (Rq W2 g 5 (vw s.tk a)) := hide hg; have HGL : Hid (w.heap.size < g) := hide (by have := HDB.out.lt9; omega); have HB2 := hide (bt HB.out hb2); have HDB2 := hide (HDB.out.below hb2); clear hg hgl hb2))
    clear d0 d1 d2 HDB HB HVW
    by_cases heq : (vw s.tk a).take 8 = (vw s.tk a).drop 56
    · have HCE : Hid (clS (vw s.tk a) = ((pcs (vw s.tk a)).st, (pcs (vw s.tk a)).bg, (pcs (vw s.tk a)).lf) ∧ clV g (vw s.tk a) = .slice (some ⟨g, 10, none⟩) 46 54) := hide ⟨clS_eq heq, if_pos heq⟩
      clear heq
      have HPB : Hid ((0 ≤ (pcs (vw s.tk a)).lf ∧ (pcs (vw s.tk a)).lf ≤ 32767) ∧ (0 ≤ (pcs (vw s.tk a)).st ∧ (pcs (vw s.tk a)).st ≤ 1152921504606846976)) := hide ⟨lfO_bd HBK.out, st_bd HBK.out⟩
      go_upto_region 6 with (first | (go_at_call 70; refine (cell9_any g (vw s.tk a) _ HBK.out (fun i hi => HG2.out.at hi)).mono ?_; rintro e W3 ⟨rfl, hb3⟩; rw [HCE.out.1, HCE.out.2]; have HG3 := hide (HG2.out.below hb3); have HB3 := hide (bt HB2.out hb3); have HDB3 := hide (HDB2.out.below hb3); clear hb3))
      clear HG2 HB2 HDB2 HCE
      have HPE : Hid (pcs (vw s.tk a) = pcs (vw s.tk a)) := hide rfl
      generalize hpp : pcs (vw s.tk a) = p at HREC HPB ⊢
      have HPP := hide hpp
      clear hpp HPE
      have hal := (Below.refl W3.heap.size W3).alloc (Nat.le_refl _) (.cells #[.int .i64 p.st, .bool p.bg, .int .i64 p.lf, .slice (some ⟨g, 10, none⟩) 46 54] 130)
      have HX4 := hide (b4_new W3 (.int .i64 p.st) (.bool p.bg) (.int .i64 p.lf) (.slice (some ⟨g, 10, none⟩) 46 54) 130)
      have HG4 := hide (HG3.out.below hal)
      have HB4 := hide (bt HB3.out hal)
      have HDB4 := hide (HDB3.out.below hal)
      have HWP : Hid (w.heap.size < W3.heap.size) := hide HDB3.out.lt9
      clear hal HG3 HB3 HDB3
      generalize W3.alloc (.cells #[.int .i64 p.st, .bool p.bg, .int .i64 p.lf, .slice (some ⟨g, 10, none⟩) 46 54] 130) = W4 at HX4 HG4 HB4 HDB4 ⊢
      generalize W3.heap.size = P at HX4 HWP ⊢
      obtain ⟨p0, p1, p2, p3, _⟩ := HX4.out
      by_cases hbad : p.bg = false ∨ p.st ≤ last ∨ 16448 < p.lf
      · have HRN : Hid (recS s.tk a last = none) := hide (by rw [HREC.out, if_pos hbad])
        have hcs : p.bg = false ∨ p.bg = true ∧ (16448 < p.lf ∨ ¬ 16448 < p.lf ∧ p.st ≤ last) := by
          cases hb : p.bg
          · exact .inl rfl
          · refine .inr ⟨rfl, ?_⟩
            rw [hb] at hbad
            by_cases h1 : 16448 < p.lf
            · exact .inl h1
            · exact .inr ⟨h1, (hbad.resolve_left (by simp)).resolve_right h1⟩
        clear hbad HREC HPB HPP HG4
        generalize p.bg = bg at p1 hcs HX4 ⊢
        generalize p.st = st at p0 hcs HX4 ⊢
        generalize p.lf = lf at p2 hcs HX4 ⊢
        rcases hcs with hb | ⟨hb, hc | ⟨hc, hc2⟩⟩ <;> subst hb
        all_goals
          go_wp2_with fail
          go_ret3
          exact ⟨by rw [HRN.out]; rfl, HB4.out⟩
      · have hbg : p.bg = true := by cases hb : p.bg; exact absurd (.inl hb) hbad; rfl
        have hst : ¬ p.st ≤ last := fun h => hbad (.inr (.inl h))
        have hlf : ¬ 16448 < p.lf := fun h => hbad (.inr (.inr h))
        obtain ⟨⟨hl0, _⟩, hst2⟩ := HPB.out
        have HON : Hid (On w W4 P s.tk a last s.room (.slice a1 n1 k1) (.slice a2 n2 k2) (.slice none 0 0) 400 1 p (vw s.tk a) [] g) := hide ⟨⟨[], rw_nil _ _, rfl⟩, HX4.out, HDB4.out, ⟨HPP.out.symm, HBK.out⟩, HG4.out, by rw [HREC.out, if_neg hbad]; rfl, ⟨by omega, hl0, by omega⟩, hst2, ⟨by omega, by omega, fun h => by omega⟩, rfl, HB4.out, HWP.out⟩
        have HPF : Hid (p.lf = p.lf ∧ p.st = p.st) := hide ⟨rfl, rfl⟩
        clear HREC HPB HG4 HDB4 HPP HPF hbad
        rw [hbg] at p1
        go_upto_region 11 with fail
        clear p0 p1 p2 p3 hbg hst hlf hl0 hst2 HX4 HB4 HBK HNA HGL
        go_loopw [9, 13, 14, 15] (fun vb lv sv nv W => ∃ (f k : Nat) (p : Pc) (bp out : List Int) (gp : Nat), lv = .int .i64 p.lf ∧ sv = .int .i64 p.st ∧ nv = .int .i64 (k : Int) ∧ On w W P s.tk a last s.room (.slice a1 n1 k1) (.slice a2 n2 k2) vb f k p bp out gp) (fun _ _ _ nv _ => 500 - (iv nv).toNat)
        case atStart => exact ⟨400, 1, p, _, [], g, rfl, rfl, rfl, HON.out⟩
        case round =>
          clear HON
          obtain ⟨f, k, p, bp, out, gp, rfl, rfl, rfl, hon⟩ := hrel
          have HO := hide hon
          clear hon
          obtain ⟨cur, hrw, htk⟩ := HO.out.rw
          have HRW := hide hrw
          have HTK := hide htk
          clear hrw htk
          have x3 := HO.out.x.c3
          obtain ⟨hp1, hp2, hp3⟩ := HO.out.lf
          obtain ⟨hst0, hst1⟩ := HO.out.st
          obtain ⟨hk1, hk2, hk3⟩ := HO.out.kf
          have HOL := hide HO.out.ol
          have HBL : Hid (bp.length = 64) := hide HO.out.pb.2.1
          have HPW : Hid (P < wr.heap.size) := hide HO.out.x.lt
          by_cases h46 : 46 < p.lf
          · obtain ⟨f, rfl⟩ : ∃ f1, f = f1 + 1 := ⟨f - 1, by omega⟩
            have HOW := hide (own_46 HO.out.pb.2 (by rw [← HO.out.pb.1]; exact h46))
            rw [← HO.out.pb.1] at HOW
            have HRE : Hid (recS s.tk a last = if (pcs (vw s.tk (a + k))).bg = true ∨ (pcs (vw s.tk (a + k))).st ≠ p.st + 1 ∨ (pcs (vw s.tk (a + k))).lf ≠ p.lf - 46 then none else recG s.tk f (a + k + 1) (pcs (vw s.tk (a + k))) (out ++ p.own ++ (pcs (vw s.tk (a + k))).own)) := hide (by rw [HO.out.re, recG_on h46])
            have hw1 : IntKind.i64.wrap (p.lf - 46) = p.lf - 46 := by rw [IntKind.wrap_i64]; omega
            have hw2 : IntKind.i64.wrap (p.st + 1) = p.st + 1 := by rw [IntKind.wrap_i64]; omega
            have hw3 : IntKind.i64.wrap (a + (k : Int)) = a + k := by rw [IntKind.wrap_i64]; omega
            go_upto_region 13 with (first | (at_builtin; refine wpList_append_sl _ rfl _ _ rfl (P + 1) _ out.length cur rfl HRW.out HPW.out _ ((bp.drop 10).take 46) rfl (part_sl HO.out.hp HBL.out (Nat.le_refl _)) (by rw [HOW.out.2, HOL.out]; omega) ?_; intro W2 v2 cur2 hput; have HPT := hide hput; clear hput))
            have HX2 := hide (HO.out.x.keepB (HPT.out.below.block P (Nat.lt_succ_self _)))
            have HD2 := hide (HO.out.d.keepB (HPT.out.below.block _ (by have := HO.out.wp; omega)))
            have HB2 : Hid (Below w.heap.size w W2) := hide (HO.out.be.trans (HPT.out.below.mono (by have := HO.out.wp; omega)))
            have HR2 : Hid (∃ cur, Rw (P + 1) W2 v2 (out ++ p.own).length cur ∧ cur.take (out ++ p.own).length = bv (out ++ p.own)) := hide ⟨cur2, by have i := HPT.out.rw; rw [HOW.out.1, List.length_append]; exact i, by have i := HPT.out.tk; rw [HTK.out] at i; rw [HOW.out.1, List.length_append, i, bv_app]⟩
            have HN2 : Hid ((out ++ p.own).length = 46 * (k + 1 - 1)) := hide (by rw [List.length_append, HOW.out.1, HOW.out.2, HOL.out]; omega)
            clear x3 HPT HRW HTK HOW
            have HWP := hide HO.out.wp
            clear HO
            have d0 := HD2.out.c0
            have d1 := HD2.out.c1
            have d2 := HD2.out.c2
            by_cases hna : Num (a + k)
            · have HNA := hide hna
              have HVW : Hid ((look s.tk (a + k)).getD zer = vw s.tk (a + k)) := hide (vw_num hna).symm
              have HBK := hide (vw_blk HOK.out.tb (a + k))
              clear hna
              go_upto_region 18 with (first | (go_at_call 69; refine (rread_ok _ (a + k) s _ (HD.out.below HB2.out) HNA.out HOK.out hn).mono ?_; rintro e W3 ⟨g3, rfl, hg, hgl, hb3⟩; rw [HVW.out] at hg; have HG3 : Hid (Rq W3 g3 5 (vw s.tk (a + k))) := hide hg; have HB3 := hide (bt HB2.out hb3); have HD3 := hide (HD2.out.below hb3); have HX3 := hide (HX2.out.below hb3); have HR3 : Hid (∃ cur, Rw (P + 1) W3 v2 (out ++ p.own).length cur ∧ cur.take (out ++ p.own).length = bv (out ++ p.own)) := hide (by obtain ⟨c, h1, h2⟩ := HR2.out; exact ⟨c, h1.below hb3, h2⟩); have HG3L : Hid (P < g3) := hide (by have := HX2.out.lt; omega); clear hg hgl hb3))
              clear d0 d1 d2 HB2 HD2 HX2 HR2 HVW HNA
              generalize vw s.tk (a + k) = bq at HRE HBK HG3
              by_cases heq : bq.take 8 = bq.drop 56
              · have HCE : Hid (clS bq = ((pcs bq).st, (pcs bq).bg, (pcs bq).lf) ∧ clV g3 bq = .slice (some ⟨g3, 10, none⟩) 46 54) := hide ⟨clS_eq heq, if_pos heq⟩
                clear heq
                have HQB : Hid ((0 ≤ (pcs bq).lf ∧ (pcs bq).lf ≤ 32767) ∧ (0 ≤ (pcs bq).st ∧ (pcs bq).st ≤ 1152921504606846976)) := hide ⟨lfO_bd HBK.out, st_bd HBK.out⟩
                generalize hqq : pcs bq = q at HRE HCE HQB
                have HQQ := hide hqq
                clear hqq
                by_cases hbad : q.bg = true ∨ q.st ≠ p.st + 1 ∨ q.lf ≠ p.lf - 46
                · have HRN : Hid (recS s.tk a last = none) := hide (by rw [HRE.out, if_pos hbad])
                  have hcs : q.bg = true ∨ q.bg = false ∧ ((q.lf != p.lf - 46) = true ∨ (q.lf != p.lf - 46) = false ∧ (q.st != p.st + 1) = true) := by
                    cases hb : q.bg
                    · refine .inr ⟨rfl, ?_⟩
                      rw [hb] at hbad
                      by_cases h1 : q.lf = p.lf - 46
                      · exact .inr ⟨by simp [h1], by have := (hbad.resolve_left (by simp)).resolve_right (fun h => h h1); simpa using this⟩
                      · exact .inl (by simp [h1])
                    · exact .inl rfl
                  clear hbad HRE HQB HQQ
                  rcases hcs with hb | ⟨hb, hc | ⟨hc, hc2⟩⟩
                  all_goals
                    rw [hb] at HCE
                    generalize q.st = qst at *
                    generalize q.lf = qlf at *
                    go_wp2_with (first | (go_at_call 70; refine (cell9_any g3 bq _ HBK.out (fun i hi => HG3.out.at hi)).mono ?_; rintro e W4 ⟨rfl, hb3⟩; rw [HCE.out.1, HCE.out.2]; have HB4 := hide (bt HB3.out hb3); have HD4 := hide (HD3.out.below hb3); have HX4 := hide (HX3.out.below hb3); have HG4 := hide (HG3.out.below hb3); have HR4 : Hid (∃ cur, Rw (P + 1) W4 v2 (out ++ p.own).length cur ∧ cur.take (out ++ p.own).length = bv (out ++ p.own)) := hide (by obtain ⟨c, h1, h2⟩ := HR3.out; exact ⟨c, h1.below hb3, h2⟩); have y0 := HX4.out.c0; have y1 := HX4.out.c1; have y2 := HX4.out.c2; have y3 := HX4.out.c3; have f0 := HX4.out.fz 0; have f1 := HX4.out.fz 1; have f2 := HX4.out.fz 2; have f3 := HX4.out.fz 3; clear hb3))
                    go_ret3
                    exact ⟨by rw [HRN.out]; rfl, (((HB4.out.setCell (p := ⟨P, 0, none⟩) (Nat.le_of_lt HWP.out) _).setCell (p := ⟨P, 1, none⟩) (Nat.le_of_lt HWP.out) _).setCell (p := ⟨P, 2, none⟩) (Nat.le_of_lt HWP.out) _).setCell (p := ⟨P, 3, none⟩) (Nat.le_of_lt HWP.out) _⟩
                · have hbg : q.bg = false := by cases hb : q.bg; rfl; exact absurd (.inl hb) hbad
                  have hst : q.st = p.st + 1 := Decidable.byContradiction (fun h => hbad (.inr (.inl h)))
                  have hlf : q.lf = p.lf - 46 := Decidable.byContradiction (fun h => hbad (.inr (.inr h)))
                  have HRE2 : Hid (recS s.tk a last = recG s.tk f (a + ((k + 1 : Nat) : Int)) q (out ++ p.own ++ q.own)) := hide (by rw [HRE.out, if_neg hbad, show a + ((k + 1 : Nat) : Int) = a + k + 1 by omega])
                  obtain ⟨⟨hq0, _⟩, hq1⟩ := HQB.out
                  have HQF := hide (And.intro hbg (And.intro hst hlf))
                  rw [hbg, hst, hlf] at HCE
                  clear hbad HRE HQB
                  have hc1 : (p.lf - 46 != p.lf - 46) = false := by simp
                  have hc2 : (p.st + 1 != p.st + 1) = false := by simp
                  clear hbg hst hlf
                  go_wp2_with (first | (go_at_call 70; refine (cell9_any g3 bq _ HBK.out (fun i hi => HG3.out.at hi)).mono ?_; rintro e W4 ⟨rfl, hb3⟩; rw [HCE.out.1, HCE.out.2]; have HB4 := hide (bt HB3.out hb3); have HD4 := hide (HD3.out.below hb3); have HX4 := hide (HX3.out.below hb3); have HG4 := hide (HG3.out.below hb3); have HR4 : Hid (∃ cur, Rw (P + 1) W4 v2 (out ++ p.own).length cur ∧ cur.take (out ++ p.own).length = bv (out ++ p.own)) := hide (by obtain ⟨c, h1, h2⟩ := HR3.out; exact ⟨c, h1.below hb3, h2⟩); have y0 := HX4.out.c0; have y1 := HX4.out.c1; have y2 := HX4.out.c2; have y3 := HX4.out.c3; have f0 := HX4.out.fz 0; have f1 := HX4.out.fz 1; have f2 := HX4.out.fz 2; have f3 := HX4.out.fz 3; clear hb3))
                  have HX5 := hide (HX4.out.all (.int .i64 (p.st + 1)) (.bool false) (.int .i64 (p.lf - 46)) (.slice (some ⟨g3, 10, none⟩) 46 54))
                  exact ⟨⟨f, k + 1, q, bq, out ++ p.own, g3, by rw [HQF.out.2.2], by rw [HQF.out.2.1], by go_num, ⟨by obtain ⟨c, h1, h2⟩ := HR4.out; exact ⟨c, h1.set4 (by omega), h2⟩, by rw [HQF.out.1, HQF.out.2.1, HQF.out.2.2]; exact HX5.out, (((HD4.out.keepB (set4_heap (by have := HWP.out; omega) _ _ _ _)))), ⟨HQQ.out.symm, HBK.out⟩, HG4.out.keep (set4_heap (by have := HG3L.out; omega) _ _ _ _), HRE2.out, ⟨by rw [HQF.out.2.2]; omega, by rw [HQF.out.2.2]; omega, by rw [HQF.out.2.2]; omega⟩, hq1, ⟨by omega, by omega, fun _ => by rw [HQF.out.2.2]; omega⟩, HN2.out, (((HB4.out.setCell (p := ⟨P, 0, none⟩) (Nat.le_of_lt HWP.out) _).setCell (p := ⟨P, 1, none⟩) (Nat.le_of_lt HWP.out) _).setCell (p := ⟨P, 2, none⟩) (Nat.le_of_lt HWP.out) _).setCell (p := ⟨P, 3, none⟩) (Nat.le_of_lt HWP.out) _, HWP.out⟩⟩, by simp [iv]; omega⟩
              · have HRN : Hid (recS s.tk a last = none) := hide (by rw [HRE.out, if_pos (.inr (.inl (by rw [(clS_ne heq).2]; omega)))])
                have HCE : Hid (clS bq = (0, false, 0) ∧ clV g3 bq = .slice none 0 0) := hide ⟨(clS_ne heq).1, if_neg heq⟩
                clear HRE heq
                have hz1 : ((0 : Int) != p.lf - 46) = true := by simp; omega
                go_wp2_with (first | (go_at_call 70; refine (cell9_any g3 bq _ HBK.out (fun i hi => HG3.out.at hi)).mono ?_; rintro e W4 ⟨rfl, hb3⟩; rw [HCE.out.1, HCE.out.2]; have HB4 := hide (bt HB3.out hb3); have HD4 := hide (HD3.out.below hb3); have HX4 := hide (HX3.out.below hb3); have HG4 := hide (HG3.out.below hb3); have HR4 : Hid (∃ cur, Rw (P + 1) W4 v2 (out ++ p.own).length cur ∧ cur.take (out ++ p.own).length = bv (out ++ p.own)) := hide (by obtain ⟨c, h1, h2⟩ := HR3.out; exact ⟨c, h1.below hb3, h2⟩); have y0 := HX4.out.c0; have y1 := HX4.out.c1; have y2 := HX4.out.c2; have y3 := HX4.out.c3; have f0 := HX4.out.fz 0; have f1 := HX4.out.fz 1; have f2 := HX4.out.fz 2; have f3 := HX4.out.fz 3; clear hb3))
                go_ret3
                exact ⟨by rw [HRN.out]; rfl, (((HB4.out.setCell (p := ⟨P, 0, none⟩) (Nat.le_of_lt HWP.out) _).setCell (p := ⟨P, 1, none⟩) (Nat.le_of_lt HWP.out) _).setCell (p := ⟨P, 2, none⟩) (Nat.le_of_lt HWP.out) _).setCell (p := ⟨P, 3, none⟩) (Nat.le_of_lt HWP.out) _⟩
            · have HNA := hide hna
              have HRN : Hid (recS s.tk a last = none) := hide (by rw [HRE.out, vw_bad hna, if_pos (.inr (.inl (by rw [pcsZ.1]; omega)))])
              clear HRE
              go_wp2_with (first | (go_at_call 69; refine (rread9_bad _ (a + k) s _ (HD.out.below HB2.out) HNA.out).mono ?_; rintro e W3 ⟨rfl, hb3⟩; have HB3 := hide (bt HB2.out hb3); clear hb3))
              go_ret3
              exact ⟨by rw [HRN.out]; rfl, HB3.out⟩
          · obtain ⟨m, hm⟩ : ∃ m : Nat, p.lf = (m : Int) := ⟨p.lf.toNat, by omega⟩
            have hm46 : m ≤ 46 := by omega
            have HOW : Hid (p.own = ((bp.drop 10).take m) ∧ (((bp.drop 10).take m)).length = m) := hide ⟨(by have e := HO.out.pb.1; have e2 : lfO bp = (m : Int) := (by rw [← hm, e]; rfl); rw [e]; show (bp.drop 10).take (min (lfO bp) 46).toNat = _; rw [e2, show (min (m : Int) 46).toNat = m by omega]), by rw [List.length_take, List.length_drop, HBL.out]; omega⟩
            have HRN : Hid (recS s.tk a last = some (out ++ p.own, p.st)) := hide (by rw [HO.out.re, recG_end h46])
            have HBK9 : Hid (blks ((out ++ p.own).length : Int) = (k : Int)) := hide (by rw [List.length_append, HOW.out.1, HOW.out.2, HOL.out]; have := blks_is (n := ((46 * (k - 1) + m : Nat) : Int)) (i := (k : Int) - 1) (by omega) (by by_cases h1 : k = 1; exact .inl (by omega); exact .inr (by have := hk3 (by omega); omega)) (by omega); rw [this]; omega)
            have HBE := hide HO.out.be
            have HWP := hide HO.out.wp
            have HHP := hide HO.out.hp
            clear HO
            rw [hm] at h46 ⊢
            clear hm hp1 hp2 hp3 hk3
            have hmI : (m : Int) ≤ 46 := by omega
            have hmJ : (m : Int) ≤ 54 := by omega
            go_wp2_with (first | (at_builtin; refine wpList_append_sl _ rfl _ _ rfl (P + 1) _ out.length cur rfl HRW.out HPW.out _ ((bp.drop 10).take m) rfl (part_sl HHP.out HBL.out hm46) (by rw [HOW.out.2, HOL.out]; omega) ?_; intro W2 v2 cur2 hput; have HPT := hide hput; clear hput))
            have HSL : Hid (Slp (fun q => w.heap.size ≤ q) W2 v2 (out ++ p.own)) := hide (by have ho := HPT.out.rw.owns; rw [HPT.out.tk, HTK.out, HOW.out.2] at ho; have h2 : W2.ownsRow (P + 1) 5 1 v2 (out ++ p.own).length (bv (out ++ p.own)) := (by rw [HOW.out.1, List.length_append, HOW.out.2, bv_app]; exact ho); exact slp_of (sl_of_own h2) (fr_own h2 (by have := HWP.out; omega)))
            have HB9 : Hid (Below w.heap.size w W2) := hide (HBE.out.trans (HPT.out.below.mono (by have := HWP.out; omega)))
            go_ret3
            exact ⟨by rw [HRN.out]; exact ⟨v2, by rw [HBK9.out]; rfl, HSL.out⟩, HB9.out⟩
    · have HRN : Hid (recS s.tk a last = none) := hide (by rw [HREC.out, if_pos (.inr (.inl (by rw [(clS_ne heq).2]; exact hla)))])
      have HCE : Hid (clS (vw s.tk a) = (0, false, 0) ∧ clV g (vw s.tk a) = .slice none 0 0) := hide ⟨(clS_ne heq).1, if_neg heq⟩
      clear HREC heq
      go_wp2_with (first | (go_at_call 70; refine (cell9_any g (vw s.tk a) _ HBK.out (fun i hi => HG2.out.at hi)).mono ?_; rintro e W3 ⟨rfl, hb3⟩; rw [HCE.out.1, HCE.out.2]; have HB3 := hide (bt (bt HB2.out hb3) ((Below.refl W3.heap.size W3).alloc (Nat.le_refl _) (.cells #[.int .i64 0, .bool false, .int .i64 0, .slice none 0 0] 130))); clear hb3))
      go_ret3
      exact ⟨by rw [HRN.out]; rfl, HB3.out⟩
  · have HNA := hide hna
    have HRN : Hid (recS s.tk a last = none) := hide (by rw [HREC.out, vw_bad hna, if_pos (.inl pcsZ.2)])
    clear HREC
    go_wp2_with (first | (go_at_call 69; refine (rread9_bad _ a s _ (HD.out.below HB.out) HNA.out).mono ?_; rintro e W2 ⟨rfl, hb2⟩; have HB2 := hide (bt HB.out hb2); clear hb2))
    go_ret3
    exact ⟨by rw [HRN.out]; rfl, HB2.out⟩
end Go.Proofs.YtoamghncncalgaaGreatDoor
namespace Go.Proofs.YtoamghncncalgaaGreatDoor
open Go.RowKit

/-- A box of six cells: the document's chain. -/
structure B6 (W : World) (g : Nat) (l : List Value) : Prop where
  ln : l.length = 6
  rg : W.rangeAt g 0 l
  fz : ∀ i, W.frozen? ⟨g, i, none⟩ = false
theorem B6.at {W : World} {g : Nat} {l : List Value} (h : B6 W g l) {i : Nat} (hi : i < l.length) : W.cell? ⟨g, i, none⟩ = some l[i] := by
  have := h.rg i _ (List.getElem?_eq_getElem hi)
  rwa [Nat.zero_add] at this
theorem B6.lt {W : World} {g : Nat} {l : List Value} (h : B6 W g l) : g < W.heap.size := cell_block (h.at (i := 0) (by rw [h.ln]; omega))
theorem B6.keepB {W W' : World} {g : Nat} {l : List Value} (h : B6 W g l) (hk : W'.heap[g]? = W.heap[g]?) : B6 W' g l :=
  ⟨h.ln, fun j u hj => (World.cell?_of_block hk).trans (h.rg j u hj), fun i => (World.frozen?_of_block (a := ⟨g, i, none⟩) hk).trans (h.fz i)⟩
theorem B6.below {W W' : World} {g : Nat} {l : List Value} (h : B6 W g l) (hb : Below W.heap.size W W') : B6 W' g l := h.keepB (hb.block g h.lt)
theorem B6.new (W : World) (x0 x1 x2 x3 x4 x5 : Value) (T : TypeId) : B6 (W.alloc (.cells #[x0, x1, x2, x3, x4, x5] T)) W.heap.size [x0, x1, x2, x3, x4, x5] :=
  ⟨rfl, fun j u hj => by
    rw [Nat.zero_add, World.cell?_alloc_at _ _ _ _ rfl]
    match j, hj with
    | 0, hj => exact hj
    | 1, hj => exact hj
    | 2, hj => exact hj
    | 3, hj => exact hj
    | 4, hj => exact hj
    | 5, hj => exact hj
    | n + 6, hj => simp at hj, fun i => by simp⟩
def s6 (W : World) (g : Nat) (x0 x1 x2 x3 x4 x5 : Value) : World := (((((W.setCell ⟨g, 0, none⟩ x0).setCell ⟨g, 1, none⟩ x1).setCell ⟨g, 2, none⟩ x2).setCell ⟨g, 3, none⟩ x3).setCell ⟨g, 4, none⟩ x4).setCell ⟨g, 5, none⟩ x5
theorem s6_heap {W : World} {g k : Nat} (h : k ≠ g) (x0 x1 x2 x3 x4 x5 : Value) : (s6 W g x0 x1 x2 x3 x4 x5).heap[k]? = W.heap[k]? := by
  unfold s6
  rw [Below.heap_setCell _ _ _ _ h, Below.heap_setCell _ _ _ _ h, Below.heap_setCell _ _ _ _ h, Below.heap_setCell _ _ _ _ h, Below.heap_setCell _ _ _ _ h, Below.heap_setCell _ _ _ _ h]
theorem s6_below {B g : Nat} {a W : World} (h : Below B a W) (hg : B ≤ g) (x0 x1 x2 x3 x4 x5 : Value) : Below B a (s6 W g x0 x1 x2 x3 x4 x5) :=
  (((((h.setCell (p := ⟨g, 0, none⟩) hg x0).setCell (p := ⟨g, 1, none⟩) hg x1).setCell (p := ⟨g, 2, none⟩) hg x2).setCell (p := ⟨g, 3, none⟩) hg x3).setCell (p := ⟨g, 4, none⟩) hg x4).setCell (p := ⟨g, 5, none⟩) hg x5
theorem B6.all {W : World} {g : Nat} {l : List Value} (h : B6 W g l) (x0 x1 x2 x3 x4 x5 : Value) : (s6 W g x0 x1 x2 x3 x4 x5).rangeAt g 0 [x0, x1, x2, x3, x4, x5] := by
  have hc : ∀ i, i < 6 → ∃ y, W.cell? ⟨g, i, none⟩ = some y := fun i hi => ⟨_, h.at (i := i) (by rw [h.ln]; exact hi)⟩
  have so : ∀ (V : World) (i j : Nat) (x : Value), i ≠ j → (V.setCell ⟨g, j, none⟩ x).cell? ⟨g, i, none⟩ = V.cell? ⟨g, i, none⟩ := fun V i j x hij => World.cell?_setCell_other _ _ _ _ (fun e => hij (by cases e; rfl))
  intro j u hj
  rw [Nat.zero_add]
  unfold s6
  match j, hj with
  | 0, hj => cases hj; obtain ⟨y, hy⟩ := hc 0 (by omega); simp only [so _ 0 1 _ (by omega), so _ 0 2 _ (by omega), so _ 0 3 _ (by omega), so _ 0 4 _ (by omega), so _ 0 5 _ (by omega)]; exact World.cell?_setCell_same _ _ _ hy
  | 1, hj => cases hj; obtain ⟨y, hy⟩ := hc 1 (by omega); simp only [so _ 1 2 _ (by omega), so _ 1 3 _ (by omega), so _ 1 4 _ (by omega), so _ 1 5 _ (by omega)]; exact World.cell?_setCell_same _ _ _ (by rw [so _ 1 0 _ (by omega)]; exact hy)
  | 2, hj => cases hj; obtain ⟨y, hy⟩ := hc 2 (by omega); simp only [so _ 2 3 _ (by omega), so _ 2 4 _ (by omega), so _ 2 5 _ (by omega)]; exact World.cell?_setCell_same _ _ _ (by rw [so _ 2 1 _ (by omega), so _ 2 0 _ (by omega)]; exact hy)
  | 3, hj => cases hj; obtain ⟨y, hy⟩ := hc 3 (by omega); simp only [so _ 3 4 _ (by omega), so _ 3 5 _ (by omega)]; exact World.cell?_setCell_same _ _ _ (by rw [so _ 3 2 _ (by omega), so _ 3 1 _ (by omega), so _ 3 0 _ (by omega)]; exact hy)
  | 4, hj => cases hj; obtain ⟨y, hy⟩ := hc 4 (by omega); simp only [so _ 4 5 _ (by omega)]; exact World.cell?_setCell_same _ _ _ (by rw [so _ 4 3 _ (by omega), so _ 4 2 _ (by omega), so _ 4 1 _ (by omega), so _ 4 0 _ (by omega)]; exact hy)
  | 5, hj => cases hj; obtain ⟨y, hy⟩ := hc 5 (by omega); exact World.cell?_setCell_same _ _ _ (by rw [so _ 5 4 _ (by omega), so _ 5 3 _ (by omega), so _ 5 2 _ (by omega), so _ 5 1 _ (by omega), so _ 5 0 _ (by omega)]; exact hy)
  | n + 6, hj => simp at hj
theorem infoHc : (Tryz.prog.info? 39).map (·.size) = some 6 := by kernel_rfl
theorem Lw.s6 {W : World} {B : Nat} {v : Value} {qs : List Lc} {g : Nat} (h : Lw W B v qs) (hm : ∀ q ∈ qs, Slp (fun b => g < b) W q.2.1 q.2.2) (hg : g < B) (x0 x1 x2 x3 x4 x5 : Value) : Lw (Go.Proofs.YtoamghncncalgaaGreatDoor.s6 W g x0 x1 x2 x3 x4 x5) B v qs :=
  ⟨⟨h.own.1, h.own.2.imp id (fun ⟨k, cap, cur, a1, a2, a3, a4⟩ => ⟨k, cap, cur, a1, a2, (s6_heap (by omega) _ _ _ _ _ _).trans a3, a4⟩)⟩, fun q hq => (slp_and (h.mem q hq) (hm q hq)).keep (fun _ p _ => p.1) (fun b p _ => s6_heap (by have := p.2; omega) _ _ _ _ _ _)⟩
/-- What Open answers. -/
def RopP (w w' : World) (e : Ending) (s : Dst) (v1 v2 : Value) (base frm : Int) : Prop := ∃ vl qs a last, e = .returned (.tuple #[.agg #[.int .i64 s.room, v1, v2, .int .i64 base, .int .i64 a, .int .i64 (max last (hiS base s.cs) + 1)], vl, .int .i64 0]) ∧ Lw w' (w.heap.size + 2) vl qs ∧ Opn s.tk frm 0 (lkO qs) a last ∧ Below w.heap.size w w'
structure Oq (w W : World) (s : Dst) (v1 v2 : Value) (frm : Int) (vl : Value) (qs : List Lc) (a last : Int) : Prop where
  d : B3 W w.heap.size (.int .i64 s.room) v1 v2
  h : B6 W (w.heap.size + 1) [.int .i64 0, .slice none 0 0, .slice none 0 0, .int .i64 0, .int .i64 0, .int .i64 0]
  lw : Lw W (w.heap.size + 2) vl qs
  lm : ∀ q ∈ qs, Slp (fun b => w.heap.size + 1 < b) W q.2.1 q.2.2
  be : Below w.heap.size w W
  op : ∀ L x y, Opn s.tk a last L x y → Opn s.tk frm 0 (lkO qs ++ L) x y
  an : frm ≤ a ∧ a ≤ 1073742200
  la : 0 ≤ last ∧ last ≤ 1152921504606846976
  ql : (qs.length : Int) ≤ a - frm
theorem res_ct {P : Program} {fn : Func} {q r t : Tmp} {ty : TypeId} (h : fn.results = #[.cell q ty, .tmp r, .tmp t]) (tmps : Array Value) (w : World) (b : Nat) (cs : List Value) (d : TypeDesc) (x y : Value) (hp : tmps.getD q undef = .pointer (some ⟨b, 0, none⟩)) (hx : tmps.getD r undef = x) (hy : tmps.getD t undef = y) (hc : w.rangeAt b 0 cs) (hu : P.underlying ty = some d) (hd : d.isRow = true) (hi : (P.info? ty).map (·.size) = some cs.length) : (results fn tmps).run P w = .ok (.tuple #[.agg cs.toArray, x, y]) w := by
  have hp' : tmps[q]?.getD undef = .pointer (some ⟨b, 0, none⟩) := by simpa using hp
  have hx' : tmps[r]?.getD undef = x := by simpa using hx
  have hy' : tmps[t]?.getD undef = y := by simpa using hy
  simp [results, h, hp', hx', hy', asAddr, run_loadVar_mid w b 0 ty cs d hc hu hd hi]
theorem news_l9 (W : World) (nx : Int) (v : Value) (b : List Int) (t : TypeId) : ∀ j x, (lkc (nx, v, b))[j]? = some x → (W.alloc (.cells #[.int .i64 nx, v] t)).cell? ((⟨W.heap.size, 0, none⟩ : Addr).add j) = some x := fun j x hj => by
  match j, hj with
  | 0, hj => simp [lkc] at hj; subst hj; simp [Addr.add, World.cell?_alloc_at _ _ _ _ rfl]
  | 1, hj => simp [lkc] at hj; subst hj; simp [Addr.add, World.cell?_alloc_at _ _ _ _ rfl]
  | n + 2, hj => simp [lkc] at hj
set_option maxRecDepth 100000 in
set_option maxHeartbeats 16000000 in
theorem ropen_any {Pd : Nat → Prop} (a1 a2 : Option Addr) (n1 k1 n2 k2 : Nat) (s : Dst) (base frm : Int) (w : World) (hd : Dd w Pd (.agg #[.int .i64 s.room, .slice a1 n1 k1, .slice a2 n2 k2]) s) (hok : s.Ok) (hn : s.cs.length + s.lo.length < 80000) (hb : 0 ≤ base) (hf : base ≤ frm) (hm : frm ≤ 1073741824) : Calls Tryz.prog 9 #[.agg #[.int .i64 s.room, .slice a1 n1 k1, .slice a2 n2 k2], .int .i64 base, .int .i64 frm] w fun e w' => RopP w w' e s (.slice a1 n1 k1) (.slice a2 n2 k2) base frm := by
  have HD := hide hd
  have HOK := hide hok
  have HBK : Hid (∀ q, Blk (vw s.tk q)) := hide (fun q => vw_blk hok.tb q)
  have hs1 : (w.alloc (.cells #[.int .i64 s.room, .slice a1 n1 k1, .slice a2 n2 k2] 37)).heap.size = w.heap.size + 1 := Array.size_push _
  have hal1 : Below w.heap.size w (w.alloc (.cells #[.int .i64 s.room, .slice a1 n1 k1, .slice a2 n2 k2] 37)) := (Below.refl _ _).alloc (Nat.le_refl _) _
  have hal2 : Below (w.alloc (.cells #[.int .i64 s.room, .slice a1 n1 k1, .slice a2 n2 k2] 37)).heap.size (w.alloc (.cells #[.int .i64 s.room, .slice a1 n1 k1, .slice a2 n2 k2] 37)) ((w.alloc (.cells #[.int .i64 s.room, .slice a1 n1 k1, .slice a2 n2 k2] 37)).alloc (.cells #[.int .i64 0, .slice none 0 0, .slice none 0 0, .int .i64 0, .int .i64 0, .int .i64 0] 39)) := (Below.refl _ _).alloc (Nat.le_refl _) _
  have HQ0 : Hid (Oq w ((w.alloc (.cells #[.int .i64 s.room, .slice a1 n1 k1, .slice a2 n2 k2] 37)).alloc (.cells #[.int .i64 0, .slice none 0 0, .slice none 0 0, .int .i64 0, .int .i64 0, .int .i64 0] 39)) s (.slice a1 n1 k1) (.slice a2 n2 k2) frm (.slice none 0 0) [] frm 0) := hide ⟨(b3_new w _ _ _ _).below hal2, by have i := B6.new (w.alloc (.cells #[.int .i64 s.room, .slice a1 n1 k1, .slice a2 n2 k2] 37)) (.int .i64 0) (.slice none 0 0) (.slice none 0 0) (.int .i64 0) (.int .i64 0) (.int .i64 0) 39; rw [hs1] at i; exact i, lw_nil _ _, fun q hq => by simp at hq, bt hal1 hal2, fun L x y h => h, ⟨Int.le_refl _, by omega⟩, ⟨Int.le_refl _, by omega⟩, by simp⟩
  clear hd hok hs1 hal1 hal2
  have h1 : ¬ base < 0 := by omega
  have h2 : ¬ frm < base := by omega
  have h3 : ¬ 1073741824 < frm := by omega
  go_enter Tryz.func9, Tryz.ntmps9
  go_upto_region 6 with fail
  clear h1 h2 h3
  generalize ((w.alloc (.cells #[.int .i64 s.room, .slice a1 n1 k1, .slice a2 n2 k2] 37)).alloc (.cells #[.int .i64 0, .slice none 0 0, .slice none 0 0, .int .i64 0, .int .i64 0, .int .i64 0] 39)) = W1 at HQ0 ⊢
  go_loopw [9, 10, 11] (fun vl nv lv W => ∃ (qs : List Lc) (a last : Int), nv = .int .i64 a ∧ lv = .int .i64 last ∧ Oq w W s (.slice a1 n1 k1) (.slice a2 n2 k2) frm vl qs a last) (fun _ nv _ _ => (1073742300 - iv nv).toNat)
  case atStart => exact ⟨[], frm, 0, rfl, rfl, HQ0.out⟩
  case round =>
    clear HQ0
    obtain ⟨qs, a, last, rfl, rfl, hq⟩ := hrel
    obtain ⟨la, lk, hlf⟩ := hq.lw.form
    subst hlf
    have HQ := hide hq
    clear hq
    have d0 := HQ.out.d.c0
    have d1 := HQ.out.d.c1
    have d2 := HQ.out.d.c2
    cases hrec : recS s.tk a last with
    | some q =>
      obtain ⟨b, st⟩ := q
      have HREC := hide hrec
      have HBD := hide (recS_bd HBK.out hrec)
      have hnum : a ≤ 1073741824 := (recS_num hrec).2
      have hlst : last < st := recS_last hrec
      have hbp := blks_pos (b.length : Int)
      have hbu : blks (b.length : Int) ≤ 359 := by have h := (recS_bd HBK.out hrec).2; unfold blks; split <;> omega
      clear hrec
      have HAN := hide HQ.out.an
      have HLA := hide HQ.out.la
      have HQL := hide HQ.out.ql
      have HBB := hide HBD.out.2
      have HOP2 : Hid (∀ L x y, Opn s.tk (a + blks b.length) st L x y → Opn s.tk frm 0 (lkO (qs ++ (if b.length = 0 then [] else [(a, Value.slice none 0 0, b)])) ++ L) x y) := hide (fun L x y h => by have i := HQ.out.op _ _ _ (.more HREC.out h); rw [← List.append_assoc] at i; have e : lkO (qs ++ (if b.length = 0 then [] else [(a, Value.slice none 0 0, b)])) = lkO qs ++ (if b.length = 0 then [] else [(a, b)]) := (by unfold lkO; rw [List.map_append]; split <;> rfl); rw [e]; exact i)
      go_upto_region 7 with (first | (go_at_call 35; refine (one_any _ s a last _ (HD.out.below HQ.out.be) HOK.out hn ⟨by have := HQ.out.an; omega, by have := HQ.out.an; omega⟩ HQ.out.la.1).mono ?_; rintro e W2 ⟨hone, hb2⟩; rw [HREC.out] at hone; obtain ⟨vb, rfl, hsl⟩ := hone; obtain ⟨ab, kb, rfl⟩ := hsl.form; have HSL := hide hsl; have HB2 := hide hb2; clear hsl hb2))
      clear d0 d1 d2
      have HD2 := hide (HQ.out.d.below HB2.out)
      have HH2 := hide (HQ.out.h.below HB2.out)
      have HL2 := hide (HQ.out.lw.below HB2.out)
      have HE2 := hide (bt HQ.out.be HB2.out)
      have HM2 : Hid (∀ q ∈ qs, Slp (fun b => w.heap.size + 1 < b) W2 q.2.1 q.2.2) := hide (fun q hq => (HQ.out.lm q hq).below HB2.out)
      have HWR : Hid (w.heap.size + 1 < wr.heap.size) := hide HQ.out.h.lt
      have HNE : Hid (∀ k, (Value.slice la qs.length lk).ownBlock = some k → k < wr.heap.size) := hide (fun k e => (HQ.out.lw.own.lt k e).2)
      have HB0 : Hid (w.heap.size + 2 ≤ W2.heap.size) := hide (by have := HH2.out.lt; omega)
      clear HQ HB2
      have hbz : (blks (b.length : Int) == 0) = false := beq_eq_false_iff_ne.2 (by omega)
      have hw1 : IntKind.i64.wrap (a + blks (b.length : Int)) = a + blks (b.length : Int) := by rw [IntKind.wrap_i64]; have := HAN.out; omega
      have HAN2 : Hid ((frm ≤ a + blks b.length ∧ a + blks b.length ≤ 1073742200) ∧ (0 ≤ st ∧ st ≤ 1152921504606846976)) := hide ⟨⟨by have := HAN.out; omega, by omega⟩, by have := HLA.out; omega, HBD.out.1⟩
      have HME : Hid ((1073742300 - (a + blks (b.length : Int))).toNat < (1073742300 - a).toNat) := hide (by omega)
      generalize hbk : blks (b.length : Int) = n at hbz hw1 HAN2 HME HOP2 hbp hbu ⊢
      clear hbk
      by_cases hb0 : b.length = 0
      · have hbI : ¬ (0 : Int) < (b.length : Int) := by omega
        have HOP3 : Hid (∀ L x y, Opn s.tk (a + n) st L x y → Opn s.tk frm 0 (lkO qs ++ L) x y) := hide (fun L x y h => by have i := HOP2.out L x y h; rw [if_pos hb0, List.append_nil] at i; exact i)
        clear HOP2
        rw [hb0]
        go_wp2_with fail
        exact ⟨⟨qs, a + n, st, rfl, rfl, ⟨HD2.out, HH2.out, HL2.out, HM2.out, HE2.out, HOP3.out, HAN2.out.1, HAN2.out.2, by have := HQL.out; omega⟩⟩, HME.out⟩
      · have hbI : (0 : Int) < (b.length : Int) := by omega
        have HOP3 : Hid (∀ L x y, Opn s.tk (a + n) st L x y → Opn s.tk frm 0 (lkO (qs ++ [(a, Value.slice ab b.length kb, b)]) ++ L) x y) := hide (fun L x y h => by have i := HOP2.out L x y h; rw [if_neg hb0] at i; have e : lkO (qs ++ [(a, Value.slice ab b.length kb, b)]) = lkO (qs ++ [(a, Value.slice none 0 0, b)]) := (by simp [lkO]); rw [e]; exact i)
        clear HOP2
        have hal : Below W2.heap.size W2 (W2.alloc (.cells #[.int .i64 a, .slice ab b.length kb] 74)) := (Below.refl _ _).alloc (Nat.le_refl _) _
        go_wp2_with (first | (at_builtin; refine wpList_appLk _ rfl _ _ rfl (w.heap.size + 2) _ qs rfl (HL2.out.below hal) (Nat.le_trans HB0.out hal.size) ⟨W2.heap.size, 0, none⟩ 1 (a, .slice ab b.length kb, b) rfl (news_l9 W2 a (.slice ab b.length kb) b 74) ⟨_, _, _, rfl⟩ ((HSL.out.below hal).keep (fun q p _ e => by have := HNE.out q e; omega) (fun _ _ _ => rfl)) (by have h1 := HQL.out; have h2 := HAN.out; omega) ?_; intro v4 W4 hl4 hg4 hb4; have HL4 := hide hl4; have HD4 := hide ((HD2.out.below hal).keepB (hg4.block _ (Nat.lt_of_lt_of_le HD2.out.lt9 hal.size) (fun e => by have := hb4 _ e.symm; omega))); have HH4 := hide ((HH2.out.below hal).keepB (hg4.block _ (Nat.lt_of_lt_of_le HH2.out.lt hal.size) (fun e => by have := hb4 _ e.symm; omega))); have HE4 : Hid (Below w.heap.size w W4) := hide ((bt HE2.out hal).grown hg4 (Nat.le_trans HE2.out.size hal.size) (fun j e => by have := hb4 _ e; omega)); have HM4 : Hid (∀ q ∈ qs ++ [(a, Value.slice ab b.length kb, b)], Slp (fun b => w.heap.size + 1 < b) W4 q.2.1 q.2.2) := hide (fun q hq => (slp_and (HL4.out.mem q hq) (show Slp (fun b => w.heap.size + 1 < b) W2 q.2.1 q.2.2 from by rcases List.mem_append.1 hq with e | e; exact HM2.out q e; simp at e; subst e; exact HSL.out.keep (fun b p _ => Nat.lt_of_lt_of_le HWR.out p) (fun _ _ _ => rfl))).keep (fun _ p _ => p.2) (fun _ _ _ => rfl)); clear hl4 hg4 hb4))
        exact ⟨⟨_, a + n, st, rfl, rfl, ⟨HD4.out, HH4.out, HL4.out, HM4.out, HE4.out, HOP3.out, HAN2.out.1, HAN2.out.2, by rw [List.length_append]; have := HQL.out; simp; omega⟩⟩, HME.out⟩
    | none =>
      have HREC := hide hrec
      clear hrec
      go_upto_region 12 with (first | (go_at_call 35; refine (one_any _ s a last _ (HD.out.below HQ.out.be) HOK.out hn ⟨by have := HQ.out.an; omega, by have := HQ.out.an; omega⟩ HQ.out.la.1).mono ?_; rintro e W2 ⟨hone, hb2⟩; rw [HREC.out] at hone; have hon : e = .returned (.tuple #[.slice none 0 0, .int .i64 0, .int .i64 0]) := hone; subst hon; have HB2 := hide hb2; clear hone hb2))
      clear d0 d1 d2
      have HD2 := hide (HQ.out.d.below HB2.out)
      have HH2 := hide (HQ.out.h.below HB2.out)
      have HL2 := hide (HQ.out.lw.below HB2.out)
      have HE2 := hide (bt HQ.out.be HB2.out)
      have HM2 : Hid (∀ q ∈ qs, Slp (fun b => w.heap.size + 1 < b) W2 q.2.1 q.2.2) := hide (fun q hq => (HQ.out.lm q hq).below HB2.out)
      have HOPN : Hid (Opn s.tk frm 0 (lkO qs) a last) := hide (by have i := HQ.out.op _ _ _ (.stop HREC.out); rw [List.append_nil] at i; exact i)
      have HLA := hide HQ.out.la
      clear HQ HB2 HREC
      obtain ⟨vc, vw2, cs9, ls9, hvv, hcl, hll, hcs9, _⟩ := HD.out
      obtain ⟨rfl, rfl⟩ : vc = .slice a1 n1 k1 ∧ vw2 = .slice a2 n2 k2 := by cases hvv; exact ⟨rfl, rfl⟩
      obtain rfl : n1 = cs9.length := by obtain ⟨x9, y9, e9⟩ := hcl.fm; cases e9; rfl
      have HCL := hide hcl
      have HCS := hide hcs9
      have HLN : Hid (cs9.length = s.cs.length) := hide (by rw [← hcs9]; simp [csOf])
      clear hvv hcl hll hcs9
      go_upto_region 14 with fail
      go_loopw [15, 16] (fun tv i W => ∃ k : Nat, k ≤ cs9.length ∧ i = .int .i64 k ∧ tv = .int .i64 (max last (hiS base (s.cs.take k))) ∧ W = W2) (fun _ i _ => cs9.length - (iv i).toNat)
      case atStart => exact ⟨0, Nat.zero_le _, rfl, by rw [List.take_zero]; have e : max last (hiS base []) = last := (by show max last 0 = last; have := HLA.out; omega); rw [e], rfl⟩
      case round =>
        obtain ⟨k, hk, rfl, rfl, hWw⟩ := hrel
        have hWw2 := hWw.symm
        clear hWw
        subst hWw2
        have d1 := HD2.out.c1
        by_cases hlt : k < cs9.length
        · have hlc : k < s.cs.length := by have := HLN.out; omega
          have HQ : Hid (((cs9[k]).1, (cs9[k]).2.2) = s.cs[k]) := hide (by have := congrArg (fun l => l[k]?) HCS.out; simp only [csOf, List.getElem?_map, List.getElem?_eq_getElem hlt, List.getElem?_eq_getElem hlc, Option.map_some] at this; exact Option.some.inj this)
          have HBQ : Hid (Blk (s.cs[k]).2) := hide (HOK.out.cb _ (List.getElem_mem hlc)).2
          have HST := hide (hi_step base s.cs k hlc)
          obtain ⟨cb, co, hca, c0, c1⟩ := (HCL.out.below HE2.out).at hlt
          have HAU : Hid (Au W2 (cs9[k]).2.1 (cs9[k]).2.2) := hide ((HCL.out.below HE2.out).au _ (List.getElem_mem hlt)).2
          subst hca
          rw [← HQ.out] at HBQ HST
          simp only at HBQ HST
          generalize (cs9[k]).1 = qa at c0 HST
          generalize (cs9[k]).2.1 = qg at c1 HAU
          generalize (cs9[k]).2.2 = qb at HST HBQ HAU
          clear HQ
          generalize hiS base (s.cs.take k) = m at HST ⊢
          have hkI : (k : Int) < (cs9.length : Int) := by omega
          have H6 : Hid (qb.length = 64) := hide HBQ.out.1
          have HRQ : Hid (Rq W2 qg 5 qb) := hide HAU.out.2
          have HC8 := hide (fun (i : Nat) (hi : i < (qb.take 8).length) => show W2.cell? ⟨qg, 0 + i, none⟩ = some (.int .u8 (qb.take 8)[i]) from by rw [Nat.zero_add, List.getElem_take]; exact HRQ.out.at (by rw [List.length_take] at hi; omega))
          have HC9 := hide (fun (i : Nat) (hi : i < (qb.drop 56).length) => show W2.cell? ⟨qg, 56 + i, none⟩ = some (.int .u8 (qb.drop 56)[i]) from by rw [List.getElem_drop]; exact HRQ.out.at (by rw [List.length_drop] at hi; omega))
          have H8 : Hid (((qb.take 8).length = 8 ∧ Byt (qb.take 8)) ∧ ((qb.drop 56).length = 8 ∧ Byt (qb.drop 56))) := hide ⟨⟨by rw [List.length_take, H6.out]; decide, fun x hx => HBQ.out.2 x (List.mem_of_mem_take hx)⟩, ⟨by rw [List.length_drop, H6.out], fun x hx => HBQ.out.2 x (List.mem_of_mem_drop hx)⟩⟩
          by_cases hge : qa < base
          · go_wp2_with fail
            exact ⟨⟨k + 1, by omega, by go_num, by rw [HST.out, if_neg (by omega)], by trivial⟩, by simp [iv]; omega⟩
          · have HS2 : Hid (hiS base (s.cs.take (k + 1)) = max (max m (stp (qb.take 8))) (stp (qb.drop 56))) := hide (by rw [HST.out, if_pos (by omega)])
            skip
            by_cases g1 : max last m < stp (qb.take 8)
            · by_cases g2 : stp (qb.take 8) < stp (qb.drop 56)
              · go_upto_region 18 with (first | (go_at_call 36; refine (rnum9_any qg 0 8 64 (qb.take 8) _ (by decide) H8.out.1.1 H8.out.1.2 HC8.out).mono ?_; rintro e w9 ⟨rfl, hw9⟩; rw [hw9]; clear hw9 w9))
                go_wp2_with (first | (go_at_call 36; refine (rnum9_any qg 56 8 8 (qb.drop 56) _ (by decide) H8.out.2.1 H8.out.2.2 HC9.out).mono ?_; rintro e w9 ⟨rfl, hw9⟩; rw [hw9]; clear hw9 w9))
                exact ⟨⟨k + 1, by omega, by go_num, by rw [HS2.out]; exact congrArg (Value.int .i64) (by omega), by trivial⟩, by simp [iv]; omega⟩
              · go_upto_region 18 with (first | (go_at_call 36; refine (rnum9_any qg 0 8 64 (qb.take 8) _ (by decide) H8.out.1.1 H8.out.1.2 HC8.out).mono ?_; rintro e w9 ⟨rfl, hw9⟩; rw [hw9]; clear hw9 w9))
                go_wp2_with (first | (go_at_call 36; refine (rnum9_any qg 56 8 8 (qb.drop 56) _ (by decide) H8.out.2.1 H8.out.2.2 HC9.out).mono ?_; rintro e w9 ⟨rfl, hw9⟩; rw [hw9]; clear hw9 w9))
                exact ⟨⟨k + 1, by omega, by go_num, by rw [HS2.out]; exact congrArg (Value.int .i64) (by omega), by trivial⟩, by simp [iv]; omega⟩
            · by_cases g2 : max last m < stp (qb.drop 56)
              · go_upto_region 18 with (first | (go_at_call 36; refine (rnum9_any qg 0 8 64 (qb.take 8) _ (by decide) H8.out.1.1 H8.out.1.2 HC8.out).mono ?_; rintro e w9 ⟨rfl, hw9⟩; rw [hw9]; clear hw9 w9))
                go_wp2_with (first | (go_at_call 36; refine (rnum9_any qg 56 8 8 (qb.drop 56) _ (by decide) H8.out.2.1 H8.out.2.2 HC9.out).mono ?_; rintro e w9 ⟨rfl, hw9⟩; rw [hw9]; clear hw9 w9))
                exact ⟨⟨k + 1, by omega, by go_num, by rw [HS2.out]; exact congrArg (Value.int .i64) (by omega), by trivial⟩, by simp [iv]; omega⟩
              · go_upto_region 18 with (first | (go_at_call 36; refine (rnum9_any qg 0 8 64 (qb.take 8) _ (by decide) H8.out.1.1 H8.out.1.2 HC8.out).mono ?_; rintro e w9 ⟨rfl, hw9⟩; rw [hw9]; clear hw9 w9))
                go_wp2_with (first | (go_at_call 36; refine (rnum9_any qg 56 8 8 (qb.drop 56) _ (by decide) H8.out.2.1 H8.out.2.2 HC9.out).mono ?_; rintro e w9 ⟨rfl, hw9⟩; rw [hw9]; clear hw9 w9))
                exact ⟨⟨k + 1, by omega, by go_num, by rw [HS2.out]; exact congrArg (Value.int .i64) (by omega), by trivial⟩, by simp [iv]; omega⟩
        · have e : s.cs.take k = s.cs := List.take_of_length_le (by have := HLN.out; omega)
          rw [e]
          clear e
          have hkI : ¬ (k : Int) < (cs9.length : Int) := by omega
          have HBDH := hide (hiS_bd (base := base) (l := s.cs) (fun p hp => (HOK.out.cb p hp).2))
          have hw9 : IntKind.i64.wrap (max last (hiS base s.cs) + 1) = max last (hiS base s.cs) + 1 := by rw [IntKind.wrap_i64]; have h1 := HBDH.out; have h2 := HLA.out; omega
          have d0 := HD2.out.c0
          have d2 := HD2.out.c2
          generalize hmx : max last (hiS base s.cs) = mx at hw9 ⊢
          have HMX := hide hmx
          clear hmx
          have z0 := HH2.out.at (i := 0) (by decide)
          have z1 := HH2.out.at (i := 1) (by decide)
          have z2 := HH2.out.at (i := 2) (by decide)
          have z3 := HH2.out.at (i := 3) (by decide)
          have z4 := HH2.out.at (i := 4) (by decide)
          have z5 := HH2.out.at (i := 5) (by decide)
          simp only [List.getElem_cons_zero, List.getElem_cons_succ] at z0 z1 z2 z3 z4 z5
          have f0 := HH2.out.fz 0
          have f1 := HH2.out.fz 1
          have f2 := HH2.out.fz 2
          have f3 := HH2.out.fz 3
          have f4 := HH2.out.fz 4
          have f5 := HH2.out.fz 5
          go_wp2_with fail
          refine bodyPost_ret (v := .tuple #[.agg #[.int .i64 s.room, .slice a1 cs9.length k1, .slice a2 n2 k2, .int .i64 base, .int .i64 a,   .int .i64 (mx + 1)], .slice la qs.length lk, .int .i64 0]) (res_ct Tryz.results9 _ _ (w.heap.size + 1) [_, _, _, _, _, _] _ _ _ rfl rfl rfl (HH2.out.all (.int .i64 s.room) (.slice a1 cs9.length k1) (.slice a2 n2 k2) (.int .i64 base) (.int .i64 a) (.int .i64 (mx + 1))) Tryz.underlying39 rfl infoHc) rfl ?_
          exact ⟨.slice la qs.length lk, qs, a, last, by rw [HMX.out], HL2.out.s6 HM2.out (by omega) _ _ _ _ _ _, HOPN.out, s6_below HE2.out (Nat.le_succ _) _ _ _ _ _ _⟩
end Go.Proofs.YtoamghncncalgaaGreatDoor
