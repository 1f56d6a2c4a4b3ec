/-
  A PARTITION IN ITS OWN MEMORY, AND TWO HELD TOGETHER (slices.Clone of numbers, image.Alone, image.Same). Conditions: the cells hold them, rows of no more than seven numbers.
  TWO PARTITIONS HELD TOGETHER (image.Same). Conditions: the cells hold them, rows of no more than seven numbers.
  WHETHER A PARTITION MAY FOLLOW (image.follows), AND A BROKER BE TURNED (image.turns). Conditions: an image in order, a record that may be, rows of no more than seven numbers.
  MANY ROWS AS ONE (slices.Grow, slices.Concat). Conditions: their cells hold them, no more than two hundred thousand each.
  ONE THAT IS PUT AT A PLACE (image.put), ahead of what is there, or in its stead. Conditions: the cells hold them, no more than a hundred thousand.
-/
import Derived.Test.YtlggjgapdpkhiaaGreatDoorJKImCba5
import Derived.Test.YtlggjgapdpkhiaaGreatDoorJKImCda5
namespace Go.Proofs.YtlggjgapdpkhiaaGreatDoor
open Go.RowKit
set_option maxRecDepth 100000
set_option maxHeartbeats 8000000
theorem nilI_yes (n cap : Nat) (w : World) : (binOp .eql 35 (.slice none n cap) (.slice none 0 0)).run Tryz.prog w = .ok (.bool true) w := by kernel_rfl
theorem nilI_no (a : Addr) (n cap : Nat) (w : World) : (binOp .eql 35 (.slice (some a) n cap) (.slice none 0 0)).run Tryz.prog w = .ok (.bool false) w := by kernel_rfl
def icl (x : Int) : List Value := [ic x]
theorem encI : Enc icl 1 := ⟨fun _ => rfl, fun x u hu => by
 simp only [icl, List.mem_cons, List.not_mem_nil, or_false] at hu
 subst hu; rfl, by decide⟩
theorem tyiI : Tyi Tryz.prog 35 3 1 := tyi_map (z := .int .i64 0) (n := 8) (by kernel_rfl) (by decide) rfl Tryz.underlying35
theorem icl_map (l : List Int) : l.flatMap icl = l.map ic := by
 induction l with
 | nil => rfl
 | cons x r ih => rw [List.flatMap_cons, ih]; rfl
theorem sl_rs {W : World} {v : Value} {l : List Int} (h : Sl ic W v l) : ∃ a n c, v = .slice a n c ∧ n = l.length ∧ (Rs icl W v l ∨ l = []) := by
 rcases h with ⟨ao, cap, rfl, rfl⟩ | ⟨b, o, cap, rfl, h2, h3⟩
 ·exact ⟨_, _, _, rfl, rfl, .inr rfl⟩
 ·refine ⟨_, _, _, rfl, rfl, .inl ⟨_, _, rfl, h2, fun _ => ⟨b, o, rfl, fun j u hj => ?_⟩⟩⟩
  rw [icl_map, List.getElem?_map] at hj
  obtain ⟨x, hx, rfl⟩ := Option.map_eq_some_iff.1 hj
  obtain ⟨hlt, rfl⟩ := List.getElem?_eq_some_iff.1 hx
  exact h3 j hlt
theorem rs_sl {W : World} {v : Value} {l : List Int} (h : Rs icl W v l) : Sl ic W v l := by
 obtain ⟨ao, cap, rfl, hc, hr⟩ := h
 rcases Nat.eq_zero_or_pos l.length with h0 | h0
 ·obtain rfl := List.eq_nil_iff_length_eq_zero.2 h0
  exact Sl.nil _ _ _ _
 ·obtain ⟨b, o, rfl, hrg⟩ := hr h0
  exact .inr ⟨b, o, cap, rfl, hc, fun i hi => hrg i _ (by rw [icl_map, List.getElem?_map, List.getElem?_eq_getElem hi]; rfl)⟩
theorem cloneI_any (v : Value) (l : List Int) (w : World) (hv : Sl ic w v l) (hl : l.length ≤ 100000) :
  Calls Tryz.prog 130 #[v] w fun e w' => ∃ v, e = .returned v ∧ Sl ic w' v l ∧ Ro icl 1 3 w' w.heap.size v l ∧ Below w.heap.size w w' := by
 obtain ⟨a0, n0, c0, rfl, hn, hrs⟩ := sl_rs hv
 cases a0 with
 | none =>
  have e1 := nilI_yes
  obtain rfl : l = [] := by
   rcases hrs with h | h
   ·exact List.eq_nil_iff_length_eq_zero.2 (hn ▸ Rs.none0 (f := icl) h rfl)
   ·exact h
  clear hv hl hn hrs
  go_enter Tryz.func130, Tryz.ntmps130
  go_wp2_with fail
  go_ret
  exact ⟨_, rfl, Sl.nil _ _ _ _, ro_nil _ _ _ _ _, Below.refl _ _⟩
 | some a =>
  have e2 := nilI_no
  have hq : Rs icl (w.alloc (.cells #[] 3)) (.slice (some a) n0 c0) l := by
   rcases hrs with h | rfl
   ·exact h.below (below_al1 _ _)
   ·subst hn; exact rs_nil _ _ _ _
  have HV := hide hq
  have HR := hide (ro_new encI 3 w [] (Nat.zero_le _))
  clear hv hrs hq
  go_enter Tryz.func130, Tryz.ntmps130
  go_wp2_with (at_builtin; refine wpList_appR tyiI encI _ rfl _ _ rfl w.heap.size _ [] rfl HR.out (by simp) _ l rfl HV.out (by rw [List.length_nil]; omega) ?_; intro v1 w2 hr _ hb; rw [List.nil_append] at hr; have HRO := hide hr; have HB := hide (((Below.refl w.heap.size w).alloc (Nat.le_refl _) _).trans hb); clear hr hb)
  go_ret
  exact ⟨_, rfl, rs_sl HRO.out.rs, HRO.out, HB.out⟩
structure PtO (W : World) (B : Nat) (q : Pp) : Prop where
 r0 : Ro icl 1 3 W B (.slice q.2.a0 q.1.ids.length q.2.c0) q.1.ids
 r1 : Ro icl 1 3 W B (.slice q.2.a1 q.1.isr.length q.2.c1) q.1.isr
 r2 : Ro icl 1 3 W B (.slice q.2.a2 q.1.ad.length q.2.c2) q.1.ad
 r3 : Ro icl 1 3 W B (.slice q.2.a3 q.1.dr.length q.2.c3) q.1.dr
theorem ro_keep {α : Type} {f : α → List Value} {k : Nat} {T : TypeId} {W W' : World} {B : Nat} {v : Value} {l : List α} (h : Ro f k T W B v l) (hk : ∀ g, B ≤ g → g < W.heap.size → W'.heap[g]? = W.heap[g]?) : Ro f k T W' B v l := by
 refine ⟨h.1, ?_⟩
 rcases h.2 with h2 | ⟨g, cap, cur, a1, a2, a3, a4⟩
 ·exact .inl h2
 ·exact .inr ⟨g, cap, cur, a1, a2, by rw [hk g a2 (Array.getElem?_eq_some_iff.1 a3).1]; exact a3, a4⟩
theorem PtO.keep {W W' : World} {B : Nat} {q : Pp} (h : PtO W B q) (hk : ∀ g, B ≤ g → g < W.heap.size → W'.heap[g]? = W.heap[g]?) : PtO W' B q := ⟨ro_keep h.r0 hk, ro_keep h.r1 hk, ro_keep h.r2 hk, ro_keep h.r3 hk⟩
theorem PtO.mono {W : World} {B C : Nat} {q : Pp} (h : PtO W B q) (hc : C ≤ B) : PtO W C q := ⟨h.r0.mono hc, h.r1.mono hc, h.r2.mono hc, h.r3.mono hc⟩
theorem PtO.pt {W : World} {B : Nat} {q : Pp} (h : PtO W B q) : PtR W q := ⟨rs_sl h.r0.rs, rs_sl h.r1.rs, rs_sl h.r2.rs, rs_sl h.r3.rs⟩
theorem Alone_any (q : Pp) (w : World) (hq : PtR w q) (hl : WfP q.1) : Calls Tryz.prog 93 #[.agg (ptc q).toArray] w fun e w' => ∃ q' : Pp, q'.1 = q.1 ∧ e = .returned (.agg (ptc q').toArray) ∧ PtO w' w.heap.size q' ∧ Below w.heap.size w w' := by
 obtain ⟨⟨ids, isr, ld, ep, ad, dr⟩, ⟨a0, a1, a2, a3, c0, c1, c2, c3⟩⟩ := q
 have H0 := hide (fun W (h : Below w.heap.size w W) => cloneI_any _ ids W (hq.s0.below h) (Nat.le_trans hl.l0 (by decide)))
 have H1 := hide (fun W (h : Below w.heap.size w W) => cloneI_any _ isr W (hq.s1.below h) (Nat.le_trans hl.l1 (by decide)))
 have H2 := hide (fun W (h : Below w.heap.size w W) => cloneI_any _ ad W (hq.s2.below h) (Nat.le_trans hl.l2 (by decide)))
 have H3 := hide (fun W (h : Below w.heap.size w W) => cloneI_any _ dr W (hq.s3.below h) (Nat.le_trans hl.l3 (by decide)))
 clear hq hl
 unfold ptc
 dsimp only
 go_enter Tryz.func93, Tryz.ntmps93
 go_upto_region 1 with fail
 have hb1 := Bx.mk2 w [.slice a0 ids.length c0, .slice a1 isr.length c1, .int .i64 ld, .int .i64 ep, .slice a2 ad.length c2, .slice a3 dr.length c3] [.slice none 0 0, .slice none 0 0, .int .i64 0, .int .i64 0, .slice none 0 0, .slice none 0 0] 50 50 (Below.refl _ _)
 generalize ((w.alloc (.cells (List.toArray [Value.slice a0 ids.length c0, .slice a1 isr.length c1, .int .i64 ld, .int .i64 ep, .slice a2 ad.length c2, .slice a3 dr.length c3]) 50)).alloc (.cells (List.toArray [Value.slice none 0 0, .slice none 0 0, .int .i64 0, .int .i64 0, .slice none 0 0, .slice none 0 0]) 50)) = X at hb1 ⊢
 obtain ⟨hP, hR, hB⟩ := hb1
 have HP := hide hP
 have HR := hide hR
 have HB := hide hB
 obtain ⟨i0, i1, i2, i3, i4, i5⟩ := hP.c6
 clear hP hR hB
 clear i0 i1 i2 i3 i4 i5
 obtain ⟨i0, i1, i2, i3, i4, i5⟩ := HP.out.c6
 go_upto_region 2 with (go_at_call 130; refine (H0.out _ HB.out).mono ?_; rintro e w2 ⟨v, rfl, hs, hro, hb1⟩; obtain ⟨b0, d0, rfl⟩ := hs.form; have HR0 : Hid (Ro icl 1 3 w2 (w.heap.size + 1 + 1) (.slice b0 ids.length d0) ids) := hide (hro.mono HR.out.l); replace HP := hide (HP.out.below hb1); replace HR := hide (HR.out.below hb1); replace HB := hide (bt HB.out hb1); clear i0 i1 i2 i3 i4 i5 hs hro hb1 H0; obtain ⟨i0, i1, i2, i3, i4, i5⟩ := HP.out.c6; have f0 := HP.out.f 0 (by simp))
 clear i0 i1 i2 i3 i4 i5 f0
 replace HP := hide (HP.out.setCell 0 (by simp) (.slice b0 ids.length d0))
 replace HR := hide (HR.out.setOther (m := w.heap.size) (by omega) 0 (.slice b0 ids.length d0))
 replace HB := hide (HB.out.setCell (p := ⟨w.heap.size, 0, none⟩) (Nat.le_refl _) (.slice b0 ids.length d0))
 replace HR0 := hide (HR0.out.keepG (W' := w2.setCell ⟨w.heap.size, 0, none⟩ (.slice b0 ids.length d0)) (fun g hg => Below.heap_setCell _ _ _ _ (show ¬ g = w.heap.size by omega)))
 simp only [List.set] at HP
 generalize w2.setCell ⟨w.heap.size, 0, none⟩ (.slice b0 ids.length d0) = X0 at HP HR HB HR0 ⊢
 obtain ⟨i0, i1, i2, i3, i4, i5⟩ := HP.out.c6
 go_upto_region 3 with (go_at_call 130; refine (H1.out _ HB.out).mono ?_; rintro e w3 ⟨v, rfl, hs, hro, hb1⟩; obtain ⟨b1, d1, rfl⟩ := hs.form; have HR1 : Hid (Ro icl 1 3 w3 (w.heap.size + 1 + 1) (.slice b1 isr.length d1) isr) := hide (hro.mono HR.out.l); replace HR0 := hide (HR0.out.below hb1); replace HP := hide (HP.out.below hb1); replace HR := hide (HR.out.below hb1); replace HB := hide (bt HB.out hb1); clear i0 i1 i2 i3 i4 i5 hs hro hb1 H1; obtain ⟨i0, i1, i2, i3, i4, i5⟩ := HP.out.c6; have f0 := HP.out.f 1 (by simp))
 clear i0 i1 i2 i3 i4 i5 f0
 replace HP := hide (HP.out.setCell 1 (by simp) (.slice b1 isr.length d1))
 replace HR := hide (HR.out.setOther (m := w.heap.size) (by omega) 1 (.slice b1 isr.length d1))
 replace HB := hide (HB.out.setCell (p := ⟨w.heap.size, 1, none⟩) (Nat.le_refl _) (.slice b1 isr.length d1))
 replace HR0 := hide (HR0.out.keepG (W' := w3.setCell ⟨w.heap.size, 1, none⟩ (.slice b1 isr.length d1)) (fun g hg => Below.heap_setCell _ _ _ _ (show ¬ g = w.heap.size by omega)))
 replace HR1 := hide (HR1.out.keepG (W' := w3.setCell ⟨w.heap.size, 1, none⟩ (.slice b1 isr.length d1)) (fun g hg => Below.heap_setCell _ _ _ _ (show ¬ g = w.heap.size by omega)))
 simp only [List.set] at HP
 generalize w3.setCell ⟨w.heap.size, 1, none⟩ (.slice b1 isr.length d1) = X1 at HP HR HB HR0 HR1 ⊢
 obtain ⟨i0, i1, i2, i3, i4, i5⟩ := HP.out.c6
 go_upto_region 4 with (go_at_call 130; refine (H2.out _ HB.out).mono ?_; rintro e w4 ⟨v, rfl, hs, hro, hb1⟩; obtain ⟨b2, d2, rfl⟩ := hs.form; have HR2 : Hid (Ro icl 1 3 w4 (w.heap.size + 1 + 1) (.slice b2 ad.length d2) ad) := hide (hro.mono HR.out.l); replace HR0 := hide (HR0.out.below hb1); replace HR1 := hide (HR1.out.below hb1); replace HP := hide (HP.out.below hb1); replace HR := hide (HR.out.below hb1); replace HB := hide (bt HB.out hb1); clear i0 i1 i2 i3 i4 i5 hs hro hb1 H2; obtain ⟨i0, i1, i2, i3, i4, i5⟩ := HP.out.c6; have f0 := HP.out.f 4 (by simp))
 clear i0 i1 i2 i3 i4 i5 f0
 replace HP := hide (HP.out.setCell 4 (by simp) (.slice b2 ad.length d2))
 replace HR := hide (HR.out.setOther (m := w.heap.size) (by omega) 4 (.slice b2 ad.length d2))
 replace HB := hide (HB.out.setCell (p := ⟨w.heap.size, 4, none⟩) (Nat.le_refl _) (.slice b2 ad.length d2))
 replace HR0 := hide (HR0.out.keepG (W' := w4.setCell ⟨w.heap.size, 4, none⟩ (.slice b2 ad.length d2)) (fun g hg => Below.heap_setCell _ _ _ _ (show ¬ g = w.heap.size by omega)))
 replace HR1 := hide (HR1.out.keepG (W' := w4.setCell ⟨w.heap.size, 4, none⟩ (.slice b2 ad.length d2)) (fun g hg => Below.heap_setCell _ _ _ _ (show ¬ g = w.heap.size by omega)))
 replace HR2 := hide (HR2.out.keepG (W' := w4.setCell ⟨w.heap.size, 4, none⟩ (.slice b2 ad.length d2)) (fun g hg => Below.heap_setCell _ _ _ _ (show ¬ g = w.heap.size by omega)))
 simp only [List.set] at HP
 generalize w4.setCell ⟨w.heap.size, 4, none⟩ (.slice b2 ad.length d2) = X2 at HP HR HB HR0 HR1 HR2 ⊢
 obtain ⟨i0, i1, i2, i3, i4, i5⟩ := HP.out.c6
 go_upto_region 5 with (go_at_call 130; refine (H3.out _ HB.out).mono ?_; rintro e w5 ⟨v, rfl, hs, hro, hb1⟩; obtain ⟨b3, d3, rfl⟩ := hs.form; have HR3 : Hid (Ro icl 1 3 w5 (w.heap.size + 1 + 1) (.slice b3 dr.length d3) dr) := hide (hro.mono HR.out.l); replace HR0 := hide (HR0.out.below hb1); replace HR1 := hide (HR1.out.below hb1); replace HR2 := hide (HR2.out.below hb1); replace HP := hide (HP.out.below hb1); replace HR := hide (HR.out.below hb1); replace HB := hide (bt HB.out hb1); clear i0 i1 i2 i3 i4 i5 hs hro hb1 H3; obtain ⟨i0, i1, i2, i3, i4, i5⟩ := HP.out.c6; have f0 := HP.out.f 5 (by simp))
 clear i0 i1 i2 i3 i4 i5 f0
 replace HP := hide (HP.out.setCell 5 (by simp) (.slice b3 dr.length d3))
 replace HR := hide (HR.out.setOther (m := w.heap.size) (by omega) 5 (.slice b3 dr.length d3))
 replace HB := hide (HB.out.setCell (p := ⟨w.heap.size, 5, none⟩) (Nat.le_refl _) (.slice b3 dr.length d3))
 replace HR0 := hide (HR0.out.keepG (W' := w5.setCell ⟨w.heap.size, 5, none⟩ (.slice b3 dr.length d3)) (fun g hg => Below.heap_setCell _ _ _ _ (show ¬ g = w.heap.size by omega)))
 replace HR1 := hide (HR1.out.keepG (W' := w5.setCell ⟨w.heap.size, 5, none⟩ (.slice b3 dr.length d3)) (fun g hg => Below.heap_setCell _ _ _ _ (show ¬ g = w.heap.size by omega)))
 replace HR2 := hide (HR2.out.keepG (W' := w5.setCell ⟨w.heap.size, 5, none⟩ (.slice b3 dr.length d3)) (fun g hg => Below.heap_setCell _ _ _ _ (show ¬ g = w.heap.size by omega)))
 replace HR3 := hide (HR3.out.keepG (W' := w5.setCell ⟨w.heap.size, 5, none⟩ (.slice b3 dr.length d3)) (fun g hg => Below.heap_setCell _ _ _ _ (show ¬ g = w.heap.size by omega)))
 simp only [List.set] at HP
 generalize w5.setCell ⟨w.heap.size, 5, none⟩ (.slice b3 dr.length d3) = X3 at HP HR HB HR0 HR1 HR2 HR3 ⊢
 obtain ⟨i0, i1, i2, i3, i4, i5⟩ := HP.out.c6
 go_wp2_with (refine wpList_set rfl _ _ _ rfl _ _ rfl HR.out [.slice b0 ids.length d0, .slice b1 isr.length d1, .int .i64 ld, .int .i64 ep, .slice b2 ad.length d2, .slice b3 dr.length d3] rfl rfl (by kernel_rfl) rfl ?_; intro W3 hz hk hb hp; have HZ := hide hz; have HPP := hide hp; have HBB := hide (hb _ _ (Nat.le_succ _) HB.out); clear hz hk hb hp)
 obtain ⟨q0, q1, q2, q3, q4, q5⟩ := HZ.out.c6
 exact bodyPost_ret (v := .agg #[.slice b0 ids.length d0, .slice b1 isr.length d1, .int .i64 ld, .int .i64 ep, .slice b2 ad.length d2, .slice b3 dr.length d3]) (by simp [results, Tryz.results93, go_sem, q0, q1, q2, q3, q4, q5]) rfl ⟨(⟨ids, isr, ld, ep, ad, dr⟩, ⟨b0, b1, b2, b3, d0, d1, d2, d3⟩), rfl, rfl, ⟨(HR0.out.keepG (fun g hg => HPP.out g (by omega))).mono (by omega), (HR1.out.keepG (fun g hg => HPP.out g (by omega))).mono (by omega), (HR2.out.keepG (fun g hg => HPP.out g (by omega))).mono (by omega), (HR3.out.keepG (fun g hg => HPP.out g (by omega))).mono (by omega)⟩, HBB.out⟩
end Go.Proofs.YtlggjgapdpkhiaaGreatDoor
namespace Go.Proofs.YtlggjgapdpkhiaaGreatDoor
open Go.RowKit
theorem qt_below {w w' : World} (h : Qt w w') : Below w.heap.size w w' := by
 obtain ⟨n, rfl⟩ := h
 exact below_drewN (Below.refl _ _) n
theorem eqI_beq (a b : List Int) : (a == b) = eqI a b := by
 unfold eqI
 by_cases h : a = b
 ·rw [decide_eq_true h, h]; simp
 ·rw [decide_eq_false h]; simpa using h
set_option maxRecDepth 100000 in
set_option maxHeartbeats 16000000 in
theorem Same_any (p q : Pp) (w : World) (hp : PtR w p) (hq : PtR w q) (hl : WfP p.1) : Calls Tryz.prog 136 #[.agg (ptc p).toArray, .agg (ptc q).toArray] w fun e w' => e = .returned (.bool (samP p.1 q.1)) ∧ Below w.heap.size w w' := by
 obtain ⟨⟨ids, isr, ld, ep, ad, dr⟩, ⟨a0, a1, a2, a3, c0, c1, c2, c3⟩⟩ := p
 obtain ⟨⟨ids', isr', ld', ep', ad', dr'⟩, ⟨a0', a1', a2', a3', c0', c1', c2', c3'⟩⟩ := q
 have E0 := hide (fun W (h : Below w.heap.size w W) => equal_any _ _ ids ids' W (hp.s0.below h) (hq.s0.below h) (Nat.le_trans hl.l0 (by decide)))
 have E1 := hide (fun W (h : Below w.heap.size w W) => equal_any _ _ isr isr' W (hp.s1.below h) (hq.s1.below h) (Nat.le_trans hl.l1 (by decide)))
 have E2 := hide (fun W (h : Below w.heap.size w W) => equal_any _ _ ad ad' W (hp.s2.below h) (hq.s2.below h) (Nat.le_trans hl.l2 (by decide)))
 have E3 := hide (fun W (h : Below w.heap.size w W) => equal_any _ _ dr dr' W (hp.s3.below h) (hq.s3.below h) (Nat.le_trans hl.l3 (by decide)))
 clear hp hq hl
 unfold samP
 dsimp only
 rw [eqI_beq, eqI_beq, eqI_beq, eqI_beq]
 generalize eqI ids ids' = e0 at *
 generalize eqI isr isr' = e1 at *
 generalize eqI ad ad' = e2 at *
 generalize eqI dr dr' = e3 at *
 obtain ⟨ANS, hANS⟩ : ∃ A, A = (ld == ld' && ep == ep' && e0 && e1 && e2 && e3) := ⟨_, rfl⟩
 rw [← hANS]
 have HANS := hide hANS
 clear hANS
 obtain ⟨HX0, HY0, HB0⟩ := Bx.mk2 w [.slice a0 ids.length c0, .slice a1 isr.length c1, .int .i64 ld, .int .i64 ep, .slice a2 ad.length c2, .slice a3 dr.length c3] [.slice a0' ids'.length c0', .slice a1' isr'.length c1', .int .i64 ld', .int .i64 ep', .slice a2' ad'.length c2', .slice a3' dr'.length c3'] 50 50 (Below.refl _ _)
 unfold ptc
 dsimp only
 go_enter Tryz.func136, Tryz.ntmps136
 go_upto_region 1 with fail
 generalize ((w.alloc (.cells (List.toArray [Value.slice a0 ids.length c0, .slice a1 isr.length c1, .int .i64 ld, .int .i64 ep, .slice a2 ad.length c2, .slice a3 dr.length c3]) 50)).alloc (.cells (List.toArray [Value.slice a0' ids'.length c0', .slice a1' isr'.length c1', .int .i64 ld', .int .i64 ep', .slice a2' ad'.length c2', .slice a3' dr'.length c3']) 50)) = X at HX0 HY0 HB0 ⊢
 have HX := hide HX0
 have HY := hide HY0
 have HB := hide HB0
 clear HX0 HY0 HB0
 obtain ⟨x0, x1, x2, x3, x4, x5⟩ := HX.out.c6
 obtain ⟨y0, y1, y2, y3, y4, y5⟩ := HY.out.c6
 cases hld : (ld == ld') with
 | false =>
  go_wp2_with (first | (go_at_call 159; refine (E0.out _ HB.out).mono ?_; rintro e w1 ⟨rfl, hb⟩; replace HB := hide (bt HB.out (qt_below hb)); replace HX := hide (HX.out.below (qt_below hb)); replace HY := hide (HY.out.below (qt_below hb)); clear E0 hb x0 x1 x2 x3 x4 x5 y0 y1 y2 y3 y4 y5; obtain ⟨x0, x1, x2, x3, x4, x5⟩ := HX.out.c6; obtain ⟨y0, y1, y2, y3, y4, y5⟩ := HY.out.c6) | (go_at_call 159; refine (E1.out _ HB.out).mono ?_; rintro e w1 ⟨rfl, hb⟩; replace HB := hide (bt HB.out (qt_below hb)); replace HX := hide (HX.out.below (qt_below hb)); replace HY := hide (HY.out.below (qt_below hb)); clear E1 hb x0 x1 x2 x3 x4 x5 y0 y1 y2 y3 y4 y5; obtain ⟨x0, x1, x2, x3, x4, x5⟩ := HX.out.c6; obtain ⟨y0, y1, y2, y3, y4, y5⟩ := HY.out.c6) | (go_at_call 159; refine (E2.out _ HB.out).mono ?_; rintro e w1 ⟨rfl, hb⟩; replace HB := hide (bt HB.out (qt_below hb)); replace HX := hide (HX.out.below (qt_below hb)); replace HY := hide (HY.out.below (qt_below hb)); clear E2 hb x0 x1 x2 x3 x4 x5 y0 y1 y2 y3 y4 y5; obtain ⟨x0, x1, x2, x3, x4, x5⟩ := HX.out.c6; obtain ⟨y0, y1, y2, y3, y4, y5⟩ := HY.out.c6) | (go_at_call 159; refine (E3.out _ HB.out).mono ?_; rintro e w1 ⟨rfl, hb⟩; replace HB := hide (bt HB.out (qt_below hb)); replace HX := hide (HX.out.below (qt_below hb)); replace HY := hide (HY.out.below (qt_below hb)); clear E3 hb x0 x1 x2 x3 x4 x5 y0 y1 y2 y3 y4 y5; obtain ⟨x0, x1, x2, x3, x4, x5⟩ := HX.out.c6; obtain ⟨y0, y1, y2, y3, y4, y5⟩ := HY.out.c6))
  go_ret
  exact ⟨congrArg (fun b => Ending.returned (.bool b)) (HANS.out.trans (by simp [*])).symm, HB.out⟩
 | true =>
  cases hep : (ep == ep') with
  | false =>
   go_wp2_with (first | (go_at_call 159; refine (E0.out _ HB.out).mono ?_; rintro e w1 ⟨rfl, hb⟩; replace HB := hide (bt HB.out (qt_below hb)); replace HX := hide (HX.out.below (qt_below hb)); replace HY := hide (HY.out.below (qt_below hb)); clear E0 hb x0 x1 x2 x3 x4 x5 y0 y1 y2 y3 y4 y5; obtain ⟨x0, x1, x2, x3, x4, x5⟩ := HX.out.c6; obtain ⟨y0, y1, y2, y3, y4, y5⟩ := HY.out.c6) | (go_at_call 159; refine (E1.out _ HB.out).mono ?_; rintro e w1 ⟨rfl, hb⟩; replace HB := hide (bt HB.out (qt_below hb)); replace HX := hide (HX.out.below (qt_below hb)); replace HY := hide (HY.out.below (qt_below hb)); clear E1 hb x0 x1 x2 x3 x4 x5 y0 y1 y2 y3 y4 y5; obtain ⟨x0, x1, x2, x3, x4, x5⟩ := HX.out.c6; obtain ⟨y0, y1, y2, y3, y4, y5⟩ := HY.out.c6) | (go_at_call 159; refine (E2.out _ HB.out).mono ?_; rintro e w1 ⟨rfl, hb⟩; replace HB := hide (bt HB.out (qt_below hb)); replace HX := hide (HX.out.below (qt_below hb)); replace HY := hide (HY.out.below (qt_below hb)); clear E2 hb x0 x1 x2 x3 x4 x5 y0 y1 y2 y3 y4 y5; obtain ⟨x0, x1, x2, x3, x4, x5⟩ := HX.out.c6; obtain ⟨y0, y1, y2, y3, y4, y5⟩ := HY.out.c6) | (go_at_call 159; refine (E3.out _ HB.out).mono ?_; rintro e w1 ⟨rfl, hb⟩; replace HB := hide (bt HB.out (qt_below hb)); replace HX := hide (HX.out.below (qt_below hb)); replace HY := hide (HY.out.below (qt_below hb)); clear E3 hb x0 x1 x2 x3 x4 x5 y0 y1 y2 y3 y4 y5; obtain ⟨x0, x1, x2, x3, x4, x5⟩ := HX.out.c6; obtain ⟨y0, y1, y2, y3, y4, y5⟩ := HY.out.c6))
   go_ret
   exact ⟨congrArg (fun b => Ending.returned (.bool b)) (HANS.out.trans (by simp [*])).symm, HB.out⟩
  | true =>
   cases e0 with
   | false =>
    go_wp2_with (first | (go_at_call 159; refine (E0.out _ HB.out).mono ?_; rintro e w1 ⟨rfl, hb⟩; replace HB := hide (bt HB.out (qt_below hb)); replace HX := hide (HX.out.below (qt_below hb)); replace HY := hide (HY.out.below (qt_below hb)); clear E0 hb x0 x1 x2 x3 x4 x5 y0 y1 y2 y3 y4 y5; obtain ⟨x0, x1, x2, x3, x4, x5⟩ := HX.out.c6; obtain ⟨y0, y1, y2, y3, y4, y5⟩ := HY.out.c6) | (go_at_call 159; refine (E1.out _ HB.out).mono ?_; rintro e w1 ⟨rfl, hb⟩; replace HB := hide (bt HB.out (qt_below hb)); replace HX := hide (HX.out.below (qt_below hb)); replace HY := hide (HY.out.below (qt_below hb)); clear E1 hb x0 x1 x2 x3 x4 x5 y0 y1 y2 y3 y4 y5; obtain ⟨x0, x1, x2, x3, x4, x5⟩ := HX.out.c6; obtain ⟨y0, y1, y2, y3, y4, y5⟩ := HY.out.c6) | (go_at_call 159; refine (E2.out _ HB.out).mono ?_; rintro e w1 ⟨rfl, hb⟩; replace HB := hide (bt HB.out (qt_below hb)); replace HX := hide (HX.out.below (qt_below hb)); replace HY := hide (HY.out.below (qt_below hb)); clear E2 hb x0 x1 x2 x3 x4 x5 y0 y1 y2 y3 y4 y5; obtain ⟨x0, x1, x2, x3, x4, x5⟩ := HX.out.c6; obtain ⟨y0, y1, y2, y3, y4, y5⟩ := HY.out.c6) | (go_at_call 159; refine (E3.out _ HB.out).mono ?_; rintro e w1 ⟨rfl, hb⟩; replace HB := hide (bt HB.out (qt_below hb)); replace HX := hide (HX.out.below (qt_below hb)); replace HY := hide (HY.out.below (qt_below hb)); clear E3 hb x0 x1 x2 x3 x4 x5 y0 y1 y2 y3 y4 y5; obtain ⟨x0, x1, x2, x3, x4, x5⟩ := HX.out.c6; obtain ⟨y0, y1, y2, y3, y4, y5⟩ := HY.out.c6))
    go_ret
    exact ⟨congrArg (fun b => Ending.returned (.bool b)) (HANS.out.trans (by simp [*])).symm, HB.out⟩
   | true =>
    cases e1 with
    | false =>
     go_wp2_with (first | (go_at_call 159; refine (E0.out _ HB.out).mono ?_; rintro e w1 ⟨rfl, hb⟩; replace HB := hide (bt HB.out (qt_below hb)); replace HX := hide (HX.out.below (qt_below hb)); replace HY := hide (HY.out.below (qt_below hb)); clear E0 hb x0 x1 x2 x3 x4 x5 y0 y1 y2 y3 y4 y5; obtain ⟨x0, x1, x2, x3, x4, x5⟩ := HX.out.c6; obtain ⟨y0, y1, y2, y3, y4, y5⟩ := HY.out.c6) | (go_at_call 159; refine (E1.out _ HB.out).mono ?_; rintro e w1 ⟨rfl, hb⟩; replace HB := hide (bt HB.out (qt_below hb)); replace HX := hide (HX.out.below (qt_below hb)); replace HY := hide (HY.out.below (qt_below hb)); clear E1 hb x0 x1 x2 x3 x4 x5 y0 y1 y2 y3 y4 y5; obtain ⟨x0, x1, x2, x3, x4, x5⟩ := HX.out.c6; obtain ⟨y0, y1, y2, y3, y4, y5⟩ := HY.out.c6) | (go_at_call 159; refine (E2.out _ HB.out).mono ?_; rintro e w1 ⟨rfl, hb⟩; replace HB := hide (bt HB.out (qt_below hb)); replace HX := hide (HX.out.below (qt_below hb)); replace HY := hide (HY.out.below (qt_below hb)); clear E2 hb x0 x1 x2 x3 x4 x5 y0 y1 y2 y3 y4 y5; obtain ⟨x0, x1, x2, x3, x4, x5⟩ := HX.out.c6; obtain ⟨y0, y1, y2, y3, y4, y5⟩ := HY.out.c6) | (go_at_call 159; refine (E3.out _ HB.out).mono ?_; rintro e w1 ⟨rfl, hb⟩; replace HB := hide (bt HB.out (qt_below hb)); replace HX := hide (HX.out.below (qt_below hb)); replace HY := hide (HY.out.below (qt_below hb)); clear E3 hb x0 x1 x2 x3 x4 x5 y0 y1 y2 y3 y4 y5; obtain ⟨x0, x1, x2, x3, x4, x5⟩ := HX.out.c6; obtain ⟨y0, y1, y2, y3, y4, y5⟩ := HY.out.c6))
     go_ret
     exact ⟨congrArg (fun b => Ending.returned (.bool b)) (HANS.out.trans (by simp [*])).symm, HB.out⟩
    | true =>
     cases e2 with
     | false =>
      go_wp2_with (first | (go_at_call 159; refine (E0.out _ HB.out).mono ?_; rintro e w1 ⟨rfl, hb⟩; replace HB := hide (bt HB.out (qt_below hb)); replace HX := hide (HX.out.below (qt_below hb)); replace HY := hide (HY.out.below (qt_below hb)); clear E0 hb x0 x1 x2 x3 x4 x5 y0 y1 y2 y3 y4 y5; obtain ⟨x0, x1, x2, x3, x4, x5⟩ := HX.out.c6; obtain ⟨y0, y1, y2, y3, y4, y5⟩ := HY.out.c6) | (go_at_call 159; refine (E1.out _ HB.out).mono ?_; rintro e w1 ⟨rfl, hb⟩; replace HB := hide (bt HB.out (qt_below hb)); replace HX := hide (HX.out.below (qt_below hb)); replace HY := hide (HY.out.below (qt_below hb)); clear E1 hb x0 x1 x2 x3 x4 x5 y0 y1 y2 y3 y4 y5; obtain ⟨x0, x1, x2, x3, x4, x5⟩ := HX.out.c6; obtain ⟨y0, y1, y2, y3, y4, y5⟩ := HY.out.c6) | (go_at_call 159; refine (E2.out _ HB.out).mono ?_; rintro e w1 ⟨rfl, hb⟩; replace HB := hide (bt HB.out (qt_below hb)); replace HX := hide (HX.out.below (qt_below hb)); replace HY := hide (HY.out.below (qt_below hb)); clear E2 hb x0 x1 x2 x3 x4 x5 y0 y1 y2 y3 y4 y5; obtain ⟨x0, x1, x2, x3, x4, x5⟩ := HX.out.c6; obtain ⟨y0, y1, y2, y3, y4, y5⟩ := HY.out.c6) | (go_at_call 159; refine (E3.out _ HB.out).mono ?_; rintro e w1 ⟨rfl, hb⟩; replace HB := hide (bt HB.out (qt_below hb)); replace HX := hide (HX.out.below (qt_below hb)); replace HY := hide (HY.out.below (qt_below hb)); clear E3 hb x0 x1 x2 x3 x4 x5 y0 y1 y2 y3 y4 y5; obtain ⟨x0, x1, x2, x3, x4, x5⟩ := HX.out.c6; obtain ⟨y0, y1, y2, y3, y4, y5⟩ := HY.out.c6))
      go_ret
      exact ⟨congrArg (fun b => Ending.returned (.bool b)) (HANS.out.trans (by simp [*])).symm, HB.out⟩
     | true =>
      cases e3 with
      | false =>
       go_wp2_with (first | (go_at_call 159; refine (E0.out _ HB.out).mono ?_; rintro e w1 ⟨rfl, hb⟩; replace HB := hide (bt HB.out (qt_below hb)); replace HX := hide (HX.out.below (qt_below hb)); replace HY := hide (HY.out.below (qt_below hb)); clear E0 hb x0 x1 x2 x3 x4 x5 y0 y1 y2 y3 y4 y5; obtain ⟨x0, x1, x2, x3, x4, x5⟩ := HX.out.c6; obtain ⟨y0, y1, y2, y3, y4, y5⟩ := HY.out.c6) | (go_at_call 159; refine (E1.out _ HB.out).mono ?_; rintro e w1 ⟨rfl, hb⟩; replace HB := hide (bt HB.out (qt_below hb)); replace HX := hide (HX.out.below (qt_below hb)); replace HY := hide (HY.out.below (qt_below hb)); clear E1 hb x0 x1 x2 x3 x4 x5 y0 y1 y2 y3 y4 y5; obtain ⟨x0, x1, x2, x3, x4, x5⟩ := HX.out.c6; obtain ⟨y0, y1, y2, y3, y4, y5⟩ := HY.out.c6) | (go_at_call 159; refine (E2.out _ HB.out).mono ?_; rintro e w1 ⟨rfl, hb⟩; replace HB := hide (bt HB.out (qt_below hb)); replace HX := hide (HX.out.below (qt_below hb)); replace HY := hide (HY.out.below (qt_below hb)); clear E2 hb x0 x1 x2 x3 x4 x5 y0 y1 y2 y3 y4 y5; obtain ⟨x0, x1, x2, x3, x4, x5⟩ := HX.out.c6; obtain ⟨y0, y1, y2, y3, y4, y5⟩ := HY.out.c6) | (go_at_call 159; refine (E3.out _ HB.out).mono ?_; rintro e w1 ⟨rfl, hb⟩; replace HB := hide (bt HB.out (qt_below hb)); replace HX := hide (HX.out.below (qt_below hb)); replace HY := hide (HY.out.below (qt_below hb)); clear E3 hb x0 x1 x2 x3 x4 x5 y0 y1 y2 y3 y4 y5; obtain ⟨x0, x1, x2, x3, x4, x5⟩ := HX.out.c6; obtain ⟨y0, y1, y2, y3, y4, y5⟩ := HY.out.c6))
       go_ret
       exact ⟨congrArg (fun b => Ending.returned (.bool b)) (HANS.out.trans (by simp [*])).symm, HB.out⟩
      | true =>
       go_wp2_with (first | (go_at_call 159; refine (E0.out _ HB.out).mono ?_; rintro e w1 ⟨rfl, hb⟩; replace HB := hide (bt HB.out (qt_below hb)); replace HX := hide (HX.out.below (qt_below hb)); replace HY := hide (HY.out.below (qt_below hb)); clear E0 hb x0 x1 x2 x3 x4 x5 y0 y1 y2 y3 y4 y5; obtain ⟨x0, x1, x2, x3, x4, x5⟩ := HX.out.c6; obtain ⟨y0, y1, y2, y3, y4, y5⟩ := HY.out.c6) | (go_at_call 159; refine (E1.out _ HB.out).mono ?_; rintro e w1 ⟨rfl, hb⟩; replace HB := hide (bt HB.out (qt_below hb)); replace HX := hide (HX.out.below (qt_below hb)); replace HY := hide (HY.out.below (qt_below hb)); clear E1 hb x0 x1 x2 x3 x4 x5 y0 y1 y2 y3 y4 y5; obtain ⟨x0, x1, x2, x3, x4, x5⟩ := HX.out.c6; obtain ⟨y0, y1, y2, y3, y4, y5⟩ := HY.out.c6) | (go_at_call 159; refine (E2.out _ HB.out).mono ?_; rintro e w1 ⟨rfl, hb⟩; replace HB := hide (bt HB.out (qt_below hb)); replace HX := hide (HX.out.below (qt_below hb)); replace HY := hide (HY.out.below (qt_below hb)); clear E2 hb x0 x1 x2 x3 x4 x5 y0 y1 y2 y3 y4 y5; obtain ⟨x0, x1, x2, x3, x4, x5⟩ := HX.out.c6; obtain ⟨y0, y1, y2, y3, y4, y5⟩ := HY.out.c6) | (go_at_call 159; refine (E3.out _ HB.out).mono ?_; rintro e w1 ⟨rfl, hb⟩; replace HB := hide (bt HB.out (qt_below hb)); replace HX := hide (HX.out.below (qt_below hb)); replace HY := hide (HY.out.below (qt_below hb)); clear E3 hb x0 x1 x2 x3 x4 x5 y0 y1 y2 y3 y4 y5; obtain ⟨x0, x1, x2, x3, x4, x5⟩ := HX.out.c6; obtain ⟨y0, y1, y2, y3, y4, y5⟩ := HY.out.c6))
       go_ret
       exact ⟨congrArg (fun b => Ending.returned (.bool b)) (HANS.out.trans (by simp [*])).symm, HB.out⟩
end Go.Proofs.YtlggjgapdpkhiaaGreatDoor
namespace Go.Proofs.YtlggjgapdpkhiaaGreatDoor
open Go.RowKit
set_option maxRecDepth 100000 in
set_option maxHeartbeats 16000000 in
theorem follows_any (l : List Pp) (v : Value) (q : Pp) (r : Rc) (a14 a15 a16 a17 : Option Addr) (c14 c15 c16 c17 : Nat) (w : World) (hv : Rs ptc w v l) (hp : ∀ o ∈ l, PtR w o ∧ WfP o.1) (hq : PtR w q) (h0 : 0 ≤ r.pa) (hll : l.length ≤ 100000) :
  Calls Tryz.prog 95 #[v, .agg (cellsR r a14 a15 a16 a17 c14 c15 c16 c17).toArray, .agg (ptc q).toArray] w fun e w' => ∃ E, e = .returned E ∧ Erc (folP (l.map (·.1)) r q.1) E ∧ Below w.heap.size w w' := by
 obtain ⟨ao, cap, rfl, hcap, hrg⟩ := hv
 obtain ⟨ANS, hANS⟩ : ∃ A, A = folP (l.map (·.1)) r q.1 := ⟨_, rfl⟩
 rw [← hANS]
 unfold folP at hANS
 rw [List.length_map] at hANS
 unfold cellsR
 by_cases hk : r.k = 8
 ·rw [if_pos hk] at hANS
  have hk1 : (r.k == 8) = true := by simpa using hk
  by_cases hl : r.pa = (l.length : Int)
  ·rw [if_pos hl] at hANS
   have hl1 : (r.pa != (l.length : Int)) = false := by simpa using hl
   have HANS := hide hANS
   clear hANS hrg hp hq hk hl
   unfold ptc
   go_enter Tryz.func95, Tryz.ntmps95
   go_wp2_with fail
   go_ret
   exact ⟨_, rfl, .inl ⟨HANS.out, rfl⟩, below_al2 _ _ _⟩
  ·rw [if_neg hl] at hANS
   have hl1 : (r.pa != (l.length : Int)) = true := by simpa using hl
   have HANS := hide hANS
   clear hANS hrg hp hq hk hl
   unfold ptc
   go_enter Tryz.func95, Tryz.ntmps95
   go_wp2_with fail
   go_ret
   exact ⟨_, rfl, by rw [HANS.out]; exact erc_code (by decide), below_al2 _ _ _⟩
 ·rw [if_neg hk] at hANS
  have hk1 : (r.k == 8) = false := by simpa using hk
  by_cases hl : l.length ≤ r.pa.toNat
  ·rw [List.getElem?_eq_none (by rw [List.length_map]; exact hl)] at hANS
   have hl1 : (l.length : Int) ≤ r.pa := by omega
   have HANS := hide hANS
   clear hANS hrg hp hq hk hl
   unfold ptc
   go_enter Tryz.func95, Tryz.ntmps95
   go_wp2_with fail
   go_ret
   exact ⟨_, rfl, by rw [HANS.out]; exact erc_code (by decide), below_al2 _ _ _⟩
  ·have hi : r.pa.toNat < l.length := by omega
   obtain ⟨i, hin⟩ : ∃ i : Nat, i = r.pa.toNat := ⟨_, rfl⟩
   rw [← hin] at hANS hi
   rw [List.getElem?_eq_getElem (by rw [List.length_map]; exact hi), List.getElem_map] at hANS
   have hl1 : ¬ (l.length : Int) ≤ r.pa := by omega
   have hl2 : r.pa < (l.length : Int) := by omega
   obtain ⟨b, o, rfl, hr⟩ := hrg (by omega)
   have hpa : r.pa = (i : Int) := by omega
   obtain ⟨hoq, hol⟩ := hp l[i] (List.getElem_mem hi)
   have HE := hide (fm_at encP hr hi)
   have HSM := hide (fun W (h : Below w.heap.size w W) => Same_any l[i] q W (hoq.below h) (hq.below h) hol)
   have HEP : Hid (0 ≤ (l[i]).1.ep ∧ (l[i]).1.ep ≤ 1073741824) := hide hol.ep
   generalize l[i] = y at *
   have HANS := hide hANS
   clear hANS hp hq hr hoq hol hl hin
   obtain ⟨⟨ids, isr, ld, ep, ad, dr⟩, ⟨a0, a1, a2, a3, c0, c1, c2, c3⟩⟩ := q
   obtain ⟨⟨jds, jsr, kd, kp, kad, kdr⟩, ⟨b0, b1, b2, b3, d0, d1, d2, d3⟩⟩ := y
   have hep := HEP.out
   dsimp only at HANS HSM hep
   have hiI : (i : Int) < (l.length : Int) := by omega
   have hkI : ¬ (r.k = 8) := hk
   unfold ptc at *
   dsimp only at *
   generalize samP ⟨jds, jsr, kd, kp, kad, kdr⟩ ⟨ids, isr, ld, ep, ad, dr⟩ = sm at HANS HSM
   have HK4 := hide hpa
   obtain ⟨HR0, HQ0, HB0⟩ := Bx.mk2 w [.int .i64 r.k, .int .i64 r.br, .int .i64 r.ep, .int .i64 r.tp, .int .i64 r.pa, .int .i64 r.le, .int .i64 r.cl, .int .i64 r.se, .int .i64 r.co, .bool r.fl, .string ⟨r.nm.toArray⟩, .string ⟨r.ky.toArray⟩, .string ⟨r.va.toArray⟩, .string ⟨r.rk.toArray⟩, .slice a14 r.ids.length c14, .slice a15 r.isr.length c15, .slice a16 r.ad.length c16, .slice a17 r.dr.length c17] [.slice a0 ids.length c0, .slice a1 isr.length c1, .int .i64 ld, .int .i64 ep, .slice a2 ad.length c2, .slice a3 dr.length c3] 37 50 (Below.refl _ _)
   clear hpa hk
   go_enter Tryz.func95, Tryz.ntmps95
   go_upto_region 1 with fail
   generalize ((w.alloc (.cells (List.toArray [Value.int .i64 r.k, .int .i64 r.br, .int .i64 r.ep, .int .i64 r.tp, .int .i64 r.pa, .int .i64 r.le, .int .i64 r.cl, .int .i64 r.se, .int .i64 r.co, .bool r.fl, .string ⟨r.nm.toArray⟩, .string ⟨r.ky.toArray⟩, .string ⟨r.va.toArray⟩, .string ⟨r.rk.toArray⟩, .slice a14 r.ids.length c14, .slice a15 r.isr.length c15, .slice a16 r.ad.length c16, .slice a17 r.dr.length c17]) 37)).alloc (.cells (List.toArray [Value.slice a0 ids.length c0, .slice a1 isr.length c1, .int .i64 ld, .int .i64 ep, .slice a2 ad.length c2, .slice a3 dr.length c3]) 50)) = X at HR0 HQ0 HB0 ⊢
   have HB := hide HB0
   replace HE := hide (rg_bel HE.out HB0)
   have r0 := HR0.at 0 _ rfl
   have r4 := HR0.at 4 _ rfl
   obtain ⟨p0, p1, p2, p3, p4, p5⟩ := HQ0.c6
   have hx0 : w.heap.size < X.heap.size := HR0.l
   have hx1 : w.heap.size + 1 < X.heap.size := HQ0.l
   have HQQ := hide HQ0
   have HRR := hide HR0
   have HK1 := hide hk1
   clear HR0 HQ0 HB0
   rw [HK4.out] at r4 hl1 hl2
   have hne1 : wrap64 (kp + 1) = kp + 1 := by unfold wrap64; omega
   clear hrg hkI hll hcap h0 r0 r4 p0 p1 p2 p3 p4 p5 hk1
   clear hx0 hx1
   have r0 := HRR.out.at 0 _ rfl
   have r4 := HRR.out.at 4 _ rfl
   rw [HK4.out] at r4
   have hk1 := HK1.out
   go_upto_region 8 with (refine wpList_load_mid rfl _ _ rfl _ _ rfl _ _ HE.out Tryz.underlying50 rfl (by kernel_rfl) ?_)
   clear r0 r4 hk1
   replace HQQ := hide (HQQ.out.alloc (.cells (List.toArray [Value.slice b0 jds.length d0, .slice b1 jsr.length d1, .int .i64 kd, .int .i64 kp, .slice b2 kad.length d2, .slice b3 kdr.length d3]) 50))
   have HYY := hide (Bx.new X [Value.slice b0 jds.length d0, .slice b1 jsr.length d1, .int .i64 kd, .int .i64 kp, .slice b2 kad.length d2, .slice b3 kdr.length d3] 50)
   replace HB := hide (bt HB.out (below_al1 X (.cells (List.toArray [Value.slice b0 jds.length d0, .slice b1 jsr.length d1, .int .i64 kd, .int .i64 kp, .slice b2 kad.length d2, .slice b3 kdr.length d3]) 50)))
   generalize X.alloc (.cells (List.toArray [Value.slice b0 jds.length d0, .slice b1 jsr.length d1, .int .i64 kd, .int .i64 kp, .slice b2 kad.length d2, .slice b3 kdr.length d3]) 50) = Y at HQQ HYY HB ⊢
   obtain ⟨p0, p1, p2, p3, p4, p5⟩ := HQQ.out.c6
   obtain ⟨y0, y1, y2, y3, y4, y5⟩ := HYY.out.c6
   cases h1 : (ep != kp + 1) with
   | false =>
    cases sm with
    | true =>
     have HA : Hid (ANS = 10) := hide (HANS.out.trans (by simp [*]))
     go_wp2_with (first | (go_at_call 136; refine (HSM.out _ HB.out).mono ?_; rintro e w1 ⟨rfl, hb⟩; replace HB := hide (bt HB.out hb); clear hb HSM))
     go_ret
     exact ⟨_, rfl, by rw [HA.out]; exact erc_code (by decide), HB.out⟩
    | false =>
     have HA : Hid (ANS = 0) := hide (HANS.out.trans (by simp [*]))
     go_wp2_with (first | (go_at_call 136; refine (HSM.out _ HB.out).mono ?_; rintro e w1 ⟨rfl, hb⟩; replace HB := hide (bt HB.out hb); clear hb HSM))
     go_ret
     exact ⟨_, rfl, .inl ⟨HA.out, rfl⟩, HB.out⟩
   | true =>
    cases h2 : (ep != kp) with
    | true =>
     have HA : Hid (ANS = 11) := hide (HANS.out.trans (by simp [*]))
     go_wp2_with (first | (go_at_call 136; refine (HSM.out _ HB.out).mono ?_; rintro e w1 ⟨rfl, hb⟩; replace HB := hide (bt HB.out hb); clear hb HSM))
     go_ret
     exact ⟨_, rfl, by rw [HA.out]; exact erc_code (by decide), HB.out⟩
    | false =>
     cases h3 : (ld != kd) with
     | true =>
      have HA : Hid (ANS = 11) := hide (HANS.out.trans (by simp [*]))
      go_wp2_with (first | (go_at_call 136; refine (HSM.out _ HB.out).mono ?_; rintro e w1 ⟨rfl, hb⟩; replace HB := hide (bt HB.out hb); clear hb HSM))
      go_ret
      exact ⟨_, rfl, by rw [HA.out]; exact erc_code (by decide), HB.out⟩
     | false =>
      cases sm with
      | true =>
       have HA : Hid (ANS = 10) := hide (HANS.out.trans (by simp [*]))
       go_wp2_with (first | (go_at_call 136; refine (HSM.out _ HB.out).mono ?_; rintro e w1 ⟨rfl, hb⟩; replace HB := hide (bt HB.out hb); clear hb HSM))
       go_ret
       exact ⟨_, rfl, by rw [HA.out]; exact erc_code (by decide), HB.out⟩
      | false =>
       have HA : Hid (ANS = 0) := hide (HANS.out.trans (by simp [*]))
       go_wp2_with (first | (go_at_call 136; refine (HSM.out _ HB.out).mono ?_; rintro e w1 ⟨rfl, hb⟩; replace HB := hide (bt HB.out hb); clear hb HSM))
       go_ret
       exact ⟨_, rfl, .inl ⟨HA.out, rfl⟩, HB.out⟩
end Go.Proofs.YtlggjgapdpkhiaaGreatDoor
namespace Go.Proofs.YtlggjgapdpkhiaaGreatDoor
open Go.RowKit
set_option maxRecDepth 100000
set_option maxHeartbeats 8000000
theorem growP_any (n : Nat) (w : World) (hn : n ≤ 1000000) : Calls Tryz.prog 160 #[.slice none 0 0, .int .i64 (n : Int)] w fun e w' => ∃ v, e = .returned v ∧ Ro ptc 6 50 w' w.heap.size v [] ∧ Below w.heap.size w w' := by
 have h2 : wrap64 ((0 : Int) - 0) = 0 := by unfold wrap64; omega
 have h1 : ¬ ((n : Int) < 0) := by omega
 rcases Nat.eq_zero_or_pos n with h0 | h0
 ·subst h0
  clear hn h1
  go_enter Tryz.func160, Tryz.ntmps160
  go_wp2_with fail
  go_ret
  exact ⟨_, rfl, ro_nil _ _ _ _ _, Below.refl _ _⟩
 ·have h3 : wrap64 ((n : Int) - 0) = (n : Int) := by unfold wrap64; omega
  have h4 : (n : Int) > 0 := by omega
  have hz := fun ty => grow_zeros (I := 3) tyiP (by decide) Tryz.underlying3 w n h0 hn ty
  obtain ⟨G, c, hG, hnG, hm, hc⟩ := hz 68
  have HU := hide (fun W => upto_run tyiP (some ⟨w.heap.size, 0, none⟩) n G 0 (Nat.zero_le _) hnG W)
  have HG := hide hG
  have HR := hide (ro_room ptc 6 50 w G c hm hc)
  clear hz hG hm hc
  go_enter Tryz.func160, Tryz.ntmps160
  go_wp2_with (at_builtin; refine Lib.wpList_append_run _ rfl _ _ _ _ rfl _ _ rfl rfl _ _ HG.out ?_)
  all_goals
   go_ret
   exact ⟨_, rfl, HR.out, below_dal _ _⟩
theorem concP_3 (v1 v2 v3 : Value) (l1 l2 l3 : List Pp) (B : Nat) (w : World) (hB : Bx w B [v1, v2, v3]) (h1 : Rs ptc w v1 l1) (h2 : Rs ptc w v2 l2) (h3 : Rs ptc w v3 l3) (hl1 : l1.length ≤ 200000) (hl2 : l2.length ≤ 200000) (hl3 : l3.length ≤ 200000) :
  Calls Tryz.prog 137 #[.slice (some ⟨B, 0, none⟩) 3 3] w fun e w' => ∃ v, e = .returned v ∧ Ro ptc 6 50 w' w.heap.size v (l1 ++ l2 ++ l3) ∧ Below w.heap.size w w' := by
 have HG := hide (fun n hn => growP_any n w hn)
 obtain ⟨a1, c1, rfl⟩ := h1.form
 obtain ⟨a2, c2, rfl⟩ := h2.form
 obtain ⟨a3, c3, rfl⟩ := h3.form
 have HB := hide (fun W (h : Below w.heap.size w W) => (hB.below h).c3)
 have H1 := hide (fun W (h : Below w.heap.size w W) => h1.below h)
 have H2 := hide (fun W (h : Below w.heap.size w W) => h2.below h)
 have H3 := hide (fun W (h : Below w.heap.size w W) => h3.below h)
 obtain ⟨b0, b1, b2⟩ := hB.c3
 have hbl := hB.l
 clear h1 h2 h3 hB
 go_enter Tryz.func137, Tryz.ntmps137
 go_wp2_with fail
 refine wp_loop_rounds 4 ?_
 rw [rounds_succ]
 go_wp2_with fail
 rw [rounds_succ]
 go_wp2_with fail
 rw [rounds_succ]
 go_wp2_with fail
 rw [rounds_succ]
 have HN : Hid (((l1.length : Int) + l2.length + l3.length) = ((l1.length + l2.length + l3.length : Nat) : Int)) := hide (by omega)
 have HK : Hid (l1.length + l2.length + l3.length ≤ 1000000) := hide (by omega)
 go_wp2_with (go_at_call 160; first | rw [HN.out] | skip; refine (HG.out _ HK.out).mono ?_; rintro e w1 ⟨v, rfl, hr, hb⟩; obtain ⟨d0, d1, d2⟩ := HB.out _ hb; have HR := hide hr; have HBl := hide hb; clear hr hb HG b0 b1 b2)
 refine wp_loop_rounds 4 ?_
 rw [rounds_succ]
 go_wp2_with (at_builtin; refine wpList_appR tyiP encP _ rfl _ _ rfl w.heap.size _ [] rfl HR.out HBl.out.size _ l1 rfl (H1.out _ HBl.out) (by rw [List.length_nil]; omega) ?_; intro v1 w2 hr _ hb; rw [List.nil_append] at hr; obtain ⟨d0, d1, d2⟩ := HB.out _ (HBl.out.trans hb); replace HR := hide hr; replace HBl := hide (HBl.out.trans hb); clear hr hb)
 rw [rounds_succ]
 go_wp2_with (at_builtin; refine wpList_appR tyiP encP _ rfl _ _ rfl w.heap.size _ l1 rfl HR.out HBl.out.size _ l2 rfl (H2.out _ HBl.out) (by omega) ?_; intro v2 w3 hr _ hb; obtain ⟨d0, d1, d2⟩ := HB.out _ (HBl.out.trans hb); replace HR := hide hr; replace HBl := hide (HBl.out.trans hb); clear hr hb)
 rw [rounds_succ]
 go_wp2_with (at_builtin; refine wpList_appR tyiP encP _ rfl _ _ rfl w.heap.size _ (l1 ++ l2) rfl HR.out HBl.out.size _ l3 rfl (H3.out _ HBl.out) (by rw [List.length_append]; omega) ?_; intro v3 w4 hr _ hb; obtain ⟨d0, d1, d2⟩ := HB.out _ (HBl.out.trans hb); replace HR := hide hr; replace HBl := hide (HBl.out.trans hb); clear hr hb)
 rw [rounds_succ]
 go_wp2_with fail
 go_ret
 exact ⟨_, rfl, HR.out, HBl.out⟩
end Go.Proofs.YtlggjgapdpkhiaaGreatDoor
namespace Go.Proofs.YtlggjgapdpkhiaaGreatDoor
open Go.RowKit
set_option maxRecDepth 100000
set_option maxHeartbeats 8000000
theorem putP_new (l : List Pp) (ao : Option Addr) (n cap i : Nat) (x : Pp) (w : World) (hn : n = l.length) (hv : Rs ptc w (.slice ao n cap) l) (hi : i ≤ l.length) (hl : l.length ≤ 100000) :
  Calls Tryz.prog 96 #[.slice ao n cap, .int .i64 (i : Int), .bool false, .agg (ptc x).toArray] w fun e w' => ∃ v, e = .returned v ∧ Ro ptc 6 50 w' w.heap.size v (l.take i ++ x :: l.drop i) ∧ Below w.heap.size w w' := by
 subst hn
 obtain ⟨ao', hr, hd⟩ := hv.from tyiP encP i hi
 have hu := fun W => upto_run tyiP ao l.length cap i hi hv.cap.2 W
 have HP := hide (fun o1 T U => put_frame (f := ptc) w o1 x T U (.slice ao i cap) (.slice ao' (l.length - i) (cap - i)))
 have HC := hide (fun W (hb : Below w.heap.size w W) (hB : Bx W (w.heap.size + 1 + 1) [.slice ao i cap, .slice (some ⟨w.heap.size + 1, 0, none⟩) 1 1, .slice ao' (l.length - i) (cap - i)]) (hx : Rs ptc W (.slice (some ⟨w.heap.size + 1, 0, none⟩) 1 1) [x]) => concP_3 _ _ _ (l.take i) [x] (l.drop i) _ W hB ((hv.below hb).upto encP i hi) hx (hd W hb) (by rw [List.length_take]; omega) (by simp) (by rw [List.length_drop]; omega))
 have HE : Hid (l.take i ++ [x] ++ l.drop i = l.take i ++ x :: l.drop i) := hide (by simp)
 clear hv hd
 unfold ptc at *
 go_enter Tryz.func96, Tryz.ntmps96
 go_upto_region 4 with fail
 go_region_with (go_at_call 137; obtain ⟨p1, p2, p3⟩ := HP.out _ _ _; refine (HC.out _ p3 p1 p2).mono ?_; rintro e w1 ⟨v, rfl, hr, hb⟩; rw [HE.out] at hr; have HR := hide (hr.mono p3.size); have HB := hide (bt p3 hb); clear hr hb p1 p2 p3)
 all_goals
  go_wp2_with fail
  go_ret
  exact ⟨_, rfl, HR.out, HB.out⟩
theorem putP_old (l : List Pp) (ao : Option Addr) (n cap i : Nat) (x : Pp) (w : World) (hn : n = l.length) (hv : Rs ptc w (.slice ao n cap) l) (hi : i < l.length) (hl : l.length ≤ 100000) :
  Calls Tryz.prog 96 #[.slice ao n cap, .int .i64 (i : Int), .bool true, .agg (ptc x).toArray] w fun e w' => ∃ v, e = .returned v ∧ Ro ptc 6 50 w' w.heap.size v (l.take i ++ x :: l.drop (i + 1)) ∧ Below w.heap.size w w' := by
 subst hn
 obtain ⟨ao', hr, hd⟩ := hv.from tyiP encP i (Nat.le_of_lt hi)
 have hdl : (l.drop i).length = l.length - i := List.length_drop
 obtain ⟨ao2, hr2, hd2⟩ := (show Rs ptc w (.slice ao' (l.drop i).length (cap - i)) (l.drop i) from hdl ▸ hd w (Below.refl _ _)).from tyiP encP 1 (by omega)
 rw [hdl] at hr2 hd2
 have hdd : (l.drop i).drop 1 = l.drop (i + 1) := by rw [List.drop_drop]
 rw [hdd] at hd2
 have hu := fun W => upto_run tyiP ao l.length cap i (Nat.le_of_lt hi) hv.cap.2 W
 replace hr2 : ∀ W, (Instr.slice 68 (.slice ao' (l.length - i) (cap - i)) (some (.int .i64 1)) none none).run Tryz.prog W = .ok (.slice ao2 (l.length - i - 1) (cap - i - 1)) W := hr2
 have HP := hide (fun o1 T U => put_frame (f := ptc) w o1 x T U (.slice ao i cap) (.slice ao2 (l.length - i - 1) (cap - i - 1)))
 have HC := hide (fun W (hb : Below w.heap.size w W) (hB : Bx W (w.heap.size + 1 + 1) [.slice ao i cap, .slice (some ⟨w.heap.size + 1, 0, none⟩) 1 1, .slice ao2 (l.length - i - 1) (cap - i - 1)]) (hx : Rs ptc W (.slice (some ⟨w.heap.size + 1, 0, none⟩) 1 1) [x]) => concP_3 _ _ _ (l.take i) [x] (l.drop (i + 1)) _ W hB ((hv.below hb).upto encP i (Nat.le_of_lt hi)) hx (hd2 W hb) (by rw [List.length_take]; omega) (by simp) (by rw [List.length_drop]; omega))
 have HE : Hid (l.take i ++ [x] ++ l.drop (i + 1) = l.take i ++ x :: l.drop (i + 1)) := hide (by simp)
 clear hv hd hd2 hdl hdd
 unfold ptc at *
 go_enter Tryz.func96, Tryz.ntmps96
 go_upto_region 4 with fail
 go_region_with (go_at_call 137; obtain ⟨p1, p2, p3⟩ := HP.out _ _ _; refine (HC.out _ p3 p1 p2).mono ?_; rintro e w1 ⟨v, rfl, hr, hb⟩; rw [HE.out] at hr; have HR := hide (hr.mono p3.size); have HB := hide (bt p3 hb); clear hr hb p1 p2 p3)
 all_goals
  go_wp2_with fail
  go_ret
  exact ⟨_, rfl, HR.out, HB.out⟩
end Go.Proofs.YtlggjgapdpkhiaaGreatDoor
