/-
  A PARTITION IN ITS OWN MEMORY, AND TWO HELD TOGETHER (slices.Clone of numbers, image.Alone, image.Same).
  A ROW IN NEW MEMORY (slices.Clone). Conditions: the cells hold it, no more than a hundred thousand.
  A ROW IN NEW MEMORY (slices.Clone). Conditions: the cells hold it, no more than a hundred thousand.
  A ROW IN NEW MEMORY (slices.Clone). Conditions: the cells hold it, no more than a hundred thousand.
  TWO PARTITIONS HELD TOGETHER (image.Same). Conditions: the cells hold them, rows of no more than seven numbers.
-/
import Derived.Test.YtlggjgapdpkhiaaGreatJKImCba5
namespace Go.Proofs.YtlggjgapdpkhiaaGreat
open Go.RowKit
set_option maxRecDepth 100000
set_option maxHeartbeats 8000000
theorem nilI_yes (n cap : Nat) (w : World) : (binOp .eql 42 (.slice none n cap) (.slice none 0 0)).run Tryz.prog w = .ok (.bool true) w := by kernel_rfl
theorem nilI_no (a : Addr) (n cap : Nat) (w : World) : (binOp .eql 42 (.slice (some a) n cap) (.slice none 0 0)).run Tryz.prog w = .ok (.bool false) w := by kernel_rfl
def icl (x : Int) : List Value := [ic x]
theorem encI : Enc icl 1 := ⟨fun _ => rfl, fun x u hu => by
 simp only [icl, List.mem_cons, List.not_mem_nil, or_false] at hu
 subst hu; rfl, by decide⟩
theorem tyiI : Tyi Tryz.prog 42 3 1 := tyi_map (z := .int .i64 0) (n := 8) (by kernel_rfl) (by decide) rfl Tryz.underlying42
theorem icl_map (l : List Int) : l.flatMap icl = l.map ic := by
 induction l with
 | nil => rfl
 | cons x r ih => rw [List.flatMap_cons, ih]; rfl
theorem sl_rs {W : World} {v : Value} {l : List Int} (h : Sl ic W v l) : ∃ a n c, v = .slice a n c ∧ n = l.length ∧ (Rs icl W v l ∨ l = []) := by
 rcases h with ⟨ao, cap, rfl, rfl⟩ | ⟨b, o, cap, rfl, h2, h3⟩
 ·exact ⟨_, _, _, rfl, rfl, .inr rfl⟩
 ·refine ⟨_, _, _, rfl, rfl, .inl ⟨_, _, rfl, h2, fun _ => ⟨b, o, rfl, fun j u hj => ?_⟩⟩⟩
  rw [icl_map, List.getElem?_map] at hj
  obtain ⟨x, hx, rfl⟩ := Option.map_eq_some_iff.1 hj
  obtain ⟨hlt, rfl⟩ := List.getElem?_eq_some_iff.1 hx
  exact h3 j hlt
theorem rs_sl {W : World} {v : Value} {l : List Int} (h : Rs icl W v l) : Sl ic W v l := by
 obtain ⟨ao, cap, rfl, hc, hr⟩ := h
 rcases Nat.eq_zero_or_pos l.length with h0 | h0
 ·obtain rfl := List.eq_nil_iff_length_eq_zero.2 h0
  exact Sl.nil _ _ _ _
 ·obtain ⟨b, o, rfl, hrg⟩ := hr h0
  exact .inr ⟨b, o, cap, rfl, hc, fun i hi => hrg i _ (by rw [icl_map, List.getElem?_map, List.getElem?_eq_getElem hi]; rfl)⟩
theorem cloneI_any (v : Value) (l : List Int) (w : World) (hv : Sl ic w v l) (hl : l.length ≤ 100000) :
  Calls Tryz.prog 49 #[v] w fun e w' => ∃ v, e = .returned v ∧ Sl ic w' v l ∧ Ro icl 1 3 w' w.heap.size v l ∧ Below w.heap.size w w' := by
 obtain ⟨a0, n0, c0, rfl, hn, hrs⟩ := sl_rs hv
 cases a0 with
 | none =>
  have e1 := nilI_yes
  obtain rfl : l = [] := by
   rcases hrs with h | h
   ·exact List.eq_nil_iff_length_eq_zero.2 (hn ▸ Rs.none0 (f := icl) h rfl)
   ·exact h
  clear hv hl hn hrs
  go_enter Tryz.func49, Tryz.ntmps49
  go_wp2_with fail
  go_ret
  exact ⟨_, rfl, Sl.nil _ _ _ _, ro_nil _ _ _ _ _, Below.refl _ _⟩
 | some a =>
  have e2 := nilI_no
  have hq : Rs icl (w.alloc (.cells #[] 3)) (.slice (some a) n0 c0) l := by
   rcases hrs with h | rfl
   ·exact h.below (bA _ _)
   ·subst hn; exact rs_nil _ _ _ _
  have HV := Hd hq
  have HR := Hd (ro_new encI 3 w [] (Nat.zero_le _))
  clear hv hrs hq
  go_enter Tryz.func49, Tryz.ntmps49
  go_wp2_with (at_builtin; refine wR tyiI encI _ rfl _ _ rfl w.heap.size _ [] rfl HR.out (by simp) _ l rfl HV.out (by rw [List.length_nil]; omega) ?_; intro v1 w2 hr _ hb; rw [List.nil_append] at hr; have HRO := Hd hr; have HB := Hd (((Below.refl w.heap.size w).alloc (Nat.le_refl _) _).trans hb); clear hr hb)
  go_ret
  exact ⟨_, rfl, rs_sl HRO.out.rs, HRO.out, HB.out⟩
structure PtO (W : World) (B : Nat) (q : Pp) : Prop where
 r0 : Ro icl 1 3 W B (.slice q.2.a0 q.1.ids.length q.2.c0) q.1.ids
 r1 : Ro icl 1 3 W B (.slice q.2.a1 q.1.isr.length q.2.c1) q.1.isr
 r2 : Ro icl 1 3 W B (.slice q.2.a2 q.1.ad.length q.2.c2) q.1.ad
 r3 : Ro icl 1 3 W B (.slice q.2.a3 q.1.dr.length q.2.c3) q.1.dr
theorem ro_keep {α : Type} {f : α → List Value} {k : Nat} {T : TypeId} {W W' : World} {B : Nat} {v : Value} {l : List α} (h : Ro f k T W B v l) (hk : ∀ g, B ≤ g → g < W.heap.size → W'.heap[g]? = W.heap[g]?) : Ro f k T W' B v l := by
 refine ⟨h.1, ?_⟩
 rcases h.2 with h2 | ⟨g, cap, cur, a1, a2, a3, a4⟩
 ·exact .inl h2
 ·exact .inr ⟨g, cap, cur, a1, a2, by rw [hk g a2 (Array.getElem?_eq_some_iff.1 a3).1]; exact a3, a4⟩
theorem PtO.keep {W W' : World} {B : Nat} {q : Pp} (h : PtO W B q) (hk : ∀ g, B ≤ g → g < W.heap.size → W'.heap[g]? = W.heap[g]?) : PtO W' B q := ⟨ro_keep h.r0 hk, ro_keep h.r1 hk, ro_keep h.r2 hk, ro_keep h.r3 hk⟩
theorem PtO.mono {W : World} {B C : Nat} {q : Pp} (h : PtO W B q) (hc : C ≤ B) : PtO W C q := ⟨h.r0.mono hc, h.r1.mono hc, h.r2.mono hc, h.r3.mono hc⟩
theorem PtO.pt {W : World} {B : Nat} {q : Pp} (h : PtO W B q) : PtR W q := ⟨rs_sl h.r0.rs, rs_sl h.r1.rs, rs_sl h.r2.rs, rs_sl h.r3.rs⟩
theorem Alone_any (q : Pp) (w : World) (hq : PtR w q) (hl : WfP q.1) : Calls Tryz.prog 21 #[.agg (ptc q).toArray] w fun e w' => ∃ q' : Pp, q'.1 = q.1 ∧ e = .returned (.agg (ptc q').toArray) ∧ PtO w' w.heap.size q' ∧ Below w.heap.size w w' := by
 obtain ⟨⟨ids, isr, ld, ep, ad, dr⟩, ⟨a0, a1, a2, a3, c0, c1, c2, c3⟩⟩ := q
 have H0 := Hd (fun W (h : Below w.heap.size w W) => cloneI_any _ ids W (hq.s0.below h) (Nat.le_trans hl.l0 (by decide)))
 have H1 := Hd (fun W (h : Below w.heap.size w W) => cloneI_any _ isr W (hq.s1.below h) (Nat.le_trans hl.l1 (by decide)))
 have H2 := Hd (fun W (h : Below w.heap.size w W) => cloneI_any _ ad W (hq.s2.below h) (Nat.le_trans hl.l2 (by decide)))
 have H3 := Hd (fun W (h : Below w.heap.size w W) => cloneI_any _ dr W (hq.s3.below h) (Nat.le_trans hl.l3 (by decide)))
 clear hq hl
 unfold ptc
 dsimp only
 go_enter Tryz.func21, Tryz.ntmps21
 go_upto_region 1 with fail
 have hb1 := Bx.mk2 w [.slice a0 ids.length c0, .slice a1 isr.length c1, .int .i64 ld, .int .i64 ep, .slice a2 ad.length c2, .slice a3 dr.length c3] [.slice none 0 0, .slice none 0 0, .int .i64 0, .int .i64 0, .slice none 0 0, .slice none 0 0] 44 44 (Below.refl _ _)
 generalize ((w.alloc (.cells (List.toArray [Value.slice a0 ids.length c0, .slice a1 isr.length c1, .int .i64 ld, .int .i64 ep, .slice a2 ad.length c2, .slice a3 dr.length c3]) 44)).alloc (.cells (List.toArray [Value.slice none 0 0, .slice none 0 0, .int .i64 0, .int .i64 0, .slice none 0 0, .slice none 0 0]) 44)) = X at hb1 ⊢
 obtain ⟨hP, hR, hB⟩ := hb1
 have HP := Hd hP
 have HR := Hd hR
 have HB := Hd hB
 obtain ⟨i0, i1, i2, i3, i4, i5⟩ := hP.c6
 clear hP hR hB
 clear i0 i1 i2 i3 i4 i5
 obtain ⟨i0, i1, i2, i3, i4, i5⟩ := HP.out.c6
 go_upto_region 2 with (go_at_call 49; refine (H0.out _ HB.out).mono ?_; rintro e w2 ⟨v, rfl, hs, hro, hb1⟩; obtain ⟨b0, d0, rfl⟩ := hs.form; have HR0 : Hid (Ro icl 1 3 w2 (w.heap.size + 1 + 1) (.slice b0 ids.length d0) ids) := Hd (hro.mono HR.out.l); replace HP := Hd (HP.out.below hb1); replace HR := Hd (HR.out.below hb1); replace HB := Hd (bt HB.out hb1); clear i0 i1 i2 i3 i4 i5 hs hro hb1 H0; obtain ⟨i0, i1, i2, i3, i4, i5⟩ := HP.out.c6; have f0 := HP.out.f 0 (by simp))
 clear i0 i1 i2 i3 i4 i5 f0
 replace HP := Hd (HP.out.setCell 0 (by simp) (.slice b0 ids.length d0))
 replace HR := Hd (HR.out.setOther (m := w.heap.size) (by omega) 0 (.slice b0 ids.length d0))
 replace HB := Hd (HB.out.setCell (p := ⟨w.heap.size, 0, none⟩) (Nat.le_refl _) (.slice b0 ids.length d0))
 replace HR0 := Hd (HR0.out.keepG (W' := w2.setCell ⟨w.heap.size, 0, none⟩ (.slice b0 ids.length d0)) (fun g hg => Below.heap_setCell _ _ _ _ (show ¬ g = w.heap.size by omega)))
 simp only [List.set] at HP
 generalize w2.setCell ⟨w.heap.size, 0, none⟩ (.slice b0 ids.length d0) = X0 at HP HR HB HR0 ⊢
 obtain ⟨i0, i1, i2, i3, i4, i5⟩ := HP.out.c6
 go_upto_region 3 with (go_at_call 49; refine (H1.out _ HB.out).mono ?_; rintro e w3 ⟨v, rfl, hs, hro, hb1⟩; obtain ⟨b1, d1, rfl⟩ := hs.form; have HR1 : Hid (Ro icl 1 3 w3 (w.heap.size + 1 + 1) (.slice b1 isr.length d1) isr) := Hd (hro.mono HR.out.l); replace HR0 := Hd (HR0.out.below hb1); replace HP := Hd (HP.out.below hb1); replace HR := Hd (HR.out.below hb1); replace HB := Hd (bt HB.out hb1); clear i0 i1 i2 i3 i4 i5 hs hro hb1 H1; obtain ⟨i0, i1, i2, i3, i4, i5⟩ := HP.out.c6; have f0 := HP.out.f 1 (by simp))
 clear i0 i1 i2 i3 i4 i5 f0
 replace HP := Hd (HP.out.setCell 1 (by simp) (.slice b1 isr.length d1))
 replace HR := Hd (HR.out.setOther (m := w.heap.size) (by omega) 1 (.slice b1 isr.length d1))
 replace HB := Hd (HB.out.setCell (p := ⟨w.heap.size, 1, none⟩) (Nat.le_refl _) (.slice b1 isr.length d1))
 replace HR0 := Hd (HR0.out.keepG (W' := w3.setCell ⟨w.heap.size, 1, none⟩ (.slice b1 isr.length d1)) (fun g hg => Below.heap_setCell _ _ _ _ (show ¬ g = w.heap.size by omega)))
 replace HR1 := Hd (HR1.out.keepG (W' := w3.setCell ⟨w.heap.size, 1, none⟩ (.slice b1 isr.length d1)) (fun g hg => Below.heap_setCell _ _ _ _ (show ¬ g = w.heap.size by omega)))
 simp only [List.set] at HP
 generalize w3.setCell ⟨w.heap.size, 1, none⟩ (.slice b1 isr.length d1) = X1 at HP HR HB HR0 HR1 ⊢
 obtain ⟨i0, i1, i2, i3, i4, i5⟩ := HP.out.c6
 go_upto_region 4 with (go_at_call 49; refine (H2.out _ HB.out).mono ?_; rintro e w4 ⟨v, rfl, hs, hro, hb1⟩; obtain ⟨b2, d2, rfl⟩ := hs.form; have HR2 : Hid (Ro icl 1 3 w4 (w.heap.size + 1 + 1) (.slice b2 ad.length d2) ad) := Hd (hro.mono HR.out.l); replace HR0 := Hd (HR0.out.below hb1); replace HR1 := Hd (HR1.out.below hb1); replace HP := Hd (HP.out.below hb1); replace HR := Hd (HR.out.below hb1); replace HB := Hd (bt HB.out hb1); clear i0 i1 i2 i3 i4 i5 hs hro hb1 H2; obtain ⟨i0, i1, i2, i3, i4, i5⟩ := HP.out.c6; have f0 := HP.out.f 4 (by simp))
 clear i0 i1 i2 i3 i4 i5 f0
 replace HP := Hd (HP.out.setCell 4 (by simp) (.slice b2 ad.length d2))
 replace HR := Hd (HR.out.setOther (m := w.heap.size) (by omega) 4 (.slice b2 ad.length d2))
 replace HB := Hd (HB.out.setCell (p := ⟨w.heap.size, 4, none⟩) (Nat.le_refl _) (.slice b2 ad.length d2))
 replace HR0 := Hd (HR0.out.keepG (W' := w4.setCell ⟨w.heap.size, 4, none⟩ (.slice b2 ad.length d2)) (fun g hg => Below.heap_setCell _ _ _ _ (show ¬ g = w.heap.size by omega)))
 replace HR1 := Hd (HR1.out.keepG (W' := w4.setCell ⟨w.heap.size, 4, none⟩ (.slice b2 ad.length d2)) (fun g hg => Below.heap_setCell _ _ _ _ (show ¬ g = w.heap.size by omega)))
 replace HR2 := Hd (HR2.out.keepG (W' := w4.setCell ⟨w.heap.size, 4, none⟩ (.slice b2 ad.length d2)) (fun g hg => Below.heap_setCell _ _ _ _ (show ¬ g = w.heap.size by omega)))
 simp only [List.set] at HP
 generalize w4.setCell ⟨w.heap.size, 4, none⟩ (.slice b2 ad.length d2) = X2 at HP HR HB HR0 HR1 HR2 ⊢
 obtain ⟨i0, i1, i2, i3, i4, i5⟩ := HP.out.c6
 go_upto_region 5 with (go_at_call 49; refine (H3.out _ HB.out).mono ?_; rintro e w5 ⟨v, rfl, hs, hro, hb1⟩; obtain ⟨b3, d3, rfl⟩ := hs.form; have HR3 : Hid (Ro icl 1 3 w5 (w.heap.size + 1 + 1) (.slice b3 dr.length d3) dr) := Hd (hro.mono HR.out.l); replace HR0 := Hd (HR0.out.below hb1); replace HR1 := Hd (HR1.out.below hb1); replace HR2 := Hd (HR2.out.below hb1); replace HP := Hd (HP.out.below hb1); replace HR := Hd (HR.out.below hb1); replace HB := Hd (bt HB.out hb1); clear i0 i1 i2 i3 i4 i5 hs hro hb1 H3; obtain ⟨i0, i1, i2, i3, i4, i5⟩ := HP.out.c6; have f0 := HP.out.f 5 (by simp))
 clear i0 i1 i2 i3 i4 i5 f0
 replace HP := Hd (HP.out.setCell 5 (by simp) (.slice b3 dr.length d3))
 replace HR := Hd (HR.out.setOther (m := w.heap.size) (by omega) 5 (.slice b3 dr.length d3))
 replace HB := Hd (HB.out.setCell (p := ⟨w.heap.size, 5, none⟩) (Nat.le_refl _) (.slice b3 dr.length d3))
 replace HR0 := Hd (HR0.out.keepG (W' := w5.setCell ⟨w.heap.size, 5, none⟩ (.slice b3 dr.length d3)) (fun g hg => Below.heap_setCell _ _ _ _ (show ¬ g = w.heap.size by omega)))
 replace HR1 := Hd (HR1.out.keepG (W' := w5.setCell ⟨w.heap.size, 5, none⟩ (.slice b3 dr.length d3)) (fun g hg => Below.heap_setCell _ _ _ _ (show ¬ g = w.heap.size by omega)))
 replace HR2 := Hd (HR2.out.keepG (W' := w5.setCell ⟨w.heap.size, 5, none⟩ (.slice b3 dr.length d3)) (fun g hg => Below.heap_setCell _ _ _ _ (show ¬ g = w.heap.size by omega)))
 replace HR3 := Hd (HR3.out.keepG (W' := w5.setCell ⟨w.heap.size, 5, none⟩ (.slice b3 dr.length d3)) (fun g hg => Below.heap_setCell _ _ _ _ (show ¬ g = w.heap.size by omega)))
 simp only [List.set] at HP
 generalize w5.setCell ⟨w.heap.size, 5, none⟩ (.slice b3 dr.length d3) = X3 at HP HR HB HR0 HR1 HR2 HR3 ⊢
 obtain ⟨i0, i1, i2, i3, i4, i5⟩ := HP.out.c6
 go_wp2_with (refine wS rfl _ _ _ rfl _ _ rfl HR.out [.slice b0 ids.length d0, .slice b1 isr.length d1, .int .i64 ld, .int .i64 ep, .slice b2 ad.length d2, .slice b3 dr.length d3] rfl rfl (by kernel_rfl) rfl ?_; intro W3 hz hk hb hp; have HZ := Hd hz; have HPP := Hd hp; have Hb := Hd (hb _ _ (Nat.le_succ _) HB.out); clear hz hk hb hp)
 obtain ⟨q0, q1, q2, q3, q4, q5⟩ := HZ.out.c6
 exact bodyPost_ret (v := .agg #[.slice b0 ids.length d0, .slice b1 isr.length d1, .int .i64 ld, .int .i64 ep, .slice b2 ad.length d2, .slice b3 dr.length d3]) (by simp [results, Tryz.results21, go_sem, q0, q1, q2, q3, q4, q5]) rfl ⟨(⟨ids, isr, ld, ep, ad, dr⟩, ⟨b0, b1, b2, b3, d0, d1, d2, d3⟩), rfl, rfl, ⟨(HR0.out.keepG (fun g hg => HPP.out g (by omega))).mono (by omega), (HR1.out.keepG (fun g hg => HPP.out g (by omega))).mono (by omega), (HR2.out.keepG (fun g hg => HPP.out g (by omega))).mono (by omega), (HR3.out.keepG (fun g hg => HPP.out g (by omega))).mono (by omega)⟩, Hb.out⟩
end Go.Proofs.YtlggjgapdpkhiaaGreat
namespace Go.Proofs.YtlggjgapdpkhiaaGreat
open Go.RowKit
theorem nilB_yes (n cap : Nat) (w : World) : (binOp .eql 25 (.slice none n cap) (.slice none 0 0)).run Tryz.prog w = .ok (.bool true) w := by kernel_rfl
theorem nilB_no (a : Addr) (n cap : Nat) (w : World) : (binOp .eql 25 (.slice (some a) n cap) (.slice none 0 0)).run Tryz.prog w = .ok (.bool false) w := by kernel_rfl
set_option maxRecDepth 100000 in
set_option maxHeartbeats 4000000 in
theorem cloneB_any (l : List Bk) (ao : Option Addr) (n cap : Nat) (w : World) (hn : n = l.length) (hv : Rs bkc w (.slice ao n cap) l) (hl : l.length ≤ 100000) :
  Calls Tryz.prog 53 #[.slice ao n cap] w fun e w' => ∃ v, e = .returned v ∧ Ro bkc 5 33 w' w.heap.size v l ∧ Below w.heap.size w w' := by
 subst hn
 cases ao with
 | none =>
  have e1 := nilB_yes
  have h0 := hv.none0 rfl
  obtain rfl := List.eq_nil_iff_length_eq_zero.2 h0
  clear hv hl h0
  go_enter Tryz.func53, Tryz.ntmps53
  go_wp2_with fail
  go_ret
  exact ⟨_, rfl, ro_nil _ _ _ _ _, Below.refl _ _⟩
 | some a =>
  have e2 := nilB_no
  have HV := Hd (hv.below ((Below.refl _ _).alloc (Nat.le_refl _) (.cells #[] 33)))
  have HR := Hd (ro_new encB 33 w [] (Nat.zero_le _))
  clear hv
  go_enter Tryz.func53, Tryz.ntmps53
  go_wp2_with (at_builtin; refine wR tyiB encB _ rfl _ _ rfl w.heap.size _ [] rfl HR.out (by simp) _ l rfl HV.out (by rw [List.length_nil]; omega) ?_; intro v1 w2 hr _ hb; rw [List.nil_append] at hr; have HRO := Hd hr; have HB := Hd (((Below.refl w.heap.size w).alloc (Nat.le_refl _) _).trans hb); clear hr hb)
  go_ret
  exact ⟨_, rfl, HRO.out, HB.out⟩
end Go.Proofs.YtlggjgapdpkhiaaGreat
namespace Go.Proofs.YtlggjgapdpkhiaaGreat
open Go.RowKit
theorem nilT_yes (n cap : Nat) (w : World) : (binOp .eql 26 (.slice none n cap) (.slice none 0 0)).run Tryz.prog w = .ok (.bool true) w := by kernel_rfl
theorem nilT_no (a : Addr) (n cap : Nat) (w : World) : (binOp .eql 26 (.slice (some a) n cap) (.slice none 0 0)).run Tryz.prog w = .ok (.bool false) w := by kernel_rfl
set_option maxRecDepth 100000 in
set_option maxHeartbeats 4000000 in
theorem cloneT_any (l : List Tq) (ao : Option Addr) (n cap : Nat) (w : World) (hn : n = l.length) (hv : Rs tpc w (.slice ao n cap) l) (hl : l.length ≤ 100000) :
  Calls Tryz.prog 54 #[.slice ao n cap] w fun e w' => ∃ v, e = .returned v ∧ Ro tpc 3 38 w' w.heap.size v l ∧ Below w.heap.size w w' := by
 subst hn
 cases ao with
 | none =>
  have e1 := nilT_yes
  have h0 := hv.none0 rfl
  obtain rfl := List.eq_nil_iff_length_eq_zero.2 h0
  clear hv hl h0
  go_enter Tryz.func54, Tryz.ntmps54
  go_wp2_with fail
  go_ret
  exact ⟨_, rfl, ro_nil _ _ _ _ _, Below.refl _ _⟩
 | some a =>
  have e2 := nilT_no
  have HV := Hd (hv.below ((Below.refl _ _).alloc (Nat.le_refl _) (.cells #[] 38)))
  have HR := Hd (ro_new encT 38 w [] (Nat.zero_le _))
  clear hv
  go_enter Tryz.func54, Tryz.ntmps54
  go_wp2_with (at_builtin; refine wR tyiT encT _ rfl _ _ rfl w.heap.size _ [] rfl HR.out (by simp) _ l rfl HV.out (by rw [List.length_nil]; omega) ?_; intro v1 w2 hr _ hb; rw [List.nil_append] at hr; have HRO := Hd hr; have HB := Hd (((Below.refl w.heap.size w).alloc (Nat.le_refl _) _).trans hb); clear hr hb)
  go_ret
  exact ⟨_, rfl, HRO.out, HB.out⟩
end Go.Proofs.YtlggjgapdpkhiaaGreat
namespace Go.Proofs.YtlggjgapdpkhiaaGreat
open Go.RowKit
theorem nilD_yes (n cap : Nat) (w : World) : (binOp .eql 28 (.slice none n cap) (.slice none 0 0)).run Tryz.prog w = .ok (.bool true) w := by kernel_rfl
theorem nilD_no (a : Addr) (n cap : Nat) (w : World) : (binOp .eql 28 (.slice (some a) n cap) (.slice none 0 0)).run Tryz.prog w = .ok (.bool false) w := by kernel_rfl
set_option maxRecDepth 100000 in
set_option maxHeartbeats 4000000 in
theorem cloneD_any (l : List Dn) (ao : Option Addr) (n cap : Nat) (w : World) (hn : n = l.length) (hv : Rs dnc w (.slice ao n cap) l) (hl : l.length ≤ 100000) :
  Calls Tryz.prog 57 #[.slice ao n cap] w fun e w' => ∃ v, e = .returned v ∧ Ro dnc 3 83 w' w.heap.size v l ∧ Below w.heap.size w w' := by
 subst hn
 cases ao with
 | none =>
  have e1 := nilD_yes
  have h0 := hv.none0 rfl
  obtain rfl := List.eq_nil_iff_length_eq_zero.2 h0
  clear hv hl h0
  go_enter Tryz.func57, Tryz.ntmps57
  go_wp2_with fail
  go_ret
  exact ⟨_, rfl, ro_nil _ _ _ _ _, Below.refl _ _⟩
 | some a =>
  have e2 := nilD_no
  have HV := Hd (hv.below ((Below.refl _ _).alloc (Nat.le_refl _) (.cells #[] 83)))
  have HR := Hd (ro_new encD 83 w [] (Nat.zero_le _))
  clear hv
  go_enter Tryz.func57, Tryz.ntmps57
  go_wp2_with (at_builtin; refine wR tyiD encD _ rfl _ _ rfl w.heap.size _ [] rfl HR.out (by simp) _ l rfl HV.out (by rw [List.length_nil]; omega) ?_; intro v1 w2 hr _ hb; rw [List.nil_append] at hr; have HRO := Hd hr; have HB := Hd (((Below.refl w.heap.size w).alloc (Nat.le_refl _) _).trans hb); clear hr hb)
  go_ret
  exact ⟨_, rfl, HRO.out, HB.out⟩
end Go.Proofs.YtlggjgapdpkhiaaGreat
namespace Go.Proofs.YtlggjgapdpkhiaaGreat
open Go.RowKit
theorem qB {w w' : World} (h : Qt w w') : Below w.heap.size w w' := by
 obtain ⟨n, rfl⟩ := h
 exact below_drewN (Below.refl _ _) n
theorem eqI_beq (a b : List Int) : (a == b) = eqI a b := by
 unfold eqI
 by_cases h : a = b
 ·rw [decide_eq_true h, h]; simp
 ·rw [decide_eq_false h]; simpa using h
set_option maxRecDepth 100000 in
set_option maxHeartbeats 16000000 in
theorem Same_any (p q : Pp) (w : World) (hp : PtR w p) (hq : PtR w q) (hl : WfP p.1) : Calls Tryz.prog 20 #[.agg (ptc p).toArray, .agg (ptc q).toArray] w fun e w' => e = .returned (.bool (samP p.1 q.1)) ∧ Below w.heap.size w w' := by
 obtain ⟨⟨ids, isr, ld, ep, ad, dr⟩, ⟨a0, a1, a2, a3, c0, c1, c2, c3⟩⟩ := p
 obtain ⟨⟨ids', isr', ld', ep', ad', dr'⟩, ⟨a0', a1', a2', a3', c0', c1', c2', c3'⟩⟩ := q
 have E0 := Hd (fun W (h : Below w.heap.size w W) => equal_any _ _ ids ids' W (hp.s0.below h) (hq.s0.below h) (Nat.le_trans hl.l0 (by decide)))
 have E1 := Hd (fun W (h : Below w.heap.size w W) => equal_any _ _ isr isr' W (hp.s1.below h) (hq.s1.below h) (Nat.le_trans hl.l1 (by decide)))
 have E2 := Hd (fun W (h : Below w.heap.size w W) => equal_any _ _ ad ad' W (hp.s2.below h) (hq.s2.below h) (Nat.le_trans hl.l2 (by decide)))
 have E3 := Hd (fun W (h : Below w.heap.size w W) => equal_any _ _ dr dr' W (hp.s3.below h) (hq.s3.below h) (Nat.le_trans hl.l3 (by decide)))
 clear hp hq hl
 unfold samP
 dsimp only
 rw [eqI_beq, eqI_beq, eqI_beq, eqI_beq]
 generalize eqI ids ids' = e0 at *
 generalize eqI isr isr' = e1 at *
 generalize eqI ad ad' = e2 at *
 generalize eqI dr dr' = e3 at *
 obtain ⟨ANS, hANS⟩ : ∃ A, A = (ld == ld' && ep == ep' && e0 && e1 && e2 && e3) := ⟨_, rfl⟩
 rw [← hANS]
 have HANS := Hd hANS
 clear hANS
 obtain ⟨HX0, HY0, HB0⟩ := Bx.mk2 w [.slice a0 ids.length c0, .slice a1 isr.length c1, .int .i64 ld, .int .i64 ep, .slice a2 ad.length c2, .slice a3 dr.length c3] [.slice a0' ids'.length c0', .slice a1' isr'.length c1', .int .i64 ld', .int .i64 ep', .slice a2' ad'.length c2', .slice a3' dr'.length c3'] 44 44 (Below.refl _ _)
 unfold ptc
 dsimp only
 go_enter Tryz.func20, Tryz.ntmps20
 go_upto_region 1 with fail
 generalize ((w.alloc (.cells (List.toArray [Value.slice a0 ids.length c0, .slice a1 isr.length c1, .int .i64 ld, .int .i64 ep, .slice a2 ad.length c2, .slice a3 dr.length c3]) 44)).alloc (.cells (List.toArray [Value.slice a0' ids'.length c0', .slice a1' isr'.length c1', .int .i64 ld', .int .i64 ep', .slice a2' ad'.length c2', .slice a3' dr'.length c3']) 44)) = X at HX0 HY0 HB0 ⊢
 have HX := Hd HX0
 have HY := Hd HY0
 have HB := Hd HB0
 clear HX0 HY0 HB0
 obtain ⟨x0, x1, x2, x3, x4, x5⟩ := HX.out.c6
 obtain ⟨y0, y1, y2, y3, y4, y5⟩ := HY.out.c6
 cases hld : (ld == ld') with
 | false =>
  go_wp2_with (first | (go_at_call 48; refine (E0.out _ HB.out).mono ?_; rintro e w1 ⟨rfl, hb⟩; replace HB := Hd (bt HB.out (qB hb)); replace HX := Hd (HX.out.below (qB hb)); replace HY := Hd (HY.out.below (qB hb)); clear E0 hb x0 x1 x2 x3 x4 x5 y0 y1 y2 y3 y4 y5; obtain ⟨x0, x1, x2, x3, x4, x5⟩ := HX.out.c6; obtain ⟨y0, y1, y2, y3, y4, y5⟩ := HY.out.c6) | (go_at_call 48; refine (E1.out _ HB.out).mono ?_; rintro e w1 ⟨rfl, hb⟩; replace HB := Hd (bt HB.out (qB hb)); replace HX := Hd (HX.out.below (qB hb)); replace HY := Hd (HY.out.below (qB hb)); clear E1 hb x0 x1 x2 x3 x4 x5 y0 y1 y2 y3 y4 y5; obtain ⟨x0, x1, x2, x3, x4, x5⟩ := HX.out.c6; obtain ⟨y0, y1, y2, y3, y4, y5⟩ := HY.out.c6) | (go_at_call 48; refine (E2.out _ HB.out).mono ?_; rintro e w1 ⟨rfl, hb⟩; replace HB := Hd (bt HB.out (qB hb)); replace HX := Hd (HX.out.below (qB hb)); replace HY := Hd (HY.out.below (qB hb)); clear E2 hb x0 x1 x2 x3 x4 x5 y0 y1 y2 y3 y4 y5; obtain ⟨x0, x1, x2, x3, x4, x5⟩ := HX.out.c6; obtain ⟨y0, y1, y2, y3, y4, y5⟩ := HY.out.c6) | (go_at_call 48; refine (E3.out _ HB.out).mono ?_; rintro e w1 ⟨rfl, hb⟩; replace HB := Hd (bt HB.out (qB hb)); replace HX := Hd (HX.out.below (qB hb)); replace HY := Hd (HY.out.below (qB hb)); clear E3 hb x0 x1 x2 x3 x4 x5 y0 y1 y2 y3 y4 y5; obtain ⟨x0, x1, x2, x3, x4, x5⟩ := HX.out.c6; obtain ⟨y0, y1, y2, y3, y4, y5⟩ := HY.out.c6))
  go_ret
  exact ⟨congrArg (fun b => Ending.returned (.bool b)) (HANS.out.trans (by simp [*])).symm, HB.out⟩
 | true =>
  cases hep : (ep == ep') with
  | false =>
   go_wp2_with (first | (go_at_call 48; refine (E0.out _ HB.out).mono ?_; rintro e w1 ⟨rfl, hb⟩; replace HB := Hd (bt HB.out (qB hb)); replace HX := Hd (HX.out.below (qB hb)); replace HY := Hd (HY.out.below (qB hb)); clear E0 hb x0 x1 x2 x3 x4 x5 y0 y1 y2 y3 y4 y5; obtain ⟨x0, x1, x2, x3, x4, x5⟩ := HX.out.c6; obtain ⟨y0, y1, y2, y3, y4, y5⟩ := HY.out.c6) | (go_at_call 48; refine (E1.out _ HB.out).mono ?_; rintro e w1 ⟨rfl, hb⟩; replace HB := Hd (bt HB.out (qB hb)); replace HX := Hd (HX.out.below (qB hb)); replace HY := Hd (HY.out.below (qB hb)); clear E1 hb x0 x1 x2 x3 x4 x5 y0 y1 y2 y3 y4 y5; obtain ⟨x0, x1, x2, x3, x4, x5⟩ := HX.out.c6; obtain ⟨y0, y1, y2, y3, y4, y5⟩ := HY.out.c6) | (go_at_call 48; refine (E2.out _ HB.out).mono ?_; rintro e w1 ⟨rfl, hb⟩; replace HB := Hd (bt HB.out (qB hb)); replace HX := Hd (HX.out.below (qB hb)); replace HY := Hd (HY.out.below (qB hb)); clear E2 hb x0 x1 x2 x3 x4 x5 y0 y1 y2 y3 y4 y5; obtain ⟨x0, x1, x2, x3, x4, x5⟩ := HX.out.c6; obtain ⟨y0, y1, y2, y3, y4, y5⟩ := HY.out.c6) | (go_at_call 48; refine (E3.out _ HB.out).mono ?_; rintro e w1 ⟨rfl, hb⟩; replace HB := Hd (bt HB.out (qB hb)); replace HX := Hd (HX.out.below (qB hb)); replace HY := Hd (HY.out.below (qB hb)); clear E3 hb x0 x1 x2 x3 x4 x5 y0 y1 y2 y3 y4 y5; obtain ⟨x0, x1, x2, x3, x4, x5⟩ := HX.out.c6; obtain ⟨y0, y1, y2, y3, y4, y5⟩ := HY.out.c6))
   go_ret
   exact ⟨congrArg (fun b => Ending.returned (.bool b)) (HANS.out.trans (by simp [*])).symm, HB.out⟩
  | true =>
   cases e0 with
   | false =>
    go_wp2_with (first | (go_at_call 48; refine (E0.out _ HB.out).mono ?_; rintro e w1 ⟨rfl, hb⟩; replace HB := Hd (bt HB.out (qB hb)); replace HX := Hd (HX.out.below (qB hb)); replace HY := Hd (HY.out.below (qB hb)); clear E0 hb x0 x1 x2 x3 x4 x5 y0 y1 y2 y3 y4 y5; obtain ⟨x0, x1, x2, x3, x4, x5⟩ := HX.out.c6; obtain ⟨y0, y1, y2, y3, y4, y5⟩ := HY.out.c6) | (go_at_call 48; refine (E1.out _ HB.out).mono ?_; rintro e w1 ⟨rfl, hb⟩; replace HB := Hd (bt HB.out (qB hb)); replace HX := Hd (HX.out.below (qB hb)); replace HY := Hd (HY.out.below (qB hb)); clear E1 hb x0 x1 x2 x3 x4 x5 y0 y1 y2 y3 y4 y5; obtain ⟨x0, x1, x2, x3, x4, x5⟩ := HX.out.c6; obtain ⟨y0, y1, y2, y3, y4, y5⟩ := HY.out.c6) | (go_at_call 48; refine (E2.out _ HB.out).mono ?_; rintro e w1 ⟨rfl, hb⟩; replace HB := Hd (bt HB.out (qB hb)); replace HX := Hd (HX.out.below (qB hb)); replace HY := Hd (HY.out.below (qB hb)); clear E2 hb x0 x1 x2 x3 x4 x5 y0 y1 y2 y3 y4 y5; obtain ⟨x0, x1, x2, x3, x4, x5⟩ := HX.out.c6; obtain ⟨y0, y1, y2, y3, y4, y5⟩ := HY.out.c6) | (go_at_call 48; refine (E3.out _ HB.out).mono ?_; rintro e w1 ⟨rfl, hb⟩; replace HB := Hd (bt HB.out (qB hb)); replace HX := Hd (HX.out.below (qB hb)); replace HY := Hd (HY.out.below (qB hb)); clear E3 hb x0 x1 x2 x3 x4 x5 y0 y1 y2 y3 y4 y5; obtain ⟨x0, x1, x2, x3, x4, x5⟩ := HX.out.c6; obtain ⟨y0, y1, y2, y3, y4, y5⟩ := HY.out.c6))
    go_ret
    exact ⟨congrArg (fun b => Ending.returned (.bool b)) (HANS.out.trans (by simp [*])).symm, HB.out⟩
   | true =>
    cases e1 with
    | false =>
     go_wp2_with (first | (go_at_call 48; refine (E0.out _ HB.out).mono ?_; rintro e w1 ⟨rfl, hb⟩; replace HB := Hd (bt HB.out (qB hb)); replace HX := Hd (HX.out.below (qB hb)); replace HY := Hd (HY.out.below (qB hb)); clear E0 hb x0 x1 x2 x3 x4 x5 y0 y1 y2 y3 y4 y5; obtain ⟨x0, x1, x2, x3, x4, x5⟩ := HX.out.c6; obtain ⟨y0, y1, y2, y3, y4, y5⟩ := HY.out.c6) | (go_at_call 48; refine (E1.out _ HB.out).mono ?_; rintro e w1 ⟨rfl, hb⟩; replace HB := Hd (bt HB.out (qB hb)); replace HX := Hd (HX.out.below (qB hb)); replace HY := Hd (HY.out.below (qB hb)); clear E1 hb x0 x1 x2 x3 x4 x5 y0 y1 y2 y3 y4 y5; obtain ⟨x0, x1, x2, x3, x4, x5⟩ := HX.out.c6; obtain ⟨y0, y1, y2, y3, y4, y5⟩ := HY.out.c6) | (go_at_call 48; refine (E2.out _ HB.out).mono ?_; rintro e w1 ⟨rfl, hb⟩; replace HB := Hd (bt HB.out (qB hb)); replace HX := Hd (HX.out.below (qB hb)); replace HY := Hd (HY.out.below (qB hb)); clear E2 hb x0 x1 x2 x3 x4 x5 y0 y1 y2 y3 y4 y5; obtain ⟨x0, x1, x2, x3, x4, x5⟩ := HX.out.c6; obtain ⟨y0, y1, y2, y3, y4, y5⟩ := HY.out.c6) | (go_at_call 48; refine (E3.out _ HB.out).mono ?_; rintro e w1 ⟨rfl, hb⟩; replace HB := Hd (bt HB.out (qB hb)); replace HX := Hd (HX.out.below (qB hb)); replace HY := Hd (HY.out.below (qB hb)); clear E3 hb x0 x1 x2 x3 x4 x5 y0 y1 y2 y3 y4 y5; obtain ⟨x0, x1, x2, x3, x4, x5⟩ := HX.out.c6; obtain ⟨y0, y1, y2, y3, y4, y5⟩ := HY.out.c6))
     go_ret
     exact ⟨congrArg (fun b => Ending.returned (.bool b)) (HANS.out.trans (by simp [*])).symm, HB.out⟩
    | true =>
     cases e2 with
     | false =>
      go_wp2_with (first | (go_at_call 48; refine (E0.out _ HB.out).mono ?_; rintro e w1 ⟨rfl, hb⟩; replace HB := Hd (bt HB.out (qB hb)); replace HX := Hd (HX.out.below (qB hb)); replace HY := Hd (HY.out.below (qB hb)); clear E0 hb x0 x1 x2 x3 x4 x5 y0 y1 y2 y3 y4 y5; obtain ⟨x0, x1, x2, x3, x4, x5⟩ := HX.out.c6; obtain ⟨y0, y1, y2, y3, y4, y5⟩ := HY.out.c6) | (go_at_call 48; refine (E1.out _ HB.out).mono ?_; rintro e w1 ⟨rfl, hb⟩; replace HB := Hd (bt HB.out (qB hb)); replace HX := Hd (HX.out.below (qB hb)); replace HY := Hd (HY.out.below (qB hb)); clear E1 hb x0 x1 x2 x3 x4 x5 y0 y1 y2 y3 y4 y5; obtain ⟨x0, x1, x2, x3, x4, x5⟩ := HX.out.c6; obtain ⟨y0, y1, y2, y3, y4, y5⟩ := HY.out.c6) | (go_at_call 48; refine (E2.out _ HB.out).mono ?_; rintro e w1 ⟨rfl, hb⟩; replace HB := Hd (bt HB.out (qB hb)); replace HX := Hd (HX.out.below (qB hb)); replace HY := Hd (HY.out.below (qB hb)); clear E2 hb x0 x1 x2 x3 x4 x5 y0 y1 y2 y3 y4 y5; obtain ⟨x0, x1, x2, x3, x4, x5⟩ := HX.out.c6; obtain ⟨y0, y1, y2, y3, y4, y5⟩ := HY.out.c6) | (go_at_call 48; refine (E3.out _ HB.out).mono ?_; rintro e w1 ⟨rfl, hb⟩; replace HB := Hd (bt HB.out (qB hb)); replace HX := Hd (HX.out.below (qB hb)); replace HY := Hd (HY.out.below (qB hb)); clear E3 hb x0 x1 x2 x3 x4 x5 y0 y1 y2 y3 y4 y5; obtain ⟨x0, x1, x2, x3, x4, x5⟩ := HX.out.c6; obtain ⟨y0, y1, y2, y3, y4, y5⟩ := HY.out.c6))
      go_ret
      exact ⟨congrArg (fun b => Ending.returned (.bool b)) (HANS.out.trans (by simp [*])).symm, HB.out⟩
     | true =>
      cases e3 with
      | false =>
       go_wp2_with (first | (go_at_call 48; refine (E0.out _ HB.out).mono ?_; rintro e w1 ⟨rfl, hb⟩; replace HB := Hd (bt HB.out (qB hb)); replace HX := Hd (HX.out.below (qB hb)); replace HY := Hd (HY.out.below (qB hb)); clear E0 hb x0 x1 x2 x3 x4 x5 y0 y1 y2 y3 y4 y5; obtain ⟨x0, x1, x2, x3, x4, x5⟩ := HX.out.c6; obtain ⟨y0, y1, y2, y3, y4, y5⟩ := HY.out.c6) | (go_at_call 48; refine (E1.out _ HB.out).mono ?_; rintro e w1 ⟨rfl, hb⟩; replace HB := Hd (bt HB.out (qB hb)); replace HX := Hd (HX.out.below (qB hb)); replace HY := Hd (HY.out.below (qB hb)); clear E1 hb x0 x1 x2 x3 x4 x5 y0 y1 y2 y3 y4 y5; obtain ⟨x0, x1, x2, x3, x4, x5⟩ := HX.out.c6; obtain ⟨y0, y1, y2, y3, y4, y5⟩ := HY.out.c6) | (go_at_call 48; refine (E2.out _ HB.out).mono ?_; rintro e w1 ⟨rfl, hb⟩; replace HB := Hd (bt HB.out (qB hb)); replace HX := Hd (HX.out.below (qB hb)); replace HY := Hd (HY.out.below (qB hb)); clear E2 hb x0 x1 x2 x3 x4 x5 y0 y1 y2 y3 y4 y5; obtain ⟨x0, x1, x2, x3, x4, x5⟩ := HX.out.c6; obtain ⟨y0, y1, y2, y3, y4, y5⟩ := HY.out.c6) | (go_at_call 48; refine (E3.out _ HB.out).mono ?_; rintro e w1 ⟨rfl, hb⟩; replace HB := Hd (bt HB.out (qB hb)); replace HX := Hd (HX.out.below (qB hb)); replace HY := Hd (HY.out.below (qB hb)); clear E3 hb x0 x1 x2 x3 x4 x5 y0 y1 y2 y3 y4 y5; obtain ⟨x0, x1, x2, x3, x4, x5⟩ := HX.out.c6; obtain ⟨y0, y1, y2, y3, y4, y5⟩ := HY.out.c6))
       go_ret
       exact ⟨congrArg (fun b => Ending.returned (.bool b)) (HANS.out.trans (by simp [*])).symm, HB.out⟩
      | true =>
       go_wp2_with (first | (go_at_call 48; refine (E0.out _ HB.out).mono ?_; rintro e w1 ⟨rfl, hb⟩; replace HB := Hd (bt HB.out (qB hb)); replace HX := Hd (HX.out.below (qB hb)); replace HY := Hd (HY.out.below (qB hb)); clear E0 hb x0 x1 x2 x3 x4 x5 y0 y1 y2 y3 y4 y5; obtain ⟨x0, x1, x2, x3, x4, x5⟩ := HX.out.c6; obtain ⟨y0, y1, y2, y3, y4, y5⟩ := HY.out.c6) | (go_at_call 48; refine (E1.out _ HB.out).mono ?_; rintro e w1 ⟨rfl, hb⟩; replace HB := Hd (bt HB.out (qB hb)); replace HX := Hd (HX.out.below (qB hb)); replace HY := Hd (HY.out.below (qB hb)); clear E1 hb x0 x1 x2 x3 x4 x5 y0 y1 y2 y3 y4 y5; obtain ⟨x0, x1, x2, x3, x4, x5⟩ := HX.out.c6; obtain ⟨y0, y1, y2, y3, y4, y5⟩ := HY.out.c6) | (go_at_call 48; refine (E2.out _ HB.out).mono ?_; rintro e w1 ⟨rfl, hb⟩; replace HB := Hd (bt HB.out (qB hb)); replace HX := Hd (HX.out.below (qB hb)); replace HY := Hd (HY.out.below (qB hb)); clear E2 hb x0 x1 x2 x3 x4 x5 y0 y1 y2 y3 y4 y5; obtain ⟨x0, x1, x2, x3, x4, x5⟩ := HX.out.c6; obtain ⟨y0, y1, y2, y3, y4, y5⟩ := HY.out.c6) | (go_at_call 48; refine (E3.out _ HB.out).mono ?_; rintro e w1 ⟨rfl, hb⟩; replace HB := Hd (bt HB.out (qB hb)); replace HX := Hd (HX.out.below (qB hb)); replace HY := Hd (HY.out.below (qB hb)); clear E3 hb x0 x1 x2 x3 x4 x5 y0 y1 y2 y3 y4 y5; obtain ⟨x0, x1, x2, x3, x4, x5⟩ := HX.out.c6; obtain ⟨y0, y1, y2, y3, y4, y5⟩ := HY.out.c6))
       go_ret
       exact ⟨congrArg (fun b => Ending.returned (.bool b)) (HANS.out.trans (by simp [*])).symm, HB.out⟩
end Go.Proofs.YtlggjgapdpkhiaaGreat
