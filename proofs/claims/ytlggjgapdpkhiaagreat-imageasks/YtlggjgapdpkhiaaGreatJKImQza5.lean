/-
  AN IMAGE IN NEW MEMORY (image.Copy). Conditions: an image in order, its lists no longer than a hundred thousand.
  ARE PARTITIONS, TOPICS, IMAGES THE SAME, AS THE DOCUMENT HAS IT (castellanref15.SamePart.
  ARE IMAGES THE SAME, AS THE DOCUMENT HAS IT, WHERE THEY ARE (castellanref15.Same).
  A TOPIC IS GONE, AND ITS SETTINGS (image.drop).
  ONE THAT IS PUT AT A PLACE (image.put), ahead of what is there, or in its stead.
-/
import Derived.Test.YtlggjgapdpkhiaaGreatJKImQla3
import Derived.Test.YtlggjgapdpkhiaaGreatJKImGa5
import Derived.Test.YtlggjgapdpkhiaaGreatJKImCpa5
import Derived.Test.YtlggjgapdpkhiaaGreatJKImQha3
import Derived.Test.YtlggjgapdpkhiaaGreatJKFrameReca5
import Derived.Test.YtlggjgapdpkhiaaGreatJKImCba5
import Derived.Laws.StructEq
import Derived.Test.YtlggjgapdpkhiaaGreatJKImCda5
import Derived.Test.YtlggjgapdpkhiaaGreatJKImDea4
import Derived.Test.YtlggjgapdpkhiaaGreatJKImDgTa5
namespace Go.Proofs.YtlggjgapdpkhiaaGreat
open Go.RowKit
theorem rg_setc {W : World} {g : Nat} {cs : List Value} (h : W.rangeAt g 0 cs) {j : Nat} (hj : j < cs.length) (v : Value) : (W.setCell ⟨g, j, none⟩ v).rangeAt g 0 (cs.set j v) := fun q u hu => by
 rw [Nat.zero_add]
 by_cases e : q = j
 ·subst e
  rw [List.getElem?_set_self hj] at hu
  cases hu
  exact World.cell?_setCell_same _ _ _ (u := cs[q]) (by have := h q _ (List.getElem?_eq_getElem hj); rwa [Nat.zero_add] at this)
 ·rw [List.getElem?_set_ne (fun q' => e q'.symm)] at hu
  rw [World.cell?_setCell_other _ _ _ _ (fun q' => e (congrArg Addr.off q').symm)]
  have := h q u hu
  rwa [Nat.zero_add] at this
theorem fm_set {α : Type} {f : α → List Value} {k : Nat} (hf : Enc f k) (a b : List α) (y x : α) {j : Nat} (hj : j < k) (v : Value) (hx : f x = (f y).set j v) : ((a ++ y :: b).flatMap f).set (a.length * k + j) v = (a ++ [x] ++ b).flatMap f := by
 have hl : (a.flatMap f).length = a.length * k := fm_len hf a
 rw [List.flatMap_append, List.flatMap_cons, List.append_assoc, List.flatMap_append, List.singleton_append, List.flatMap_cons, List.set_append_right _ _ (by omega), hl, Nat.add_sub_cancel_left, List.set_append_left _ _ (by rw [hf.len]; exact hj), hx]
structure Cpy (w W : World) (m : Im) (p : Ip) (xs : List Value) (ab : Option Addr) (cb g : Nat) (aq : Option Addr) (cq : Nat) (N R : List Tq) : Prop where
 i : Bx W w.heap.size xs
 z : Bx W (w.heap.size + 1) imz
 t : 0 < p.ts.length → aq = some ⟨g, 0, none⟩ ∧ W.rangeAt g 0 ((N ++ R).flatMap tpc) ∧ (∀ j, W.frozen? ⟨g, j, none⟩ = false) ∧ g < W.heap.size
 ge : w.heap.size + 1 + 1 ≤ g
 l : p.ts.length ≤ cq
 n : ∀ W', (∀ q, q < W.heap.size → q ≠ w.heap.size → q ≠ w.heap.size + 1 → q ≠ g → W'.heap[q]? = W.heap[q]?) → Rs bkc W' (.slice ab m.br.length cb) m.br ∧ ∀ t ∈ N, TqR W' t
 b : Below w.heap.size w W
section
variable {w W W' : World} {m : Im} {p : Ip} {xs : List Value} {ab aq : Option Addr} {cb g cq : Nat} {N R : List Tq}
theorem Cpy.below (h : Cpy w W m p xs ab cb g aq cq N R) (hb : Below W.heap.size W W') : Cpy w W' m p xs ab cb g aq cq N R :=
 ⟨h.i.below hb, h.z.below hb, fun h0 => by
  obtain ⟨h1, h2, h3, h4⟩ := h.t h0
  exact ⟨h1, rg_bel h2 hb, fun j => (World.frozen?_of_block (hb.block g h4)).trans (h3 j), Nat.lt_of_lt_of_le h4 hb.size⟩, h.ge, h.l, fun V hV => h.n V (fun q q1 q2 q3 q4 => (hV q (Nat.lt_of_lt_of_le q1 hb.size) q2 q3 q4).trans (hb.block q q1)), bt h.b hb⟩
theorem Cpy.setI (h : Cpy w W m p xs ab cb g aq cq N R) (j : Nat) (hj : j < xs.length) (v : Value) : Cpy w (W.setCell ⟨w.heap.size, j, none⟩ v) m p (xs.set j v) ab cb g aq cq N R :=
 have hg := h.ge
 ⟨h.i.setCell j hj v, h.z.setOther (by omega) j v, fun h0 => by
  obtain ⟨h1, h2, h3, h4⟩ := h.t h0
  exact ⟨h1, fun q u hu => (World.cell?_setCell_other _ _ _ _ (fun e => by have := congrArg Addr.block e; simp only at this; omega)).trans (h2 q u hu), fun j => by simpa using h3 j, by simpa using h4⟩, h.ge, h.l, fun V hV => h.n V (fun q q1 q2 q3 q4 => (hV q (by simpa using q1) q2 q3 q4).trans (Below.heap_setCell _ _ _ _ q2)), h.b.setCell (p := ⟨w.heap.size, j, none⟩) (Nat.le_refl _) v⟩
theorem Cpy.setT {x x' : Tq} {v : Value} (h : Cpy w W m p xs ab cb g aq cq N (x :: R)) (h0 : 0 < p.ts.length) (hx : tpc x' = (tpc x).set 2 v) (hn : ∀ W', (∀ q, q < W.heap.size → q ≠ w.heap.size → q ≠ w.heap.size + 1 → q ≠ g → W'.heap[q]? = W.heap[q]?) → TqR W' x') : Cpy w (W.setCell ⟨g, N.length * 3 + 2, none⟩ v) m p xs ab cb g aq cq (N ++ [x']) R := by
 have hg := h.ge
 obtain ⟨h1, h2, h3, h4⟩ := h.t h0
 have hK : ∀ V : World, (∀ q, q < (W.setCell ⟨g, N.length * 3 + 2, none⟩ v).heap.size → q ≠ w.heap.size → q ≠ w.heap.size + 1 → q ≠ g → V.heap[q]? = (W.setCell ⟨g, N.length * 3 + 2, none⟩ v).heap[q]?) → ∀ q, q < W.heap.size → q ≠ w.heap.size → q ≠ w.heap.size + 1 → q ≠ g → V.heap[q]? = W.heap[q]? := fun V hV q q1 q2 q3 q4 => (hV q (by simpa using q1) q2 q3 q4).trans (Below.heap_setCell _ _ _ _ q4)
 refine ⟨h.i.setOther (by omega) _ v, h.z.setOther (by omega) _ v, fun _ => ⟨h1, ?_, fun j => by simpa using h3 j, by simpa using h4⟩, h.ge, h.l, fun V hV => ⟨(h.n V (hK V hV)).1, fun t ht => ?_⟩, h.b.setCell (p := ⟨g, _, none⟩) (show w.heap.size ≤ g by omega) v⟩
 ·have h5 := rg_setc h2 (j := N.length * 3 + 2) (by rw [fm_len encT, List.length_append, List.length_cons]; omega) v
  rwa [fm_set encT N R x x' (by decide) v hx] at h5
 ·rcases List.mem_append.1 ht with ht | ht
  ·exact (h.n V (hK V hV)).2 t ht
  ·obtain rfl := List.mem_singleton.1 ht
   exact hn V (hK V hV)
end
theorem Cs.tq {w W : World} {id : Int} {nm : List UInt8} {l : List Pp} {a : Option Addr} {c : Nat} (h : Cs w W (.slice a l.length c) l) {V : World} (hV : ∀ q, w.heap.size ≤ q → q < W.heap.size → V.heap[q]? = W.heap[q]?) : TqR V ⟨id, nm, l, a, c⟩ :=
 ⟨(ro_keep h.o hV).rs, fun q hq => (((h.n q hq).1).keep hV).pt⟩
set_option maxRecDepth 100000 in
set_option maxHeartbeats 16000000 in
theorem Copy_any (m : Im) (p : Ip) (w : World) (hv : ImR w m p) (hw : Wf m 100000) : Calls Tryz.prog 27 #[imv m p] w fun e w' => ∃ p', e = .returned (imv m p') ∧ ImR w' m p' ∧ Below w.heap.size w w' := by
 have HV := Hd (fun W (h : Below w.heap.size w W) => hv.below h)
 have HNT : Hid (p.ts.length ≤ 100000) := Hd (by rw [hv.len]; exact hw.nt)
 have hnt := HNT.out
 have HME := Hd hv.e
 have HCB := Hd (fun W (h : Below w.heap.size w W) => cloneB_any m.br p.ab _ p.cb W rfl (hv.below h).b hw.nb)
 have HCT := Hd (fun W (h : Below w.heap.size w W) => cloneT_any p.ts p.aq _ p.cq W rfl (hv.below h).t HNT.out)
 have HCC := Hd (fun W (h : Below w.heap.size w W) => cloneC_any m.cf p.ac _ p.cc W rfl (hv.below h).c hw.nc)
 have HCD := Hd (fun W (h : Below w.heap.size w W) => cloneD_any m.dn p.ad _ p.cd W rfl (hv.below h).d hw.nd)
 have HCP := Hd (fun x (hx : x ∈ p.ts) W (h : Below w.heap.size w W) => copies_any x.ps _ W ((hv.below h).q x hx).ps (fun q hq => ⟨((hv.below h).q x hx).pt q hq, hv.wp hw hx hq⟩) (hv.np hw hx))
 have Hb : Hid (Bx ((w.alloc (.cells (List.toArray [Value.slice p.ab m.br.length p.cb, .slice p.aq p.ts.length p.cq, .slice p.ac m.cf.length p.cc, .slice p.ad m.dn.length p.cd, .int .i64 m.la]) 30)).alloc (.cells (List.toArray [Value.slice none 0 0, .slice none 0 0, .slice none 0 0, .slice none 0 0, .int .i64 0]) 30)) w.heap.size (iml m p) ∧ Bx ((w.alloc (.cells (List.toArray [Value.slice p.ab m.br.length p.cb, .slice p.aq p.ts.length p.cq, .slice p.ac m.cf.length p.cc, .slice p.ad m.dn.length p.cd, .int .i64 m.la]) 30)).alloc (.cells (List.toArray [Value.slice none 0 0, .slice none 0 0, .slice none 0 0, .slice none 0 0, .int .i64 0]) 30)) (w.heap.size + 1) imz ∧ Below w.heap.size w ((w.alloc (.cells (List.toArray [Value.slice p.ab m.br.length p.cb, .slice p.aq p.ts.length p.cq, .slice p.ac m.cf.length p.cc, .slice p.ad m.dn.length p.cd, .int .i64 m.la]) 30)).alloc (.cells (List.toArray [Value.slice none 0 0, .slice none 0 0, .slice none 0 0, .slice none 0 0, .int .i64 0]) 30))) := Hd (Bx.mk2 w (iml m p) imz 30 30 (Below.refl _ _))
 clear hv hw
 unfold imv
 go_enter Tryz.func27, Tryz.ntmps27
 go_upto_region 1 with fail
 generalize (w.alloc (.cells (List.toArray [Value.slice p.ab m.br.length p.cb, .slice p.aq p.ts.length p.cq, .slice p.ac m.cf.length p.cc, .slice p.ad m.dn.length p.cd, .int .i64 m.la]) 30)).alloc (.cells (List.toArray [Value.slice none 0 0, .slice none 0 0, .slice none 0 0, .slice none 0 0, .int .i64 0]) 30) = X at Hb ⊢
 have HI := Hd Hb.out.1
 have HZ := Hd Hb.out.2.1
 have HB := Hd Hb.out.2.2
 clear Hb
 have HXS : Hid (w.heap.size + 1 + 1 ≤ X.heap.size) := Hd HZ.out.l
 obtain ⟨i0, i1, i2, i3, i4⟩ := HI.out.im
 have f0 := HI.out.f 0 (by simp [iml])
 go_upto_region 2 with (first | (go_at_call 53; refine (HCB.out _ HB.out).mono ?_; rintro e w1 ⟨v1, rfl, hro, hb1⟩; obtain ⟨ab, cb, rfl⟩ := hro.form; have HR1 := Hd hro; have HI1 := Hd (HI.out.below hb1); have HZ1 := Hd (HZ.out.below hb1); have HB1 := Hd (bt HB.out hb1); have HS1 := Hd hb1.size; clear hro hb1 HCB i0 i1 i2 i3 i4 f0; obtain ⟨i0, i1, i2, i3, i4⟩ := HI1.out.im; have f0 := HI1.out.f 0 (by simp [iml])))
 clear i0 i1 i2 i3 i4 f0 HI HZ HB
 have HI2 := Hd (HI1.out.setCell 0 (by simp [iml]) (.slice ab m.br.length cb))
 have HZ2 := Hd (HZ1.out.setOther (show ¬ w.heap.size + 1 = w.heap.size by omega) 0 (.slice ab m.br.length cb))
 have HB2 := Hd (HB1.out.setCell (p := ⟨w.heap.size, 0, none⟩) (Nat.le_refl _) (.slice ab m.br.length cb))
 have HR2 := Hd (HR1.out.keepG (W' := w1.setCell ⟨w.heap.size, 0, none⟩ (.slice ab m.br.length cb)) (fun g hg => Below.heap_setCell _ _ _ _ (show ¬ g = w.heap.size by have := HXS.out; omega)))
 have HS2 : Hid (X.heap.size ≤ (w1.setCell ⟨w.heap.size, 0, none⟩ (.slice ab m.br.length cb)).heap.size) := Hd (by simpa using HS1.out)
 simp only [iml, List.set] at HI2
 have HRB : Hid (∀ q, (Value.slice ab m.br.length cb).ownBlock = some q → q < (w1.setCell ⟨w.heap.size, 0, none⟩ (.slice ab m.br.length cb)).heap.size) := Hd (fun q hq => (HR2.out.lt q hq).2)
 clear HI1 HZ1 HB1 HR1 HS1
 generalize w1.setCell ⟨w.heap.size, 0, none⟩ (.slice ab m.br.length cb) = Z1 at HI2 HZ2 HB2 HR2 HS2 HRB ⊢
 obtain ⟨i0, i1, i2, i3, i4⟩ := HI2.out.c5
 have f1 := HI2.out.f 1 (by simp)
 go_upto_region 3 with (first | (go_at_call 54; refine (HCT.out _ HB2.out).mono ?_; rintro e w2 ⟨v2, rfl, hro, hb2⟩; obtain ⟨aq, cq, rfl⟩ := hro.form; have HT3 := Hd hro; have HI3 := Hd (HI2.out.below hb2); have HZ3 := Hd (HZ2.out.below hb2); have HB3 := Hd (bt HB2.out hb2); have HR3 := Hd (HR2.out.below hb2); have HS3 := Hd hb2.size; clear hro hb2 HCT i0 i1 i2 i3 i4 f1; obtain ⟨i0, i1, i2, i3, i4⟩ := HI3.out.c5; have f1 := HI3.out.f 1 (by simp)))
 clear i0 i1 i2 i3 i4 f1 HI2 HZ2 HB2 HR2
 have HI4 := Hd (HI3.out.setCell 1 (by simp) (.slice aq p.ts.length cq))
 have HZ4 := Hd (HZ3.out.setOther (show ¬ w.heap.size + 1 = w.heap.size by omega) 1 (.slice aq p.ts.length cq))
 have HB4 := Hd (HB3.out.setCell (p := ⟨w.heap.size, 1, none⟩) (Nat.le_refl _) (.slice aq p.ts.length cq))
 have HR4 := Hd (HR3.out.keepG (W' := w2.setCell ⟨w.heap.size, 1, none⟩ (.slice aq p.ts.length cq)) (fun g hg => Below.heap_setCell _ _ _ _ (show ¬ g = w.heap.size by have := HXS.out; omega)))
 have HT4 := Hd (HT3.out.keepG (W' := w2.setCell ⟨w.heap.size, 1, none⟩ (.slice aq p.ts.length cq)) (fun g hg => Below.heap_setCell _ _ _ _ (show ¬ g = w.heap.size by have := HXS.out; have := HS2.out; omega)))
 have HS4 : Hid (Z1.heap.size ≤ (w2.setCell ⟨w.heap.size, 1, none⟩ (.slice aq p.ts.length cq)).heap.size) := Hd (by simpa using HS3.out)
 have HRL : Hid (∀ q, (Value.slice ab m.br.length cb).ownBlock = some q → X.heap.size ≤ q ∧ q < Z1.heap.size) := Hd (fun q hq => ⟨(HR3.out.lt q hq).1, HRB.out q hq⟩)
 simp only [List.set] at HI4
 clear HI3 HZ3 HB3 HR3 HS3 HT3
 generalize w2.setCell ⟨w.heap.size, 1, none⟩ (.slice aq p.ts.length cq) = Z2 at HI4 HZ4 HB4 HR4 HT4 HS4 ⊢
 obtain ⟨g, HC⟩ : ∃ g, Hid (Cpy w Z2 m p [Value.slice ab m.br.length cb, .slice aq p.ts.length cq, .slice p.ac m.cf.length p.cc, .slice p.ad m.dn.length p.cd, .int .i64 m.la] ab cb g aq cq [] p.ts) := by
  have hcq : p.ts.length ≤ cq := HT4.out.rs.cap.2
  rcases HT4.out.2 with ⟨e, h0⟩ | ⟨g, cap, cur, e, h1, h2, h3⟩
  ·refine ⟨Z2.heap.size, Hd ⟨HI4.out, HZ4.out, fun h => by omega, by have := HXS.out; have := HS2.out; have := HS4.out; omega, hcq, fun W' hW => ⟨?_, fun t ht => by cases ht⟩, HB4.out⟩⟩
   exact (HR4.out.keepB (fun q hq => hW q (by have := (HRL.out q hq).2; have := HS4.out; omega) (by have := (HRL.out q hq).1; have := HXS.out; omega) (by have := (HRL.out q hq).1; have := HXS.out; omega) (by have := (HRL.out q hq).2; have := HS4.out; omega))).rs
  ·have hgl : g < Z2.heap.size := (Array.getElem?_eq_some_iff.1 h2).1
   refine ⟨g, Hd ⟨HI4.out, HZ4.out, fun h => ?_, by have := HXS.out; have := HS2.out; omega, hcq, fun W' hW => ⟨?_, fun t ht => by cases ht⟩, HB4.out⟩⟩
   ·obtain ⟨b, o, e1, e2⟩ := HT4.out.rs.rg h
    injection e with e3 e4 e5
    rw [e3] at e1
    cases e1
    exact ⟨e3, by simpa using e2, fun j => by simp [World.frozen?, h2], hgl⟩
   ·exact (HR4.out.keepB (fun q hq => hW q (by have := (HRL.out q hq).2; have := HS4.out; omega) (by have := (HRL.out q hq).1; have := HXS.out; omega) (by have := (HRL.out q hq).1; have := HXS.out; omega) (by have := (HRL.out q hq).2; omega))).rs
 clear HI4 HZ4 HB4 HR4 HT4 HS4 HRL HS2 HXS HRB
 obtain ⟨i0, i1, i2, i3, i4⟩ := HC.out.i.c5
 go_upto_region 4 with fail
 clear i0 i1 i2 i3 i4
 go_loopw [16] (fun i W => ∃ (N : List Tq), N.length ≤ p.ts.length ∧ i = .int .i64 (N.length : Int) ∧ Cpy w W m p [Value.slice ab m.br.length cb, .slice aq p.ts.length cq, .slice p.ac m.cf.length p.cc, .slice p.ad m.dn.length p.cd, .int .i64 m.la] ab cb g aq cq N (p.ts.drop N.length) ∧ Hid (N.map Tq.tp = (p.ts.take N.length).map Tq.tp)) (fun i _ => p.ts.length - (ivY i).toNat)
 case atStart => exact ⟨[], Nat.zero_le _, rfl, HC.out, Hd rfl⟩
 case round =>
  clear HC
  obtain ⟨N, hk, rfl, hc, HQ⟩ := hrel
  have HC := Hd hc
  clear hc
  obtain ⟨k, hkk⟩ : ∃ k, k = N.length := ⟨_, rfl⟩
  have HKK := Hd hkk
  rw [← hkk] at HC HQ hk ⊢
  clear hkk
  by_cases hlt : k < p.ts.length
  ·have hltI : (k : Int) < (p.ts.length : Int) := by omega
   have h0 : 0 < p.ts.length := by omega
   have HH0 := Hd h0
   obtain ⟨ha, hr, hfz, hgl⟩ := HC.out.t h0
   subst ha
   have HXI := Hd (List.getElem_mem hlt)
   have HTK : Hid ((p.ts.take (k + 1)).map Tq.tp = N.map Tq.tp ++ [(p.ts[k]).tp]) := Hd (by rw [List.take_succ_eq_append_getElem hlt, List.map_append, HQ.out]; rfl)
   rw [List.drop_eq_getElem_cons hlt] at hr HC
   generalize p.ts[k] = x at hr HC HXI HTK
   have HXC : Hid (wr.rangeAt g (k * 3) [Value.int .i64 x.id, .string ⟨x.nm.toArray⟩, .slice x.a x.ps.length x.c]) := Hd (by
    rw [List.flatMap_append, List.flatMap_cons] at hr
    have h2 := (rg_app (rg_app hr).2).1
    rw [fm_len encT, ← HKK.out, Nat.zero_add] at h2
    exact h2)
   clear h0 hr hfz hgl
   go_upto_region 6 with (first | (refine wpList_load_mid rfl _ _ rfl _ _ rfl _ _ HXC.out Tryz.underlying38 rfl (by kernel_rfl) ?_))
   have HC1 := Hd (HC.out.below (bA wr (.cells (List.toArray [Value.int .i64 x.id, .string ⟨x.nm.toArray⟩, .slice x.a x.ps.length x.c]) 38)))
   have HX1 := Hd (Bx.new wr [Value.int .i64 x.id, .string ⟨x.nm.toArray⟩, .slice x.a x.ps.length x.c] 38)
   have HGN : Hid (g < wr.heap.size) := Hd ((HC.out.t HH0.out).2.2.2)
   clear HC HXC
   generalize wr.alloc (.cells (List.toArray [Value.int .i64 x.id, .string ⟨x.nm.toArray⟩, .slice x.a x.ps.length x.c]) 38) = V at HC1 HX1 ⊢
   generalize wr.heap.size = nb at HX1 HGN ⊢
   have HCX := Hd (HCP.out x HXI.out)
   clear HXI
   have hdw : Below V.heap.size V V.drew := (Below.refl _ _).drew
   refine wp_region_held_drew (S := fun W => Bx W w.heap.size [Value.slice ab m.br.length cb, .slice (some ⟨g, 0, none⟩) p.ts.length cq, .slice p.ac m.cf.length p.cc, .slice p.ad m.dn.length p.cd, .int .i64 m.la] ∧ Bx W nb [Value.int .i64 x.id, .string ⟨x.nm.toArray⟩, .slice x.a x.ps.length x.c]) (by kernel_rfl) ⟨HC1.out.i.below hdw, HX1.out.below hdw⟩ (fun hHeld => ?_)
   have HC4 := Hd (HC1.out.below hdw)
   generalize V.drew = V4 at HC4 hHeld ⊢
   clear hdw HC1 HX1
   refine tk 0 21 (.pointer (some ⟨w.heap.size, 1, none⟩)) rfl rfl hHeld ?_
   simp only [Act.put, zA, zB, zC]
   refine tky 1 22 (.slice (some ⟨g, 0, none⟩) p.ts.length cq) rfl rfl (Or.inl ⟨by rfl, by intro w hSw; have h1 := hSw.1.at 1 _ rfl; go_simp⟩) hHeld ?_
   simp only [Act.put, zA, zB, zC]
   refine tk 2 23 (.int .i64 (k : Int)) rfl rfl hHeld ?_
   simp only [Act.put, zA, zB, zC]
   refine tk 3 24 (.pointer (some ⟨nb, 2, none⟩)) rfl rfl hHeld ?_
   simp only [Act.put, zA, zB, zC]
   refine tky 4 25 (.slice x.a x.ps.length x.c) rfl rfl (Or.inl ⟨by rfl, by intro w hSw; have h1 := hSw.2.at 2 _ rfl; go_simp⟩) hHeld ?_
   simp only [Act.put, zA, zB, zC]
   refine wpAnyH_ready (rs := [5]) (by kernel_rfl) (by simp) ?_
   refine AllReadyH.cons (o := _) rfl (fun K hK => ?_) AllReadyH.nil
   have HGV : Hid (g < V4.heap.size) := Hd ((HC4.out.t HH0.out).2.2.2)
   go_simp
   go_at_call 55
   refine (HCX.out V4 HC4.out.b).mono ?_
   rintro e w6 ⟨l', a', c', rfl, hl, hcs⟩
   have HCS := Hd hcs
   have HLL := Hd hl
   clear hl hcs
   go_wp2_with fail
   refine hK.out _ _ ⟨hHeld.1.below HCS.out.b, hHeld.2.below HCS.out.b⟩ (fun hHeld1 => ?_)
   clear hK K hHeld
   have hHeld := hHeld1
   clear hHeld1
   refine tk 6 27 (.pointer (some ⟨g, k * 3, none⟩)) rfl rfl hHeld ?_
   simp only [Act.put, zA, zB, zC]
   refine tk 7 28 (.pointer (some ⟨g, k * 3 + 2, none⟩)) rfl rfl hHeld ?_
   simp only [Act.put, zA, zB, zC]
   have HX' : Hid (tpc (⟨x.id, x.nm, l', a', c'⟩ : Tq) = (tpc x).set 2 (.slice a' l'.length c')) := Hd rfl
   have HC5 := Hd (HC4.out.below HCS.out.b)
   have HC6 := Hd (HC5.out.setT (x' := (⟨x.id, x.nm, l', a', c'⟩ : Tq)) HH0.out HX'.out (fun W' hW => HCS.out.tq (fun q q1 q2 => hW q q2 (by have := HC4.out.z.l; omega) (by have := HC4.out.z.l; omega) (by have := HGV.out; omega))))
   rw [← HKK.out] at HC6
   refine wpAnyH_ready (rs := [8]) (by kernel_rfl) (by simp) ?_
   refine AllReadyH.cons (o := _) rfl (fun K hK => ?_) AllReadyH.nil
   obtain ⟨_, s2, s3, _⟩ := HC5.out.t HH0.out
   have u0 : w6.cell? ⟨g, k * 3 + 2, none⟩ = some (.slice x.a x.ps.length x.c) := by
    rw [List.flatMap_append, List.flatMap_cons] at s2
    have h2 := (rg_app (rg_app s2).2).1
    rw [fm_len encT, ← HKK.out, Nat.zero_add] at h2
    exact h2 2 _ rfl
   have f0 := s3 (k * 3 + 2)
   clear s2 s3
   go_simp
   clear u0 f0
   refine hK.out _ _ ⟨hHeld.1.setOther (by have := HC4.out.ge; omega) _ _, hHeld.2.setOther (by have := HGN.out; omega) _ _⟩ (fun hHeld1 => ?_)
   clear hK K hHeld
   have hHeld := hHeld1
   clear hHeld1
   refine wpAnyH_done (by kernel_rfl) ?_ _
   clear hHeld
   obtain ⟨N2, hN2⟩ : ∃ L, L = N ++ [(⟨x.id, x.nm, l', a', c'⟩ : Tq)] := ⟨_, rfl⟩
   have HNL : Hid (N2.length = k + 1) := Hd (by rw [hN2, List.length_append, ← HKK.out]; rfl)
   have HNM : Hid (N2.map Tq.tp = (p.ts.take N2.length).map Tq.tp) := Hd (by rw [HNL.out, HTK.out, hN2, List.map_append, List.map_cons, List.map_nil]; show _ ++ [(⟨x.id, x.nm, l'.map (·.1)⟩ : Tp)] = _; rw [HLL.out]; rfl)
   rw [← hN2] at HC6
   clear hN2
   have HC7 : Hid (Cpy w (w6.setCell ⟨g, k * 3 + 2, none⟩ (.slice a' l'.length c')) m p [Value.slice ab m.br.length cb, .slice (some ⟨g, 0, none⟩) p.ts.length cq, .slice p.ac m.cf.length p.cc, .slice p.ad m.dn.length p.cd, .int .i64 m.la] ab cb g (some ⟨g, 0, none⟩) cq N2 (p.ts.drop N2.length)) := Hd (by rw [HNL.out]; exact HC6.out)
   go_wp2_with fail
   go_roundw
   case rel => exact ⟨N2, by have := HNL.out; omega, by rw [HNL.out]; go_num, HC7.out, HNM⟩
   case measure => simp [ivY]; omega
  ·obtain rfl : k = p.ts.length := by omega
   have HNE : Hid (N.map Tq.tp = m.ts) := Hd (by rw [HQ.out, List.take_length, HME.out])
   rw [List.drop_length] at HC
   have HNL2 : Hid (N.length = p.ts.length) := Hd HKK.out.symm
   have HCA := HC
   clear HC HQ HCP
   obtain ⟨i0, i1, i2, i3, i4⟩ := HCA.out.i.c5
   have f2 := HCA.out.i.f 2 (by simp)
   go_upto_region 9 with (first | (go_at_call 56; refine (HCC.out _ HCA.out.b).mono ?_; rintro e w3 ⟨v2, rfl, hro, hb⟩; obtain ⟨ac, cc, rfl⟩ := hro.form; have HRB := Hd hro; have HCB := Hd (HCA.out.below hb); have HSB := Hd hb.size; clear hro hb HCC i0 i1 i2 i3 i4 f2; obtain ⟨i0, i1, i2, i3, i4⟩ := HCB.out.i.c5; have f2 := HCB.out.i.f 2 (by simp)))
   clear i0 i1 i2 i3 i4 f2
   have HCD2 := Hd (HCB.out.setI 2 (by simp) (.slice ac m.cf.length cc))
   have HRD := Hd (HRB.out.keepG (W' := w3.setCell ⟨w.heap.size, 2, none⟩ (.slice ac m.cf.length cc)) (fun q hq => Below.heap_setCell _ _ _ _ (show ¬ q = w.heap.size by have := HCA.out.z.l; omega)))
   have HSD : Hid (wr.heap.size ≤ (w3.setCell ⟨w.heap.size, 2, none⟩ (.slice ac m.cf.length cc)).heap.size) := Hd (by simpa using HSB.out)
   simp only [List.set] at HCD2
   clear HCB HRB HSB
   generalize w3.setCell ⟨w.heap.size, 2, none⟩ (.slice ac m.cf.length cc) = Z3 at HCD2 HRD HSD ⊢
   obtain ⟨i0, i1, i2, i3, i4⟩ := HCD2.out.i.c5
   have f3 := HCD2.out.i.f 3 (by simp)
   go_upto_region 10 with (first | (go_at_call 57; refine (HCD.out _ HCD2.out.b).mono ?_; rintro e w4 ⟨v3, rfl, hro, hb⟩; obtain ⟨ad, cd, rfl⟩ := hro.form; have Hr := Hd hro; have HB45 := Hd hb; have HCE := Hd (HCD2.out.below hb); have HSE := Hd hb.size; clear hro hb HCD i0 i1 i2 i3 i4 f3; obtain ⟨i0, i1, i2, i3, i4⟩ := HCE.out.i.c5; have f3 := HCE.out.i.f 3 (by simp)))
   clear i0 i1 i2 i3 i4 f3
   have HCF := Hd (HCE.out.setI 3 (by simp) (.slice ad m.dn.length cd))
   have HRF := Hd (Hr.out.keepG (W' := w4.setCell ⟨w.heap.size, 3, none⟩ (.slice ad m.dn.length cd)) (fun q hq => Below.heap_setCell _ _ _ _ (show ¬ q = w.heap.size by have := HCD2.out.z.l; omega)))
   have HRG := Hd ((HRD.out.below (HB45.out)).keepG (W' := w4.setCell ⟨w.heap.size, 3, none⟩ (.slice ad m.dn.length cd)) (fun q hq => Below.heap_setCell _ _ _ _ (show ¬ q = w.heap.size by have := HCA.out.z.l; omega)))
   have HSF : Hid (Z3.heap.size ≤ (w4.setCell ⟨w.heap.size, 3, none⟩ (.slice ad m.dn.length cd)).heap.size) := Hd (by simpa using HSE.out)
   simp only [List.set] at HCF
   clear HCE Hr HSE
   generalize w4.setCell ⟨w.heap.size, 3, none⟩ (.slice ad m.dn.length cd) = Z4 at HCF HRF HRG HSF ⊢
   rw [← HNL2.out] at HCF
   go_wp2_with (first | (refine wpList_load_mid rfl _ _ rfl _ _ rfl _ _ HCF.out.i.c Tryz.underlying30 rfl (by kernel_rfl) ?_) | (refine wS rfl _ _ _ rfl _ _ rfl HCF.out.z (iml m ⟨ab, aq, ac, ad, cb, cq, cc, cd, N⟩) rfl rfl (by kernel_rfl) rfl ?_; intro W3 hz hk hb hp; have HZF := Hd hz; have HBF := Hd (hb _ _ (show w.heap.size ≤ w.heap.size + 1 by omega) HCF.out.b); have HPF := Hd hp; have HSZ := Hd (hb 0 _ (Nat.zero_le _) (Below.refl _ _)).size; clear hz hk hb hp))
   obtain ⟨q0, q1, q2, q3, q4⟩ := HZF.out.im
   have HNN := HCF.out.n W3 (fun q q1 q2 q3 _ => HPF.out q q3)
   have HTR : Rs tpc W3 (.slice aq N.length cq) N := ⟨aq, cq, rfl, by rw [HNL2.out]; exact HCF.out.l, fun h => by
    obtain ⟨s1, s2, _, _⟩ := HCF.out.t (by rw [← HNL2.out]; exact h)
    rw [List.append_nil] at s2
    exact ⟨g, 0, s1, fun j u hu => (World.cell?_of_block (HPF.out _ (by have := HCF.out.ge; show ¬ g = w.heap.size + 1; omega))).trans (s2 j u hu)⟩⟩
   have HRC := (HRG.out.keepG (fun q hq => HPF.out q (by have := HCA.out.z.l; omega))).rs
   have HRDD := (HRF.out.keepG (fun q hq => HPF.out q (by have := HCD2.out.z.l; omega))).rs
   exact bodyPost_ret (v := .agg (iml m ⟨ab, aq, ac, ad, cb, cq, cc, cd, N⟩).toArray) (by simp [results, Tryz.results27, go_sem, q0, q1, q2, q3, q4, iml]) rfl ⟨⟨ab, aq, ac, ad, cb, cq, cc, cd, N⟩, rfl, ⟨HNN.1, HTR, HNN.2, HNE.out, HRC, HRDD⟩, HBF.out⟩
end Go.Proofs.YtlggjgapdpkhiaaGreat
namespace Go.Proofs.YtlggjgapdpkhiaaGreat
open Go.RowKit
set_option maxRecDepth 100000
set_option maxHeartbeats 16000000
theorem samP_refl (p : Pt) : samP p p = true := by
 unfold samP
 simp
structure Tb (w W : World) (xs ys : List Value) : Prop where
 a : Bx W w.heap.size xs
 c : Bx W (w.heap.size + 1) ys
 b : Below w.heap.size w W
theorem Tb.below {w W W' : World} {xs ys : List Value} (h : Tb w W xs ys) (hb : Below W.heap.size W W') : Tb w W' xs ys := ⟨h.a.below hb, h.c.below hb, bt h.b hb⟩
theorem Tb.drewN {w W : World} {xs ys : List Value} (h : Tb w W xs ys) (n : Nat) : Tb w (W.drewN n) xs ys := ⟨h.a.drewN n, h.c.drewN n, ⟨h.b.os, h.b.tape, h.b.output, h.b.size, h.b.block⟩⟩
theorem Tb.mk' (w : World) (xs ys : List Value) (t u : TypeId) : Tb w ((w.alloc (.cells xs.toArray t)).alloc (.cells ys.toArray u)) xs ys := by
 obtain ⟨h1, h2, h3⟩ := Bx.mk2 w xs ys t u (Below.refl _ _)
 exact ⟨h1, h2, h3⟩
theorem eqI_bq (a b : List Int) : eqI a b = (a == b) := by
 unfold eqI
 by_cases h : a = b
 ·simp [h]
 ·simp [h]
theorem rsamep_any (p q : Pp) (w : World) (hp : PtR w p) (hq : PtR w q) (hl : WfP p.1) : Calls Tryz.prog 19 #[.agg (ptc p).toArray, .agg (ptc q).toArray] w fun e w' => e = .returned (.bool (samP p.1 q.1)) ∧ Below w.heap.size w w' := by
 have HR0 : Hid (Tb w ((w.alloc (.cells (List.toArray [Value.slice p.2.a0 p.1.ids.length p.2.c0, .slice p.2.a1 p.1.isr.length p.2.c1, .int .i64 p.1.ld, .int .i64 p.1.ep, .slice p.2.a2 p.1.ad.length p.2.c2, .slice p.2.a3 p.1.dr.length p.2.c3]) 44)).alloc (.cells (List.toArray [Value.slice q.2.a0 q.1.ids.length q.2.c0, .slice q.2.a1 q.1.isr.length q.2.c1, .int .i64 q.1.ld, .int .i64 q.1.ep, .slice q.2.a2 q.1.ad.length q.2.c2, .slice q.2.a3 q.1.dr.length q.2.c3]) 44)) (ptc p) (ptc q)) := Hd (Tb.mk' w (ptc p) (ptc q) 44 44)
 have HI0 := Hd (fun W (h : Below w.heap.size w W) => ints_any _ _ p.1.ids q.1.ids W (hp.below h).s0 (hq.below h).s0 (Nat.le_trans hl.l0 (by decide)))
 have HI1 := Hd (fun W (h : Below w.heap.size w W) => ints_any _ _ p.1.isr q.1.isr W (hp.below h).s1 (hq.below h).s1 (Nat.le_trans hl.l1 (by decide)))
 have HI2 := Hd (fun W (h : Below w.heap.size w W) => ints_any _ _ p.1.ad q.1.ad W (hp.below h).s2 (hq.below h).s2 (Nat.le_trans hl.l2 (by decide)))
 have HI3 := Hd (fun W (h : Below w.heap.size w W) => ints_any _ _ p.1.dr q.1.dr W (hp.below h).s3 (hq.below h).s3 (Nat.le_trans hl.l3 (by decide)))
 rw [eqI_bq] at HI0 HI1 HI2 HI3
 clear hp hq hl
 obtain ⟨R, hR⟩ : ∃ R, R = samP p.1 q.1 := ⟨_, rfl⟩
 rw [← hR]
 unfold samP at hR
 unfold ptc at *
 go_enter Tryz.func19, Tryz.ntmps19
 go_upto_region 1 with fail
 generalize (w.alloc (.cells (List.toArray [Value.slice p.2.a0 p.1.ids.length p.2.c0, .slice p.2.a1 p.1.isr.length p.2.c1, .int .i64 p.1.ld, .int .i64 p.1.ep, .slice p.2.a2 p.1.ad.length p.2.c2, .slice p.2.a3 p.1.dr.length p.2.c3]) 44)).alloc (.cells (List.toArray [Value.slice q.2.a0 q.1.ids.length q.2.c0, .slice q.2.a1 q.1.isr.length q.2.c1, .int .i64 q.1.ld, .int .i64 q.1.ep, .slice q.2.a2 q.1.ad.length q.2.c2, .slice q.2.a3 q.1.dr.length q.2.c3]) 44) = X at HR0 ⊢
 have HR := Hd HR0.out
 clear HR0
 have p0 := HR.out.a.at 0 _ rfl
 have p1 := HR.out.a.at 1 _ rfl
 have p2 := HR.out.a.at 2 _ rfl
 have p3 := HR.out.a.at 3 _ rfl
 have p4 := HR.out.a.at 4 _ rfl
 have p5 := HR.out.a.at 5 _ rfl
 have q0 := HR.out.c.at 0 _ rfl
 have q1 := HR.out.c.at 1 _ rfl
 have q2 := HR.out.c.at 2 _ rfl
 have q3 := HR.out.c.at 3 _ rfl
 have q4 := HR.out.c.at 4 _ rfl
 have q5 := HR.out.c.at 5 _ rfl
 cases e1 : p.1.ld == q.1.ld with
 | false =>
  rw [e1] at hR
  have n1 : (p.1.ld != q.1.ld) = true := by simpa using e1
  clear e1
  have HRR := Hd hR
  clear hR
  go_wp2_with (first | fail)
  go_ret
  exact ⟨by rw [HRR.out]; rfl, HR.out.b⟩
 | true =>
  rw [e1] at hR
  have n1 : (p.1.ld != q.1.ld) = false := by simpa using e1
  clear e1
  cases e2 : p.1.ep == q.1.ep with
  | false =>
   rw [e2] at hR
   have n2 : (p.1.ep != q.1.ep) = true := by simpa using e2
   clear e2
   have HRR := Hd hR
   clear hR
   go_wp2_with (first | fail)
   go_ret
   exact ⟨by rw [HRR.out]; rfl, HR.out.b⟩
  | true =>
   rw [e2] at hR
   have n2 : (p.1.ep != q.1.ep) = false := by simpa using e2
   clear e2
   cases f0 : p.1.ids == q.1.ids with
   | false =>
    rw [f0] at hR HI0
    clear f0
    have HRR := Hd hR
    clear hR
    go_wp2_with (first | (go_at_call 47; with_reducible refine (HI0.out _ HR.out.b).mono ?_; rintro e wz ⟨rfl, hbz⟩; replace HR := Hd (HR.out.below hbz.below); have p0 := HR.out.a.at 0 _ rfl; have p1 := HR.out.a.at 1 _ rfl; have p4 := HR.out.a.at 4 _ rfl; have p5 := HR.out.a.at 5 _ rfl; have q0 := HR.out.c.at 0 _ rfl; have q1 := HR.out.c.at 1 _ rfl; have q4 := HR.out.c.at 4 _ rfl; have q5 := HR.out.c.at 5 _ rfl; clear hbz))
    go_ret
    exact ⟨by rw [HRR.out]; rfl, HR.out.b⟩
   | true =>
    rw [f0] at hR HI0
    clear f0
    cases f1 : p.1.isr == q.1.isr with
    | false =>
     rw [f1] at hR HI1
     clear f1
     have HRR := Hd hR
     clear hR
     go_wp2_with (first | (go_at_call 47; with_reducible refine (HI0.out _ HR.out.b).mono ?_; rintro e wz ⟨rfl, hbz⟩; replace HR := Hd (HR.out.below hbz.below); have p0 := HR.out.a.at 0 _ rfl; have p1 := HR.out.a.at 1 _ rfl; have p4 := HR.out.a.at 4 _ rfl; have p5 := HR.out.a.at 5 _ rfl; have q0 := HR.out.c.at 0 _ rfl; have q1 := HR.out.c.at 1 _ rfl; have q4 := HR.out.c.at 4 _ rfl; have q5 := HR.out.c.at 5 _ rfl; clear hbz) | (go_at_call 47; with_reducible refine (HI1.out _ HR.out.b).mono ?_; rintro e wz ⟨rfl, hbz⟩; replace HR := Hd (HR.out.below hbz.below); have p0 := HR.out.a.at 0 _ rfl; have p1 := HR.out.a.at 1 _ rfl; have p4 := HR.out.a.at 4 _ rfl; have p5 := HR.out.a.at 5 _ rfl; have q0 := HR.out.c.at 0 _ rfl; have q1 := HR.out.c.at 1 _ rfl; have q4 := HR.out.c.at 4 _ rfl; have q5 := HR.out.c.at 5 _ rfl; clear hbz))
     go_ret
     exact ⟨by rw [HRR.out]; rfl, HR.out.b⟩
    | true =>
     rw [f1] at hR HI1
     clear f1
     cases f2 : p.1.ad == q.1.ad with
     | false =>
      rw [f2] at hR HI2
      clear f2
      have HRR := Hd hR
      clear hR
      go_wp2_with (first | (go_at_call 47; with_reducible refine (HI0.out _ HR.out.b).mono ?_; rintro e wz ⟨rfl, hbz⟩; replace HR := Hd (HR.out.below hbz.below); have p0 := HR.out.a.at 0 _ rfl; have p1 := HR.out.a.at 1 _ rfl; have p4 := HR.out.a.at 4 _ rfl; have p5 := HR.out.a.at 5 _ rfl; have q0 := HR.out.c.at 0 _ rfl; have q1 := HR.out.c.at 1 _ rfl; have q4 := HR.out.c.at 4 _ rfl; have q5 := HR.out.c.at 5 _ rfl; clear hbz) | (go_at_call 47; with_reducible refine (HI1.out _ HR.out.b).mono ?_; rintro e wz ⟨rfl, hbz⟩; replace HR := Hd (HR.out.below hbz.below); have p0 := HR.out.a.at 0 _ rfl; have p1 := HR.out.a.at 1 _ rfl; have p4 := HR.out.a.at 4 _ rfl; have p5 := HR.out.a.at 5 _ rfl; have q0 := HR.out.c.at 0 _ rfl; have q1 := HR.out.c.at 1 _ rfl; have q4 := HR.out.c.at 4 _ rfl; have q5 := HR.out.c.at 5 _ rfl; clear hbz) | (go_at_call 47; with_reducible refine (HI2.out _ HR.out.b).mono ?_; rintro e wz ⟨rfl, hbz⟩; replace HR := Hd (HR.out.below hbz.below); have p0 := HR.out.a.at 0 _ rfl; have p1 := HR.out.a.at 1 _ rfl; have p4 := HR.out.a.at 4 _ rfl; have p5 := HR.out.a.at 5 _ rfl; have q0 := HR.out.c.at 0 _ rfl; have q1 := HR.out.c.at 1 _ rfl; have q4 := HR.out.c.at 4 _ rfl; have q5 := HR.out.c.at 5 _ rfl; clear hbz))
      go_ret
      exact ⟨by rw [HRR.out]; rfl, HR.out.b⟩
     | true =>
      rw [f2] at hR HI2
      clear f2
      cases f3 : p.1.dr == q.1.dr with
      | false =>
       rw [f3] at hR HI3
       clear f3
       have HRR := Hd hR
       clear hR
       go_wp2_with (first | (go_at_call 47; with_reducible refine (HI0.out _ HR.out.b).mono ?_; rintro e wz ⟨rfl, hbz⟩; replace HR := Hd (HR.out.below hbz.below); have p0 := HR.out.a.at 0 _ rfl; have p1 := HR.out.a.at 1 _ rfl; have p4 := HR.out.a.at 4 _ rfl; have p5 := HR.out.a.at 5 _ rfl; have q0 := HR.out.c.at 0 _ rfl; have q1 := HR.out.c.at 1 _ rfl; have q4 := HR.out.c.at 4 _ rfl; have q5 := HR.out.c.at 5 _ rfl; clear hbz) | (go_at_call 47; with_reducible refine (HI1.out _ HR.out.b).mono ?_; rintro e wz ⟨rfl, hbz⟩; replace HR := Hd (HR.out.below hbz.below); have p0 := HR.out.a.at 0 _ rfl; have p1 := HR.out.a.at 1 _ rfl; have p4 := HR.out.a.at 4 _ rfl; have p5 := HR.out.a.at 5 _ rfl; have q0 := HR.out.c.at 0 _ rfl; have q1 := HR.out.c.at 1 _ rfl; have q4 := HR.out.c.at 4 _ rfl; have q5 := HR.out.c.at 5 _ rfl; clear hbz) | (go_at_call 47; with_reducible refine (HI2.out _ HR.out.b).mono ?_; rintro e wz ⟨rfl, hbz⟩; replace HR := Hd (HR.out.below hbz.below); have p0 := HR.out.a.at 0 _ rfl; have p1 := HR.out.a.at 1 _ rfl; have p4 := HR.out.a.at 4 _ rfl; have p5 := HR.out.a.at 5 _ rfl; have q0 := HR.out.c.at 0 _ rfl; have q1 := HR.out.c.at 1 _ rfl; have q4 := HR.out.c.at 4 _ rfl; have q5 := HR.out.c.at 5 _ rfl; clear hbz) | (go_at_call 47; with_reducible refine (HI3.out _ HR.out.b).mono ?_; rintro e wz ⟨rfl, hbz⟩; replace HR := Hd (HR.out.below hbz.below); have p0 := HR.out.a.at 0 _ rfl; have p1 := HR.out.a.at 1 _ rfl; have p4 := HR.out.a.at 4 _ rfl; have p5 := HR.out.a.at 5 _ rfl; have q0 := HR.out.c.at 0 _ rfl; have q1 := HR.out.c.at 1 _ rfl; have q4 := HR.out.c.at 4 _ rfl; have q5 := HR.out.c.at 5 _ rfl; clear hbz))
       go_ret
       exact ⟨by rw [HRR.out]; rfl, HR.out.b⟩
      | true =>
       rw [f3] at hR HI3
       clear f3
       have HRR := Hd hR
       clear hR
       go_wp2_with (first | (go_at_call 47; with_reducible refine (HI0.out _ HR.out.b).mono ?_; rintro e wz ⟨rfl, hbz⟩; replace HR := Hd (HR.out.below hbz.below); have p0 := HR.out.a.at 0 _ rfl; have p1 := HR.out.a.at 1 _ rfl; have p4 := HR.out.a.at 4 _ rfl; have p5 := HR.out.a.at 5 _ rfl; have q0 := HR.out.c.at 0 _ rfl; have q1 := HR.out.c.at 1 _ rfl; have q4 := HR.out.c.at 4 _ rfl; have q5 := HR.out.c.at 5 _ rfl; clear hbz) | (go_at_call 47; with_reducible refine (HI1.out _ HR.out.b).mono ?_; rintro e wz ⟨rfl, hbz⟩; replace HR := Hd (HR.out.below hbz.below); have p0 := HR.out.a.at 0 _ rfl; have p1 := HR.out.a.at 1 _ rfl; have p4 := HR.out.a.at 4 _ rfl; have p5 := HR.out.a.at 5 _ rfl; have q0 := HR.out.c.at 0 _ rfl; have q1 := HR.out.c.at 1 _ rfl; have q4 := HR.out.c.at 4 _ rfl; have q5 := HR.out.c.at 5 _ rfl; clear hbz) | (go_at_call 47; with_reducible refine (HI2.out _ HR.out.b).mono ?_; rintro e wz ⟨rfl, hbz⟩; replace HR := Hd (HR.out.below hbz.below); have p0 := HR.out.a.at 0 _ rfl; have p1 := HR.out.a.at 1 _ rfl; have p4 := HR.out.a.at 4 _ rfl; have p5 := HR.out.a.at 5 _ rfl; have q0 := HR.out.c.at 0 _ rfl; have q1 := HR.out.c.at 1 _ rfl; have q4 := HR.out.c.at 4 _ rfl; have q5 := HR.out.c.at 5 _ rfl; clear hbz) | (go_at_call 47; with_reducible refine (HI3.out _ HR.out.b).mono ?_; rintro e wz ⟨rfl, hbz⟩; replace HR := Hd (HR.out.below hbz.below); have p0 := HR.out.a.at 0 _ rfl; have p1 := HR.out.a.at 1 _ rfl; have p4 := HR.out.a.at 4 _ rfl; have p5 := HR.out.a.at 5 _ rfl; have q0 := HR.out.c.at 0 _ rfl; have q1 := HR.out.c.at 1 _ rfl; have q4 := HR.out.c.at 4 _ rfl; have q5 := HR.out.c.at 5 _ rfl; clear hbz))
       go_ret
       exact ⟨by rw [HRR.out]; rfl, HR.out.b⟩
theorem rsamet_any (x y : Tq) (w : World) (hx : TqR w x) (hy : TqR w y) (he : x.tp = y.tp) (hl : x.ps.length ≤ 100000) (hw : ∀ q ∈ x.ps, WfP q.1) : Calls Tryz.prog 52 #[.agg (tpc x).toArray, .agg (tpc y).toArray] w fun e w' => e = .returned (.bool true) ∧ Below w.heap.size w w' := by
 have HX := Hd (fun W (h : Below w.heap.size w W) => hx.below h)
 have HY := Hd (fun W (h : Below w.heap.size w W) => hy.below h)
 obtain ⟨xi, xn, xps, xa, xc⟩ := x
 obtain ⟨yi, yn, yps, ya, yc⟩ := y
 simp only [Tq.tp, Tp.mk.injEq] at he
 obtain ⟨rfl, rfl, hps⟩ := he
 have hln : xps.length = yps.length := by have := congrArg List.length hps; simpa using this
 have HW := Hd hw
 have HPS := Hd hps
 have HLN := Hd hln
 clear hln
 have HR0 := Hd (Tb.mk' w (tpc ⟨xi, xn, xps, xa, xc⟩) (tpc ⟨xi, xn, yps, ya, yc⟩) 38 38)
 clear hx hy hw hps
 unfold tpc at *
 dsimp only at *
 go_enter Tryz.func52, Tryz.ntmps52
 go_upto_region 1 with fail
 generalize (w.alloc (.cells (List.toArray [Value.int .i64 xi, .string ⟨xn.toArray⟩, .slice xa xps.length xc]) 38)).alloc (.cells (List.toArray [Value.int .i64 xi, .string ⟨xn.toArray⟩, .slice ya yps.length yc]) 38) = X at HR0 ⊢
 have HR := Hd HR0.out
 clear HR0
 have a0 := HR.out.a.at 0 _ rfl
 have a1 := HR.out.a.at 1 _ rfl
 have a2 := HR.out.a.at 2 _ rfl
 have b0 := HR.out.c.at 0 _ rfl
 have b1 := HR.out.c.at 1 _ rfl
 have b2 := HR.out.c.at 2 _ rfl
 have n1 : (xi != xi) = false := by simp
 have n2 : (xn != xn) = false := by simp
 have n3 : ((xps.length : Int) != (yps.length : Int)) = false := by simp [HLN.out]
 go_upto_region 4 with fail
 clear a0 a1 a2 b0 b1 b2 n1 n2 n3
 go_loopw [5] (fun i W => ∃ k : Nat, k ≤ xps.length ∧ i = .int .i64 (k : Int) ∧ Tb w W [Value.int .i64 xi, .string ⟨xn.toArray⟩, .slice xa xps.length xc] [Value.int .i64 xi, .string ⟨xn.toArray⟩, .slice ya yps.length yc]) (fun i _ => xps.length - (ivQ i).toNat)
 case atStart => exact ⟨0, Nat.zero_le _, rfl, HR.out⟩
 case round =>
  clear HR
  obtain ⟨k, hk, rfl, hr⟩ := hrel
  have HR := Hd hr
  clear hr
  have a2 := HR.out.a.at 2 _ rfl
  by_cases hlt : k < xps.length
  ·have hltI : (k : Int) < (xps.length : Int) := by omega
   have hlt2 : k < yps.length := by have := HLN.out; omega
   have hlyI : (k : Int) < (yps.length : Int) := by omega
   obtain ⟨bx, ox, rfl, hrx⟩ := (HX.out wr HR.out.b).ps.rg (show 0 < xps.length by omega)
   obtain ⟨by_, oy, rfl, hry⟩ := (HY.out wr HR.out.b).ps.rg (show 0 < yps.length by omega)
   have HU := Hd (fm_at encP hrx hlt)
   have Hv := Hd (fm_at encP hry hlt2)
   have HSP : Hid (∀ W, Below wr.heap.size wr W → Calls Tryz.prog 19 #[.agg (ptc xps[k]).toArray, .agg (ptc yps[k]).toArray] W fun e w' => e = .returned (.bool true) ∧ Below W.heap.size W w') := Hd (fun W h => by
    have hb := bt HR.out.b h
    have := rsamep_any xps[k] yps[k] W ((HX.out W hb).pt _ (List.getElem_mem hlt)) ((HY.out W hb).pt _ (List.getElem_mem hlt2)) (HW.out _ (List.getElem_mem hlt))
    have e1 : (xps[k]).1 = (yps[k]).1 := by
     have h1 : (xps.map (·.1))[k]? = some (xps[k]).1 := by rw [List.getElem?_map, List.getElem?_eq_getElem hlt]; rfl
     have h2 : (yps.map (·.1))[k]? = some (yps[k]).1 := by rw [List.getElem?_map, List.getElem?_eq_getElem hlt2]; rfl
     rw [HPS.out, h2] at h1
     exact (Option.some.inj h1).symm
    rw [e1, samP_refl] at this
    exact this)
   clear hrx hry
   generalize xps[k] = u at HU HSP
   generalize yps[k] = v at Hv HSP
   go_upto_region 6 with fail
   clear a2
   have hdw : Below wr.heap.size wr wr.drew := (Below.refl _ _).drew
   refine wp_region_held_drew (S := fun W => Tb w W [Value.int .i64 xi, .string ⟨xn.toArray⟩, .slice (some ⟨bx, ox, none⟩) xps.length xc] [Value.int .i64 xi, .string ⟨xn.toArray⟩, .slice (some ⟨by_, oy, none⟩) yps.length yc] ∧ W.rangeAt bx (ox + k * 6) (ptc u) ∧ W.rangeAt by_ (oy + k * 6) (ptc v)) (by kernel_rfl) ⟨HR.out.below hdw, rg_bel HU.out hdw, rg_bel Hv.out hdw⟩ (fun hHeld => ?_)
   have HSM := Hd (fun W (h : Below wr.drew.heap.size wr.drew W) => HSP.out W (bt (hdw) h))
   generalize wr.drew = V4 at HSM hHeld ⊢
   clear hdw
   refine tk 0 34 (.pointer (some ⟨w.heap.size, 2, none⟩)) rfl rfl hHeld ?_
   simp only [Act.put, zA, zB, zC]
   refine tky 1 35 (.slice (some ⟨bx, ox, none⟩) xps.length xc) rfl rfl (Or.inl ⟨by rfl, by intro w hSw; have h0 := hSw.1.a.at 2 _ rfl; go_simp⟩) hHeld ?_
   simp only [Act.put, zA, zB, zC]
   refine tk 2 36 (.int .i64 (k : Int)) rfl rfl hHeld ?_
   simp only [Act.put, zA, zB, zC]
   refine tk 3 37 (.pointer (some ⟨bx, ox + k * 6, none⟩)) rfl rfl hHeld ?_
   simp only [Act.put, zA, zB, zC]
   refine tky 4 38 (_) rfl rfl (yieldsIf_load_mid (by rfl) _ _ rfl _ _ rfl (ptc u) _ (fun W hW => hW.2.1) Tryz.underlying44 rfl (by kernel_rfl)) hHeld ?_
   simp only [Act.put, zA, zB, zC]
   refine tk 5 39 (.pointer (some ⟨w.heap.size + 1, 2, none⟩)) rfl rfl hHeld ?_
   simp only [Act.put, zA, zB, zC]
   refine tky 6 40 (.slice (some ⟨by_, oy, none⟩) yps.length yc) rfl rfl (Or.inl ⟨by rfl, by intro w hSw; have h0 := hSw.1.c.at 2 _ rfl; go_simp⟩) hHeld ?_
   simp only [Act.put, zA, zB, zC]
   refine tk 7 41 (.int .i64 (k : Int)) rfl rfl hHeld ?_
   simp only [Act.put, zA, zB, zC]
   refine tk 8 42 (.pointer (some ⟨by_, oy + k * 6, none⟩)) rfl rfl hHeld ?_
   simp only [Act.put, zA, zB, zC]
   refine tky 9 43 (_) rfl rfl (yieldsIf_load_mid (by rfl) _ _ rfl _ _ rfl (ptc v) _ (fun W hW => hW.2.2) Tryz.underlying44 rfl (by kernel_rfl)) hHeld ?_
   simp only [Act.put, zA, zB, zC]
   refine wpAnyH_ready (rs := [10]) (by kernel_rfl) (by simp) ?_
   refine AllReadyH.cons (o := _) rfl (fun K hK => ?_) AllReadyH.nil
   go_simp
   go_at_call 19
   refine (HSM.out V4 (Below.refl _ _)).mono ?_
   rintro e V6 ⟨rfl, hbx⟩
   go_wp2_with fail
   refine hK.out _ _ ⟨hHeld.1.below hbx, rg_bel hHeld.2.1 hbx, rg_bel hHeld.2.2 hbx⟩ (fun hHeld1 => ?_)
   clear hK K hHeld
   have hHeld := hHeld1
   clear hHeld1
   refine tk 11 45 (.bool false) rfl rfl hHeld ?_
   simp only [Act.put, zA, zB, zC]
   refine wpAnyH_done (by kernel_rfl) ?_ _
   replace HR := Hd hHeld.1
   clear hHeld
   go_wp2_with fail
   go_roundw
   case rel => exact ⟨k + 1, by omega, by go_num, HR.out⟩
   case measure => simp [ivQ]; omega
  ·obtain rfl : k = xps.length := by omega
   go_wp2_with fail
   go_ret
   exact ⟨rfl, HR.out.b⟩
end Go.Proofs.YtlggjgapdpkhiaaGreat
namespace Go.Proofs.YtlggjgapdpkhiaaGreat
open Go.RowKit
theorem neqB (x0 x1 : Int) (x2 : List UInt8) (x3 x4 : Bool) (w : World) : (binOp .neq 33 (.agg (List.toArray [Value.int .i64 x0, .int .i64 x1, .string ⟨x2.toArray⟩, .bool x3, .bool x4])) (.agg (List.toArray [Value.int .i64 x0, .int .i64 x1, .string ⟨x2.toArray⟩, .bool x3, .bool x4]))).run Tryz.prog w = .ok (.bool false) w := by
 have u3 := Tryz.underlying3
 have u9 := Tryz.underlying9
 have u4 := Tryz.underlying4
 have hS : Tryz.prog.underlying 33 = some (.struct (Tryz.prog.fieldsOf 33)) := by kernel_rfl
 have hp : Tryz.prog.stoodInHeld 33 = false := by kernel_rfl
 rw [run_neq_struct, show (10000 : Nat) = 9999 + 1 from rfl, run_equalIn_agg w 9999 33 _ _ hS hp]
 simp only [Program.fieldsOf, Tryz.underlying33]
 simp [go_sem, u3, u9, u4]
theorem neqBg : Tryz.prog.eqGuardType Tryz.prog.depth 33 = false := by kernel_rfl
theorem neqC (x0 : Int) (x1 x2 : List UInt8) (w : World) : (binOp .neq 78 (.agg (List.toArray [Value.int .i64 x0, .string ⟨x1.toArray⟩, .string ⟨x2.toArray⟩])) (.agg (List.toArray [Value.int .i64 x0, .string ⟨x1.toArray⟩, .string ⟨x2.toArray⟩]))).run Tryz.prog w = .ok (.bool false) w := by
 have u3 := Tryz.underlying3
 have u9 := Tryz.underlying9
 have u4 := Tryz.underlying4
 have hS : Tryz.prog.underlying 78 = some (.struct (Tryz.prog.fieldsOf 78)) := by kernel_rfl
 have hp : Tryz.prog.stoodInHeld 78 = false := by kernel_rfl
 rw [run_neq_struct, show (10000 : Nat) = 9999 + 1 from rfl, run_equalIn_agg w 9999 78 _ _ hS hp]
 simp only [Program.fieldsOf, Tryz.underlying78]
 simp [go_sem, u3, u9]
theorem neqCg : Tryz.prog.eqGuardType Tryz.prog.depth 78 = false := by kernel_rfl
theorem neqD (x0 x1 x2 : Int) (w : World) : (binOp .neq 83 (.agg (List.toArray [Value.int .i64 x0, .int .i64 x1, .int .i64 x2])) (.agg (List.toArray [Value.int .i64 x0, .int .i64 x1, .int .i64 x2]))).run Tryz.prog w = .ok (.bool false) w := by
 have u3 := Tryz.underlying3
 have u9 := Tryz.underlying9
 have u4 := Tryz.underlying4
 have hS : Tryz.prog.underlying 83 = some (.struct (Tryz.prog.fieldsOf 83)) := by kernel_rfl
 have hp : Tryz.prog.stoodInHeld 83 = false := by kernel_rfl
 rw [run_neq_struct, show (10000 : Nat) = 9999 + 1 from rfl, run_equalIn_agg w 9999 83 _ _ hS hp]
 simp only [Program.fieldsOf, Tryz.underlying83]
 simp [go_sem, u3]
theorem neqDg : Tryz.prog.eqGuardType Tryz.prog.depth 83 = false := by kernel_rfl
set_option maxRecDepth 100000 in
set_option maxHeartbeats 16000000 in
theorem rsame_any (m : Im) (p1 p2 : Ip) (w : World) (hv : ImR w m p1) (hv2 : ImR w m p2) (hw : Wf m 100000) : Calls Tryz.prog 26 #[imv m p1, imv m p2] w fun e w' => e = .returned (.bool true) ∧ Below w.heap.size w w' := by
 have HX := Hd (fun W (h : Below w.heap.size w W) => hv.below h)
 have HY := Hd (fun W (h : Below w.heap.size w W) => hv2.below h)
 have hl1 : m.br.length ≤ 100000 := hw.nb
 have hl2 : p1.ts.length ≤ 100000 := by rw [hv.len]; exact hw.nt
 have hl3 : m.cf.length ≤ 100000 := hw.nc
 have hl4 : m.dn.length ≤ 100000 := hw.nd
 have HLN : Hid (p1.ts.length = p2.ts.length) := Hd (hv.len.trans hv2.len.symm)
 have HPS := Hd (hv.e.trans hv2.e.symm)
 have HNP := Hd (fun (t : Tq) (h : t ∈ p1.ts) => hv.np hw h)
 have HWP := Hd (fun (t : Tq) (h : t ∈ p1.ts) (q : Pp) (hq : q ∈ t.ps) => hv.wp hw h hq)
 have HR0 := Hd (Tb.mk' w (iml m p1) (iml m p2) 30 30)
 clear hv hv2 hw
 obtain ⟨ab1, aq1, ac1, ad1, cb1, cq1, cc1, cd1, ts1⟩ := p1
 obtain ⟨ab2, aq2, ac2, ad2, cb2, cq2, cc2, cd2, ts2⟩ := p2
 replace hl2 : ts1.length ≤ 100000 := hl2
 unfold imv
 unfold iml at HR0
 dsimp only at *
 go_enter Tryz.func26, Tryz.ntmps26
 go_upto_region 1 with fail
 generalize (w.alloc (.cells (List.toArray [Value.slice ab1 m.br.length cb1, .slice aq1 ts1.length cq1, .slice ac1 m.cf.length cc1, .slice ad1 m.dn.length cd1, .int .i64 m.la]) 30)).alloc (.cells (List.toArray [Value.slice ab2 m.br.length cb2, .slice aq2 ts2.length cq2, .slice ac2 m.cf.length cc2, .slice ad2 m.dn.length cd2, .int .i64 m.la]) 30) = X at HR0 ⊢
 have HR := Hd HR0.out
 clear HR0
 have a0 := HR.out.a.at 0 _ rfl
 have a1 := HR.out.a.at 1 _ rfl
 have a2 := HR.out.a.at 2 _ rfl
 have a3 := HR.out.a.at 3 _ rfl
 have a4 := HR.out.a.at 4 _ rfl
 have b0 := HR.out.c.at 0 _ rfl
 have b1 := HR.out.c.at 1 _ rfl
 have b2 := HR.out.c.at 2 _ rfl
 have b3 := HR.out.c.at 3 _ rfl
 have b4 := HR.out.c.at 4 _ rfl
 have n1 : ((ts1.length : Int) != (ts2.length : Int)) = false := by simp [HLN.out]
 have n2 : (m.la != m.la) = false := by simp
 have n3 : ((m.br.length : Int) != (m.br.length : Int)) = false := by simp
 have n4 : ((m.cf.length : Int) != (m.cf.length : Int)) = false := by simp
 have n5 : ((m.dn.length : Int) != (m.dn.length : Int)) = false := by simp
 go_upto_region 4 with fail
 clear a0 a1 a2 a3 a4 b0 b1 b2 b3 b4 n1 n2 n3 n4 n5
 go_loopw [5] (fun i W => ∃ k : Nat, k ≤ m.br.length ∧ i = .int .i64 (k : Int) ∧ Tb w W [Value.slice ab1 m.br.length cb1, .slice aq1 ts1.length cq1, .slice ac1 m.cf.length cc1, .slice ad1 m.dn.length cd1, .int .i64 m.la] [Value.slice ab2 m.br.length cb2, .slice aq2 ts2.length cq2, .slice ac2 m.cf.length cc2, .slice ad2 m.dn.length cd2, .int .i64 m.la]) (fun i _ => m.br.length - (ivQ i).toNat)
 case atStart => exact ⟨0, Nat.zero_le _, rfl, HR.out⟩
 case round =>
  clear HR
  obtain ⟨k, hk, rfl, hr⟩ := hrel
  have HR := Hd hr
  clear hr
  have a0 := HR.out.a.at 0 _ rfl
  by_cases hlt : k < m.br.length
  ·have hltI : (k : Int) < (m.br.length : Int) := by omega
   obtain ⟨bx, ox, rfl, hrx⟩ := (HX.out wr HR.out.b).b.rg (show 0 < m.br.length by omega)
   obtain ⟨by_, oy, rfl, hry⟩ := (HY.out wr HR.out.b).b.rg (show 0 < m.br.length by omega)
   have HU := Hd (fm_at encB hrx hlt)
   have Hv := Hd (fm_at encB hry hlt)
   clear hrx hry
   generalize m.br[k] = x at HU Hv
   obtain ⟨x0, x1, x2, x3, x4⟩ := x
   unfold bkc at HU Hv
   dsimp only at HU Hv
   have b0 := HR.out.c.at 0 _ rfl
   have c0 : wr.cell? ⟨bx, ox + k * 5, none⟩ = some (.int .i64 x0) := HU.out 0 _ rfl
   have c1 : wr.cell? ⟨bx, ox + k * 5 + 1, none⟩ = some (.int .i64 x1) := HU.out 1 _ rfl
   have c2 : wr.cell? ⟨bx, ox + k * 5 + 2, none⟩ = some (.string ⟨x2.toArray⟩) := HU.out 2 _ rfl
   have c3 : wr.cell? ⟨bx, ox + k * 5 + 3, none⟩ = some (.bool x3) := HU.out 3 _ rfl
   have c4 : wr.cell? ⟨bx, ox + k * 5 + 4, none⟩ = some (.bool x4) := HU.out 4 _ rfl
   have d0 : wr.cell? ⟨by_, oy + k * 5, none⟩ = some (.int .i64 x0) := Hv.out 0 _ rfl
   have d1 : wr.cell? ⟨by_, oy + k * 5 + 1, none⟩ = some (.int .i64 x1) := Hv.out 1 _ rfl
   have d2 : wr.cell? ⟨by_, oy + k * 5 + 2, none⟩ = some (.string ⟨x2.toArray⟩) := Hv.out 2 _ rfl
   have d3 : wr.cell? ⟨by_, oy + k * 5 + 3, none⟩ = some (.bool x3) := Hv.out 3 _ rfl
   have d4 : wr.cell? ⟨by_, oy + k * 5 + 4, none⟩ = some (.bool x4) := Hv.out 4 _ rfl
   have e1 := neqB x0 x1 x2 x3 x4
   have e2 := neqBg
   go_wp2_with fail
   go_quiet (fail)
   replace HR := Hd (HR.out.drewN nq)
   clear a0 b0 e1 e2 c0 d0 c1 d1 c2 d2 c3 d3 c4 d4
   go_wp2_with fail
   go_roundw
   case rel => exact ⟨k + 1, by omega, by go_num, HR.out⟩
   case measure => simp [ivQ]; omega
  ·obtain rfl : k = m.br.length := by omega
   go_upto_region 9 with fail
   clear a0
   go_loopw [6] (fun i W => ∃ k : Nat, k ≤ ts1.length ∧ i = .int .i64 (k : Int) ∧ Tb w W [Value.slice ab1 m.br.length cb1, .slice aq1 ts1.length cq1, .slice ac1 m.cf.length cc1, .slice ad1 m.dn.length cd1, .int .i64 m.la] [Value.slice ab2 m.br.length cb2, .slice aq2 ts2.length cq2, .slice ac2 m.cf.length cc2, .slice ad2 m.dn.length cd2, .int .i64 m.la]) (fun i _ => ts1.length - (ivQ i).toNat)
   case atStart => exact ⟨0, Nat.zero_le _, rfl, HR.out⟩
   case round =>
    clear HR
    obtain ⟨k, hk, rfl, hr⟩ := hrel
    have HR := Hd hr
    clear hr
    have a1 := HR.out.a.at 1 _ rfl
    by_cases hlt : k < ts1.length
    ·have hltI : (k : Int) < (ts1.length : Int) := by omega
     have hlt2 : k < ts2.length := by have := HLN.out; omega
     have hlyI : (k : Int) < (ts2.length : Int) := by omega
     obtain ⟨bx, ox, rfl, hrx⟩ := (HX.out wr HR.out.b).t.rg (show 0 < ts1.length by omega)
     obtain ⟨by_, oy, rfl, hry⟩ := (HY.out wr HR.out.b).t.rg (show 0 < ts2.length by omega)
     have HU := Hd (fm_at encT hrx hlt)
     have Hv := Hd (fm_at encT hry hlt2)
     have HSP : Hid (∀ W, Below wr.heap.size wr W → Calls Tryz.prog 52 #[.agg (tpc ts1[k]).toArray, .agg (tpc ts2[k]).toArray] W fun e w' => e = .returned (.bool true) ∧ Below W.heap.size W w') := Hd (fun W h => by
      have hb := bt HR.out.b h
      have e1 : (ts1[k]).tp = (ts2[k]).tp := by
       have h1 : (ts1.map Tq.tp)[k]? = some (ts1[k]).tp := by rw [List.getElem?_map, List.getElem?_eq_getElem hlt]; rfl
       have h2 : (ts2.map Tq.tp)[k]? = some (ts2[k]).tp := by rw [List.getElem?_map, List.getElem?_eq_getElem hlt2]; rfl
       rw [HPS.out, h2] at h1
       exact (Option.some.inj h1).symm
      exact rsamet_any ts1[k] ts2[k] W ((HX.out W hb).q _ (List.getElem_mem hlt)) ((HY.out W hb).q _ (List.getElem_mem hlt2)) e1 (HNP.out _ (List.getElem_mem hlt)) (fun q hq => HWP.out _ (List.getElem_mem hlt) q hq))
     clear hrx hry
     generalize ts1[k] = x at HU HSP
     generalize ts2[k] = y at Hv HSP
     go_upto_region 11 with fail
     clear a1
     have hdw : Below wr.heap.size wr wr.drew := (Below.refl _ _).drew
     refine wp_region_held_drew (S := fun W => Tb w W [Value.slice ab1 m.br.length cb1, .slice (some ⟨bx, ox, none⟩) ts1.length cq1, .slice ac1 m.cf.length cc1, .slice ad1 m.dn.length cd1, .int .i64 m.la] [Value.slice ab2 m.br.length cb2, .slice (some ⟨by_, oy, none⟩) ts2.length cq2, .slice ac2 m.cf.length cc2, .slice ad2 m.dn.length cd2, .int .i64 m.la] ∧ W.rangeAt bx (ox + k * 3) (tpc x) ∧ W.rangeAt by_ (oy + k * 3) (tpc y)) (by kernel_rfl) ⟨HR.out.below hdw, rg_bel HU.out hdw, rg_bel Hv.out hdw⟩ (fun hHeld => ?_)
     have HSM := Hd (fun W (h : Below wr.drew.heap.size wr.drew W) => HSP.out W (bt (hdw) h))
     generalize wr.drew = V4 at HSM hHeld ⊢
     clear hdw
     refine tk 0 75 (.pointer (some ⟨w.heap.size, 1, none⟩)) rfl rfl hHeld ?_
     simp only [Act.put, zA, zB, zC]
     refine tky 1 76 (.slice (some ⟨bx, ox, none⟩) ts1.length cq1) rfl rfl (Or.inl ⟨by rfl, by intro w hSw; have h0 := hSw.1.a.at 1 _ rfl; go_simp⟩) hHeld ?_
     simp only [Act.put, zA, zB, zC]
     refine tk 2 77 (.int .i64 (k : Int)) rfl rfl hHeld ?_
     simp only [Act.put, zA, zB, zC]
     refine tk 3 78 (.pointer (some ⟨bx, ox + k * 3, none⟩)) rfl rfl hHeld ?_
     simp only [Act.put, zA, zB, zC]
     refine tky 4 79 (_) rfl rfl (yieldsIf_load_mid (by rfl) _ _ rfl _ _ rfl (tpc x) _ (fun W hW => hW.2.1) Tryz.underlying38 rfl (by kernel_rfl)) hHeld ?_
     simp only [Act.put, zA, zB, zC]
     refine tk 5 80 (.pointer (some ⟨w.heap.size + 1, 1, none⟩)) rfl rfl hHeld ?_
     simp only [Act.put, zA, zB, zC]
     refine tky 6 81 (.slice (some ⟨by_, oy, none⟩) ts2.length cq2) rfl rfl (Or.inl ⟨by rfl, by intro w hSw; have h0 := hSw.1.c.at 1 _ rfl; go_simp⟩) hHeld ?_
     simp only [Act.put, zA, zB, zC]
     refine tk 7 82 (.int .i64 (k : Int)) rfl rfl hHeld ?_
     simp only [Act.put, zA, zB, zC]
     refine tk 8 83 (.pointer (some ⟨by_, oy + k * 3, none⟩)) rfl rfl hHeld ?_
     simp only [Act.put, zA, zB, zC]
     refine tky 9 84 (_) rfl rfl (yieldsIf_load_mid (by rfl) _ _ rfl _ _ rfl (tpc y) _ (fun W hW => hW.2.2) Tryz.underlying38 rfl (by kernel_rfl)) hHeld ?_
     simp only [Act.put, zA, zB, zC]
     refine wpAnyH_ready (rs := [10]) (by kernel_rfl) (by simp) ?_
     refine AllReadyH.cons (o := _) rfl (fun K hK => ?_) AllReadyH.nil
     go_simp
     go_at_call 52
     refine (HSM.out V4 (Below.refl _ _)).mono ?_
     rintro e V6 ⟨rfl, hbx⟩
     go_wp2_with fail
     refine hK.out _ _ ⟨hHeld.1.below hbx, rg_bel hHeld.2.1 hbx, rg_bel hHeld.2.2 hbx⟩ (fun hHeld1 => ?_)
     clear hK K hHeld
     have hHeld := hHeld1
     clear hHeld1
     refine tk 11 86 (.bool false) rfl rfl hHeld ?_
     simp only [Act.put, zA, zB, zC]
     refine wpAnyH_done (by kernel_rfl) ?_ _
     replace HR := Hd hHeld.1
     clear hHeld
     go_wp2_with fail
     go_roundw
     case rel => exact ⟨k + 1, by omega, by go_num, HR.out⟩
     case measure => simp [ivQ]; omega
    ·obtain rfl : k = ts1.length := by omega
     go_upto_region 14 with fail
     clear a1
     go_loopw [7] (fun i W => ∃ k : Nat, k ≤ m.cf.length ∧ i = .int .i64 (k : Int) ∧ Tb w W [Value.slice ab1 m.br.length cb1, .slice aq1 ts1.length cq1, .slice ac1 m.cf.length cc1, .slice ad1 m.dn.length cd1, .int .i64 m.la] [Value.slice ab2 m.br.length cb2, .slice aq2 ts2.length cq2, .slice ac2 m.cf.length cc2, .slice ad2 m.dn.length cd2, .int .i64 m.la]) (fun i _ => m.cf.length - (ivQ i).toNat)
     case atStart => exact ⟨0, Nat.zero_le _, rfl, HR.out⟩
     case round =>
      clear HR
      obtain ⟨k, hk, rfl, hr⟩ := hrel
      have HR := Hd hr
      clear hr
      have a2 := HR.out.a.at 2 _ rfl
      by_cases hlt : k < m.cf.length
      ·have hltI : (k : Int) < (m.cf.length : Int) := by omega
       obtain ⟨bx, ox, rfl, hrx⟩ := (HX.out wr HR.out.b).c.rg (show 0 < m.cf.length by omega)
       obtain ⟨by_, oy, rfl, hry⟩ := (HY.out wr HR.out.b).c.rg (show 0 < m.cf.length by omega)
       have HU := Hd (fm_at encC hrx hlt)
       have Hv := Hd (fm_at encC hry hlt)
       clear hrx hry
       generalize m.cf[k] = x at HU Hv
       obtain ⟨x0, x1, x2⟩ := x
       unfold cfc at HU Hv
       dsimp only at HU Hv
       have b2 := HR.out.c.at 2 _ rfl
       have c0 : wr.cell? ⟨bx, ox + k * 3, none⟩ = some (.int .i64 x0) := HU.out 0 _ rfl
       have c1 : wr.cell? ⟨bx, ox + k * 3 + 1, none⟩ = some (.string ⟨x1.toArray⟩) := HU.out 1 _ rfl
       have c2 : wr.cell? ⟨bx, ox + k * 3 + 2, none⟩ = some (.string ⟨x2.toArray⟩) := HU.out 2 _ rfl
       have d0 : wr.cell? ⟨by_, oy + k * 3, none⟩ = some (.int .i64 x0) := Hv.out 0 _ rfl
       have d1 : wr.cell? ⟨by_, oy + k * 3 + 1, none⟩ = some (.string ⟨x1.toArray⟩) := Hv.out 1 _ rfl
       have d2 : wr.cell? ⟨by_, oy + k * 3 + 2, none⟩ = some (.string ⟨x2.toArray⟩) := Hv.out 2 _ rfl
       have e1 := neqC x0 x1 x2
       have e2 := neqCg
       go_wp2_with fail
       go_quiet (fail)
       replace HR := Hd (HR.out.drewN nq)
       clear a2 b2 e1 e2 c0 d0 c1 d1 c2 d2
       go_wp2_with fail
       go_roundw
       case rel => exact ⟨k + 1, by omega, by go_num, HR.out⟩
       case measure => simp [ivQ]; omega
      ·obtain rfl : k = m.cf.length := by omega
       go_upto_region 19 with fail
       clear a2
       go_loopw [8] (fun i W => ∃ k : Nat, k ≤ m.dn.length ∧ i = .int .i64 (k : Int) ∧ Tb w W [Value.slice ab1 m.br.length cb1, .slice aq1 ts1.length cq1, .slice ac1 m.cf.length cc1, .slice ad1 m.dn.length cd1, .int .i64 m.la] [Value.slice ab2 m.br.length cb2, .slice aq2 ts2.length cq2, .slice ac2 m.cf.length cc2, .slice ad2 m.dn.length cd2, .int .i64 m.la]) (fun i _ => m.dn.length - (ivQ i).toNat)
       case atStart => exact ⟨0, Nat.zero_le _, rfl, HR.out⟩
       case round =>
        clear HR
        obtain ⟨k, hk, rfl, hr⟩ := hrel
        have HR := Hd hr
        clear hr
        have a3 := HR.out.a.at 3 _ rfl
        by_cases hlt : k < m.dn.length
        ·have hltI : (k : Int) < (m.dn.length : Int) := by omega
         obtain ⟨bx, ox, rfl, hrx⟩ := (HX.out wr HR.out.b).d.rg (show 0 < m.dn.length by omega)
         obtain ⟨by_, oy, rfl, hry⟩ := (HY.out wr HR.out.b).d.rg (show 0 < m.dn.length by omega)
         have HU := Hd (fm_at encD hrx hlt)
         have Hv := Hd (fm_at encD hry hlt)
         clear hrx hry
         generalize m.dn[k] = x at HU Hv
         obtain ⟨x0, x1, x2⟩ := x
         unfold dnc at HU Hv
         dsimp only at HU Hv
         have b3 := HR.out.c.at 3 _ rfl
         have c0 : wr.cell? ⟨bx, ox + k * 3, none⟩ = some (.int .i64 x0) := HU.out 0 _ rfl
         have c1 : wr.cell? ⟨bx, ox + k * 3 + 1, none⟩ = some (.int .i64 x1) := HU.out 1 _ rfl
         have c2 : wr.cell? ⟨bx, ox + k * 3 + 2, none⟩ = some (.int .i64 x2) := HU.out 2 _ rfl
         have d0 : wr.cell? ⟨by_, oy + k * 3, none⟩ = some (.int .i64 x0) := Hv.out 0 _ rfl
         have d1 : wr.cell? ⟨by_, oy + k * 3 + 1, none⟩ = some (.int .i64 x1) := Hv.out 1 _ rfl
         have d2 : wr.cell? ⟨by_, oy + k * 3 + 2, none⟩ = some (.int .i64 x2) := Hv.out 2 _ rfl
         have e1 := neqD x0 x1 x2
         have e2 := neqDg
         go_wp2_with fail
         go_quiet (fail)
         replace HR := Hd (HR.out.drewN nq)
         clear a3 b3 e1 e2 c0 d0 c1 d1 c2 d2
         go_wp2_with fail
         go_roundw
         case rel => exact ⟨k + 1, by omega, by go_num, HR.out⟩
         case measure => simp [ivQ]; omega
        ·obtain rfl : k = m.dn.length := by omega
         go_wp2_with fail
         go_ret
         exact ⟨rfl, HR.out.b⟩
end Go.Proofs.YtlggjgapdpkhiaaGreat
namespace Go.Proofs.YtlggjgapdpkhiaaGreat
open Go.RowKit
set_option maxRecDepth 100000 in
set_option maxHeartbeats 16000000 in
theorem drop_any {ok : Nat → Prop} (m : Im) (p : Ip) (r : Rc) (v : Value) (w : World) (n0 : Nat → Prop) (hn0 : ∀ g, n0 g → g < w.heap.size) (hv : ∀ W, (∀ g, n0 g → W.heap[g]? = w.heap[g]?) → ImR W m p) (hw : Wf m 100000) (hr : IsR ok w v r) : Calls Tryz.prog 98 #[imv m p, v] w fun e w' => StP n0 w w' (drpT m r).1 (drpT m r).2 e := by
 obtain ⟨a14, a15, a16, a17, c14, c15, c16, c17, rfl, hrw⟩ := hr
 have Hv := Hd (fun (W W3 : World) (hb : Below w.heap.size w W3) (hW : Agr n0 w.heap.size W3 W) => hv W (fun g hg => (hW g (.inl hg)).trans (hb.block g (hn0 g hg))))
 clear hn0
 replace hv : ImR w m p := hv w (fun _ _ => rfl)
 have HV := Hd (fun W (h : Below w.heap.size w W) => hv.below h)
 have HFN := Hd (hv.fT r.tp)
 cases hf : p.ts.find? (idQ r.tp) with
 | none =>
  have HFT := Hd (fun W (h : Below w.heap.size w W) => findTopic_no m p r.tp W (hv.below h) hw hf)
  have Hr : Hid (drpT m r = (m, 8)) := Hd (by unfold drpT; rw [HFN.out, hf]; rfl)
  rw [Hr.out]
  have HFR0 := fF w m p r a14 a15 a16 a17 c14 c15 c16 c17
  clear hv hw hrw hf
  unfold imv
  unfold cR
  go_enter Tryz.func98, Tryz.ntmps98
  go_upto_region 1 with fail
  rw [fE]
  generalize frW w m p r a14 a15 a16 a17 c14 c15 c16 c17 = X at HFR0 ⊢
  have Hf := Hd HFR0
  clear HFR0
  obtain ⟨i0, i1, i2, i3, i4⟩ := Hf.out.i.im; have r3 := Hf.out.r.at 3 _ rfl
  unfold imv at HFT
  go_wp2_with (first | (go_at_call 37; refine (HFT.out _ Hf.out.b).mono ?_; rintro e wx ⟨i9, _, _, rfl, hbx⟩;  replace Hf := Hd (Hf.out.below hbx); clear i0 i1 i2 i3 i4 r3; clear hbx HFT; obtain ⟨i0, i1, i2, i3, i4⟩ := Hf.out.i.im; have r3 := Hf.out.r.at 3 _ rfl) | (refine wS rfl _ _ _ rfl _ _ rfl Hf.out.z (iml m p) rfl rfl (by kernel_rfl) rfl ?_; intro W3 hz hk hb hp; have Ho := Hd (Hf.out.out hz hk hb); clear hz hk hb hp))
  obtain ⟨q0, q1, q2, q3, q4⟩ := Ho.out.z.im
  exact bodyPost_ret (v := .tuple #[.agg (iml m p).toArray, .iface 67 (.int .i64 8)]) (by simp [results, Tryz.results98, go_sem, q0, q1, q2, q3, q4, iml]) rfl (st_ret Ho.out (fun W hW => Hv.out W _ Ho.out.b hW) (erc_code (by decide)))
 | some q =>
  have HFT := Hd (fun W (h : Below w.heap.size w W) => findTopic_yes m p r.tp W (hv.below h) hw q hf)
  obtain ⟨L1, hL1⟩ : ∃ L, L = p.ts.filter fun t => !idQ r.tp t := ⟨_, rfl⟩
  obtain ⟨L2, hL2⟩ : ∃ L, L = m.cf.filter fun c => !(c.tp == r.tp) := ⟨_, rfl⟩
  obtain ⟨T1, hT1⟩ : ∃ T, T = m.ts.filter fun t => !idT r.tp t := ⟨_, rfl⟩
  have HTL : Hid (L1.map Tq.tp = T1) := Hd (by rw [hL1, hT1, ← hv.e, List.filter_map]; rfl)
  have HMQ : Hid (∀ t ∈ L1, t ∈ p.ts) := Hd (fun t ht => by rw [hL1] at ht; exact (List.mem_filter.1 ht).1)
  have Hr : Hid (drpT m r = ({ m with ts := T1, cf := L2 }, 0)) := Hd (by unfold drpT; rw [HFN.out, hf, hL2, hT1]; rfl)
  rw [Hr.out]
  have HLT : Hid (remO (fun x : Tq => cmpN x.id r.tp) p.ts = L1) := Hd (by rw [hL1, remQ_rem])
  have HWO := Hd (fun W (h : Below w.heap.size w W) i (hi : i < p.ts.length) => woT_any p.ts p.aq _ p.cq i W rfl (hv.below h).t hi (by rw [hv.len]; exact hw.nt))
  have HCL := Hd (fun W (h : Below w.heap.size w W) => cloneC_any m.cf p.ac _ p.cc W rfl (hv.below h).c hw.nc)
  have HNC := Hd hw.nc
  have HL2 := Hd hL2
  clear hL1 hL2 hT1
  have HFR0 := fF w m p r a14 a15 a16 a17 c14 c15 c16 c17
  clear hv hw hrw hf
  unfold imv
  unfold cR
  go_enter Tryz.func98, Tryz.ntmps98
  go_upto_region 1 with fail
  rw [fE]
  generalize frW w m p r a14 a15 a16 a17 c14 c15 c16 c17 = X at HFR0 ⊢
  have Hf := Hd HFR0
  clear HFR0
  obtain ⟨i0, i1, i2, i3, i4⟩ := Hf.out.i.im; have r3 := Hf.out.r.at 3 _ rfl
  unfold imv at HFT
  go_upto_region 5 with (first | (go_at_call 37; refine (HFT.out _ Hf.out.b).mono ?_; rintro e wx ⟨i, hi, _, _, hrem, _, _, rfl, hbx⟩; have HRM := Hd hrem.symm; clear hrem; replace Hf := Hd (Hf.out.below hbx); clear i0 i1 i2 i3 i4 r3; clear hbx HFT; obtain ⟨i0, i1, i2, i3, i4⟩ := Hf.out.i.im; have r3 := Hf.out.r.at 3 _ rfl) | (go_at_call 128; refine (HWO.out _ Hf.out.b i hi).mono ?_; rintro e w3 ⟨v, rfl, hro, hb3⟩; rw [HRM.out, HLT.out] at hro; obtain ⟨av, cv, rfl⟩ := hro.form; have HRO := Hd (hro.mono Hf.out.sz); replace Hf := Hd (Hf.out.below hb3); clear hro hb3 HWO; clear i0 i1 i2 i3 i4 r3; obtain ⟨i0, i1, i2, i3, i4⟩ := Hf.out.i.im; have r3 := Hf.out.r.at 3 _ rfl; have f1 := Hf.out.f 1 (by decide)))
  have HFS := Hd (Hf.out.set 1 (.slice av L1.length cv) { m with ts := T1 } { p with aq := av, cq := cv, ts := L1 } (by decide) rfl)
  replace HRO := Hd (HRO.out.keepG (W' := w3.setCell ⟨w.heap.size, 1, none⟩ (.slice av L1.length cv)) (fun g hg => Below.heap_setCell _ _ _ _ (show ¬ g = w.heap.size by omega)))
  clear f1 Hf i0 i1 i2 i3 i4 r3
  generalize w3.setCell ⟨w.heap.size, 1, none⟩ (.slice av L1.length cv) = X3 at HFS HRO ⊢
  have Hf := Hd HFS.out
  clear HFS
  obtain ⟨i0, i1, i2, i3, i4⟩ := Hf.out.i.im; have r3 := Hf.out.r.at 3 _ rfl
  go_wp2_with (first | (go_at_call 56; refine (HCL.out _ Hf.out.b).mono ?_; rintro e w4 ⟨v2, rfl, hro2, hb4⟩; have HSZ := Hd Hf.out.sz; have HR2 := Hd hro2; have HFR3 := Hd Hf.out; have HB34 := Hd hb4; replace Hf := Hd (Hf.out.below hb4); have HDF := Hd (delf_own m.cf v2 _ (w.heap.size + 1) r.tp w4 HR2.out (Hf.out.r.at 3 _ rfl) (Nat.lt_of_succ_lt HSZ.out) hb4.size HNC.out); have HB4 := Hd hb4.size; clear i0 i1 i2 i3 i4 r3 hro2 hb4 HCL; obtain ⟨i0, i1, i2, i3, i4⟩ := Hf.out.i.im; have r3 := Hf.out.r.at 3 _ rfl) | (go_at_call 129; refine HDF.out.mono ?_; rintro e w5 ⟨v3, rfl, hrg, hb5⟩; rw [← HL2.out] at hrg; obtain ⟨av2, cv2, rfl⟩ := hrg.form; have HRG := Hd (hrg.mono HSZ.out); replace Hf := Hd (HFR3.out.below (HB34.out.trans hb5)); replace HRO := Hd (HRO.out.below (HB34.out.trans hb5)); clear HDF hrg i0 i1 i2 i3 i4 r3 hb5; obtain ⟨i0, i1, i2, i3, i4⟩ := Hf.out.i.im; have f2 := Hf.out.f 2 (by decide); have HFS := Hd (Hf.out.set 2 (.slice av2 L2.length cv2) { m with ts := T1, cf := L2 } { p with aq := av, cq := cv, ts := L1, ac := av2, cc := cv2 } (by decide) rfl)) | (refine wS rfl _ _ _ rfl _ _ rfl HFS.out.z (iml { m with ts := T1, cf := L2 } { p with aq := av, cq := cv, ts := L1, ac := av2, cc := cv2 }) rfl rfl (by kernel_rfl) rfl ?_; intro W3 hz hk hb hp; have Ho := Hd (HFS.out.out hz hk hb); have HRS := Hd (fun W (hW : Agr n0 w.heap.size W3 W) => (HRO.out.keepG (fun g hg => (hW g (.inr (by omega))).trans ((hp g (by omega)).trans (Below.heap_setCell _ _ _ _ (show ¬ g = w.heap.size by omega))))).rs); have HRC := Hd (fun W (hW : Agr n0 w.heap.size W3 W) => (HRG.out.keepG (fun g hg => (hW g (.inr (by omega))).trans ((hp g (by omega)).trans (Below.heap_setCell _ _ _ _ (show ¬ g = w.heap.size by omega))))).rs); clear hz hk hb hp))
  obtain ⟨q0, q1, q2, q3, q4⟩ := Ho.out.z.im
  exact bodyPost_ret (v := .tuple #[.agg (iml { m with ts := T1, cf := L2 } { p with aq := av, cq := cv, ts := L1, ac := av2, cc := cv2 }).toArray, .nilIface]) (by simp [results, Tryz.results98, go_sem, q0, q1, q2, q3, q4, iml]) rfl (st_ret Ho.out (fun W hW => ⟨(Hv.out W _ Ho.out.b hW).b, (HRS.out W hW), fun t ht => (Hv.out W _ Ho.out.b hW).q t (HMQ.out t ht), HTL.out, (HRC.out W hW), (Hv.out W _ Ho.out.b hW).d⟩) erc_nil)
end Go.Proofs.YtlggjgapdpkhiaaGreat
namespace Go.Proofs.YtlggjgapdpkhiaaGreat
open Go.RowKit
set_option maxRecDepth 100000
set_option maxHeartbeats 8000000
theorem putC_new (l : List Cf) (ao : Option Addr) (n cap i : Nat) (x : Cf) (w : World) (hn : n = l.length) (hv : Rs cfc w (.slice ao n cap) l) (hi : i ≤ l.length) (hl : l.length ≤ 100000) :
  Calls Tryz.prog 127 #[.slice ao n cap, .int .i64 (i : Int), .bool false, .agg (cfc x).toArray] w fun e w' => ∃ v, e = .returned v ∧ Ro cfc 3 78 w' w.heap.size v (l.take i ++ x :: l.drop i) ∧ Below w.heap.size w w' := by
 subst hn
 obtain ⟨ao', hr, hd⟩ := hv.from tyiC encC i hi
 have hu := fun W => upto_run tyiC ao l.length cap i hi hv.cap.2 W
 have HP := Hd (fun o1 T U => put_frame (f := cfc) w o1 x T U (.slice ao i cap) (.slice ao' (l.length - i) (cap - i)))
 have HC := Hd (fun W (hb : Below w.heap.size w W) (hB : Bx W (w.heap.size + 1 + 1) [.slice ao i cap, .slice (some ⟨w.heap.size + 1, 0, none⟩) 1 1, .slice ao' (l.length - i) (cap - i)]) (hx : Rs cfc W (.slice (some ⟨w.heap.size + 1, 0, none⟩) 1 1) [x]) => concC_3 _ _ _ (l.take i) [x] (l.drop i) _ W hB ((hv.below hb).upto encC i hi) hx (hd W hb) (by rw [List.length_take]; omega) (by simp) (by rw [List.length_drop]; omega))
 have HE : Hid (l.take i ++ [x] ++ l.drop i = l.take i ++ x :: l.drop i) := Hd (by simp)
 clear hv hd
 unfold cfc at *
 go_enter Tryz.func127, Tryz.ntmps127
 go_upto_region 4 with fail
 go_region_with (go_at_call 148; obtain ⟨p1, p2, p3⟩ := HP.out _ _ _; refine (HC.out _ p3 p1 p2).mono ?_; rintro e w1 ⟨v, rfl, hr, hb⟩; rw [HE.out] at hr; have HR := Hd (hr.mono p3.size); have HB := Hd (bt p3 hb); clear hr hb p1 p2 p3)
 all_goals
  go_wp2_with fail
  go_ret
  exact ⟨_, rfl, HR.out, HB.out⟩
theorem putC_old (l : List Cf) (ao : Option Addr) (n cap i : Nat) (x : Cf) (w : World) (hn : n = l.length) (hv : Rs cfc w (.slice ao n cap) l) (hi : i < l.length) (hl : l.length ≤ 100000) :
  Calls Tryz.prog 127 #[.slice ao n cap, .int .i64 (i : Int), .bool true, .agg (cfc x).toArray] w fun e w' => ∃ v, e = .returned v ∧ Ro cfc 3 78 w' w.heap.size v (l.take i ++ x :: l.drop (i + 1)) ∧ Below w.heap.size w w' := by
 subst hn
 obtain ⟨ao', hr, hd⟩ := hv.from tyiC encC i (Nat.le_of_lt hi)
 have hdl : (l.drop i).length = l.length - i := List.length_drop
 obtain ⟨ao2, hr2, hd2⟩ := (show Rs cfc w (.slice ao' (l.drop i).length (cap - i)) (l.drop i) from hdl ▸ hd w (Below.refl _ _)).from tyiC encC 1 (by omega)
 rw [hdl] at hr2 hd2
 have hdd : (l.drop i).drop 1 = l.drop (i + 1) := by rw [List.drop_drop]
 rw [hdd] at hd2
 have hu := fun W => upto_run tyiC ao l.length cap i (Nat.le_of_lt hi) hv.cap.2 W
 replace hr2 : ∀ W, (Instr.slice 27 (.slice ao' (l.length - i) (cap - i)) (some (.int .i64 1)) none none).run Tryz.prog W = .ok (.slice ao2 (l.length - i - 1) (cap - i - 1)) W := hr2
 have HP := Hd (fun o1 T U => put_frame (f := cfc) w o1 x T U (.slice ao i cap) (.slice ao2 (l.length - i - 1) (cap - i - 1)))
 have HC := Hd (fun W (hb : Below w.heap.size w W) (hB : Bx W (w.heap.size + 1 + 1) [.slice ao i cap, .slice (some ⟨w.heap.size + 1, 0, none⟩) 1 1, .slice ao2 (l.length - i - 1) (cap - i - 1)]) (hx : Rs cfc W (.slice (some ⟨w.heap.size + 1, 0, none⟩) 1 1) [x]) => concC_3 _ _ _ (l.take i) [x] (l.drop (i + 1)) _ W hB ((hv.below hb).upto encC i (Nat.le_of_lt hi)) hx (hd2 W hb) (by rw [List.length_take]; omega) (by simp) (by rw [List.length_drop]; omega))
 have HE : Hid (l.take i ++ [x] ++ l.drop (i + 1) = l.take i ++ x :: l.drop (i + 1)) := Hd (by simp)
 clear hv hd hd2 hdl hdd
 unfold cfc at *
 go_enter Tryz.func127, Tryz.ntmps127
 go_upto_region 4 with fail
 go_region_with (go_at_call 148; obtain ⟨p1, p2, p3⟩ := HP.out _ _ _; refine (HC.out _ p3 p1 p2).mono ?_; rintro e w1 ⟨v, rfl, hr, hb⟩; rw [HE.out] at hr; have HR := Hd (hr.mono p3.size); have HB := Hd (bt p3 hb); clear hr hb p1 p2 p3)
 all_goals
  go_wp2_with fail
  go_ret
  exact ⟨_, rfl, HR.out, HB.out⟩
end Go.Proofs.YtlggjgapdpkhiaaGreat
