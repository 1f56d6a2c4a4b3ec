/-
  RecordChecks, WHERE LITTLE IS ASKED: whether any record may be, any text a name, any numbers brokers, and whether two records are the same, is what the chapter says. Conditions: the rows' cells hold them; errors.errorType is laid.
-/
import Derived.Test.YthoeajiojdfgdaaGreatDoorRecWr
import Derived.Test.YthoeajiojdfgdaaGreatDoorRecShr
namespace Go.Proofs.YthoeajiojdfgdaaGreatDoor
open Go.RowKit

/-- What is wrong with a record first, by the document. -/
theorem rcheck_any {ok : Nat → Prop} (r : Rc) (v : Value) (w : World) (hv : IsR ok w v r) (ht : TxR r) : Calls Tryz.prog 10 #[v] w fun e w' => e = .returned (.agg #[.string (chk r).1, .int .i64 (chk r).2.1, .int .i64 (chk r).2.2]) ∧ Below w.heap.size w w' := by
  obtain ⟨a14, a15, a16, a17, c14, c15, c16, c17, rfl, h⟩ := hv
  exact check_any r.k r.br r.ep r.tp r.pa r.le r.cl r.se r.co r.fl r.nm r.ky r.va r.rk a14 a15 a16 a17 c14 c15 c16 c17 r.ids r.isr r.ad r.dr w ht.nm ht.ky ht.va ht.rk h.h14.sl h.h15.sl h.h16.sl h.h17.sl
set_option maxRecDepth 100000 in
set_option maxHeartbeats 64000000 in
theorem rchk_0 (r q : Rc) (a14 a15 a16 a17 b14 b15 b16 b17 : Option Addr) (c14 c15 c16 c17 d14 d15 d16 d17 : Nat) (S : List UInt8) (ao : Option Addr) (cap : Nat) (l : List Int) (w : World) (hrw : RwsR (fun b => b < w.heap.size) w r a14 a15 a16 a17 c14 c15 c16 c17) (hqw : RwsR (fun b => b < w.heap.size) w q b14 b15 b16 b17 d14 d15 d16 d17) (hv : Sl ic w (.slice ao l.length cap) l) (hg : Hnd w) (hs : shB r = false) :
    Calls Tryz.prog 3 #[.agg (cellsR r a14 a15 a16 a17 c14 c15 c16 c17).toArray, .agg (cellsR q b14 b15 b16 b17 d14 d15 d16 d17).toArray, .string ⟨S.toArray⟩, .slice ao l.length cap] w fun e w' => e = .returned (.bool true) ∧ Below w.heap.size w w' := by
  have HVR : Hid (∀ W, Below w.heap.size w W → IsR (fun b => b < w.heap.size) W (.agg (cellsR r a14 a15 a16 a17 c14 c15 c16 c17).toArray) r) := hide (fun W h => ⟨a14, a15, a16, a17, c14, c15, c16, c17, rfl, hrw.below h⟩)
  have HVQ : Hid (∀ W, Below w.heap.size w W → IsR (fun b => b < w.heap.size) W (.agg (cellsR q b14 b15 b16 b17 d14 d15 d16 d17).toArray) q) := hide (fun W h => ⟨b14, b15, b16, b17, d14, d15, d16, d17, rfl, hqw.below h⟩)
  have HG := hide hg
  have HVL := hide hv
  have HSR := hide (fun W (h : Below w.heap.size w W) => short_any r _ W (HVR.out W h))
  have HSQ := hide (fun W (h : Below w.heap.size w W) => short_any q _ W (HVQ.out W h))
  have HWK := hide (fun W (h : Below w.heap.size w W) => works_any W (HG.out.below h))
  have HRG : Hid (((w.alloc (.cells (cellsR r a14 a15 a16 a17 c14 c15 c16 c17).toArray 24)).alloc (.cells (cellsR q b14 b15 b16 b17 d14 d15 d16 d17).toArray 24)).rangeAt w.heap.size 0 (cellsR r a14 a15 a16 a17 c14 c15 c16 c17)) := hide (World.rangeAt_alloc (range_new w _ _) _)
  have HPG : Hid (((w.alloc (.cells (cellsR r a14 a15 a16 a17 c14 c15 c16 c17).toArray 24)).alloc (.cells (cellsR q b14 b15 b16 b17 d14 d15 d16 d17).toArray 24)).rangeAt (w.heap.size + 1) 0 (cellsR q b14 b15 b16 b17 d14 d15 d16 d17)) := hide (by
    have := range_new (w.alloc (.cells (cellsR r a14 a15 a16 a17 c14 c15 c16 c17).toArray 24)) (cellsR q b14 b15 b16 b17 d14 d15 d16 d17) 24
    have hz : (w.alloc (.cells (cellsR r a14 a15 a16 a17 c14 c15 c16 c17).toArray 24)).heap.size = w.heap.size + 1 := by simp
    rwa [hz] at this)
  have HB : Hid (Below w.heap.size w ((w.alloc (.cells (cellsR r a14 a15 a16 a17 c14 c15 c16 c17).toArray 24)).alloc (.cells (cellsR q b14 b15 b16 b17 d14 d15 d16 d17).toArray 24))) := hide (((Below.refl _ _).alloc (Nat.le_refl _) _).alloc (by simp) _)
  clear hrw hqw hg hv
  obtain ⟨X, hX⟩ : ∃ X, X = ((w.alloc (.cells (cellsR r a14 a15 a16 a17 c14 c15 c16 c17).toArray 24)).alloc (.cells (cellsR q b14 b15 b16 b17 d14 d15 d16 d17).toArray 24)) := ⟨_, rfl⟩
  rw [← hX] at HRG HPG HB
  have HX := hide hX
  clear hX
  rw [hs] at HSR
  clear hs HSQ
  have HSQ := HSR
  go_enter Tryz.func3, Tryz.ntmps3
  go_upto_region 1 with fail
  rw [← show X = _ from HX.out]
  go_wp2_with (first | (refine wpList_load_mid rfl _ _ rfl _ _ rfl _ _ (HRG.out) Tryz.underlying24 rfl (by kernel_rfl) ?_) | (refine wpList_load_want (by rfl) _ _ rfl _ _ rfl _ _ (HPG.out) Tryz.underlying24 rfl (by kernel_rfl) ?_) | (go_at_call 6; first | (with_reducible refine (HSR.out _ HB.out).mono ?_; rintro e W1 ⟨rfl, hb1⟩; replace HB := hide (HB.out.trans (hb1.mono HB.out.size)); replace HRG := hide (range_below HRG.out hb1); replace HPG := hide (range_below HPG.out hb1); clear hb1) | (refine (HSQ.out _ HB.out).mono ?_; rintro e W1 ⟨rfl, hb1⟩; replace HB := hide (HB.out.trans (hb1.mono HB.out.size)); replace HRG := hide (range_below HRG.out hb1); replace HPG := hide (range_below HPG.out hb1); clear hb1)) | (go_at_call 7; refine (HWK.out _ HB.out).mono ?_; rintro e W1 ⟨rfl, hb1⟩; replace HB := hide (HB.out.trans (hb1.mono HB.out.size)); clear hb1))
  go_ret
  exact ⟨rfl, HB.out⟩
set_option maxRecDepth 100000 in
set_option maxHeartbeats 64000000 in
theorem rchk_1 (r q : Rc) (a14 a15 a16 a17 b14 b15 b16 b17 : Option Addr) (c14 c15 c16 c17 d14 d15 d16 d17 : Nat) (S : List UInt8) (ao : Option Addr) (cap : Nat) (l : List Int) (w : World) (hrw : RwsR (fun b => b < w.heap.size) w r a14 a15 a16 a17 c14 c15 c16 c17) (hqw : RwsR (fun b => b < w.heap.size) w q b14 b15 b16 b17 d14 d15 d16 d17) (hv : Sl ic w (.slice ao l.length cap) l) (hg : Hnd w) (hs : shB r = true) (hq : shB q = false) :
    Calls Tryz.prog 3 #[.agg (cellsR r a14 a15 a16 a17 c14 c15 c16 c17).toArray, .agg (cellsR q b14 b15 b16 b17 d14 d15 d16 d17).toArray, .string ⟨S.toArray⟩, .slice ao l.length cap] w fun e w' => e = .returned (.bool true) ∧ Below w.heap.size w w' := by
  have HVR : Hid (∀ W, Below w.heap.size w W → IsR (fun b => b < w.heap.size) W (.agg (cellsR r a14 a15 a16 a17 c14 c15 c16 c17).toArray) r) := hide (fun W h => ⟨a14, a15, a16, a17, c14, c15, c16, c17, rfl, hrw.below h⟩)
  have HVQ : Hid (∀ W, Below w.heap.size w W → IsR (fun b => b < w.heap.size) W (.agg (cellsR q b14 b15 b16 b17 d14 d15 d16 d17).toArray) q) := hide (fun W h => ⟨b14, b15, b16, b17, d14, d15, d16, d17, rfl, hqw.below h⟩)
  have HG := hide hg
  have HVL := hide hv
  have HSR := hide (fun W (h : Below w.heap.size w W) => short_any r _ W (HVR.out W h))
  have HSQ := hide (fun W (h : Below w.heap.size w W) => short_any q _ W (HVQ.out W h))
  have HWK := hide (fun W (h : Below w.heap.size w W) => works_any W (HG.out.below h))
  have HRG : Hid (((w.alloc (.cells (cellsR r a14 a15 a16 a17 c14 c15 c16 c17).toArray 24)).alloc (.cells (cellsR q b14 b15 b16 b17 d14 d15 d16 d17).toArray 24)).rangeAt w.heap.size 0 (cellsR r a14 a15 a16 a17 c14 c15 c16 c17)) := hide (World.rangeAt_alloc (range_new w _ _) _)
  have HPG : Hid (((w.alloc (.cells (cellsR r a14 a15 a16 a17 c14 c15 c16 c17).toArray 24)).alloc (.cells (cellsR q b14 b15 b16 b17 d14 d15 d16 d17).toArray 24)).rangeAt (w.heap.size + 1) 0 (cellsR q b14 b15 b16 b17 d14 d15 d16 d17)) := hide (by
    have := range_new (w.alloc (.cells (cellsR r a14 a15 a16 a17 c14 c15 c16 c17).toArray 24)) (cellsR q b14 b15 b16 b17 d14 d15 d16 d17) 24
    have hz : (w.alloc (.cells (cellsR r a14 a15 a16 a17 c14 c15 c16 c17).toArray 24)).heap.size = w.heap.size + 1 := by simp
    rwa [hz] at this)
  have HB : Hid (Below w.heap.size w ((w.alloc (.cells (cellsR r a14 a15 a16 a17 c14 c15 c16 c17).toArray 24)).alloc (.cells (cellsR q b14 b15 b16 b17 d14 d15 d16 d17).toArray 24))) := hide (((Below.refl _ _).alloc (Nat.le_refl _) _).alloc (by simp) _)
  clear hrw hqw hg hv
  obtain ⟨X, hX⟩ : ∃ X, X = ((w.alloc (.cells (cellsR r a14 a15 a16 a17 c14 c15 c16 c17).toArray 24)).alloc (.cells (cellsR q b14 b15 b16 b17 d14 d15 d16 d17).toArray 24)) := ⟨_, rfl⟩
  rw [← hX] at HRG HPG HB
  have HX := hide hX
  clear hX
  rw [hs] at HSR
  rw [hq] at HSQ
  clear hs hq
  go_enter Tryz.func3, Tryz.ntmps3
  go_upto_region 1 with fail
  rw [← show X = _ from HX.out]
  go_wp2_with (first | (refine wpList_load_mid rfl _ _ rfl _ _ rfl _ _ (HRG.out) Tryz.underlying24 rfl (by kernel_rfl) ?_) | (refine wpList_load_want (by rfl) _ _ rfl _ _ rfl _ _ (HPG.out) Tryz.underlying24 rfl (by kernel_rfl) ?_) | (go_at_call 6; first | (with_reducible refine (HSR.out _ HB.out).mono ?_; rintro e W1 ⟨rfl, hb1⟩; replace HB := hide (HB.out.trans (hb1.mono HB.out.size)); replace HRG := hide (range_below HRG.out hb1); replace HPG := hide (range_below HPG.out hb1); clear hb1) | (refine (HSQ.out _ HB.out).mono ?_; rintro e W1 ⟨rfl, hb1⟩; replace HB := hide (HB.out.trans (hb1.mono HB.out.size)); replace HRG := hide (range_below HRG.out hb1); replace HPG := hide (range_below HPG.out hb1); clear hb1)) | (go_at_call 7; refine (HWK.out _ HB.out).mono ?_; rintro e W1 ⟨rfl, hb1⟩; replace HB := hide (HB.out.trans (hb1.mono HB.out.size)); clear hb1))
  go_ret
  exact ⟨rfl, HB.out⟩
set_option maxRecDepth 100000 in
set_option maxHeartbeats 64000000 in
theorem rchk_2 (r q : Rc) (a14 a15 a16 a17 b14 b15 b16 b17 : Option Addr) (c14 c15 c16 c17 d14 d15 d16 d17 : Nat) (S : List UInt8) (ao : Option Addr) (cap : Nat) (l : List Int) (w : World) (hrw : RwsR (fun b => b < w.heap.size) w r a14 a15 a16 a17 c14 c15 c16 c17) (hqw : RwsR (fun b => b < w.heap.size) w q b14 b15 b16 b17 d14 d15 d16 d17) (hv : Sl ic w (.slice ao l.length cap) l) (hg : Hnd w) (hs : shB r = true) (hq : shB q = true) (hS : 400 < S.length) :
    Calls Tryz.prog 3 #[.agg (cellsR r a14 a15 a16 a17 c14 c15 c16 c17).toArray, .agg (cellsR q b14 b15 b16 b17 d14 d15 d16 d17).toArray, .string ⟨S.toArray⟩, .slice ao l.length cap] w fun e w' => e = .returned (.bool true) ∧ Below w.heap.size w w' := by
  have HVR : Hid (∀ W, Below w.heap.size w W → IsR (fun b => b < w.heap.size) W (.agg (cellsR r a14 a15 a16 a17 c14 c15 c16 c17).toArray) r) := hide (fun W h => ⟨a14, a15, a16, a17, c14, c15, c16, c17, rfl, hrw.below h⟩)
  have HVQ : Hid (∀ W, Below w.heap.size w W → IsR (fun b => b < w.heap.size) W (.agg (cellsR q b14 b15 b16 b17 d14 d15 d16 d17).toArray) q) := hide (fun W h => ⟨b14, b15, b16, b17, d14, d15, d16, d17, rfl, hqw.below h⟩)
  have HG := hide hg
  have HVL := hide hv
  have HSR := hide (fun W (h : Below w.heap.size w W) => short_any r _ W (HVR.out W h))
  have HSQ := hide (fun W (h : Below w.heap.size w W) => short_any q _ W (HVQ.out W h))
  have HWK := hide (fun W (h : Below w.heap.size w W) => works_any W (HG.out.below h))
  have HRG : Hid (((w.alloc (.cells (cellsR r a14 a15 a16 a17 c14 c15 c16 c17).toArray 24)).alloc (.cells (cellsR q b14 b15 b16 b17 d14 d15 d16 d17).toArray 24)).rangeAt w.heap.size 0 (cellsR r a14 a15 a16 a17 c14 c15 c16 c17)) := hide (World.rangeAt_alloc (range_new w _ _) _)
  have HPG : Hid (((w.alloc (.cells (cellsR r a14 a15 a16 a17 c14 c15 c16 c17).toArray 24)).alloc (.cells (cellsR q b14 b15 b16 b17 d14 d15 d16 d17).toArray 24)).rangeAt (w.heap.size + 1) 0 (cellsR q b14 b15 b16 b17 d14 d15 d16 d17)) := hide (by
    have := range_new (w.alloc (.cells (cellsR r a14 a15 a16 a17 c14 c15 c16 c17).toArray 24)) (cellsR q b14 b15 b16 b17 d14 d15 d16 d17) 24
    have hz : (w.alloc (.cells (cellsR r a14 a15 a16 a17 c14 c15 c16 c17).toArray 24)).heap.size = w.heap.size + 1 := by simp
    rwa [hz] at this)
  have HB : Hid (Below w.heap.size w ((w.alloc (.cells (cellsR r a14 a15 a16 a17 c14 c15 c16 c17).toArray 24)).alloc (.cells (cellsR q b14 b15 b16 b17 d14 d15 d16 d17).toArray 24))) := hide (((Below.refl _ _).alloc (Nat.le_refl _) _).alloc (by simp) _)
  clear hrw hqw hg hv
  obtain ⟨X, hX⟩ : ∃ X, X = ((w.alloc (.cells (cellsR r a14 a15 a16 a17 c14 c15 c16 c17).toArray 24)).alloc (.cells (cellsR q b14 b15 b16 b17 d14 d15 d16 d17).toArray 24)) := ⟨_, rfl⟩
  rw [← hX] at HRG HPG HB
  have HX := hide hX
  clear hX
  rw [hs] at HSR
  rw [hq] at HSQ
  clear hs hq
  have hSI : (400 : Int) < (S.length : Int) := by omega
  go_enter Tryz.func3, Tryz.ntmps3
  go_upto_region 1 with fail
  rw [← show X = _ from HX.out]
  go_wp2_with (first | (refine wpList_load_mid rfl _ _ rfl _ _ rfl _ _ (HRG.out) Tryz.underlying24 rfl (by kernel_rfl) ?_) | (refine wpList_load_want (by rfl) _ _ rfl _ _ rfl _ _ (HPG.out) Tryz.underlying24 rfl (by kernel_rfl) ?_) | (go_at_call 6; first | (with_reducible refine (HSR.out _ HB.out).mono ?_; rintro e W1 ⟨rfl, hb1⟩; replace HB := hide (HB.out.trans (hb1.mono HB.out.size)); replace HRG := hide (range_below HRG.out hb1); replace HPG := hide (range_below HPG.out hb1); clear hb1) | (refine (HSQ.out _ HB.out).mono ?_; rintro e W1 ⟨rfl, hb1⟩; replace HB := hide (HB.out.trans (hb1.mono HB.out.size)); replace HRG := hide (range_below HRG.out hb1); replace HPG := hide (range_below HPG.out hb1); clear hb1)) | (go_at_call 7; refine (HWK.out _ HB.out).mono ?_; rintro e W1 ⟨rfl, hb1⟩; replace HB := hide (HB.out.trans (hb1.mono HB.out.size)); clear hb1))
  go_ret
  exact ⟨rfl, HB.out⟩
set_option maxRecDepth 100000 in
set_option maxHeartbeats 64000000 in
theorem rchk_3 (r q : Rc) (a14 a15 a16 a17 b14 b15 b16 b17 : Option Addr) (c14 c15 c16 c17 d14 d15 d16 d17 : Nat) (S : List UInt8) (ao : Option Addr) (cap : Nat) (l : List Int) (w : World) (hrw : RwsR (fun b => b < w.heap.size) w r a14 a15 a16 a17 c14 c15 c16 c17) (hqw : RwsR (fun b => b < w.heap.size) w q b14 b15 b16 b17 d14 d15 d16 d17) (hv : Sl ic w (.slice ao l.length cap) l) (hg : Hnd w) (hs : shB r = true) (hq : shB q = true) (hS : ¬ 400 < S.length) (hl : 100 < l.length) :
    Calls Tryz.prog 3 #[.agg (cellsR r a14 a15 a16 a17 c14 c15 c16 c17).toArray, .agg (cellsR q b14 b15 b16 b17 d14 d15 d16 d17).toArray, .string ⟨S.toArray⟩, .slice ao l.length cap] w fun e w' => e = .returned (.bool true) ∧ Below w.heap.size w w' := by
  have HVR : Hid (∀ W, Below w.heap.size w W → IsR (fun b => b < w.heap.size) W (.agg (cellsR r a14 a15 a16 a17 c14 c15 c16 c17).toArray) r) := hide (fun W h => ⟨a14, a15, a16, a17, c14, c15, c16, c17, rfl, hrw.below h⟩)
  have HVQ : Hid (∀ W, Below w.heap.size w W → IsR (fun b => b < w.heap.size) W (.agg (cellsR q b14 b15 b16 b17 d14 d15 d16 d17).toArray) q) := hide (fun W h => ⟨b14, b15, b16, b17, d14, d15, d16, d17, rfl, hqw.below h⟩)
  have HG := hide hg
  have HVL := hide hv
  have HSR := hide (fun W (h : Below w.heap.size w W) => short_any r _ W (HVR.out W h))
  have HSQ := hide (fun W (h : Below w.heap.size w W) => short_any q _ W (HVQ.out W h))
  have HWK := hide (fun W (h : Below w.heap.size w W) => works_any W (HG.out.below h))
  have HRG : Hid (((w.alloc (.cells (cellsR r a14 a15 a16 a17 c14 c15 c16 c17).toArray 24)).alloc (.cells (cellsR q b14 b15 b16 b17 d14 d15 d16 d17).toArray 24)).rangeAt w.heap.size 0 (cellsR r a14 a15 a16 a17 c14 c15 c16 c17)) := hide (World.rangeAt_alloc (range_new w _ _) _)
  have HPG : Hid (((w.alloc (.cells (cellsR r a14 a15 a16 a17 c14 c15 c16 c17).toArray 24)).alloc (.cells (cellsR q b14 b15 b16 b17 d14 d15 d16 d17).toArray 24)).rangeAt (w.heap.size + 1) 0 (cellsR q b14 b15 b16 b17 d14 d15 d16 d17)) := hide (by
    have := range_new (w.alloc (.cells (cellsR r a14 a15 a16 a17 c14 c15 c16 c17).toArray 24)) (cellsR q b14 b15 b16 b17 d14 d15 d16 d17) 24
    have hz : (w.alloc (.cells (cellsR r a14 a15 a16 a17 c14 c15 c16 c17).toArray 24)).heap.size = w.heap.size + 1 := by simp
    rwa [hz] at this)
  have HB : Hid (Below w.heap.size w ((w.alloc (.cells (cellsR r a14 a15 a16 a17 c14 c15 c16 c17).toArray 24)).alloc (.cells (cellsR q b14 b15 b16 b17 d14 d15 d16 d17).toArray 24))) := hide (((Below.refl _ _).alloc (Nat.le_refl _) _).alloc (by simp) _)
  clear hrw hqw hg hv
  obtain ⟨X, hX⟩ : ∃ X, X = ((w.alloc (.cells (cellsR r a14 a15 a16 a17 c14 c15 c16 c17).toArray 24)).alloc (.cells (cellsR q b14 b15 b16 b17 d14 d15 d16 d17).toArray 24)) := ⟨_, rfl⟩
  rw [← hX] at HRG HPG HB
  have HX := hide hX
  clear hX
  rw [hs] at HSR
  rw [hq] at HSQ
  clear hs hq
  have hSI : ¬ (400 : Int) < (S.length : Int) := by omega
  have hlI : (100 : Int) < (l.length : Int) := by omega
  go_enter Tryz.func3, Tryz.ntmps3
  go_upto_region 1 with fail
  rw [← show X = _ from HX.out]
  go_wp2_with (first | (refine wpList_load_mid rfl _ _ rfl _ _ rfl _ _ (HRG.out) Tryz.underlying24 rfl (by kernel_rfl) ?_) | (refine wpList_load_want (by rfl) _ _ rfl _ _ rfl _ _ (HPG.out) Tryz.underlying24 rfl (by kernel_rfl) ?_) | (go_at_call 6; first | (with_reducible refine (HSR.out _ HB.out).mono ?_; rintro e W1 ⟨rfl, hb1⟩; replace HB := hide (HB.out.trans (hb1.mono HB.out.size)); replace HRG := hide (range_below HRG.out hb1); replace HPG := hide (range_below HPG.out hb1); clear hb1) | (refine (HSQ.out _ HB.out).mono ?_; rintro e W1 ⟨rfl, hb1⟩; replace HB := hide (HB.out.trans (hb1.mono HB.out.size)); replace HRG := hide (range_below HRG.out hb1); replace HPG := hide (range_below HPG.out hb1); clear hb1)) | (go_at_call 7; refine (HWK.out _ HB.out).mono ?_; rintro e W1 ⟨rfl, hb1⟩; replace HB := hide (HB.out.trans (hb1.mono HB.out.size)); clear hb1))
  go_ret
  exact ⟨rfl, HB.out⟩
end Go.Proofs.YthoeajiojdfgdaaGreatDoor
