/-
  A TOPIC IS MADE, AS THE DOCUMENT HAS IT (castellanref15.topic).
  Steps of a region that draws its order, with what is the same each time filled in.
  ONE THAT IS PUT AT A PLACE (image.put), ahead of what is there, or in its stead.
-/
import Derived.Test.YtlggjgapdpkhiaaGreatJKImDea4
import Derived.Test.YtlggjgapdpkhiaaGreatJKRecMa5
import Derived.OrdersHeld
import Derived.Test.YtlggjgapdpkhiaaGreatJKImDgTa5
namespace Go.Proofs.YtlggjgapdpkhiaaGreat
open Go.RowKit
theorem Fo.low {w W W' : World} {m : Im} {p : Ip} {cs os : List Value} {bo : Nat} (h : Fo w W m p cs bo os) (hb : Below (bo + 1) W W') : Fo w W' m p cs bo os :=
 have hg := h.ge
 ⟨⟨h.f.i.lowB hb (by omega), h.f.r.lowB hb (by omega), h.f.z.lowB hb (by omega), h.f.b.trans (hb.mono (by omega))⟩, h.o.lowB hb (by omega), h.ge⟩
set_option maxRecDepth 100000 in
set_option maxHeartbeats 16000000 in
theorem rcreate_any {ok : Nat → Prop} (m : Im) (p : Ip) (r : Rc) (v : Value) (w : World) (n0 : Nat → Prop) (hn0 : ∀ g, n0 g → g < w.heap.size) (hv : ∀ W, (∀ g, n0 g → W.heap[g]? = w.heap[g]?) → ImR W m p) (hw : Wf m 100000) (hr : IsR ok w v r) : Calls Tryz.prog 68 #[imv m p, v] w fun e w' => StD n0 w w' (crtT m r).1 (crtT m r).2 e := by
 obtain ⟨a14, a15, a16, a17, c14, c15, c16, c17, rfl, hrw⟩ := hr
 have Hv := Hd (fun (W W3 : World) (hb : Below w.heap.size w W3) (hW : Agr n0 w.heap.size W3 W) => hv W (fun g hg => (hW g (.inl hg)).trans (hb.block g (hn0 g hg))))
 replace hv : ImR w m p := hv w (fun _ _ => rfl)
 have HV := Hd (fun W (h : Below w.heap.size w W) => hv.below h)
 have hwl : wrap64 (m.la + 1) = m.la + 1 := by have := hw.la; unfold wrap64; omega
 have hla := hw.la
 have HLN : Hid (p.ts.length = m.ts.length) := Hd hv.len
 have HNT : Hid (m.ts.length ≤ 100000) := Hd hw.nt
 by_cases h1 : r.tp = m.la + 1
 ·have hn1 : (r.tp != m.la + 1) = false := by simpa using h1
  have HFN := Hd (hv.fN r.nm)
  have HNM := Hd (fun W (h : Below w.heap.size w W) => rnamed_any m p r.nm W (hv.below h) (by rw [hv.len]; exact hw.nt))
  obtain ⟨u, hu⟩ : ∃ u, u = tqNm p r.nm := ⟨_, rfl⟩
  rw [← hu] at HNM
  clear hu
  cases hf : p.ts.find? (nmQ r.nm) with
  | some t =>
   have Hr : Hid (crtT m r = (m, 9)) := Hd (by unfold crtT; rw [if_pos h1, HFN.out, hf]; rfl)
   rw [Hr.out]
   rw [hf] at HNM
   have HH1 := Hd h1
   clear h1 hf
   unfold imv tpc at HNM
   simp only [Option.isSome_some] at HNM
   have HFR0 := fF w m p r a14 a15 a16 a17 c14 c15 c16 c17
   clear hv hw hrw hn0
   unfold imv
   unfold cR
   go_enter Tryz.func68, Tryz.ntmps68
   go_upto_region 1 with fail
   rw [fE]
   generalize frW w m p r a14 a15 a16 a17 c14 c15 c16 c17 = X at HFR0 ⊢
   have Hf := Hd HFR0
   clear HFR0
   obtain ⟨i0, i1, i2, i3, i4⟩ := Hf.out.i.im; have r3 := Hf.out.r.at 3 _ rfl; have r10 := Hf.out.r.at 10 _ rfl
   go_upto_region 4 with (first | (refine wpList_load_mid rfl _ _ rfl _ _ rfl _ _ Hf.out.i.c Tryz.underlying30 rfl (by kernel_rfl) ?_) | (go_at_call 12; refine (HNM.out _ Hf.out.b).mono ?_; rintro e wx ⟨rfl, hbx⟩; replace Hf := Hd (Hf.out.below hbx); clear i0 i1 i2 i3 i4 r3 r10; clear hbx HNM))
   replace Hf := Hd (Hf.out.below (bA wx (.cells (List.toArray [Value.int .i64 u.id, .string ⟨u.nm.toArray⟩, .slice u.a u.ps.length u.c]) 38)))
   generalize wx.alloc (.cells (List.toArray [Value.int .i64 u.id, .string ⟨u.nm.toArray⟩, .slice u.a u.ps.length u.c]) 38) = X2 at Hf ⊢
   obtain ⟨i0, i1, i2, i3, i4⟩ := Hf.out.i.im; have r3 := Hf.out.r.at 3 _ rfl; have r10 := Hf.out.r.at 10 _ rfl
   go_wp2_with (first | (refine wpList_load_mid rfl _ _ rfl _ _ rfl _ _ Hf.out.i.c Tryz.underlying30 rfl (by kernel_rfl) ?_) | (refine wS rfl _ _ _ rfl _ _ rfl Hf.out.z (iml m p) rfl rfl (by kernel_rfl) rfl ?_; intro W3 hz hk hb hp; have Ho := Hd (Hf.out.out hz hk hb); clear hz hk hb hp))
   obtain ⟨q0, q1, q2, q3, q4⟩ := Ho.out.z.im
   exact bodyPost_ret (v := .tuple #[.agg (iml m p).toArray, .int .i64 9]) (by simp [results, Tryz.results68, go_sem, q0, q1, q2, q3, q4, iml]) rfl (std_ret Ho.out (fun W hW => Hv.out W _ Ho.out.b hW))
  | none =>
   rw [hf] at HNM
   unfold imv tpc at HNM
   simp only [Option.isSome_none] at HNM
   by_cases h2 : 256 ≤ m.ts.length
   ·have Hr : Hid (crtT m r = (m, 6)) := Hd (by unfold crtT; rw [if_pos h1, HFN.out, hf, if_neg (by simp), if_pos h2])
    rw [Hr.out]
    have hn2 : (256 : Int) ≤ (p.ts.length : Int) := by rw [HLN.out]; omega
    clear h1 hf
    have HFR0 := fF w m p r a14 a15 a16 a17 c14 c15 c16 c17
    clear hv hw hrw hn0
    unfold imv
    unfold cR
    go_enter Tryz.func68, Tryz.ntmps68
    go_upto_region 1 with fail
    rw [fE]
    generalize frW w m p r a14 a15 a16 a17 c14 c15 c16 c17 = X at HFR0 ⊢
    have Hf := Hd HFR0
    clear HFR0
    obtain ⟨i0, i1, i2, i3, i4⟩ := Hf.out.i.im; have r3 := Hf.out.r.at 3 _ rfl; have r10 := Hf.out.r.at 10 _ rfl
    go_upto_region 4 with (first | (refine wpList_load_mid rfl _ _ rfl _ _ rfl _ _ Hf.out.i.c Tryz.underlying30 rfl (by kernel_rfl) ?_) | (go_at_call 12; refine (HNM.out _ Hf.out.b).mono ?_; rintro e wx ⟨rfl, hbx⟩; replace Hf := Hd (Hf.out.below hbx); clear i0 i1 i2 i3 i4 r3 r10; clear hbx HNM))
    replace Hf := Hd (Hf.out.below (bA wx (.cells (List.toArray [Value.int .i64 u.id, .string ⟨u.nm.toArray⟩, .slice u.a u.ps.length u.c]) 38)))
    generalize wx.alloc (.cells (List.toArray [Value.int .i64 u.id, .string ⟨u.nm.toArray⟩, .slice u.a u.ps.length u.c]) 38) = X2 at Hf ⊢
    obtain ⟨i0, i1, i2, i3, i4⟩ := Hf.out.i.im; have r3 := Hf.out.r.at 3 _ rfl; have r10 := Hf.out.r.at 10 _ rfl
    go_wp2_with (first | (refine wpList_load_mid rfl _ _ rfl _ _ rfl _ _ Hf.out.i.c Tryz.underlying30 rfl (by kernel_rfl) ?_) | (refine wS rfl _ _ _ rfl _ _ rfl Hf.out.z (iml m p) rfl rfl (by kernel_rfl) rfl ?_; intro W3 hz hk hb hp; have Ho := Hd (Hf.out.out hz hk hb); clear hz hk hb hp))
    obtain ⟨q0, q1, q2, q3, q4⟩ := Ho.out.z.im
    exact bodyPost_ret (v := .tuple #[.agg (iml m p).toArray, .int .i64 6]) (by simp [results, Tryz.results68, go_sem, q0, q1, q2, q3, q4, iml]) rfl (std_ret Ho.out (fun W hW => Hv.out W _ Ho.out.b hW))
   ·have Hr : Hid (crtT m r = ({ m with ts := m.ts ++ [⟨r.tp, r.nm, []⟩], la := r.tp }, 0)) := Hd (by unfold crtT; rw [if_pos h1, HFN.out, hf, if_neg (by simp), if_neg h2])
    rw [Hr.out]
    have hn2 : ¬ (256 : Int) ≤ (p.ts.length : Int) := by rw [HLN.out]; omega
    obtain ⟨L2, hL2⟩ : ∃ L2, L2 = p.ts ++ [(⟨r.tp, r.nm, [], none, 0⟩ : Tq)] := ⟨_, rfl⟩
    have HL2 := Hd hL2
    clear h1 hf hL2
    have HFR0 := fF w m p r a14 a15 a16 a17 c14 c15 c16 c17
    clear hv hw hrw hn0
    unfold imv
    unfold cR
    go_enter Tryz.func68, Tryz.ntmps68
    go_upto_region 1 with fail
    rw [fE]
    generalize frW w m p r a14 a15 a16 a17 c14 c15 c16 c17 = X at HFR0 ⊢
    have Hf := Hd HFR0
    clear HFR0
    obtain ⟨i0, i1, i2, i3, i4⟩ := Hf.out.i.im; have r3 := Hf.out.r.at 3 _ rfl; have r10 := Hf.out.r.at 10 _ rfl
    go_upto_region 4 with (first | (refine wpList_load_mid rfl _ _ rfl _ _ rfl _ _ Hf.out.i.c Tryz.underlying30 rfl (by kernel_rfl) ?_) | (go_at_call 12; refine (HNM.out _ Hf.out.b).mono ?_; rintro e wx ⟨rfl, hbx⟩; replace Hf := Hd (Hf.out.below hbx); clear i0 i1 i2 i3 i4 r3 r10; clear hbx HNM))
    replace Hf := Hd (Hf.out.below (bA wx (.cells (List.toArray [Value.int .i64 u.id, .string ⟨u.nm.toArray⟩, .slice u.a u.ps.length u.c]) 38)))
    generalize wx.alloc (.cells (List.toArray [Value.int .i64 u.id, .string ⟨u.nm.toArray⟩, .slice u.a u.ps.length u.c]) 38) = X2 at Hf ⊢
    obtain ⟨i0, i1, i2, i3, i4⟩ := Hf.out.i.im; have r3 := Hf.out.r.at 3 _ rfl; have r10 := Hf.out.r.at 10 _ rfl
    have HIU : Hid (X2.rangeAt w.heap.size 0 [Value.slice p.ab m.br.length p.cb, .slice p.aq p.ts.length p.cq, .slice p.ac m.cf.length p.cc, .slice p.ad m.dn.length p.cd, .int .i64 m.la]) := Hd Hf.out.i.c
    go_upto_region 9 with (first | (refine wpList_load_mid rfl _ _ rfl _ _ rfl _ _ HIU.out Tryz.underlying30 rfl (by kernel_rfl) ?_))
    clear HIU
    clear i0 i1 i2 i3 i4 r3 r10
    have Hz := Hd (Fo.new Hf.out [Value.slice p.ab m.br.length p.cb, .slice p.aq p.ts.length p.cq, .slice p.ac m.cf.length p.cc, .slice p.ad m.dn.length p.cd, .int .i64 m.la] 30)
    generalize X2.alloc (.cells (List.toArray [Value.slice p.ab m.br.length p.cb, .slice p.aq p.ts.length p.cq, .slice p.ac m.cf.length p.cc, .slice p.ad m.dn.length p.cd, .int .i64 m.la]) 30) = Y at Hz ⊢
    generalize X2.heap.size = bo at Hz ⊢
    have o1 := Hz.out.o.at 1 _ rfl
    have f1 := Hz.out.o.f 1 (by simp)
    go_upto_region 10 with fail
    replace Hz := Hd (Hz.out.set 1 (by simp) (.slice none 0 0))
    simp only [List.set] at Hz
    clear o1 f1
    generalize Y.setCell ⟨bo, 1, none⟩ (.slice none 0 0) = Y1 at Hz ⊢
    have o1 := Hz.out.o.at 1 _ rfl
    have f1 := Hz.out.o.f 1 (by simp)
    have i1 := Hz.out.f.i.at 1 _ rfl
    go_upto_region 11 with (first | (refine wR tyiT encT _ rfl _ _ rfl (bo + 1) _ [] rfl (ro_nil _ _ _ _ _) (by have := Hz.out.o.l; omega) _ p.ts rfl (HV.out _ Hz.out.f.b).t (by simp; have := HLN.out; have := HNT.out; omega) ?_; intro v1 w1 ho1 hg1 hb1; have HF1 := Hd (Hz.out.low hb1); rw [List.nil_append] at ho1; obtain ⟨av1, cv1, rfl⟩ := ho1.form; have HO1 := Hd ho1; clear ho1 hg1 hb1; have o1 := HF1.out.o.at 1 _ rfl; have f1 := HF1.out.o.f 1 (by simp)))
    clear o1 f1 i1
    have HF20 := Hd (HF1.out.set 1 (by simp) (.slice av1 p.ts.length cv1))
    simp only [List.set] at HF20
    have HOB := Hd (HO1.out.keepG (W' := w1.setCell ⟨bo, 1, none⟩ (.slice av1 p.ts.length cv1)) (fun g hg => Below.heap_setCell _ _ _ _ (show ¬ g = bo by omega)))
    clear HF1 HO1 Hz
    generalize w1.setCell ⟨bo, 1, none⟩ (.slice av1 p.ts.length cv1) = Y2 at HF20 HOB ⊢
    have HF2 := Hd HF20.out
    clear HF20
    have HOA := Hd (HOB.out.below (bA Y2 (.cells (List.toArray [Value.int .i64 r.tp, .string ⟨r.nm.toArray⟩, .slice none 0 0]) 38)))
    have HUC := Hd (Bx.new Y2 [Value.int .i64 r.tp, .string ⟨r.nm.toArray⟩, .slice none 0 0] 38).c
    have o1 := HF2.out.o.at 1 _ rfl
    have r3 := HF2.out.f.r.at 3 _ rfl
    have r10 := HF2.out.f.r.at 10 _ rfl
    go_upto_region 12 with (first | (refine wpList_app1 tyiT encT _ rfl _ _ rfl (bo + 1) _ p.ts rfl HOA.out (by have := HF2.out.o.l; simp; omega) (⟨r.tp, r.nm, [], none, 0⟩ : Tq) _ 1 rfl (Nat.le_refl _) HUC.out (by have := HLN.out; have := HNT.out; omega) ?_; intro v2 w2 ho2 hb2; have HF3 := Hd ((HF2.out.below (bA Y2 (.cells (List.toArray [Value.int .i64 r.tp, .string ⟨r.nm.toArray⟩, .slice none 0 0]) 38))).low hb2); rw [← HL2.out] at ho2; obtain ⟨av, cv, rfl⟩ := ho2.form; have HO2 := Hd ho2; clear ho2 hb2 o1 r3 r10; have o1 := HF3.out.o.at 1 _ rfl; have f1 := HF3.out.o.f 1 (by simp)))
    clear o1 f1 HOA HUC HOB HF2
    have HF40 := Hd (HF3.out.set 1 (by simp) (.slice av L2.length cv))
    simp only [List.set] at HF40
    have HO3 := Hd (HO2.out.keepG (W' := w2.setCell ⟨bo, 1, none⟩ (.slice av L2.length cv)) (fun g hg => Below.heap_setCell _ _ _ _ (show ¬ g = bo by omega)))
    clear HF3 HO2
    generalize w2.setCell ⟨bo, 1, none⟩ (.slice av L2.length cv) = Y3 at HF40 HO3 ⊢
    have HF4 := Hd HF40.out
    clear HF40
    have o4 := HF4.out.o.at 4 _ rfl
    have f4 := HF4.out.o.f 4 (by simp)
    have r3 := HF4.out.f.r.at 3 _ rfl
    go_upto_region 13 with fail
    clear o4 f4 r3
    have HF50 := Hd (HF4.out.set 4 (by simp) (.int .i64 r.tp))
    simp only [List.set] at HF50
    have HRO := Hd (HO3.out.keepG (W' := Y3.setCell ⟨bo, 4, none⟩ (.int .i64 r.tp)) (fun g hg => Below.heap_setCell _ _ _ _ (show ¬ g = bo by omega)))
    clear HF4 HO3
    generalize Y3.setCell ⟨bo, 4, none⟩ (.int .i64 r.tp) = Z at HF50 HRO ⊢
    have HFW := Hd HF50.out
    clear HF50
    go_wp2_with (first | (refine wpList_load_mid rfl _ _ rfl _ _ rfl _ _ HFW.out.o.c Tryz.underlying30 rfl (by kernel_rfl) ?_) | (refine wS rfl _ _ _ rfl _ _ rfl HFW.out.f.z (iml { m with ts := m.ts ++ [⟨r.tp, r.nm, []⟩], la := r.tp } { p with aq := av, cq := cv, ts := L2 }) rfl rfl (by kernel_rfl) rfl ?_; intro W3 hz hk hb hp; have HZ := Hd hz; have Hb := Hd (hb _ _ (show w.heap.size ≤ w.heap.size + 1 + 1 by omega) HFW.out.f.b); have HRS := Hd (fun W (hW : Agr n0 w.heap.size W3 W) => (HRO.out.keepG (fun g hg => (hW g (.inr (by have := HFW.out.ge; omega))).trans (hp g (by have := HFW.out.ge; omega)))).rs); clear hz hk hb hp))
    obtain ⟨q0, q1, q2, q3, q4⟩ := HZ.out.im
    refine bodyPost_ret (v := .tuple #[.agg (iml { m with ts := m.ts ++ [⟨r.tp, r.nm, []⟩], la := r.tp } { p with aq := av, cq := cv, ts := L2 }).toArray, .int .i64 0]) (by simp [results, Tryz.results68, go_sem, q0, q1, q2, q3, q4, iml]) rfl ⟨{ p with aq := av, cq := cv, ts := L2 }, rfl, (fun W hW => ?_), Hb.out⟩
    have hvw := Hv.out W _ Hb.out hW
    refine ⟨hvw.b, HRS.out W hW, fun t ht => ?_, ?_, hvw.c, hvw.d⟩
    ·rcases List.mem_append.1 (HL2.out ▸ ht : t ∈ p.ts ++ [(⟨r.tp, r.nm, [], none, 0⟩ : Tq)]) with h | h
     ·exact hvw.q t h
     ·obtain rfl := List.mem_singleton.1 h
      exact ⟨rs_nil _ _ _ _, fun q hq => by cases hq⟩
    ·show L2.map Tq.tp = _
     rw [HL2.out, List.map_append, hvw.e]
     rfl
 ·have hn1 : (r.tp != m.la + 1) = true := by simpa using h1
  have Hr : Hid (crtT m r = (m, 10)) := Hd (if_neg h1)
  rw [Hr.out]
  have HFR0 := fF w m p r a14 a15 a16 a17 c14 c15 c16 c17
  clear hv hw hrw hn0
  unfold imv
  unfold cR
  go_enter Tryz.func68, Tryz.ntmps68
  go_upto_region 1 with fail
  rw [fE]
  generalize frW w m p r a14 a15 a16 a17 c14 c15 c16 c17 = X at HFR0 ⊢
  have Hf := Hd HFR0
  clear HFR0
  obtain ⟨i0, i1, i2, i3, i4⟩ := Hf.out.i.im; have r3 := Hf.out.r.at 3 _ rfl; have r10 := Hf.out.r.at 10 _ rfl
  go_wp2_with (first | (refine wpList_load_mid rfl _ _ rfl _ _ rfl _ _ Hf.out.i.c Tryz.underlying30 rfl (by kernel_rfl) ?_) | (refine wS rfl _ _ _ rfl _ _ rfl Hf.out.z (iml m p) rfl rfl (by kernel_rfl) rfl ?_; intro W3 hz hk hb hp; have Ho := Hd (Hf.out.out hz hk hb); clear hz hk hb hp))
  obtain ⟨q0, q1, q2, q3, q4⟩ := Ho.out.z.im
  exact bodyPost_ret (v := .tuple #[.agg (iml m p).toArray, .int .i64 10]) (by simp [results, Tryz.results68, go_sem, q0, q1, q2, q3, q4, iml]) rfl (std_ret Ho.out (fun W hW => Hv.out W _ Ho.out.b hW))
end Go.Proofs.YtlggjgapdpkhiaaGreat
namespace Go.Proofs.YtlggjgapdpkhiaaGreat
open Go.RowKit

theorem zA {α : Type} (l : List α) (i : Nat) (a : α) : l.toArray.setIfInBounds i a = (l.set i a).toArray := List.setIfInBounds_toArray ..
theorem zB {α : Type} (x : α) (l : List α) (a : α) : (x :: l).set 0 a = a :: l := List.set_cons_zero ..
theorem zC {α : Type} (x : α) (l : List α) (n : Nat) (a : α) : (x :: l).set (n + 1) a = x :: l.set n a := List.set_cons_succ ..
theorem tk {P : Program} {md : Region.Mode} {ops : Array Oper} {Q : Exit → Act → World → Prop} {S : World → Prop} {oi : Oper} {fuel : Nat} {listed : Array Bool} {a : Act} {w : World} (i d : Nat) (v : Value) (hi : ops[i]? = some oi) (hd : oi.dst = some d) (hS : S w)
    (h : wpAnyH P md ops Q S fuel (listed.setIfInBounds i true) (a.put (some d) v) w) (hs : Region.noSelect ops = true := by kernel_rfl) (hf : Region.free md ops listed i = true := by kernel_rfl) (hr : (Region.ready md ops listed).contains i = true := by kernel_rfl)
    (hQ : ∀ c a w, Q (.panic c) (a.put oi.dst v) w → Q (.panic c) a w := by exact fun _ _ _ h => h) (hy : YieldsIf P ops S oi v a := by exact Or.inl ⟨by rfl, by intro w hSw; go_simp⟩) : wpAnyH P md ops Q S (fuel + 1) listed a w :=
  wpAnyH_take hi hs hf hr hQ hy hS (by rw [hd]; exact h)
theorem tky {P : Program} {md : Region.Mode} {ops : Array Oper} {Q : Exit → Act → World → Prop} {S : World → Prop} {oi : Oper} {fuel : Nat} {listed : Array Bool} {a : Act} {w : World} (i d : Nat) (v : Value) (hi : ops[i]? = some oi) (hd : oi.dst = some d) (hy : YieldsIf P ops S oi v a) (hS : S w)
    (h : wpAnyH P md ops Q S fuel (listed.setIfInBounds i true) (a.put (some d) v) w) (hs : Region.noSelect ops = true := by kernel_rfl) (hf : Region.free md ops listed i = true := by kernel_rfl) (hr : (Region.ready md ops listed).contains i = true := by kernel_rfl)
    (hQ : ∀ c a w, Q (.panic c) (a.put oi.dst v) w → Q (.panic c) a w := by exact fun _ _ _ h => h) : wpAnyH P md ops Q S (fuel + 1) listed a w :=
  wpAnyH_take hi hs hf hr hQ hy hS (by rw [hd]; exact h)
end Go.Proofs.YtlggjgapdpkhiaaGreat
namespace Go.Proofs.YtlggjgapdpkhiaaGreat
open Go.RowKit
set_option maxRecDepth 100000
set_option maxHeartbeats 8000000
theorem putB_new (l : List Bk) (ao : Option Addr) (n cap i : Nat) (x : Bk) (w : World) (hn : n = l.length) (hv : Rs bkc w (.slice ao n cap) l) (hi : i ≤ l.length) (hl : l.length ≤ 100000) :
  Calls Tryz.prog 119 #[.slice ao n cap, .int .i64 (i : Int), .bool false, .agg (bkc x).toArray] w fun e w' => ∃ v, e = .returned v ∧ Ro bkc 5 33 w' w.heap.size v (l.take i ++ x :: l.drop i) ∧ Below w.heap.size w w' := by
 subst hn
 obtain ⟨ao', hr, hd⟩ := hv.from tyiB encB i hi
 have hu := fun W => upto_run tyiB ao l.length cap i hi hv.cap.2 W
 have HP := Hd (fun o1 T U => put_frame (f := bkc) w o1 x T U (.slice ao i cap) (.slice ao' (l.length - i) (cap - i)))
 have HC := Hd (fun W (hb : Below w.heap.size w W) (hB : Bx W (w.heap.size + 1 + 1) [.slice ao i cap, .slice (some ⟨w.heap.size + 1, 0, none⟩) 1 1, .slice ao' (l.length - i) (cap - i)]) (hx : Rs bkc W (.slice (some ⟨w.heap.size + 1, 0, none⟩) 1 1) [x]) => concB_3 _ _ _ (l.take i) [x] (l.drop i) _ W hB ((hv.below hb).upto encB i hi) hx (hd W hb) (by rw [List.length_take]; omega) (by simp) (by rw [List.length_drop]; omega))
 have HE : Hid (l.take i ++ [x] ++ l.drop i = l.take i ++ x :: l.drop i) := Hd (by simp)
 clear hv hd
 unfold bkc at *
 go_enter Tryz.func119, Tryz.ntmps119
 go_upto_region 4 with fail
 go_region_with (go_at_call 139; obtain ⟨p1, p2, p3⟩ := HP.out _ _ _; refine (HC.out _ p3 p1 p2).mono ?_; rintro e w1 ⟨v, rfl, hr, hb⟩; rw [HE.out] at hr; have HR := Hd (hr.mono p3.size); have HB := Hd (bt p3 hb); clear hr hb p1 p2 p3)
 all_goals
  go_wp2_with fail
  go_ret
  exact ⟨_, rfl, HR.out, HB.out⟩
theorem putB_old (l : List Bk) (ao : Option Addr) (n cap i : Nat) (x : Bk) (w : World) (hn : n = l.length) (hv : Rs bkc w (.slice ao n cap) l) (hi : i < l.length) (hl : l.length ≤ 100000) :
  Calls Tryz.prog 119 #[.slice ao n cap, .int .i64 (i : Int), .bool true, .agg (bkc x).toArray] w fun e w' => ∃ v, e = .returned v ∧ Ro bkc 5 33 w' w.heap.size v (l.take i ++ x :: l.drop (i + 1)) ∧ Below w.heap.size w w' := by
 subst hn
 obtain ⟨ao', hr, hd⟩ := hv.from tyiB encB i (Nat.le_of_lt hi)
 have hdl : (l.drop i).length = l.length - i := List.length_drop
 obtain ⟨ao2, hr2, hd2⟩ := (show Rs bkc w (.slice ao' (l.drop i).length (cap - i)) (l.drop i) from hdl ▸ hd w (Below.refl _ _)).from tyiB encB 1 (by omega)
 rw [hdl] at hr2 hd2
 have hdd : (l.drop i).drop 1 = l.drop (i + 1) := by rw [List.drop_drop]
 rw [hdd] at hd2
 have hu := fun W => upto_run tyiB ao l.length cap i (Nat.le_of_lt hi) hv.cap.2 W
 replace hr2 : ∀ W, (Instr.slice 25 (.slice ao' (l.length - i) (cap - i)) (some (.int .i64 1)) none none).run Tryz.prog W = .ok (.slice ao2 (l.length - i - 1) (cap - i - 1)) W := hr2
 have HP := Hd (fun o1 T U => put_frame (f := bkc) w o1 x T U (.slice ao i cap) (.slice ao2 (l.length - i - 1) (cap - i - 1)))
 have HC := Hd (fun W (hb : Below w.heap.size w W) (hB : Bx W (w.heap.size + 1 + 1) [.slice ao i cap, .slice (some ⟨w.heap.size + 1, 0, none⟩) 1 1, .slice ao2 (l.length - i - 1) (cap - i - 1)]) (hx : Rs bkc W (.slice (some ⟨w.heap.size + 1, 0, none⟩) 1 1) [x]) => concB_3 _ _ _ (l.take i) [x] (l.drop (i + 1)) _ W hB ((hv.below hb).upto encB i (Nat.le_of_lt hi)) hx (hd2 W hb) (by rw [List.length_take]; omega) (by simp) (by rw [List.length_drop]; omega))
 have HE : Hid (l.take i ++ [x] ++ l.drop (i + 1) = l.take i ++ x :: l.drop (i + 1)) := Hd (by simp)
 clear hv hd hd2 hdl hdd
 unfold bkc at *
 go_enter Tryz.func119, Tryz.ntmps119
 go_upto_region 4 with fail
 go_region_with (go_at_call 139; obtain ⟨p1, p2, p3⟩ := HP.out _ _ _; refine (HC.out _ p3 p1 p2).mono ?_; rintro e w1 ⟨v, rfl, hr, hb⟩; rw [HE.out] at hr; have HR := Hd (hr.mono p3.size); have HB := Hd (bt p3 hb); clear hr hb p1 p2 p3)
 all_goals
  go_wp2_with fail
  go_ret
  exact ⟨_, rfl, HR.out, HB.out⟩
end Go.Proofs.YtlggjgapdpkhiaaGreat
