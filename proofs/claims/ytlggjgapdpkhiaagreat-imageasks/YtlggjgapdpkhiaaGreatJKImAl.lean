/-
  AN IMAGE BEHIND RECORDS, ALL OF THEM, OR NONE (image.All).
-/
import Derived.Test.YtlggjgapdpkhiaaGreatJKImKrsa3
import Derived.Test.YtlggjgapdpkhiaaGreatJKFrameReca5
import Derived.Deep.RegionWith
namespace Go.Proofs.YtlggjgapdpkhiaaGreat
open Go.RowKit
def imzl : List Value := [.slice none 0 0, .slice none 0 0, .slice none 0 0, .slice none 0 0, .int .i64 0]
def Ip.zero : Ip := ⟨none, none, none, none, 0, 0, 0, 0, []⟩
structure Al (w : World) (n0 : Nat → Prop) (m : Im) (p : Ip) (mk : Im) (pk : Ip) (W : World) : Prop where
 i : Bx W w.heap.size (iml m p)
 z : Bx W (w.heap.size + 1) imzl
 x : Bx W (w.heap.size + 1 + 1) (iml mk pk)
 r : ∀ W', (∀ g, n0 g ∨ (w.heap.size + 3 ≤ g ∧ g < W.heap.size) → W'.heap[g]? = W.heap[g]?) → ImR W' mk pk
 n : ∀ g, n0 g → g < w.heap.size
 b : Below w.heap.size w W
structure Ax (w : World) (n0 : Nat → Prop) (m : Im) (p : Ip) (mk m' : Im) (pk p' : Ip) (W : World) : Prop where
 i : Bx W w.heap.size (iml m p)
 z : Bx W (w.heap.size + 1) imzl
 x : Bx W (w.heap.size + 1 + 1) (iml mk pk)
 r : ∀ W', (∀ g, n0 g ∨ (w.heap.size + 3 ≤ g ∧ g < W.heap.size) → W'.heap[g]? = W.heap[g]?) → ImR W' m' p'
 n : ∀ g, n0 g → g < w.heap.size
 b : Below w.heap.size w W
section
variable {w W W' : World} {n0 : Nat → Prop} {m mk m' : Im} {p pk p' : Ip}
theorem Al.below (h : Al w n0 m p mk pk W) (hb : Below W.heap.size W W') : Al w n0 m p mk pk W' :=
 have hs := h.x.l
 ⟨h.i.below hb, h.z.below hb, h.x.below hb, fun V hV => h.r V (fun g hg => (hV g (hg.imp id (fun q => ⟨q.1, Nat.lt_of_lt_of_le q.2 hb.size⟩))).trans (hb.block g (by rcases hg with hg | hg; (have := h.n g hg; omega); exact hg.2))), h.n, h.b.trans (hb.mono (by omega))⟩
def Nal (w W : World) (n0 : Nat → Prop) (g : Nat) : Prop := n0 g ∨ (w.heap.size + 3 ≤ g ∧ g < W.heap.size)
theorem Al.call (h : Al w n0 m p mk pk W) (hi : ∀ V, Agr (Nal w W n0) W.heap.size W' V → ImR V m' p') (hb : Below W.heap.size W W') : Ax w n0 m p mk m' pk p' W' := by
 have h2 := h.below hb
 have hs := h.x.l
 have hss := hb.size
 refine ⟨h2.i, h2.z, h2.x, fun V hV => ?_, h.n, h2.b⟩
 refine ImR.lift hi (fun g hg hl => hV g ?_)
 rcases hg with (hg | hg) | hg
 ·exact .inl hg
 ·exact .inr ⟨hg.1, hl⟩
 ·exact .inr ⟨by omega, hl⟩
theorem Ax.next (h : Ax w n0 m p mk m' pk p' W) (hz : Bx W' (w.heap.size + 1 + 1) (iml m' p')) (hk : ∀ q xs, ¬ q = w.heap.size + 1 + 1 → Bx W q xs → Bx W' q xs) (hb : ∀ B u, B ≤ w.heap.size + 1 + 1 → Below B u W → Below B u W') (hp : ∀ g, ¬ g = w.heap.size + 1 + 1 → W'.heap[g]? = W.heap[g]?) : Al w n0 m p m' p' W' := by
 have hs := (hb 0 W (Nat.zero_le _) (Below.refl _ _)).size
 refine ⟨hk _ _ (by omega) h.i, hk _ _ (by omega) h.z, hz, fun V hV => h.r V (fun g hg => ?_), h.n, hb _ _ (by omega) h.b⟩
 have hg2 : ¬ g = w.heap.size + 1 + 1 := fun e => by
  rcases hg with hg | hg
  ·have := h.n g hg; omega
  ·omega
 exact (hV g (hg.imp id (fun q => ⟨q.1, by omega⟩))).trans (hp g hg2)
end
theorem all_step {m mk : Im} {rs : List Rc} {k : Nat} (hk : k < rs.length) (h : allF m rs = allF mk (rs.drop k)) (h0 : (app mk rs[k]).2 = 0) : allF m rs = allF (app mk rs[k]).1 (rs.drop (k + 1)) := by
 rw [h, List.drop_eq_getElem_cons hk]
 show (if (app mk rs[k]).2 = 0 then _ else _) = _
 rw [if_pos h0]
theorem all_bad {m mk : Im} {rs : List Rc} {k : Nat} (hk : k < rs.length) (h : allF m rs = allF mk (rs.drop k)) (h0 : (app mk rs[k]).2 ≠ 0) : allI m rs = (m, (app mk rs[k]).2) := by
 have e : (allF m rs).2 = (app mk rs[k]).2 := by
  rw [h, List.drop_eq_getElem_cons hk]
  show (if (app mk rs[k]).2 = 0 then _ else _ : Im × Int).2 = _
  rw [if_neg h0]
 unfold allI
 rw [e, if_neg h0]
theorem all_end {m mk : Im} {rs : List Rc} (h : allF m rs = allF mk (rs.drop rs.length)) : allI m rs = (mk, 0) := by
 rw [List.drop_length] at h
 unfold allI
 rw [h]
 rfl
def ivA : Value → Int
 | .int _ n => n
 | _ => 0
set_option maxRecDepth 100000 in
set_option maxHeartbeats 16000000 in
theorem All_any {okb ok : Nat → Prop} (m : Im) (p : Ip) (v : Value) (ps : List Rp) (w : World) (n0 : Nat → Prop) (N : Nat) (hn0 : ∀ g, n0 g → g < w.heap.size) (hv : ∀ W, (∀ g, n0 g → W.heap[g]? = w.heap[g]?) → ImR W m p) (hw : Wf m N) (hN : N + ps.length ≤ 100000) (hr : Rl okb ok w v ps) (ht : ∀ r ∈ rcl ps, TxR r) : Calls Tryz.prog 30 #[imv m p, v] w fun e w' => StP n0 w w' (allI m (rcl ps)).1 (allI m (rcl ps)).2 e := by
 have Hv := Hd (fun (W W3 : World) (hb : Below w.heap.size w W3) (hW : Agr n0 w.heap.size W3 W) => hv W (fun g hg => (hW g (.inl hg)).trans (hb.block g (hn0 g hg))))
 have HV := Hd hr
 have HTX := Hd ht
 have HW := Hd hw
 have HA0 : Hid (Al w n0 m p m p (((w.alloc (.cells (List.toArray [Value.slice p.ab m.br.length p.cb, .slice p.aq p.ts.length p.cq, .slice p.ac m.cf.length p.cc, .slice p.ad m.dn.length p.cd, .int .i64 m.la]) 30)).alloc (.cells (List.toArray [Value.slice none 0 0, .slice none 0 0, .slice none 0 0, .slice none 0 0, .int .i64 0]) 30)).alloc (.cells (List.toArray [Value.slice p.ab m.br.length p.cb, .slice p.aq p.ts.length p.cq, .slice p.ac m.cf.length p.cc, .slice p.ad m.dn.length p.cd, .int .i64 m.la]) 30))) := Hd (by
  obtain ⟨h1, h2, h3, h4⟩ := Bx.mk3 w (iml m p) imzl (iml m p) 30 30 30 (Below.refl _ _)
  exact ⟨h1, h2, h3, fun W' hW => hv W' (fun g hg => (hW g (.inl hg)).trans (h4.block g (hn0 g hg))), hn0, h4⟩)
 obtain ⟨ao, cap, rfl⟩ := hr.form
 have hln : (rcl ps).length = ps.length := rcl_len ps
 clear hv hn0 hw hr ht
 unfold imv
 go_enter Tryz.func30, Tryz.ntmps30
 go_upto_region 3 with fail
 generalize ((w.alloc (.cells (List.toArray [Value.slice p.ab m.br.length p.cb, .slice p.aq p.ts.length p.cq, .slice p.ac m.cf.length p.cc, .slice p.ad m.dn.length p.cd, .int .i64 m.la]) 30)).alloc (.cells (List.toArray [Value.slice none 0 0, .slice none 0 0, .slice none 0 0, .slice none 0 0, .int .i64 0]) 30)).alloc (.cells (List.toArray [Value.slice p.ab m.br.length p.cb, .slice p.aq p.ts.length p.cq, .slice p.ac m.cf.length p.cc, .slice p.ad m.dn.length p.cd, .int .i64 m.la]) 30) = X at HA0 ⊢
 go_loopw [13] (fun i W => ∃ (k : Nat) (mk : Im) (pk : Ip), k ≤ ps.length ∧ i = .int .i64 (k : Int) ∧ Al w n0 m p mk pk W ∧ Wf mk (N + k) ∧ allF m (rcl ps) = allF mk ((rcl ps).drop k)) (fun i _ => ps.length - (ivA i).toNat)
 case atStart => exact ⟨0, m, p, Nat.zero_le _, rfl, HA0.out, HW.out, rfl⟩
 case round =>
  clear HA0
  obtain ⟨k, mk, pk, hk, rfl, ha, hwf, hal⟩ := hrel
  have HA := Hd ha
  have HWF := Hd hwf
  have HAL := Hd hal
  clear ha hwf hal
  by_cases hlt : k < ps.length
  ·have hltI : (k : Int) < (ps.length : Int) := by omega
   have hlr : k < (rcl ps).length := by omega
   obtain ⟨rb, ro, rfl, hrg⟩ := HV.out.rg (by omega)
   have HRG := Hd (rg_bel (W := w) (range_at hrg hlt) HA.out.b)
   have HIS := Hd (fun W (h : Below w.heap.size w W) => ((HV.out.2 _ (List.getElem_mem hlt)).below h).is)
   have hpk : (rcl ps)[k] = ps[k].1 := by simp [rcl]
   have HTR := Hd (HTX.out _ (hpk ▸ List.getElem_mem hlr))
   have HAB := Hd (fun h0 => all_bad (m := m) hlr HAL.out h0)
   have HAS := Hd (fun h0 => all_step (m := m) hlr HAL.out h0)
   rw [hpk] at HAB HAS
   clear hrg hpk
   generalize ps[k] = r at HRG HIS HTR HAB HAS
   have HW1 := Hd (wf_app HWF.out r.1)
   unfold cel cR at HRG
   go_upto_region 6 with (first | (refine wpList_load_mid rfl _ _ rfl _ _ rfl _ _ HRG.out Tryz.underlying65 rfl (by kernel_rfl) ?_))
   have HRX := Hd (Bx.new wr (cel r) 65)
   replace HA := Hd (HA.out.below (bA wr (.cells (cel r).toArray 65)))
   unfold cel cR at HRX HA
   clear HRG
   generalize wr.alloc (.cells (List.toArray [Value.int .i64 r.1.k, .int .i64 r.1.br, .int .i64 r.1.ep, .int .i64 r.1.tp, .int .i64 r.1.pa, .int .i64 r.1.le, .int .i64 r.1.cl, .int .i64 r.1.se, .int .i64 r.1.co, .bool r.1.fl, .string ⟨r.1.nm.toArray⟩, .string ⟨r.1.ky.toArray⟩, .string ⟨r.1.va.toArray⟩, .string ⟨r.1.rk.toArray⟩, .slice r.2.a14 r.1.ids.length r.2.c14, .slice r.2.a15 r.1.isr.length r.2.c15, .slice r.2.a16 r.1.ad.length r.2.c16, .slice r.2.a17 r.1.dr.length r.2.c17]) 65) = X2 at HRX HA ⊢
   generalize wr.heap.size = bR at HRX ⊢
   have HAP := Hd (Apply_any mk pk r.1 _ X2 (Nal w X2 n0) (fun g hg => by have := HA.out.x.l; rcases hg with hg | hg; (have := HA.out.n g hg; omega); exact hg.2) (fun W hW => HA.out.r W hW) (HWF.out.mono (by omega)) (HIS.out X2 HA.out.b) HTR.out)
   unfold imv cel cR at HAP
   obtain ⟨m', c', har⟩ : ∃ a b, app mk r.1 = (a, b) := ⟨_, _, rfl⟩
   rw [har] at HAP HAB HAS HW1
   clear har HIS HTR
   by_cases hc : c' = 0
   ·subst hc
    go_wp2_with (first | (refine wpList_load_mid rfl _ _ rfl _ _ rfl _ _ HA.out.x.c Tryz.underlying30 rfl (by kernel_rfl) ?_) | (refine wpList_load_mid rfl _ _ rfl _ _ rfl _ _ HRX.out.c Tryz.underlying65 rfl (by kernel_rfl) ?_) | (go_at_call 32; refine HAP.out.mono ?_; rintro e wx ⟨p', E, rfl, him, hE, hbx⟩; obtain rfl := erc_zero hE; clear hE; have HAX := Hd (HA.out.call him hbx); clear him hbx HAP HA HRX; unfold imv; dsimp only) | (refine wS rfl _ _ _ rfl _ _ rfl HAX.out.x (iml m' p') rfl rfl (by kernel_rfl) rfl ?_; intro W3 hz hk hb hp; have HA := Hd (HAX.out.next hz hk hb hp); clear hz hk hb hp HAX))
    go_roundw
    case rel => exact ⟨k + 1, m', p', by omega, by go_num, HA.out, HW1.out, HAS.out rfl⟩
    case measure => simp [ivA]; omega
   ·have HCC := Hd hc
    have HAI := Hd (HAB.out hc)
    clear hc HAB HAS
    go_upto_region 8 with (first | (refine wpList_load_mid rfl _ _ rfl _ _ rfl _ _ HA.out.x.c Tryz.underlying30 rfl (by kernel_rfl) ?_) | (refine wpList_load_mid rfl _ _ rfl _ _ rfl _ _ HRX.out.c Tryz.underlying65 rfl (by kernel_rfl) ?_) | (go_at_call 32; refine HAP.out.mono ?_; rintro e wx ⟨p', E, rfl, him, hE, hbx⟩; obtain ⟨tE, vE, rfl, hew⟩ := erc_wrap hE HCC.out; clear hE; have HEW := Hd hew; clear hew; have HAX := Hd (HA.out.call him hbx); clear him hbx HAP HA HRX; unfold imv; dsimp only) | (refine wS rfl _ _ _ rfl _ _ rfl HAX.out.x (iml m' p') rfl rfl (by kernel_rfl) rfl ?_; intro W3 hz hk hb hp; have HA := Hd (HAX.out.next hz hk hb hp); clear hz hk hb hp HAX))
    obtain ⟨z0, z1, z2, z3, z4⟩ := HA.out.z.c5
    obtain ⟨i0, i1, i2, i3, i4⟩ := HA.out.i.im
    have f0 := HA.out.z.f 0 (by decide)
    have f1 := HA.out.z.f 1 (by decide)
    have f2 := HA.out.z.f 2 (by decide)
    have f3 := HA.out.z.f 3 (by decide)
    have f4 := HA.out.z.f 4 (by decide)
    have hz := HA.out.z.there (m := 5) rfl
    have HZO : Hid (Bx ((((((W3.setCell ⟨w.heap.size + 1, 0, none⟩ (.slice p.ab m.br.length p.cb)).setCell ⟨w.heap.size + 1, 1, none⟩ (.slice p.aq p.ts.length p.cq)).setCell ⟨w.heap.size + 1, 2, none⟩ (.slice p.ac m.cf.length p.cc)).setCell ⟨w.heap.size + 1, 3, none⟩ (.slice p.ad m.dn.length p.cd)).setCell ⟨w.heap.size + 1, 4, none⟩ (.int .i64 m.la)).drew) (w.heap.size + 1) (iml m p)) := Hd ((HA.out.z.set (iml m p) rfl).drewN 1)
    have HBO : Hid (Below w.heap.size w ((((((W3.setCell ⟨w.heap.size + 1, 0, none⟩ (.slice p.ab m.br.length p.cb)).setCell ⟨w.heap.size + 1, 1, none⟩ (.slice p.aq p.ts.length p.cq)).setCell ⟨w.heap.size + 1, 2, none⟩ (.slice p.ac m.cf.length p.cc)).setCell ⟨w.heap.size + 1, 3, none⟩ (.slice p.ad m.dn.length p.cd)).setCell ⟨w.heap.size + 1, 4, none⟩ (.int .i64 m.la)).drew)) := Hd (below_sets (by omega) (iml m p) 0 _ HA.out.b).drew
    go_region_with (first | (go_at_call 59; refine (wrap_some _ _ _ _ _).mono ?_; rintro e wy ⟨rfl, hwy⟩; rw [hwy]; clear hwy wy))
    all_goals
     generalize (((((W3.setCell ⟨w.heap.size + 1, 0, none⟩ (.slice p.ab m.br.length p.cb)).setCell ⟨w.heap.size + 1, 1, none⟩ (.slice p.aq p.ts.length p.cq)).setCell ⟨w.heap.size + 1, 2, none⟩ (.slice p.ac m.cf.length p.cc)).setCell ⟨w.heap.size + 1, 3, none⟩ (.slice p.ad m.dn.length p.cd)).setCell ⟨w.heap.size + 1, 4, none⟩ (.int .i64 m.la)).drew = W4 at HZO HBO ⊢
     clear z0 z1 z2 z3 z4 f0 f1 f2 f3 f4 hz i0 i1 i2 i3 i4 HA
     obtain ⟨q0, q1, q2, q3, q4⟩ := HZO.out.im
     go_wp2_with fail
     exact bodyPost_ret (v := .tuple #[.agg (iml m p).toArray, .iface 117 (.agg #[.string ⟨#[114, 101, 99, 111, 114, 100]⟩, .int .i64 (k : Int), .iface tE vE])]) (by simp [results, Tryz.results30, go_sem, q0, q1, q2, q3, q4, iml]) rfl (show StP n0 w W4 (allI m (rcl ps)).1 (allI m (rcl ps)).2 _ by rw [HAI.out]; exact ⟨_, _, rfl, (fun W hW => Hv.out W _ HBO.out hW), HEW.out ⟨#[114, 101, 99, 111, 114, 100]⟩ k, HBO.out⟩)
  ·obtain rfl : k = ps.length := by omega
   have HAI := Hd (all_end (m := m) (mk := mk) (hln.symm ▸ HAL.out))
   go_wp2_with (first | (refine wpList_load_mid rfl _ _ rfl _ _ rfl _ _ HA.out.x.c Tryz.underlying30 rfl (by kernel_rfl) ?_) | (refine wS rfl _ _ _ rfl _ _ rfl HA.out.z (iml mk pk) rfl rfl (by kernel_rfl) rfl ?_; intro W3 hz hk hb hp; have Hb := Hd (hb _ _ (show w.heap.size ≤ w.heap.size + 1 by omega) HA.out.b); have HZ := Hd hz; have HPP := Hd hp; clear hz hk hb hp))
   obtain ⟨q0, q1, q2, q3, q4⟩ := HZ.out.im
   have HIF : Hid (∀ W, Agr n0 w.heap.size W3 W → ImR W mk pk) := Hd (fun W hW => HA.out.r W (fun g hg => by
    rcases hg with hg | hg
    ·have := HA.out.n g hg
     exact (hW g (.inl hg)).trans (HPP.out g (by omega))
    ·exact (hW g (.inr (by omega))).trans (HPP.out g (by omega))))
   exact bodyPost_ret (v := .tuple #[.agg (iml mk pk).toArray, .nilIface]) (by simp [results, Tryz.results30, go_sem, q0, q1, q2, q3, q4, iml]) rfl (show StP n0 w W3 (allI m (rcl ps)).1 (allI m (rcl ps)).2 _ by rw [HAI.out]; exact ⟨pk, .nilIface, rfl, HIF.out, erc_nil, Hb.out⟩)
end Go.Proofs.YtlggjgapdpkhiaaGreat
