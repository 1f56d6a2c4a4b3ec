/-
  A PARTITION IS MADE, OR ANOTHER ONE, AS THE DOCUMENT HAS IT (castellanref15.part).
-/
import Derived.Test.YtlggjgapdpkhiaaGreatJKImQla3
import Derived.Test.YtlggjgapdpkhiaaGreatJKImQr
import Derived.Test.YtlggjgapdpkhiaaGreatJKImQza5
namespace Go.Proofs.YtlggjgapdpkhiaaGreat
open Go.RowKit
theorem uniq_T {l : List Tp} (h : l.Pairwise fun x y => x.id < y.id) {x y : Tp} (hx : x ∈ l) (hy : y ∈ l) (e : x.id = y.id) : x = y := by
 obtain ⟨i, hi, rfl⟩ := List.getElem_of_mem hx
 obtain ⟨j, hj, rfl⟩ := List.getElem_of_mem hy
 rcases Nat.lt_trichotomy i j with q | q | q
 ·have := List.pairwise_iff_getElem.1 h i j hi hj q; omega
 ·subst q; rfl
 ·have := List.pairwise_iff_getElem.1 h j i hj hi q; omega
theorem upd_set {l : List Tp} (h : l.Pairwise fun x y => x.id < y.id) {t : Tp} (ht : t ∈ l) (n : Nat) (q : Pt) : l.map (updT t.id n q) = setT l t.id (putP t.ps n q) := by
 unfold setT
 refine List.map_congr_left fun x hx => ?_
 unfold updT
 by_cases e : x.id = t.id
 ·rw [if_pos e, if_pos e, uniq_T h hx ht e]
 ·rw [if_neg e, if_neg e]
set_option maxRecDepth 100000 in
set_option maxHeartbeats 16000000 in
theorem rpart_any {ok : Nat → Prop} (m : Im) (p : Ip) (r : Rc) (v : Value) (w : World) (n0 : Nat → Prop) (hn0 : ∀ g, n0 g → g < w.heap.size) (hv : ∀ W, (∀ g, n0 g → W.heap[g]? = w.heap[g]?) → ImR W m p) (hw : Wf m 100000) (hr0 : ∀ W, (∀ g, n0 g → W.heap[g]? = w.heap[g]?) → IsR ok W v r) (hk : r.k = 8 ∨ r.k = 9) (hok : WfP (ptOf r)) (h0 : 0 ≤ r.pa) : Calls Tryz.prog 67 #[imv m p, v] w fun e w' => StD n0 w w' (repP m r).1 (repP m r).2 e := by
 have hr := hr0 w (fun _ _ => rfl)
 obtain ⟨a14, a15, a16, a17, c14, c15, c16, c17, rfl, hrw⟩ := hr
 have HQR := Hd (fun W (hW : ∀ g, n0 g → W.heap[g]? = w.heap[g]?) => (by
  obtain ⟨b14, b15, b16, b17, d14, d15, d16, d17, e, hrw2⟩ := hr0 W hW
  unfold cR at e
  cases e
  exact ⟨hrw2.h14.sl, hrw2.h15.sl, hrw2.h16.sl, hrw2.h17.sl⟩ : PtR W ((ptOf r, ⟨a14, a15, a16, a17, c14, c15, c16, c17⟩) : Pp)))
 have Hv := Hd (fun (W W3 : World) (hb : Below w.heap.size w W3) (hW : Agr n0 w.heap.size W3 W) => hv W (fun g hg => (hW g (.inl hg)).trans (hb.block g (hn0 g hg))))
 have HPB := Hd (fun (id : Int) (n : Nat) (hn : ∀ t ∈ p.ts, t.id = id → n ≤ t.ps.length) W (h : Below w.heap.size w W) => rputp_any m p id n ((ptOf r, ⟨a14, a15, a16, a17, c14, c15, c16, c17⟩) : Pp) W n0 (fun g hg => Nat.lt_of_lt_of_le (hn0 g hg) h.size) (fun W' hW' => hv W' (fun g hg => (hW' g hg).trans (h.block g (hn0 g hg)))) hw (fun W' hW' => HQR.out W' (fun g hg => (hW' g hg).trans (h.block g (hn0 g hg)))) hn)
 have HN0 := Hd hn0
 replace hv : ImR w m p := hv w (fun _ _ => rfl)
 have HV := Hd (fun W (h : Below w.heap.size w W) => hv.below h)
 have HQB := Hd (fun W (h : Below w.heap.size w W) => (HQR.out w (fun _ _ => rfl)).below h)
 have HTP := Hd (fun W (h : Below w.heap.size w W) => rtopic_any m p r.tp W (hv.below h) (by rw [hv.len]; exact hw.nt))
 have HRI := Hd (fun W (h : Below w.heap.size w W) => rright_any m p ((ptOf r, ⟨a14, a15, a16, a17, c14, c15, c16, c17⟩) : Pp) W (hv.below h) hw.nb (HQB.out W h) hok)
 have HFN := Hd (hv.fT r.tp)
 cases hf : p.ts.find? (idQ r.tp) with
 | none =>
  have Hr : Hid (repP m r = (m, 8)) := Hd (by unfold repP; rw [HFN.out, hf]; rfl)
  rw [Hr.out]
  have hu : tqOf p r.tp = ⟨0, [], [], none, 0⟩ := by unfold tqOf; rw [hf]; rfl
  rw [hf, hu] at HTP
  clear hf hu HPB HRI HQR HQB
  unfold imv at HTP
  unfold tpc at HTP
  simp only [Option.isSome_none, List.length_nil] at HTP
  have HFR0 := fF w m p r a14 a15 a16 a17 c14 c15 c16 c17
  clear hv hw hrw hn0 hr0 hok
  unfold imv
  unfold cR
  go_enter Tryz.func67, Tryz.ntmps67
  go_upto_region 1 with fail
  rw [fE]
  generalize frW w m p r a14 a15 a16 a17 c14 c15 c16 c17 = X at HFR0 ⊢
  have Hf := Hd HFR0
  clear HFR0
  obtain ⟨i0, i1, i2, i3, i4⟩ := Hf.out.i.im; have r0 := Hf.out.r.at 0 _ rfl; have r2 := Hf.out.r.at 2 _ rfl; have r3 := Hf.out.r.at 3 _ rfl; have r4 := Hf.out.r.at 4 _ rfl; have r5 := Hf.out.r.at 5 _ rfl; have r14 := Hf.out.r.at 14 _ rfl; have r15 := Hf.out.r.at 15 _ rfl; have r16 := Hf.out.r.at 16 _ rfl; have r17 := Hf.out.r.at 17 _ rfl
  go_upto_region 2 with (first | (refine wpList_load_mid rfl _ _ rfl _ _ rfl _ _ Hf.out.i.c Tryz.underlying30 rfl (by kernel_rfl) ?_) | (go_at_call 10; refine (HTP.out _ Hf.out.b).mono ?_; rintro e wx ⟨rfl, hbx⟩; replace Hf := Hd (Hf.out.below hbx); clear i0 i1 i2 i3 i4 r0 r2 r3 r4 r5 r14 r15 r16 r17; clear hbx HTP))
  have HTB := Hd (Bx.new wx [Value.int .i64 0, .string ⟨#[]⟩, .slice none 0 0] 38)
  have HTG := Hd Hf.out.sz
  replace Hf := Hd (Hf.out.below (bA wx (.cells (List.toArray [Value.int .i64 0, .string ⟨#[]⟩, .slice none 0 0]) 38)))
  generalize wx.alloc (.cells (List.toArray [Value.int .i64 0, .string ⟨#[]⟩, .slice none 0 0]) 38) = X2 at Hf HTB ⊢
  generalize wx.heap.size = tb at HTB HTG ⊢
  obtain ⟨i0, i1, i2, i3, i4⟩ := Hf.out.i.im; have r0 := Hf.out.r.at 0 _ rfl; have r2 := Hf.out.r.at 2 _ rfl; have r3 := Hf.out.r.at 3 _ rfl; have r4 := Hf.out.r.at 4 _ rfl; have r5 := Hf.out.r.at 5 _ rfl; have r14 := Hf.out.r.at 14 _ rfl; have r15 := Hf.out.r.at 15 _ rfl; have r16 := Hf.out.r.at 16 _ rfl; have r17 := Hf.out.r.at 17 _ rfl
  go_wp2_with (first | (refine wpList_load_mid rfl _ _ rfl _ _ rfl _ _ Hf.out.i.c Tryz.underlying30 rfl (by kernel_rfl) ?_) | (refine wS rfl _ _ _ rfl _ _ rfl Hf.out.z (iml m p) rfl rfl (by kernel_rfl) rfl ?_; intro W3 hz hk hb hp; have Ho := Hd (Hf.out.out hz hk hb); clear hz hk hb hp))
  obtain ⟨q0, q1, q2, q3, q4⟩ := Ho.out.z.im
  exact bodyPost_ret (v := .tuple #[.agg (iml m p).toArray, .int .i64 8]) (by simp [results, Tryz.results67, go_sem, q0, q1, q2, q3, q4, iml]) rfl (std_ret Ho.out (fun W hW => Hv.out W _ Ho.out.b hW))
 | some t =>
  have htm := List.mem_of_find?_eq_some hf
  have hid : t.id = r.tp := by have := List.find?_some hf; simpa [idQ] using this
  have hu : tqOf p r.tp = t := by unfold tqOf; rw [hf]; rfl
  rw [hf, hu] at HTP
  have HRP : Hid (repP m r = if right m.br (ptOf r) = 0 then (if folP (t.ps.map (·.1)) r (ptOf r) = 0 then ({ m with ts := setT m.ts r.tp (putP (t.ps.map (·.1)) r.pa.toNat (ptOf r)) }, 0) else (m, folP (t.ps.map (·.1)) r (ptOf r))) else (m, right m.br (ptOf r))) := Hd (by unfold repP; rw [HFN.out, hf]; rfl)
  have HPL := Hd (hv.np hw htm)
  have HUS : Hid (∀ n, m.ts.map (updT r.tp n (ptOf r)) = setT m.ts r.tp (putP (t.ps.map (·.1)) n (ptOf r))) := Hd (fun n => by rw [← hid]; exact upd_set hw.t (t := t.tp) (hv.tin htm) n (ptOf r))
  have HUN : Hid (∀ t' ∈ p.ts, t'.id = r.tp → t'.ps.length = t.ps.length) := Hd (fun t' ht' e => by
   have h := uniq_T hw.t (hv.tin ht') (hv.tin htm) (show t'.id = t.id by rw [e, hid])
   have h2 := congrArg (fun x : Tp => x.ps.length) h
   simpa [Tq.tp] using h2)
  have HTR := Hd (fun W (h : Below w.heap.size w W) => (hv.below h).q t htm)
  have HWP := Hd (fun o (ho : o ∈ t.ps) => hv.wp hw htm ho)
  have HOK := Hd hok
  clear hf hu hid htm HQR HFN
  unfold imv at HTP HRI
  unfold tpc at HTP
  unfold ptc at HRI
  simp only [Option.isSome_some] at HTP
  obtain ⟨rc, hrc⟩ : ∃ c, c = right m.br (ptOf r) := ⟨_, rfl⟩
  replace HRI : Hid (∀ W, Below w.heap.size w W → Calls Tryz.prog 108 #[.agg (List.toArray [Value.slice p.ab m.br.length p.cb, .slice p.aq p.ts.length p.cq, .slice p.ac m.cf.length p.cc, .slice p.ad m.dn.length p.cd, .int .i64 m.la]), .agg (List.toArray [Value.slice a14 r.ids.length c14, .slice a15 r.isr.length c15, .int .i64 r.le, .int .i64 r.ep, .slice a16 r.ad.length c16, .slice a17 r.dr.length c17])] W fun e w' => e = .returned (.int .i64 (right m.br (ptOf r))) ∧ Below W.heap.size W w') := HRI
  rw [← hrc] at HRP HRI
  obtain ⟨n, hn⟩ : ∃ n : Nat, r.pa = (n : Int) := ⟨r.pa.toNat, by omega⟩
  have HNN := Hd hn
  have hnt : r.pa.toNat = n := by omega
  rw [hnt] at HRP
  clear hnt hn h0
  by_cases hR : rc = 0
  ·subst hR
   have HRP2 : Hid (repP m r = if folP (t.ps.map (·.1)) r (ptOf r) = 0 then ({ m with ts := m.ts.map (updT r.tp n (ptOf r)) }, 0) else (m, folP (t.ps.map (·.1)) r (ptOf r))) := Hd (by rw [HRP.out, if_pos rfl, HUS.out n])
   clear HRP HUS hrc
   rcases hk with hk | hk
   ·by_cases hl : n = t.ps.length
    ·have HNL : Hid (∀ t ∈ p.ts, t.id = r.tp → n ≤ t.ps.length) := Hd (fun t' ht' e => by have := HUN.out t' ht' e; omega)
     have Hr : Hid (repP m r = ({ m with ts := m.ts.map (updT r.tp n (ptOf r)) }, 0)) := Hd (by have hfp : folP (t.ps.map (·.1)) r (ptOf r) = 0 := (by unfold folP; rw [if_pos hk, if_pos (by rw [List.length_map, HNN.out, hl])]); rw [HRP2.out, if_pos hfp])
     have n1 : ((n : Int) != (t.ps.length : Int)) = false := by simp [hl]
     have HK := Hd hk
     clear HRP2 HUN HTR HWP hk hl
     unfold imv ptc at HPB
     replace HPB : Hid (∀ (id : Int) (n : Nat), (∀ t ∈ p.ts, t.id = id → n ≤ t.ps.length) → ∀ W, Below w.heap.size w W → Calls Tryz.prog 109 #[.agg (List.toArray [Value.slice p.ab m.br.length p.cb, .slice p.aq p.ts.length p.cq, .slice p.ac m.cf.length p.cc, .slice p.ad m.dn.length p.cd, .int .i64 m.la]), .int .i64 id, .int .i64 (n : Int), .agg (List.toArray [Value.slice a14 r.ids.length c14, .slice a15 r.isr.length c15, .int .i64 r.le, .int .i64 r.ep, .slice a16 r.ad.length c16, .slice a17 r.dr.length c17])] W fun e w' => ∃ p', e = .returned (imv { m with ts := m.ts.map (updT id n (ptOf r)) } p') ∧ (∀ W', Agr n0 W.heap.size w' W' → ImR W' { m with ts := m.ts.map (updT id n (ptOf r)) } p') ∧ Below W.heap.size W w') := HPB
     obtain ⟨T1, hT1⟩ : ∃ T, T = m.ts.map (updT r.tp n (ptOf r)) := ⟨_, rfl⟩
     have HPB2 := Hd (HPB.out r.tp n HNL.out)
     clear HPB
     rw [← hT1] at Hr HPB2
     clear hT1
     rw [Hr.out]
     have HFR0 := fF w m p r a14 a15 a16 a17 c14 c15 c16 c17
     clear hv hw hrw hn0 hr0 hok
     unfold imv
     unfold cR
     go_enter Tryz.func67, Tryz.ntmps67
     go_upto_region 1 with fail
     rw [fE]
     generalize frW w m p r a14 a15 a16 a17 c14 c15 c16 c17 = X at HFR0 ⊢
     have Hf := Hd HFR0
     clear HFR0
     obtain ⟨i0, i1, i2, i3, i4⟩ := Hf.out.i.im; have r0 := Hf.out.r.at 0 _ rfl; have r2 := Hf.out.r.at 2 _ rfl; have r3 := Hf.out.r.at 3 _ rfl; have r4 := Hf.out.r.at 4 _ rfl; have r5 := Hf.out.r.at 5 _ rfl; have r14 := Hf.out.r.at 14 _ rfl; have r15 := Hf.out.r.at 15 _ rfl; have r16 := Hf.out.r.at 16 _ rfl; have r17 := Hf.out.r.at 17 _ rfl
     rw [HNN.out] at r4
     go_upto_region 2 with (first | (refine wpList_load_mid rfl _ _ rfl _ _ rfl _ _ Hf.out.i.c Tryz.underlying30 rfl (by kernel_rfl) ?_) | (go_at_call 10; refine (HTP.out _ Hf.out.b).mono ?_; rintro e wx ⟨rfl, hbx⟩; replace Hf := Hd (Hf.out.below hbx); clear i0 i1 i2 i3 i4 r0 r2 r3 r4 r5 r14 r15 r16 r17; clear hbx HTP))
     have HTB := Hd (Bx.new wx [Value.int .i64 t.id, .string ⟨t.nm.toArray⟩, .slice t.a t.ps.length t.c] 38)
     have HTG := Hd Hf.out.sz
     replace Hf := Hd (Hf.out.below (bA wx (.cells (List.toArray [Value.int .i64 t.id, .string ⟨t.nm.toArray⟩, .slice t.a t.ps.length t.c]) 38)))
     generalize wx.alloc (.cells (List.toArray [Value.int .i64 t.id, .string ⟨t.nm.toArray⟩, .slice t.a t.ps.length t.c]) 38) = X2 at Hf HTB ⊢
     generalize wx.heap.size = tb at HTB HTG ⊢
     obtain ⟨i0, i1, i2, i3, i4⟩ := Hf.out.i.im; have r0 := Hf.out.r.at 0 _ rfl; have r2 := Hf.out.r.at 2 _ rfl; have r3 := Hf.out.r.at 3 _ rfl; have r4 := Hf.out.r.at 4 _ rfl; have r5 := Hf.out.r.at 5 _ rfl; have r14 := Hf.out.r.at 14 _ rfl; have r15 := Hf.out.r.at 15 _ rfl; have r16 := Hf.out.r.at 16 _ rfl; have r17 := Hf.out.r.at 17 _ rfl
     rw [HNN.out] at r4
     go_upto_region 5 with fail
     have HQX := Hd (Bx.new X2 [Value.slice a14 r.ids.length c14, .slice a15 r.isr.length c15, .int .i64 r.le, .int .i64 r.ep, .slice a16 r.ad.length c16, .slice a17 r.dr.length c17] 44)
     have HQG := Hd Hf.out.sz
     replace Hf := Hd (Hf.out.below (bA X2 (.cells (List.toArray [Value.slice a14 r.ids.length c14, .slice a15 r.isr.length c15, .int .i64 r.le, .int .i64 r.ep, .slice a16 r.ad.length c16, .slice a17 r.dr.length c17]) 44)))
     replace HTB := Hd (HTB.out.below (bA X2 (.cells (List.toArray [Value.slice a14 r.ids.length c14, .slice a15 r.isr.length c15, .int .i64 r.le, .int .i64 r.ep, .slice a16 r.ad.length c16, .slice a17 r.dr.length c17]) 44)))
     generalize X2.alloc (.cells (List.toArray [Value.slice a14 r.ids.length c14, .slice a15 r.isr.length c15, .int .i64 r.le, .int .i64 r.ep, .slice a16 r.ad.length c16, .slice a17 r.dr.length c17]) 44) = X3 at Hf HTB HQX ⊢
     generalize X2.heap.size = qb at HQX HQG ⊢
     clear i0 i1 i2 i3 i4 r0 r2 r3 r4 r5 r14 r15 r16 r17
     go_upto_region 6 with (first | (refine wpList_load_mid rfl _ _ rfl _ _ rfl _ _ Hf.out.i.c Tryz.underlying30 rfl (by kernel_rfl) ?_) | (refine wpList_load_mid rfl _ _ rfl _ _ rfl _ _ HQX.out.c Tryz.underlying44 rfl (by kernel_rfl) ?_) | (go_at_call 108; refine (HRI.out _ Hf.out.b).mono ?_; rintro e w5 ⟨rfl, hb5⟩; replace Hf := Hd (Hf.out.below hb5); replace HTB := Hd (HTB.out.below hb5); replace HQX := Hd (HQX.out.below hb5); clear hb5 HRI))
     obtain ⟨i0, i1, i2, i3, i4⟩ := Hf.out.i.im; have r0 := Hf.out.r.at 0 _ rfl; have r2 := Hf.out.r.at 2 _ rfl; have r3 := Hf.out.r.at 3 _ rfl; have r4 := Hf.out.r.at 4 _ rfl; have r5 := Hf.out.r.at 5 _ rfl; have r14 := Hf.out.r.at 14 _ rfl; have r15 := Hf.out.r.at 15 _ rfl; have r16 := Hf.out.r.at 16 _ rfl; have r17 := Hf.out.r.at 17 _ rfl
     rw [HNN.out] at r4
     have u2 := HTB.out.at 2 _ rfl
     rw [HK.out] at r0
     go_upto_region 11 with fail
     go_wp2_with (first | (refine wpList_load_mid rfl _ _ rfl _ _ rfl _ _ Hf.out.i.c Tryz.underlying30 rfl (by kernel_rfl) ?_) | (refine wpList_load_mid rfl _ _ rfl _ _ rfl _ _ HQX.out.c Tryz.underlying44 rfl (by kernel_rfl) ?_) | (go_at_call 109; refine (HPB2.out _ Hf.out.b).mono ?_; rintro e w7 ⟨p', rfl, him, hb7⟩; have HIM := Hd him; have HB7 := Hd hb7; have HXS := Hd (show w.heap.size + 1 + 1 + 1 ≤ w5.heap.size from Hf.out.sz); replace Hf := Hd (Hf.out.below hb7); clear him hb7 HPB2) | (refine wS rfl _ _ _ rfl _ _ rfl Hf.out.z (iml { m with ts := T1 } p') rfl rfl (by kernel_rfl) rfl ?_; intro W3 hz hk hb hp; have HZ := Hd hz; have Hb := Hd (hb _ _ (show w.heap.size ≤ w.heap.size + 1 + 1 by omega) Hf.out.b); have HP7 := Hd hp; clear hz hk hb hp))
     obtain ⟨q0, q1, q2, q3, q4⟩ := HZ.out.im
     exact bodyPost_ret (v := .tuple #[.agg (iml { m with ts := T1 } p').toArray, .int .i64 0]) (by simp [results, Tryz.results67, go_sem, q0, q1, q2, q3, q4, iml]) rfl ⟨p', rfl, (fun W hW => HIM.out W (fun g hg => by
      have hgz : ¬ g = w.heap.size + 1 + 1 := by
       rcases hg with h | h
       ·have := HN0.out g h; omega
       ·have := HXS.out; omega
      exact (hW g (hg.imp id (fun h => by have := HXS.out; omega))).trans (HP7.out g hgz))), Hb.out⟩
    ·have Hr : Hid (repP m r = (m, 10)) := Hd (by have hfp : folP (t.ps.map (·.1)) r (ptOf r) = 10 := (by unfold folP; rw [if_pos hk, if_neg (by rw [List.length_map, HNN.out]; omega)]); rw [HRP2.out, hfp, if_neg (by decide)])
     rw [Hr.out]
     have n1 : ((n : Int) != (t.ps.length : Int)) = true := by simp; omega
     have HK := Hd hk
     clear HRP2 HUN HTR HWP HPB hk hl
     have HFR0 := fF w m p r a14 a15 a16 a17 c14 c15 c16 c17
     clear hv hw hrw hn0 hr0 hok
     unfold imv
     unfold cR
     go_enter Tryz.func67, Tryz.ntmps67
     go_upto_region 1 with fail
     rw [fE]
     generalize frW w m p r a14 a15 a16 a17 c14 c15 c16 c17 = X at HFR0 ⊢
     have Hf := Hd HFR0
     clear HFR0
     obtain ⟨i0, i1, i2, i3, i4⟩ := Hf.out.i.im; have r0 := Hf.out.r.at 0 _ rfl; have r2 := Hf.out.r.at 2 _ rfl; have r3 := Hf.out.r.at 3 _ rfl; have r4 := Hf.out.r.at 4 _ rfl; have r5 := Hf.out.r.at 5 _ rfl; have r14 := Hf.out.r.at 14 _ rfl; have r15 := Hf.out.r.at 15 _ rfl; have r16 := Hf.out.r.at 16 _ rfl; have r17 := Hf.out.r.at 17 _ rfl
     rw [HNN.out] at r4
     go_upto_region 2 with (first | (refine wpList_load_mid rfl _ _ rfl _ _ rfl _ _ Hf.out.i.c Tryz.underlying30 rfl (by kernel_rfl) ?_) | (go_at_call 10; refine (HTP.out _ Hf.out.b).mono ?_; rintro e wx ⟨rfl, hbx⟩; replace Hf := Hd (Hf.out.below hbx); clear i0 i1 i2 i3 i4 r0 r2 r3 r4 r5 r14 r15 r16 r17; clear hbx HTP))
     have HTB := Hd (Bx.new wx [Value.int .i64 t.id, .string ⟨t.nm.toArray⟩, .slice t.a t.ps.length t.c] 38)
     have HTG := Hd Hf.out.sz
     replace Hf := Hd (Hf.out.below (bA wx (.cells (List.toArray [Value.int .i64 t.id, .string ⟨t.nm.toArray⟩, .slice t.a t.ps.length t.c]) 38)))
     generalize wx.alloc (.cells (List.toArray [Value.int .i64 t.id, .string ⟨t.nm.toArray⟩, .slice t.a t.ps.length t.c]) 38) = X2 at Hf HTB ⊢
     generalize wx.heap.size = tb at HTB HTG ⊢
     obtain ⟨i0, i1, i2, i3, i4⟩ := Hf.out.i.im; have r0 := Hf.out.r.at 0 _ rfl; have r2 := Hf.out.r.at 2 _ rfl; have r3 := Hf.out.r.at 3 _ rfl; have r4 := Hf.out.r.at 4 _ rfl; have r5 := Hf.out.r.at 5 _ rfl; have r14 := Hf.out.r.at 14 _ rfl; have r15 := Hf.out.r.at 15 _ rfl; have r16 := Hf.out.r.at 16 _ rfl; have r17 := Hf.out.r.at 17 _ rfl
     rw [HNN.out] at r4
     go_upto_region 5 with fail
     have HQX := Hd (Bx.new X2 [Value.slice a14 r.ids.length c14, .slice a15 r.isr.length c15, .int .i64 r.le, .int .i64 r.ep, .slice a16 r.ad.length c16, .slice a17 r.dr.length c17] 44)
     have HQG := Hd Hf.out.sz
     replace Hf := Hd (Hf.out.below (bA X2 (.cells (List.toArray [Value.slice a14 r.ids.length c14, .slice a15 r.isr.length c15, .int .i64 r.le, .int .i64 r.ep, .slice a16 r.ad.length c16, .slice a17 r.dr.length c17]) 44)))
     replace HTB := Hd (HTB.out.below (bA X2 (.cells (List.toArray [Value.slice a14 r.ids.length c14, .slice a15 r.isr.length c15, .int .i64 r.le, .int .i64 r.ep, .slice a16 r.ad.length c16, .slice a17 r.dr.length c17]) 44)))
     generalize X2.alloc (.cells (List.toArray [Value.slice a14 r.ids.length c14, .slice a15 r.isr.length c15, .int .i64 r.le, .int .i64 r.ep, .slice a16 r.ad.length c16, .slice a17 r.dr.length c17]) 44) = X3 at Hf HTB HQX ⊢
     generalize X2.heap.size = qb at HQX HQG ⊢
     clear i0 i1 i2 i3 i4 r0 r2 r3 r4 r5 r14 r15 r16 r17
     go_upto_region 6 with (first | (refine wpList_load_mid rfl _ _ rfl _ _ rfl _ _ Hf.out.i.c Tryz.underlying30 rfl (by kernel_rfl) ?_) | (refine wpList_load_mid rfl _ _ rfl _ _ rfl _ _ HQX.out.c Tryz.underlying44 rfl (by kernel_rfl) ?_) | (go_at_call 108; refine (HRI.out _ Hf.out.b).mono ?_; rintro e w5 ⟨rfl, hb5⟩; replace Hf := Hd (Hf.out.below hb5); replace HTB := Hd (HTB.out.below hb5); replace HQX := Hd (HQX.out.below hb5); clear hb5 HRI))
     obtain ⟨i0, i1, i2, i3, i4⟩ := Hf.out.i.im; have r0 := Hf.out.r.at 0 _ rfl; have r2 := Hf.out.r.at 2 _ rfl; have r3 := Hf.out.r.at 3 _ rfl; have r4 := Hf.out.r.at 4 _ rfl; have r5 := Hf.out.r.at 5 _ rfl; have r14 := Hf.out.r.at 14 _ rfl; have r15 := Hf.out.r.at 15 _ rfl; have r16 := Hf.out.r.at 16 _ rfl; have r17 := Hf.out.r.at 17 _ rfl
     rw [HNN.out] at r4
     have u2 := HTB.out.at 2 _ rfl
     rw [HK.out] at r0
     go_wp2_with (first | (refine wpList_load_mid rfl _ _ rfl _ _ rfl _ _ Hf.out.i.c Tryz.underlying30 rfl (by kernel_rfl) ?_) | (refine wS rfl _ _ _ rfl _ _ rfl Hf.out.z (iml m p) rfl rfl (by kernel_rfl) rfl ?_; intro W3 hz hk hb hp; have Ho := Hd (Hf.out.out hz hk hb); clear hz hk hb hp))
     obtain ⟨q0, q1, q2, q3, q4⟩ := Ho.out.z.im
     exact bodyPost_ret (v := .tuple #[.agg (iml m p).toArray, .int .i64 10]) (by simp [results, Tryz.results67, go_sem, q0, q1, q2, q3, q4, iml]) rfl (std_ret Ho.out (fun W hW => Hv.out W _ Ho.out.b hW))
   ·have hk8 : ¬ r.k = 8 := by omega
    by_cases hl : n < t.ps.length
    ·have HNL : Hid (∀ t ∈ p.ts, t.id = r.tp → n ≤ t.ps.length) := Hd (fun t' ht' e => by have := HUN.out t' ht' e; omega)
     have HOI : Hid (t.ps[n] ∈ t.ps) := Hd (List.getElem_mem hl)
     have HOR := Hd (fun W (h : Below w.heap.size w W) => (HTR.out W h).pt _ HOI.out)
     have HOW := Hd (HWP.out _ HOI.out)
     have HSM := Hd (fun W (h : Below w.heap.size w W) => rsamep_any t.ps[n] ((ptOf r, ⟨a14, a15, a16, a17, c14, c15, c16, c17⟩) : Pp) W (HOR.out W h) (HQB.out W h) HOW.out)
     have HRP3 : Hid (repP m r = if ((ptOf r).ep != t.ps[n].1.ep + 1 && ((ptOf r).ep != t.ps[n].1.ep || (ptOf r).ld != t.ps[n].1.ld)) = true then (m, 11) else if samP t.ps[n].1 (ptOf r) = true then (m, 10) else ({ m with ts := m.ts.map (updT r.tp n (ptOf r)) }, 0)) := Hd (by
      rw [HRP2.out]
      unfold folP
      rw [if_neg hk8, HNN.out, Int.toNat_natCast, List.getElem?_map, List.getElem?_eq_getElem hl]
      simp only [Option.map_some]
      split
      ·rfl
      ·split <;> rfl)
     have hne : 0 < t.ps.length := by omega
     have HTE := Hd (fun W (h : Below w.heap.size w W) => (HTR.out W h).ps)
     obtain ⟨pb, po, hpa, hprg⟩ := (HTE.out w (Below.refl _ _)).rg hne
     have HPA := Hd hpa
     have HEL : Hid (∀ W, Below w.heap.size w W → W.rangeAt pb (po + n * 6) (ptc t.ps[n])) := Hd (fun W h => by
      have hh := HTE.out W h
      rw [hpa] at hh
      exact hh.at encP hl)
     have hlI : (n : Int) < (t.ps.length : Int) := by omega
     have hnge : ¬ (t.ps.length : Int) ≤ (n : Int) := by omega
     generalize t.ps[n] = o at HRP3 HSM HOR HOW HEL
     clear HRP2 HUN HTR HWP hl hpa hprg HTE HOI hne HOR
     have hwl : wrap64 (o.1.ep + 1) = o.1.ep + 1 := by have := HOW.out.ep; unfold wrap64; omega
     obtain ⟨z, hz⟩ : ∃ z, z = ((ptOf r).ep != o.1.ep + 1 && ((ptOf r).ep != o.1.ep || (ptOf r).ld != o.1.ld)) := ⟨_, rfl⟩
     have HZ9 : Hid (z = (r.ep != o.1.ep + 1 && (r.ep != o.1.ep || r.le != o.1.ld))) := Hd hz
     rw [← hz] at HRP3
     clear hz
     unfold ptc at HEL HSM
     have HK := Hd hk
     clear hk
     rcases Bool.eq_false_or_eq_true z with hzz | hzz
     ·have HZT := Hd hzz
      have Hr : Hid (repP m r = (m, 11)) := Hd (by rw [HRP3.out, if_pos hzz])
      rw [Hr.out]
      clear HRP3 HPB HSM hzz
      have HFR0 := fF w m p r a14 a15 a16 a17 c14 c15 c16 c17
      clear hv hw hrw hn0 hr0 hok
      unfold imv
      unfold cR
      go_enter Tryz.func67, Tryz.ntmps67
      go_upto_region 1 with fail
      rw [fE]
      generalize frW w m p r a14 a15 a16 a17 c14 c15 c16 c17 = X at HFR0 ⊢
      have Hf := Hd HFR0
      clear HFR0
      obtain ⟨i0, i1, i2, i3, i4⟩ := Hf.out.i.im; have r0 := Hf.out.r.at 0 _ rfl; have r2 := Hf.out.r.at 2 _ rfl; have r3 := Hf.out.r.at 3 _ rfl; have r4 := Hf.out.r.at 4 _ rfl; have r5 := Hf.out.r.at 5 _ rfl; have r14 := Hf.out.r.at 14 _ rfl; have r15 := Hf.out.r.at 15 _ rfl; have r16 := Hf.out.r.at 16 _ rfl; have r17 := Hf.out.r.at 17 _ rfl
      rw [HNN.out] at r4
      go_upto_region 2 with (first | (refine wpList_load_mid rfl _ _ rfl _ _ rfl _ _ Hf.out.i.c Tryz.underlying30 rfl (by kernel_rfl) ?_) | (go_at_call 10; refine (HTP.out _ Hf.out.b).mono ?_; rintro e wx ⟨rfl, hbx⟩; replace Hf := Hd (Hf.out.below hbx); clear i0 i1 i2 i3 i4 r0 r2 r3 r4 r5 r14 r15 r16 r17; clear hbx HTP))
      have HTB := Hd (Bx.new wx [Value.int .i64 t.id, .string ⟨t.nm.toArray⟩, .slice t.a t.ps.length t.c] 38)
      have HTG := Hd Hf.out.sz
      replace Hf := Hd (Hf.out.below (bA wx (.cells (List.toArray [Value.int .i64 t.id, .string ⟨t.nm.toArray⟩, .slice t.a t.ps.length t.c]) 38)))
      generalize wx.alloc (.cells (List.toArray [Value.int .i64 t.id, .string ⟨t.nm.toArray⟩, .slice t.a t.ps.length t.c]) 38) = X2 at Hf HTB ⊢
      generalize wx.heap.size = tb at HTB HTG ⊢
      obtain ⟨i0, i1, i2, i3, i4⟩ := Hf.out.i.im; have r0 := Hf.out.r.at 0 _ rfl; have r2 := Hf.out.r.at 2 _ rfl; have r3 := Hf.out.r.at 3 _ rfl; have r4 := Hf.out.r.at 4 _ rfl; have r5 := Hf.out.r.at 5 _ rfl; have r14 := Hf.out.r.at 14 _ rfl; have r15 := Hf.out.r.at 15 _ rfl; have r16 := Hf.out.r.at 16 _ rfl; have r17 := Hf.out.r.at 17 _ rfl
      rw [HNN.out] at r4
      go_upto_region 5 with fail
      have HQX := Hd (Bx.new X2 [Value.slice a14 r.ids.length c14, .slice a15 r.isr.length c15, .int .i64 r.le, .int .i64 r.ep, .slice a16 r.ad.length c16, .slice a17 r.dr.length c17] 44)
      have HQG := Hd Hf.out.sz
      replace Hf := Hd (Hf.out.below (bA X2 (.cells (List.toArray [Value.slice a14 r.ids.length c14, .slice a15 r.isr.length c15, .int .i64 r.le, .int .i64 r.ep, .slice a16 r.ad.length c16, .slice a17 r.dr.length c17]) 44)))
      replace HTB := Hd (HTB.out.below (bA X2 (.cells (List.toArray [Value.slice a14 r.ids.length c14, .slice a15 r.isr.length c15, .int .i64 r.le, .int .i64 r.ep, .slice a16 r.ad.length c16, .slice a17 r.dr.length c17]) 44)))
      generalize X2.alloc (.cells (List.toArray [Value.slice a14 r.ids.length c14, .slice a15 r.isr.length c15, .int .i64 r.le, .int .i64 r.ep, .slice a16 r.ad.length c16, .slice a17 r.dr.length c17]) 44) = X3 at Hf HTB HQX ⊢
      generalize X2.heap.size = qb at HQX HQG ⊢
      clear i0 i1 i2 i3 i4 r0 r2 r3 r4 r5 r14 r15 r16 r17
      go_upto_region 6 with (first | (refine wpList_load_mid rfl _ _ rfl _ _ rfl _ _ Hf.out.i.c Tryz.underlying30 rfl (by kernel_rfl) ?_) | (refine wpList_load_mid rfl _ _ rfl _ _ rfl _ _ HQX.out.c Tryz.underlying44 rfl (by kernel_rfl) ?_) | (go_at_call 108; refine (HRI.out _ Hf.out.b).mono ?_; rintro e w5 ⟨rfl, hb5⟩; replace Hf := Hd (Hf.out.below hb5); replace HTB := Hd (HTB.out.below hb5); replace HQX := Hd (HQX.out.below hb5); clear hb5 HRI))
      obtain ⟨i0, i1, i2, i3, i4⟩ := Hf.out.i.im; have r0 := Hf.out.r.at 0 _ rfl; have r2 := Hf.out.r.at 2 _ rfl; have r3 := Hf.out.r.at 3 _ rfl; have r4 := Hf.out.r.at 4 _ rfl; have r5 := Hf.out.r.at 5 _ rfl; have r14 := Hf.out.r.at 14 _ rfl; have r15 := Hf.out.r.at 15 _ rfl; have r16 := Hf.out.r.at 16 _ rfl; have r17 := Hf.out.r.at 17 _ rfl
      rw [HNN.out] at r4
      have u2 := HTB.out.at 2 _ rfl
      rw [HPA.out] at u2
      rw [HK.out] at r0
      have HEV := Hd (HEL.out w5 Hf.out.b)
      go_upto_region 15 with (first | (refine wpList_load_mid rfl _ _ rfl _ _ rfl _ _ HEV.out Tryz.underlying44 rfl (by kernel_rfl) ?_))
      clear HEV u2 HTB
      clear i0 i1 i2 i3 i4 r0 r2 r3 r4 r5 r14 r15 r16 r17
      have HOX := Hd (Bx.new w5 [Value.slice o.2.a0 o.1.ids.length o.2.c0, .slice o.2.a1 o.1.isr.length o.2.c1, .int .i64 o.1.ld, .int .i64 o.1.ep, .slice o.2.a2 o.1.ad.length o.2.c2, .slice o.2.a3 o.1.dr.length o.2.c3] 44)
      have HOG := Hd Hf.out.sz
      replace Hf := Hd (Hf.out.below (bA w5 (.cells (List.toArray [Value.slice o.2.a0 o.1.ids.length o.2.c0, .slice o.2.a1 o.1.isr.length o.2.c1, .int .i64 o.1.ld, .int .i64 o.1.ep, .slice o.2.a2 o.1.ad.length o.2.c2, .slice o.2.a3 o.1.dr.length o.2.c3]) 44)))
      replace HQX := Hd (HQX.out.below (bA w5 (.cells (List.toArray [Value.slice o.2.a0 o.1.ids.length o.2.c0, .slice o.2.a1 o.1.isr.length o.2.c1, .int .i64 o.1.ld, .int .i64 o.1.ep, .slice o.2.a2 o.1.ad.length o.2.c2, .slice o.2.a3 o.1.dr.length o.2.c3]) 44)))
      generalize w5.alloc (.cells (List.toArray [Value.slice o.2.a0 o.1.ids.length o.2.c0, .slice o.2.a1 o.1.isr.length o.2.c1, .int .i64 o.1.ld, .int .i64 o.1.ep, .slice o.2.a2 o.1.ad.length o.2.c2, .slice o.2.a3 o.1.dr.length o.2.c3]) 44) = X5 at Hf HQX HOX ⊢
      generalize w5.heap.size = wb at HOX HOG ⊢
      obtain ⟨i0, i1, i2, i3, i4⟩ := Hf.out.i.im; have r0 := Hf.out.r.at 0 _ rfl; have r2 := Hf.out.r.at 2 _ rfl; have r3 := Hf.out.r.at 3 _ rfl; have r4 := Hf.out.r.at 4 _ rfl; have r5 := Hf.out.r.at 5 _ rfl; have r14 := Hf.out.r.at 14 _ rfl; have r15 := Hf.out.r.at 15 _ rfl; have r16 := Hf.out.r.at 16 _ rfl; have r17 := Hf.out.r.at 17 _ rfl
      rw [HNN.out] at r4
      have e2 := HOX.out.at 2 _ rfl
      have e3 := HOX.out.at 3 _ rfl
      go_cut [97] (fun y W => y = .bool z ∧ W = X5)
      case first =>
       rcases Int.lt_trichotomy r.ep o.1.ep with h | h | h
       ·have hz : z = true := HZ9.out.trans (by have h1 : ¬ r.ep = o.1.ep := (by omega); have h2 : ¬ r.ep = o.1.ep + 1 := (by omega); simp [h1, h2])
        clear HZ9
        subst hz
        go_wp2_with fail
        go_meet
        exact ⟨rfl, rfl⟩
       ·have n1 : ¬ r.ep < o.1.ep := by omega
        have n2 : ¬ o.1.ep + 1 < r.ep := by omega
        have n3 : (r.ep == o.1.ep) = true := by simpa using h
        have hz : (r.le != o.1.ld) = z := by rw [HZ9.out, h]; have h2 : ¬ o.1.ep = o.1.ep + 1 := (by omega); simp [h2]
        clear HZ9 h
        go_wp2_with fail
        go_meet
        exact ⟨rfl, rfl⟩
       ·have n1 : ¬ r.ep < o.1.ep := by omega
        by_cases h2 : o.1.ep + 1 < r.ep
        ·have hz : z = true := HZ9.out.trans (by have h1 : ¬ r.ep = o.1.ep := (by omega); have h2 : ¬ r.ep = o.1.ep + 1 := (by omega); simp [h1, h2])
         clear HZ9 h
         subst hz
         go_wp2_with fail
         go_meet
         exact ⟨rfl, rfl⟩
        ·have hz : z = false := HZ9.out.trans (by have h1 : r.ep = o.1.ep + 1 := (by omega); simp [h1])
         have n3 : (r.ep == o.1.ep) = false := by simp; omega
         clear HZ9 h
         subst hz
         go_wp2_with fail
         go_meet
         exact ⟨rfl, rfl⟩
      case rest =>
       obtain ⟨rfl, rfl⟩ := hcut
       clear e2 e3
       have hzv := HZT.out
       clear HZT HZ9
       subst hzv
       go_wp2_with (first | (refine wpList_load_mid rfl _ _ rfl _ _ rfl _ _ Hf.out.i.c Tryz.underlying30 rfl (by kernel_rfl) ?_) | (refine wS rfl _ _ _ rfl _ _ rfl Hf.out.z (iml m p) rfl rfl (by kernel_rfl) rfl ?_; intro W3 hz hk hb hp; have Ho := Hd (Hf.out.out hz hk hb); clear hz hk hb hp))
       obtain ⟨q0, q1, q2, q3, q4⟩ := Ho.out.z.im
       exact bodyPost_ret (v := .tuple #[.agg (iml m p).toArray, .int .i64 11]) (by simp [results, Tryz.results67, go_sem, q0, q1, q2, q3, q4, iml]) rfl (std_ret Ho.out (fun W hW => Hv.out W _ Ho.out.b hW))
     ·have HZT := Hd hzz
      cases hss : samP o.1 (ptOf r) with
      | true =>
       have Hr : Hid (repP m r = (m, 10)) := Hd (by rw [HRP3.out, if_neg (by rw [hzz]; simp), hss, if_pos rfl])
       rw [Hr.out]
       rw [hss] at HSM
       clear HRP3 HPB hss hzz
       replace HSM : Hid (∀ W, Below w.heap.size w W → Calls Tryz.prog 19 #[.agg (List.toArray [Value.slice o.2.a0 o.1.ids.length o.2.c0, .slice o.2.a1 o.1.isr.length o.2.c1, .int .i64 o.1.ld, .int .i64 o.1.ep, .slice o.2.a2 o.1.ad.length o.2.c2, .slice o.2.a3 o.1.dr.length o.2.c3]), .agg (List.toArray [Value.slice a14 r.ids.length c14, .slice a15 r.isr.length c15, .int .i64 r.le, .int .i64 r.ep, .slice a16 r.ad.length c16, .slice a17 r.dr.length c17])] W fun e w' => e = .returned (.bool true) ∧ Below W.heap.size W w') := HSM
       have HFR0 := fF w m p r a14 a15 a16 a17 c14 c15 c16 c17
       clear hv hw hrw hn0 hr0 hok
       unfold imv
       unfold cR
       go_enter Tryz.func67, Tryz.ntmps67
       go_upto_region 1 with fail
       rw [fE]
       generalize frW w m p r a14 a15 a16 a17 c14 c15 c16 c17 = X at HFR0 ⊢
       have Hf := Hd HFR0
       clear HFR0
       obtain ⟨i0, i1, i2, i3, i4⟩ := Hf.out.i.im; have r0 := Hf.out.r.at 0 _ rfl; have r2 := Hf.out.r.at 2 _ rfl; have r3 := Hf.out.r.at 3 _ rfl; have r4 := Hf.out.r.at 4 _ rfl; have r5 := Hf.out.r.at 5 _ rfl; have r14 := Hf.out.r.at 14 _ rfl; have r15 := Hf.out.r.at 15 _ rfl; have r16 := Hf.out.r.at 16 _ rfl; have r17 := Hf.out.r.at 17 _ rfl
       rw [HNN.out] at r4
       go_upto_region 2 with (first | (refine wpList_load_mid rfl _ _ rfl _ _ rfl _ _ Hf.out.i.c Tryz.underlying30 rfl (by kernel_rfl) ?_) | (go_at_call 10; refine (HTP.out _ Hf.out.b).mono ?_; rintro e wx ⟨rfl, hbx⟩; replace Hf := Hd (Hf.out.below hbx); clear i0 i1 i2 i3 i4 r0 r2 r3 r4 r5 r14 r15 r16 r17; clear hbx HTP))
       have HTB := Hd (Bx.new wx [Value.int .i64 t.id, .string ⟨t.nm.toArray⟩, .slice t.a t.ps.length t.c] 38)
       have HTG := Hd Hf.out.sz
       replace Hf := Hd (Hf.out.below (bA wx (.cells (List.toArray [Value.int .i64 t.id, .string ⟨t.nm.toArray⟩, .slice t.a t.ps.length t.c]) 38)))
       generalize wx.alloc (.cells (List.toArray [Value.int .i64 t.id, .string ⟨t.nm.toArray⟩, .slice t.a t.ps.length t.c]) 38) = X2 at Hf HTB ⊢
       generalize wx.heap.size = tb at HTB HTG ⊢
       obtain ⟨i0, i1, i2, i3, i4⟩ := Hf.out.i.im; have r0 := Hf.out.r.at 0 _ rfl; have r2 := Hf.out.r.at 2 _ rfl; have r3 := Hf.out.r.at 3 _ rfl; have r4 := Hf.out.r.at 4 _ rfl; have r5 := Hf.out.r.at 5 _ rfl; have r14 := Hf.out.r.at 14 _ rfl; have r15 := Hf.out.r.at 15 _ rfl; have r16 := Hf.out.r.at 16 _ rfl; have r17 := Hf.out.r.at 17 _ rfl
       rw [HNN.out] at r4
       go_upto_region 5 with fail
       have HQX := Hd (Bx.new X2 [Value.slice a14 r.ids.length c14, .slice a15 r.isr.length c15, .int .i64 r.le, .int .i64 r.ep, .slice a16 r.ad.length c16, .slice a17 r.dr.length c17] 44)
       have HQG := Hd Hf.out.sz
       replace Hf := Hd (Hf.out.below (bA X2 (.cells (List.toArray [Value.slice a14 r.ids.length c14, .slice a15 r.isr.length c15, .int .i64 r.le, .int .i64 r.ep, .slice a16 r.ad.length c16, .slice a17 r.dr.length c17]) 44)))
       replace HTB := Hd (HTB.out.below (bA X2 (.cells (List.toArray [Value.slice a14 r.ids.length c14, .slice a15 r.isr.length c15, .int .i64 r.le, .int .i64 r.ep, .slice a16 r.ad.length c16, .slice a17 r.dr.length c17]) 44)))
       generalize X2.alloc (.cells (List.toArray [Value.slice a14 r.ids.length c14, .slice a15 r.isr.length c15, .int .i64 r.le, .int .i64 r.ep, .slice a16 r.ad.length c16, .slice a17 r.dr.length c17]) 44) = X3 at Hf HTB HQX ⊢
       generalize X2.heap.size = qb at HQX HQG ⊢
       clear i0 i1 i2 i3 i4 r0 r2 r3 r4 r5 r14 r15 r16 r17
       go_upto_region 6 with (first | (refine wpList_load_mid rfl _ _ rfl _ _ rfl _ _ Hf.out.i.c Tryz.underlying30 rfl (by kernel_rfl) ?_) | (refine wpList_load_mid rfl _ _ rfl _ _ rfl _ _ HQX.out.c Tryz.underlying44 rfl (by kernel_rfl) ?_) | (go_at_call 108; refine (HRI.out _ Hf.out.b).mono ?_; rintro e w5 ⟨rfl, hb5⟩; replace Hf := Hd (Hf.out.below hb5); replace HTB := Hd (HTB.out.below hb5); replace HQX := Hd (HQX.out.below hb5); clear hb5 HRI))
       obtain ⟨i0, i1, i2, i3, i4⟩ := Hf.out.i.im; have r0 := Hf.out.r.at 0 _ rfl; have r2 := Hf.out.r.at 2 _ rfl; have r3 := Hf.out.r.at 3 _ rfl; have r4 := Hf.out.r.at 4 _ rfl; have r5 := Hf.out.r.at 5 _ rfl; have r14 := Hf.out.r.at 14 _ rfl; have r15 := Hf.out.r.at 15 _ rfl; have r16 := Hf.out.r.at 16 _ rfl; have r17 := Hf.out.r.at 17 _ rfl
       rw [HNN.out] at r4
       have u2 := HTB.out.at 2 _ rfl
       rw [HPA.out] at u2
       rw [HK.out] at r0
       have HEV := Hd (HEL.out w5 Hf.out.b)
       go_upto_region 15 with (first | (refine wpList_load_mid rfl _ _ rfl _ _ rfl _ _ HEV.out Tryz.underlying44 rfl (by kernel_rfl) ?_))
       clear HEV u2 HTB
       clear i0 i1 i2 i3 i4 r0 r2 r3 r4 r5 r14 r15 r16 r17
       have HOX := Hd (Bx.new w5 [Value.slice o.2.a0 o.1.ids.length o.2.c0, .slice o.2.a1 o.1.isr.length o.2.c1, .int .i64 o.1.ld, .int .i64 o.1.ep, .slice o.2.a2 o.1.ad.length o.2.c2, .slice o.2.a3 o.1.dr.length o.2.c3] 44)
       have HOG := Hd Hf.out.sz
       replace Hf := Hd (Hf.out.below (bA w5 (.cells (List.toArray [Value.slice o.2.a0 o.1.ids.length o.2.c0, .slice o.2.a1 o.1.isr.length o.2.c1, .int .i64 o.1.ld, .int .i64 o.1.ep, .slice o.2.a2 o.1.ad.length o.2.c2, .slice o.2.a3 o.1.dr.length o.2.c3]) 44)))
       replace HQX := Hd (HQX.out.below (bA w5 (.cells (List.toArray [Value.slice o.2.a0 o.1.ids.length o.2.c0, .slice o.2.a1 o.1.isr.length o.2.c1, .int .i64 o.1.ld, .int .i64 o.1.ep, .slice o.2.a2 o.1.ad.length o.2.c2, .slice o.2.a3 o.1.dr.length o.2.c3]) 44)))
       generalize w5.alloc (.cells (List.toArray [Value.slice o.2.a0 o.1.ids.length o.2.c0, .slice o.2.a1 o.1.isr.length o.2.c1, .int .i64 o.1.ld, .int .i64 o.1.ep, .slice o.2.a2 o.1.ad.length o.2.c2, .slice o.2.a3 o.1.dr.length o.2.c3]) 44) = X5 at Hf HQX HOX ⊢
       generalize w5.heap.size = wb at HOX HOG ⊢
       obtain ⟨i0, i1, i2, i3, i4⟩ := Hf.out.i.im; have r0 := Hf.out.r.at 0 _ rfl; have r2 := Hf.out.r.at 2 _ rfl; have r3 := Hf.out.r.at 3 _ rfl; have r4 := Hf.out.r.at 4 _ rfl; have r5 := Hf.out.r.at 5 _ rfl; have r14 := Hf.out.r.at 14 _ rfl; have r15 := Hf.out.r.at 15 _ rfl; have r16 := Hf.out.r.at 16 _ rfl; have r17 := Hf.out.r.at 17 _ rfl
       rw [HNN.out] at r4
       have e2 := HOX.out.at 2 _ rfl
       have e3 := HOX.out.at 3 _ rfl
       go_cut [97] (fun y W => y = .bool z ∧ W = X5)
       case first =>
        rcases Int.lt_trichotomy r.ep o.1.ep with h | h | h
        ·have hz : z = true := HZ9.out.trans (by have h1 : ¬ r.ep = o.1.ep := (by omega); have h2 : ¬ r.ep = o.1.ep + 1 := (by omega); simp [h1, h2])
         clear HZ9
         subst hz
         go_wp2_with fail
         go_meet
         exact ⟨rfl, rfl⟩
        ·have n1 : ¬ r.ep < o.1.ep := by omega
         have n2 : ¬ o.1.ep + 1 < r.ep := by omega
         have n3 : (r.ep == o.1.ep) = true := by simpa using h
         have hz : (r.le != o.1.ld) = z := by rw [HZ9.out, h]; have h2 : ¬ o.1.ep = o.1.ep + 1 := (by omega); simp [h2]
         clear HZ9 h
         go_wp2_with fail
         go_meet
         exact ⟨rfl, rfl⟩
        ·have n1 : ¬ r.ep < o.1.ep := by omega
         by_cases h2 : o.1.ep + 1 < r.ep
         ·have hz : z = true := HZ9.out.trans (by have h1 : ¬ r.ep = o.1.ep := (by omega); have h2 : ¬ r.ep = o.1.ep + 1 := (by omega); simp [h1, h2])
          clear HZ9 h
          subst hz
          go_wp2_with fail
          go_meet
          exact ⟨rfl, rfl⟩
         ·have hz : z = false := HZ9.out.trans (by have h1 : r.ep = o.1.ep + 1 := (by omega); simp [h1])
          have n3 : (r.ep == o.1.ep) = false := by simp; omega
          clear HZ9 h
          subst hz
          go_wp2_with fail
          go_meet
          exact ⟨rfl, rfl⟩
       case rest =>
        obtain ⟨rfl, rfl⟩ := hcut
        clear e2 e3
        have hzv := HZT.out
        clear HZT HZ9
        subst hzv
        go_upto_region 18 with (first | (refine wpList_load_mid rfl _ _ rfl _ _ rfl _ _ HOX.out.c Tryz.underlying44 rfl (by kernel_rfl) ?_) | (refine wpList_load_mid rfl _ _ rfl _ _ rfl _ _ HQX.out.c Tryz.underlying44 rfl (by kernel_rfl) ?_) | (go_at_call 19; with_reducible refine (HSM.out _ Hf.out.b).mono ?_; rintro e w6 ⟨rfl, hb6⟩; replace Hf := Hd (Hf.out.below hb6); replace HQX := Hd (HQX.out.below hb6); clear hb6 HSM))
        clear i0 i1 i2 i3 i4 r0 r2 r3 r4 r5 r14 r15 r16 r17
        obtain ⟨i0, i1, i2, i3, i4⟩ := Hf.out.i.im; have r0 := Hf.out.r.at 0 _ rfl; have r2 := Hf.out.r.at 2 _ rfl; have r3 := Hf.out.r.at 3 _ rfl; have r4 := Hf.out.r.at 4 _ rfl; have r5 := Hf.out.r.at 5 _ rfl; have r14 := Hf.out.r.at 14 _ rfl; have r15 := Hf.out.r.at 15 _ rfl; have r16 := Hf.out.r.at 16 _ rfl; have r17 := Hf.out.r.at 17 _ rfl
        go_wp2_with (first | (refine wpList_load_mid rfl _ _ rfl _ _ rfl _ _ Hf.out.i.c Tryz.underlying30 rfl (by kernel_rfl) ?_) | (refine wS rfl _ _ _ rfl _ _ rfl Hf.out.z (iml m p) rfl rfl (by kernel_rfl) rfl ?_; intro W3 hz hk hb hp; have Ho := Hd (Hf.out.out hz hk hb); clear hz hk hb hp))
        obtain ⟨q0, q1, q2, q3, q4⟩ := Ho.out.z.im
        exact bodyPost_ret (v := .tuple #[.agg (iml m p).toArray, .int .i64 10]) (by simp [results, Tryz.results67, go_sem, q0, q1, q2, q3, q4, iml]) rfl (std_ret Ho.out (fun W hW => Hv.out W _ Ho.out.b hW))
      | false =>
       have Hr : Hid (repP m r = ({ m with ts := m.ts.map (updT r.tp n (ptOf r)) }, 0)) := Hd (by rw [HRP3.out, if_neg (by rw [hzz]; simp), hss, if_neg (by simp)])
       rw [hss] at HSM
       clear HRP3 hss hzz
       replace HSM : Hid (∀ W, Below w.heap.size w W → Calls Tryz.prog 19 #[.agg (List.toArray [Value.slice o.2.a0 o.1.ids.length o.2.c0, .slice o.2.a1 o.1.isr.length o.2.c1, .int .i64 o.1.ld, .int .i64 o.1.ep, .slice o.2.a2 o.1.ad.length o.2.c2, .slice o.2.a3 o.1.dr.length o.2.c3]), .agg (List.toArray [Value.slice a14 r.ids.length c14, .slice a15 r.isr.length c15, .int .i64 r.le, .int .i64 r.ep, .slice a16 r.ad.length c16, .slice a17 r.dr.length c17])] W fun e w' => e = .returned (.bool false) ∧ Below W.heap.size W w') := HSM
       unfold imv ptc at HPB
       replace HPB : Hid (∀ (id : Int) (n : Nat), (∀ t ∈ p.ts, t.id = id → n ≤ t.ps.length) → ∀ W, Below w.heap.size w W → Calls Tryz.prog 109 #[.agg (List.toArray [Value.slice p.ab m.br.length p.cb, .slice p.aq p.ts.length p.cq, .slice p.ac m.cf.length p.cc, .slice p.ad m.dn.length p.cd, .int .i64 m.la]), .int .i64 id, .int .i64 (n : Int), .agg (List.toArray [Value.slice a14 r.ids.length c14, .slice a15 r.isr.length c15, .int .i64 r.le, .int .i64 r.ep, .slice a16 r.ad.length c16, .slice a17 r.dr.length c17])] W fun e w' => ∃ p', e = .returned (imv { m with ts := m.ts.map (updT id n (ptOf r)) } p') ∧ (∀ W', Agr n0 W.heap.size w' W' → ImR W' { m with ts := m.ts.map (updT id n (ptOf r)) } p') ∧ Below W.heap.size W w') := HPB
       obtain ⟨T1, hT1⟩ : ∃ T, T = m.ts.map (updT r.tp n (ptOf r)) := ⟨_, rfl⟩
       have HPB2 := Hd (HPB.out r.tp n HNL.out)
       clear HPB
       rw [← hT1] at Hr HPB2
       clear hT1
       rw [Hr.out]
       have HFR0 := fF w m p r a14 a15 a16 a17 c14 c15 c16 c17
       clear hv hw hrw hn0 hr0 hok
       unfold imv
       unfold cR
       go_enter Tryz.func67, Tryz.ntmps67
       go_upto_region 1 with fail
       rw [fE]
       generalize frW w m p r a14 a15 a16 a17 c14 c15 c16 c17 = X at HFR0 ⊢
       have Hf := Hd HFR0
       clear HFR0
       obtain ⟨i0, i1, i2, i3, i4⟩ := Hf.out.i.im; have r0 := Hf.out.r.at 0 _ rfl; have r2 := Hf.out.r.at 2 _ rfl; have r3 := Hf.out.r.at 3 _ rfl; have r4 := Hf.out.r.at 4 _ rfl; have r5 := Hf.out.r.at 5 _ rfl; have r14 := Hf.out.r.at 14 _ rfl; have r15 := Hf.out.r.at 15 _ rfl; have r16 := Hf.out.r.at 16 _ rfl; have r17 := Hf.out.r.at 17 _ rfl
       rw [HNN.out] at r4
       go_upto_region 2 with (first | (refine wpList_load_mid rfl _ _ rfl _ _ rfl _ _ Hf.out.i.c Tryz.underlying30 rfl (by kernel_rfl) ?_) | (go_at_call 10; refine (HTP.out _ Hf.out.b).mono ?_; rintro e wx ⟨rfl, hbx⟩; replace Hf := Hd (Hf.out.below hbx); clear i0 i1 i2 i3 i4 r0 r2 r3 r4 r5 r14 r15 r16 r17; clear hbx HTP))
       have HTB := Hd (Bx.new wx [Value.int .i64 t.id, .string ⟨t.nm.toArray⟩, .slice t.a t.ps.length t.c] 38)
       have HTG := Hd Hf.out.sz
       replace Hf := Hd (Hf.out.below (bA wx (.cells (List.toArray [Value.int .i64 t.id, .string ⟨t.nm.toArray⟩, .slice t.a t.ps.length t.c]) 38)))
       generalize wx.alloc (.cells (List.toArray [Value.int .i64 t.id, .string ⟨t.nm.toArray⟩, .slice t.a t.ps.length t.c]) 38) = X2 at Hf HTB ⊢
       generalize wx.heap.size = tb at HTB HTG ⊢
       obtain ⟨i0, i1, i2, i3, i4⟩ := Hf.out.i.im; have r0 := Hf.out.r.at 0 _ rfl; have r2 := Hf.out.r.at 2 _ rfl; have r3 := Hf.out.r.at 3 _ rfl; have r4 := Hf.out.r.at 4 _ rfl; have r5 := Hf.out.r.at 5 _ rfl; have r14 := Hf.out.r.at 14 _ rfl; have r15 := Hf.out.r.at 15 _ rfl; have r16 := Hf.out.r.at 16 _ rfl; have r17 := Hf.out.r.at 17 _ rfl
       rw [HNN.out] at r4
       go_upto_region 5 with fail
       have HQX := Hd (Bx.new X2 [Value.slice a14 r.ids.length c14, .slice a15 r.isr.length c15, .int .i64 r.le, .int .i64 r.ep, .slice a16 r.ad.length c16, .slice a17 r.dr.length c17] 44)
       have HQG := Hd Hf.out.sz
       replace Hf := Hd (Hf.out.below (bA X2 (.cells (List.toArray [Value.slice a14 r.ids.length c14, .slice a15 r.isr.length c15, .int .i64 r.le, .int .i64 r.ep, .slice a16 r.ad.length c16, .slice a17 r.dr.length c17]) 44)))
       replace HTB := Hd (HTB.out.below (bA X2 (.cells (List.toArray [Value.slice a14 r.ids.length c14, .slice a15 r.isr.length c15, .int .i64 r.le, .int .i64 r.ep, .slice a16 r.ad.length c16, .slice a17 r.dr.length c17]) 44)))
       generalize X2.alloc (.cells (List.toArray [Value.slice a14 r.ids.length c14, .slice a15 r.isr.length c15, .int .i64 r.le, .int .i64 r.ep, .slice a16 r.ad.length c16, .slice a17 r.dr.length c17]) 44) = X3 at Hf HTB HQX ⊢
       generalize X2.heap.size = qb at HQX HQG ⊢
       clear i0 i1 i2 i3 i4 r0 r2 r3 r4 r5 r14 r15 r16 r17
       go_upto_region 6 with (first | (refine wpList_load_mid rfl _ _ rfl _ _ rfl _ _ Hf.out.i.c Tryz.underlying30 rfl (by kernel_rfl) ?_) | (refine wpList_load_mid rfl _ _ rfl _ _ rfl _ _ HQX.out.c Tryz.underlying44 rfl (by kernel_rfl) ?_) | (go_at_call 108; refine (HRI.out _ Hf.out.b).mono ?_; rintro e w5 ⟨rfl, hb5⟩; replace Hf := Hd (Hf.out.below hb5); replace HTB := Hd (HTB.out.below hb5); replace HQX := Hd (HQX.out.below hb5); clear hb5 HRI))
       obtain ⟨i0, i1, i2, i3, i4⟩ := Hf.out.i.im; have r0 := Hf.out.r.at 0 _ rfl; have r2 := Hf.out.r.at 2 _ rfl; have r3 := Hf.out.r.at 3 _ rfl; have r4 := Hf.out.r.at 4 _ rfl; have r5 := Hf.out.r.at 5 _ rfl; have r14 := Hf.out.r.at 14 _ rfl; have r15 := Hf.out.r.at 15 _ rfl; have r16 := Hf.out.r.at 16 _ rfl; have r17 := Hf.out.r.at 17 _ rfl
       rw [HNN.out] at r4
       have u2 := HTB.out.at 2 _ rfl
       rw [HPA.out] at u2
       rw [HK.out] at r0
       have HEV := Hd (HEL.out w5 Hf.out.b)
       go_upto_region 15 with (first | (refine wpList_load_mid rfl _ _ rfl _ _ rfl _ _ HEV.out Tryz.underlying44 rfl (by kernel_rfl) ?_))
       clear HEV u2 HTB
       clear i0 i1 i2 i3 i4 r0 r2 r3 r4 r5 r14 r15 r16 r17
       have HOX := Hd (Bx.new w5 [Value.slice o.2.a0 o.1.ids.length o.2.c0, .slice o.2.a1 o.1.isr.length o.2.c1, .int .i64 o.1.ld, .int .i64 o.1.ep, .slice o.2.a2 o.1.ad.length o.2.c2, .slice o.2.a3 o.1.dr.length o.2.c3] 44)
       have HOG := Hd Hf.out.sz
       replace Hf := Hd (Hf.out.below (bA w5 (.cells (List.toArray [Value.slice o.2.a0 o.1.ids.length o.2.c0, .slice o.2.a1 o.1.isr.length o.2.c1, .int .i64 o.1.ld, .int .i64 o.1.ep, .slice o.2.a2 o.1.ad.length o.2.c2, .slice o.2.a3 o.1.dr.length o.2.c3]) 44)))
       replace HQX := Hd (HQX.out.below (bA w5 (.cells (List.toArray [Value.slice o.2.a0 o.1.ids.length o.2.c0, .slice o.2.a1 o.1.isr.length o.2.c1, .int .i64 o.1.ld, .int .i64 o.1.ep, .slice o.2.a2 o.1.ad.length o.2.c2, .slice o.2.a3 o.1.dr.length o.2.c3]) 44)))
       generalize w5.alloc (.cells (List.toArray [Value.slice o.2.a0 o.1.ids.length o.2.c0, .slice o.2.a1 o.1.isr.length o.2.c1, .int .i64 o.1.ld, .int .i64 o.1.ep, .slice o.2.a2 o.1.ad.length o.2.c2, .slice o.2.a3 o.1.dr.length o.2.c3]) 44) = X5 at Hf HQX HOX ⊢
       generalize w5.heap.size = wb at HOX HOG ⊢
       obtain ⟨i0, i1, i2, i3, i4⟩ := Hf.out.i.im; have r0 := Hf.out.r.at 0 _ rfl; have r2 := Hf.out.r.at 2 _ rfl; have r3 := Hf.out.r.at 3 _ rfl; have r4 := Hf.out.r.at 4 _ rfl; have r5 := Hf.out.r.at 5 _ rfl; have r14 := Hf.out.r.at 14 _ rfl; have r15 := Hf.out.r.at 15 _ rfl; have r16 := Hf.out.r.at 16 _ rfl; have r17 := Hf.out.r.at 17 _ rfl
       rw [HNN.out] at r4
       have e2 := HOX.out.at 2 _ rfl
       have e3 := HOX.out.at 3 _ rfl
       go_cut [97] (fun y W => y = .bool z ∧ W = X5)
       case first =>
        rcases Int.lt_trichotomy r.ep o.1.ep with h | h | h
        ·have hz : z = true := HZ9.out.trans (by have h1 : ¬ r.ep = o.1.ep := (by omega); have h2 : ¬ r.ep = o.1.ep + 1 := (by omega); simp [h1, h2])
         clear HZ9
         subst hz
         go_wp2_with fail
         go_meet
         exact ⟨rfl, rfl⟩
        ·have n1 : ¬ r.ep < o.1.ep := by omega
         have n2 : ¬ o.1.ep + 1 < r.ep := by omega
         have n3 : (r.ep == o.1.ep) = true := by simpa using h
         have hz : (r.le != o.1.ld) = z := by rw [HZ9.out, h]; have h2 : ¬ o.1.ep = o.1.ep + 1 := (by omega); simp [h2]
         clear HZ9 h
         go_wp2_with fail
         go_meet
         exact ⟨rfl, rfl⟩
        ·have n1 : ¬ r.ep < o.1.ep := by omega
         by_cases h2 : o.1.ep + 1 < r.ep
         ·have hz : z = true := HZ9.out.trans (by have h1 : ¬ r.ep = o.1.ep := (by omega); have h2 : ¬ r.ep = o.1.ep + 1 := (by omega); simp [h1, h2])
          clear HZ9 h
          subst hz
          go_wp2_with fail
          go_meet
          exact ⟨rfl, rfl⟩
         ·have hz : z = false := HZ9.out.trans (by have h1 : r.ep = o.1.ep + 1 := (by omega); simp [h1])
          have n3 : (r.ep == o.1.ep) = false := by simp; omega
          clear HZ9 h
          subst hz
          go_wp2_with fail
          go_meet
          exact ⟨rfl, rfl⟩
       case rest =>
        obtain ⟨rfl, rfl⟩ := hcut
        clear e2 e3
        have hzv := HZT.out
        clear HZT HZ9
        subst hzv
        go_upto_region 19 with (first | (refine wpList_load_mid rfl _ _ rfl _ _ rfl _ _ HOX.out.c Tryz.underlying44 rfl (by kernel_rfl) ?_) | (refine wpList_load_mid rfl _ _ rfl _ _ rfl _ _ HQX.out.c Tryz.underlying44 rfl (by kernel_rfl) ?_) | (go_at_call 19; with_reducible refine (HSM.out _ Hf.out.b).mono ?_; rintro e w6 ⟨rfl, hb6⟩; replace Hf := Hd (Hf.out.below hb6); replace HQX := Hd (HQX.out.below hb6); clear hb6 HSM))
        clear i0 i1 i2 i3 i4 r0 r2 r3 r4 r5 r14 r15 r16 r17
        obtain ⟨i0, i1, i2, i3, i4⟩ := Hf.out.i.im; have r0 := Hf.out.r.at 0 _ rfl; have r2 := Hf.out.r.at 2 _ rfl; have r3 := Hf.out.r.at 3 _ rfl; have r4 := Hf.out.r.at 4 _ rfl; have r5 := Hf.out.r.at 5 _ rfl; have r14 := Hf.out.r.at 14 _ rfl; have r15 := Hf.out.r.at 15 _ rfl; have r16 := Hf.out.r.at 16 _ rfl; have r17 := Hf.out.r.at 17 _ rfl
        rw [HNN.out] at r4
        go_wp2_with (first | (refine wpList_load_mid rfl _ _ rfl _ _ rfl _ _ Hf.out.i.c Tryz.underlying30 rfl (by kernel_rfl) ?_) | (refine wpList_load_mid rfl _ _ rfl _ _ rfl _ _ HQX.out.c Tryz.underlying44 rfl (by kernel_rfl) ?_) | (go_at_call 109; refine (HPB2.out _ Hf.out.b).mono ?_; rintro e w7 ⟨p', rfl, him, hb7⟩; have HIM := Hd him; have HB7 := Hd hb7; have HXS := Hd (show w.heap.size + 1 + 1 + 1 ≤ w6.heap.size from Hf.out.sz); replace Hf := Hd (Hf.out.below hb7); clear him hb7 HPB2) | (refine wS rfl _ _ _ rfl _ _ rfl Hf.out.z (iml { m with ts := T1 } p') rfl rfl (by kernel_rfl) rfl ?_; intro W3 hz hk hb hp; have HZ := Hd hz; have Hb := Hd (hb _ _ (show w.heap.size ≤ w.heap.size + 1 + 1 by omega) Hf.out.b); have HP7 := Hd hp; clear hz hk hb hp))
        obtain ⟨q0, q1, q2, q3, q4⟩ := HZ.out.im
        exact bodyPost_ret (v := .tuple #[.agg (iml { m with ts := T1 } p').toArray, .int .i64 0]) (by simp [results, Tryz.results67, go_sem, q0, q1, q2, q3, q4, iml]) rfl ⟨p', rfl, (fun W hW => HIM.out W (fun g hg => by
         have hgz : ¬ g = w.heap.size + 1 + 1 := by
          rcases hg with h | h
          ·have := HN0.out g h; omega
          ·have := HXS.out; omega
         exact (hW g (hg.imp id (fun h => by have := HXS.out; omega))).trans (HP7.out g hgz))), Hb.out⟩
    ·have Hr : Hid (repP m r = (m, 8)) := Hd (by rw [HRP2.out]; unfold folP; rw [if_neg hk8, HNN.out, Int.toNat_natCast, List.getElem?_map, List.getElem?_eq_none (by omega)]; rfl)
     rw [Hr.out]
     have hnge : (t.ps.length : Int) ≤ (n : Int) := by omega
     have HK := Hd hk
     clear HRP2 HUN HTR HWP HPB hk hl
     have HFR0 := fF w m p r a14 a15 a16 a17 c14 c15 c16 c17
     clear hv hw hrw hn0 hr0 hok
     unfold imv
     unfold cR
     go_enter Tryz.func67, Tryz.ntmps67
     go_upto_region 1 with fail
     rw [fE]
     generalize frW w m p r a14 a15 a16 a17 c14 c15 c16 c17 = X at HFR0 ⊢
     have Hf := Hd HFR0
     clear HFR0
     obtain ⟨i0, i1, i2, i3, i4⟩ := Hf.out.i.im; have r0 := Hf.out.r.at 0 _ rfl; have r2 := Hf.out.r.at 2 _ rfl; have r3 := Hf.out.r.at 3 _ rfl; have r4 := Hf.out.r.at 4 _ rfl; have r5 := Hf.out.r.at 5 _ rfl; have r14 := Hf.out.r.at 14 _ rfl; have r15 := Hf.out.r.at 15 _ rfl; have r16 := Hf.out.r.at 16 _ rfl; have r17 := Hf.out.r.at 17 _ rfl
     rw [HNN.out] at r4
     go_upto_region 2 with (first | (refine wpList_load_mid rfl _ _ rfl _ _ rfl _ _ Hf.out.i.c Tryz.underlying30 rfl (by kernel_rfl) ?_) | (go_at_call 10; refine (HTP.out _ Hf.out.b).mono ?_; rintro e wx ⟨rfl, hbx⟩; replace Hf := Hd (Hf.out.below hbx); clear i0 i1 i2 i3 i4 r0 r2 r3 r4 r5 r14 r15 r16 r17; clear hbx HTP))
     have HTB := Hd (Bx.new wx [Value.int .i64 t.id, .string ⟨t.nm.toArray⟩, .slice t.a t.ps.length t.c] 38)
     have HTG := Hd Hf.out.sz
     replace Hf := Hd (Hf.out.below (bA wx (.cells (List.toArray [Value.int .i64 t.id, .string ⟨t.nm.toArray⟩, .slice t.a t.ps.length t.c]) 38)))
     generalize wx.alloc (.cells (List.toArray [Value.int .i64 t.id, .string ⟨t.nm.toArray⟩, .slice t.a t.ps.length t.c]) 38) = X2 at Hf HTB ⊢
     generalize wx.heap.size = tb at HTB HTG ⊢
     obtain ⟨i0, i1, i2, i3, i4⟩ := Hf.out.i.im; have r0 := Hf.out.r.at 0 _ rfl; have r2 := Hf.out.r.at 2 _ rfl; have r3 := Hf.out.r.at 3 _ rfl; have r4 := Hf.out.r.at 4 _ rfl; have r5 := Hf.out.r.at 5 _ rfl; have r14 := Hf.out.r.at 14 _ rfl; have r15 := Hf.out.r.at 15 _ rfl; have r16 := Hf.out.r.at 16 _ rfl; have r17 := Hf.out.r.at 17 _ rfl
     rw [HNN.out] at r4
     go_upto_region 5 with fail
     have HQX := Hd (Bx.new X2 [Value.slice a14 r.ids.length c14, .slice a15 r.isr.length c15, .int .i64 r.le, .int .i64 r.ep, .slice a16 r.ad.length c16, .slice a17 r.dr.length c17] 44)
     have HQG := Hd Hf.out.sz
     replace Hf := Hd (Hf.out.below (bA X2 (.cells (List.toArray [Value.slice a14 r.ids.length c14, .slice a15 r.isr.length c15, .int .i64 r.le, .int .i64 r.ep, .slice a16 r.ad.length c16, .slice a17 r.dr.length c17]) 44)))
     replace HTB := Hd (HTB.out.below (bA X2 (.cells (List.toArray [Value.slice a14 r.ids.length c14, .slice a15 r.isr.length c15, .int .i64 r.le, .int .i64 r.ep, .slice a16 r.ad.length c16, .slice a17 r.dr.length c17]) 44)))
     generalize X2.alloc (.cells (List.toArray [Value.slice a14 r.ids.length c14, .slice a15 r.isr.length c15, .int .i64 r.le, .int .i64 r.ep, .slice a16 r.ad.length c16, .slice a17 r.dr.length c17]) 44) = X3 at Hf HTB HQX ⊢
     generalize X2.heap.size = qb at HQX HQG ⊢
     clear i0 i1 i2 i3 i4 r0 r2 r3 r4 r5 r14 r15 r16 r17
     go_upto_region 6 with (first | (refine wpList_load_mid rfl _ _ rfl _ _ rfl _ _ Hf.out.i.c Tryz.underlying30 rfl (by kernel_rfl) ?_) | (refine wpList_load_mid rfl _ _ rfl _ _ rfl _ _ HQX.out.c Tryz.underlying44 rfl (by kernel_rfl) ?_) | (go_at_call 108; refine (HRI.out _ Hf.out.b).mono ?_; rintro e w5 ⟨rfl, hb5⟩; replace Hf := Hd (Hf.out.below hb5); replace HTB := Hd (HTB.out.below hb5); replace HQX := Hd (HQX.out.below hb5); clear hb5 HRI))
     obtain ⟨i0, i1, i2, i3, i4⟩ := Hf.out.i.im; have r0 := Hf.out.r.at 0 _ rfl; have r2 := Hf.out.r.at 2 _ rfl; have r3 := Hf.out.r.at 3 _ rfl; have r4 := Hf.out.r.at 4 _ rfl; have r5 := Hf.out.r.at 5 _ rfl; have r14 := Hf.out.r.at 14 _ rfl; have r15 := Hf.out.r.at 15 _ rfl; have r16 := Hf.out.r.at 16 _ rfl; have r17 := Hf.out.r.at 17 _ rfl
     rw [HNN.out] at r4
     have u2 := HTB.out.at 2 _ rfl
     rw [HK.out] at r0
     go_wp2_with (first | (refine wpList_load_mid rfl _ _ rfl _ _ rfl _ _ Hf.out.i.c Tryz.underlying30 rfl (by kernel_rfl) ?_) | (refine wS rfl _ _ _ rfl _ _ rfl Hf.out.z (iml m p) rfl rfl (by kernel_rfl) rfl ?_; intro W3 hz hk hb hp; have Ho := Hd (Hf.out.out hz hk hb); clear hz hk hb hp))
     obtain ⟨q0, q1, q2, q3, q4⟩ := Ho.out.z.im
     exact bodyPost_ret (v := .tuple #[.agg (iml m p).toArray, .int .i64 8]) (by simp [results, Tryz.results67, go_sem, q0, q1, q2, q3, q4, iml]) rfl (std_ret Ho.out (fun W hW => Hv.out W _ Ho.out.b hW))
  ·have Hr : Hid (repP m r = (m, rc)) := Hd (by rw [HRP.out, if_neg hR])
   rw [Hr.out]
   have n2 : (rc != 0) = true := by simpa using hR
   clear hR HRP HUS HUN HTR HWP HPB hrc
   have HFR0 := fF w m p r a14 a15 a16 a17 c14 c15 c16 c17
   clear hv hw hrw hn0 hr0 hok
   unfold imv
   unfold cR
   go_enter Tryz.func67, Tryz.ntmps67
   go_upto_region 1 with fail
   rw [fE]
   generalize frW w m p r a14 a15 a16 a17 c14 c15 c16 c17 = X at HFR0 ⊢
   have Hf := Hd HFR0
   clear HFR0
   obtain ⟨i0, i1, i2, i3, i4⟩ := Hf.out.i.im; have r0 := Hf.out.r.at 0 _ rfl; have r2 := Hf.out.r.at 2 _ rfl; have r3 := Hf.out.r.at 3 _ rfl; have r4 := Hf.out.r.at 4 _ rfl; have r5 := Hf.out.r.at 5 _ rfl; have r14 := Hf.out.r.at 14 _ rfl; have r15 := Hf.out.r.at 15 _ rfl; have r16 := Hf.out.r.at 16 _ rfl; have r17 := Hf.out.r.at 17 _ rfl
   rw [HNN.out] at r4
   go_upto_region 2 with (first | (refine wpList_load_mid rfl _ _ rfl _ _ rfl _ _ Hf.out.i.c Tryz.underlying30 rfl (by kernel_rfl) ?_) | (go_at_call 10; refine (HTP.out _ Hf.out.b).mono ?_; rintro e wx ⟨rfl, hbx⟩; replace Hf := Hd (Hf.out.below hbx); clear i0 i1 i2 i3 i4 r0 r2 r3 r4 r5 r14 r15 r16 r17; clear hbx HTP))
   have HTB := Hd (Bx.new wx [Value.int .i64 t.id, .string ⟨t.nm.toArray⟩, .slice t.a t.ps.length t.c] 38)
   have HTG := Hd Hf.out.sz
   replace Hf := Hd (Hf.out.below (bA wx (.cells (List.toArray [Value.int .i64 t.id, .string ⟨t.nm.toArray⟩, .slice t.a t.ps.length t.c]) 38)))
   generalize wx.alloc (.cells (List.toArray [Value.int .i64 t.id, .string ⟨t.nm.toArray⟩, .slice t.a t.ps.length t.c]) 38) = X2 at Hf HTB ⊢
   generalize wx.heap.size = tb at HTB HTG ⊢
   obtain ⟨i0, i1, i2, i3, i4⟩ := Hf.out.i.im; have r0 := Hf.out.r.at 0 _ rfl; have r2 := Hf.out.r.at 2 _ rfl; have r3 := Hf.out.r.at 3 _ rfl; have r4 := Hf.out.r.at 4 _ rfl; have r5 := Hf.out.r.at 5 _ rfl; have r14 := Hf.out.r.at 14 _ rfl; have r15 := Hf.out.r.at 15 _ rfl; have r16 := Hf.out.r.at 16 _ rfl; have r17 := Hf.out.r.at 17 _ rfl
   rw [HNN.out] at r4
   go_upto_region 5 with fail
   have HQX := Hd (Bx.new X2 [Value.slice a14 r.ids.length c14, .slice a15 r.isr.length c15, .int .i64 r.le, .int .i64 r.ep, .slice a16 r.ad.length c16, .slice a17 r.dr.length c17] 44)
   have HQG := Hd Hf.out.sz
   replace Hf := Hd (Hf.out.below (bA X2 (.cells (List.toArray [Value.slice a14 r.ids.length c14, .slice a15 r.isr.length c15, .int .i64 r.le, .int .i64 r.ep, .slice a16 r.ad.length c16, .slice a17 r.dr.length c17]) 44)))
   replace HTB := Hd (HTB.out.below (bA X2 (.cells (List.toArray [Value.slice a14 r.ids.length c14, .slice a15 r.isr.length c15, .int .i64 r.le, .int .i64 r.ep, .slice a16 r.ad.length c16, .slice a17 r.dr.length c17]) 44)))
   generalize X2.alloc (.cells (List.toArray [Value.slice a14 r.ids.length c14, .slice a15 r.isr.length c15, .int .i64 r.le, .int .i64 r.ep, .slice a16 r.ad.length c16, .slice a17 r.dr.length c17]) 44) = X3 at Hf HTB HQX ⊢
   generalize X2.heap.size = qb at HQX HQG ⊢
   clear i0 i1 i2 i3 i4 r0 r2 r3 r4 r5 r14 r15 r16 r17
   go_upto_region 6 with (first | (refine wpList_load_mid rfl _ _ rfl _ _ rfl _ _ Hf.out.i.c Tryz.underlying30 rfl (by kernel_rfl) ?_) | (refine wpList_load_mid rfl _ _ rfl _ _ rfl _ _ HQX.out.c Tryz.underlying44 rfl (by kernel_rfl) ?_) | (go_at_call 108; refine (HRI.out _ Hf.out.b).mono ?_; rintro e w5 ⟨rfl, hb5⟩; replace Hf := Hd (Hf.out.below hb5); replace HTB := Hd (HTB.out.below hb5); replace HQX := Hd (HQX.out.below hb5); clear hb5 HRI))
   obtain ⟨i0, i1, i2, i3, i4⟩ := Hf.out.i.im; have r0 := Hf.out.r.at 0 _ rfl; have r2 := Hf.out.r.at 2 _ rfl; have r3 := Hf.out.r.at 3 _ rfl; have r4 := Hf.out.r.at 4 _ rfl; have r5 := Hf.out.r.at 5 _ rfl; have r14 := Hf.out.r.at 14 _ rfl; have r15 := Hf.out.r.at 15 _ rfl; have r16 := Hf.out.r.at 16 _ rfl; have r17 := Hf.out.r.at 17 _ rfl
   rw [HNN.out] at r4
   go_wp2_with (first | (refine wpList_load_mid rfl _ _ rfl _ _ rfl _ _ Hf.out.i.c Tryz.underlying30 rfl (by kernel_rfl) ?_) | (refine wS rfl _ _ _ rfl _ _ rfl Hf.out.z (iml m p) rfl rfl (by kernel_rfl) rfl ?_; intro W3 hz hk hb hp; have Ho := Hd (Hf.out.out hz hk hb); clear hz hk hb hp))
   obtain ⟨q0, q1, q2, q3, q4⟩ := Ho.out.z.im
   exact bodyPost_ret (v := .tuple #[.agg (iml m p).toArray, .int .i64 rc]) (by simp [results, Tryz.results67, go_sem, q0, q1, q2, q3, q4, iml]) rfl (std_ret Ho.out (fun W hW => Hv.out W _ Ho.out.b hW))
end Go.Proofs.YtlggjgapdpkhiaaGreat
