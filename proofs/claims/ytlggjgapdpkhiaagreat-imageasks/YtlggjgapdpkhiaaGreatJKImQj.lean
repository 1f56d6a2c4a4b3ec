/-
  A SETTING, AS THE DOCUMENT HAS IT (castellanref15.config).
-/
import Derived.Test.YtlggjgapdpkhiaaGreatJKImQia2
import Derived.Test.YtlggjgapdpkhiaaGreatJKImDea4
namespace Go.Proofs.YtlggjgapdpkhiaaGreat
open Go.RowKit
theorem fold_T {α : Type} (c : α → Int) (b : α) : ∀ (l : List α) (q : List α), l.foldl (stepO c b) (q, true) = (q ++ l.filter (fun x => !decide (c x = 0)), true)
 | [], q => by simp
 | x :: l, q => by
  rw [List.foldl_cons]
  have e : stepO c b (q, true) x = (q ++ (if c x = 0 then [] else [x]), true) := by simp [stepO]
  rw [e, fold_T c b l, List.filter_cons]
  by_cases h : c x = 0 <;> simp [h]
theorem stepO_lens {α : Type} (c : α → Int) (b : α) : ∀ (l : List α) (s : List α × Bool), (l.foldl (stepO c b) s).1.length ≤ s.1.length + 2 * l.length := by
 intro l
 induction l with
 | nil => intro s; simp
 | cons x l ih =>
  intro s
  rw [List.foldl_cons]
  refine Nat.le_trans (ih _) ?_
  unfold stepO
  simp only [List.length_append, List.length_cons]
  split <;> split <;> simp <;> omega
theorem fold_gets {α : Type} {l : List α} {k : Nat} (hk : k < l.length) (c : α → Int) (b : α) (s : List α × Bool) : (l.take (k + 1)).foldl (stepO c b) s = stepO c b ((l.take k).foldl (stepO c b) s) l[k] := by
 rw [List.take_succ_eq_append_getElem hk, List.foldl_append]
 rfl
theorem cfg_L {l : List Cf} (hl : l.Pairwise ltC) (c : Cf) (fl : Bool) : (if (l.foldl (stepO (fun x : Cf => cmpC x c.tp c.ky) c) ([], fl)).2 then (l.foldl (stepO (fun x : Cf => cmpC x c.tp c.ky) c) ([], fl)).1 else (l.foldl (stepO (fun x : Cf => cmpC x c.tp c.ky) c) ([], fl)).1 ++ [c]) = if fl = true then l.filter (fun x => !idC c.tp c.ky x) else putC l c := by
 cases fl with
 | false => exact (fold_O _ c l (stn_C hl c.tp c.ky)).trans putC_ins.symm
 | true =>
  rw [fold_T]
  simp only [if_true, List.nil_append]
  have h : ∀ x : Cf, idC c.tp c.ky x = decide (cmpC x c.tp c.ky = 0) := fun x => by
   by_cases h : cmpC x c.tp c.ky = 0
   ·rw [decide_eq_true h, (keyC x).2 h]
   ·rw [decide_eq_false h]
    cases e : idC c.tp c.ky x with
    | false => rfl
    | true => exact absurd ((keyC x).1 e) h
  congr 1
  funext x
  rw [h x]
theorem wpList_app1g {α : Type} {f : α → List Value} {k : Nat} {P : Program} {S T : TypeId} (hi : Tyi P S T k) (hf : Enc f k) {ops : Array Oper} {rest : List Oper} {o : Oper} {a : Act} {Q : Exit → Act → World → Prop} (w : World) (hg : o.guard = none) (y z : Operand) (ho : o.op = .call { callee := .builtin .append, args := #[y, z], argTypes := #[S, S] }) (B : Nat) (v : Value) (l : List α) (hy : a.eval y = v) (hown : Ro f k T w B v l) (hB : B ≤ w.heap.size) (x : α) (g c : Nat) (hz : a.eval z = .slice (some ⟨g, 0, none⟩) 1 c) (hc : 1 ≤ c) (hq : w.rangeAt g 0 (f x)) (hn : l.length ≤ 1000000000)
  (h : ∀ v' w', Ro f k T w' B v' (l ++ [x]) → w.grownBy w' v.ownBlock → Below B w w' → wpList P ops Q rest (a.put o.dst v') w') : wpList P ops Q (o :: rest) a w :=
 wR hi hf w hg y z ho B v l hy hown hB _ [x] hz ⟨some ⟨g, 0, none⟩, c, rfl, hc, fun _ => ⟨g, 0, rfl, by simpa using hq⟩⟩ (by simp; omega) h
theorem cfV_form (o : Option Cf) : ∃ S : Value, cfV o = .tuple #[S, .bool o.isSome] := by cases o <;> exact ⟨_, rfl⟩
theorem run_geqT (a b : List UInt8) (t : TypeId) (W : World) : (binOp .geq t (.string ⟨a.toArray⟩) (.string ⟨b.toArray⟩)).run Tryz.prog W = .ok (.bool (decide (0 ≤ cmpT a b))) W := by
 have h : (!(Op.bytesLess a b)) = decide (0 ≤ cmpT a b) := by
  rw [less_cmpT]
  by_cases e1 : cmpT a b < 0
  ·rw [decide_eq_true e1, decide_eq_false (by omega)]; rfl
  ·rw [decide_eq_false e1, decide_eq_true (by omega)]; rfl
 rw [← h]
 simp [binOp, go_sem, Op.stringOp]
set_option maxRecDepth 100000 in
set_option maxHeartbeats 16000000 in
theorem rcfg_any {ok : Nat → Prop} (m : Im) (p : Ip) (r : Rc) (v : Value) (w : World) (n0 : Nat → Prop) (hn0 : ∀ g, n0 g → g < w.heap.size) (hv : ∀ W, (∀ g, n0 g → W.heap[g]? = w.heap[g]?) → ImR W m p) (hw : Wf m 100000) (hr : IsR ok w v r) : Calls Tryz.prog 70 #[imv m p, v] w fun e w' => StD n0 w w' (cfgC m r).1 (cfgC m r).2 e := by
 obtain ⟨a14, a15, a16, a17, c14, c15, c16, c17, rfl, hrw⟩ := hr
 have Hv := Hd (fun (W W3 : World) (hb : Below w.heap.size w W3) (hW : Agr n0 w.heap.size W3 W) => hv W (fun g hg => (hW g (.inl hg)).trans (hb.block g (hn0 g hg))))
 replace hv : ImR w m p := hv w (fun _ _ => rfl)
 have HV := Hd (fun W (h : Below w.heap.size w W) => hv.below h)
 have HTP := Hd (fun W (h : Below w.heap.size w W) => rtopic_any m p r.tp W (hv.below h) (by rw [hv.len]; exact hw.nt))
 have HCF := Hd (fun W (h : Below w.heap.size w W) => rconfig_any m p r.tp r.ky W (hv.below h) hw.nc)
 obtain ⟨S, hS⟩ := cfV_form (fC m.cf r.tp r.ky)
 rw [hS] at HCF
 clear hS
 have HCL := Hd (cfg_L hw.c (⟨r.tp, r.ky, r.va⟩ : Cf) r.fl)
 have hnc := hw.nc
 obtain ⟨u, hu⟩ : ∃ u, u = tqOf p r.tp := ⟨_, rfl⟩
 rw [← hu] at HTP
 clear hu
 obtain ⟨b, hb⟩ : ∃ b, b = (p.ts.find? (idQ r.tp)).isSome := ⟨_, rfl⟩
 rw [← hb] at HTP
 have hbn : (fT m.ts r.tp).isNone = !b := by
  rw [hv.fT, hb]
  cases p.ts.find? (idQ r.tp) <;> rfl
 clear hb
 obtain ⟨d, hd⟩ : ∃ d, d = (fC m.cf r.tp r.ky).isSome := ⟨_, rfl⟩
 rw [← hd] at HCF
 have hdn : (fC m.cf r.tp r.ky).isNone = !d := by
  rw [hd]
  cases fC m.cf r.tp r.ky <;> rfl
 clear hd
 unfold imv at HCF HTP
 unfold tpc at HTP
 by_cases hA : (r.tp != 0 && !b) = true
 ·have Hr : Hid (cfgC m r = (m, 8)) := Hd (if_pos (by rw [hbn]; exact hA))
  rw [Hr.out]
  cases b with
  | true => simp at hA
  | false =>
   have hn1 : (r.tp != 0) = true := by simpa using hA
   clear hA hbn HCF hdn HCL
   have HFR0 := fF w m p r a14 a15 a16 a17 c14 c15 c16 c17
   clear hv hw hrw hn0
   unfold imv
   unfold cR
   go_enter Tryz.func70, Tryz.ntmps70
   go_upto_region 1 with fail
   rw [fE]
   generalize frW w m p r a14 a15 a16 a17 c14 c15 c16 c17 = X at HFR0 ⊢
   have Hf := Hd HFR0
   clear HFR0
   obtain ⟨i0, i1, i2, i3, i4⟩ := Hf.out.i.im; have r3 := Hf.out.r.at 3 _ rfl; have r9 := Hf.out.r.at 9 _ rfl; have r11 := Hf.out.r.at 11 _ rfl; have r12 := Hf.out.r.at 12 _ rfl
   go_upto_region 2 with (first | (refine wpList_load_mid rfl _ _ rfl _ _ rfl _ _ Hf.out.i.c Tryz.underlying30 rfl (by kernel_rfl) ?_) | (go_at_call 10; refine (HTP.out _ Hf.out.b).mono ?_; rintro e wx ⟨rfl, hbx⟩; replace Hf := Hd (Hf.out.below hbx); clear i0 i1 i2 i3 i4 r3 r9 r11 r12; clear hbx HTP))
   replace Hf := Hd (Hf.out.below (bA wx (.cells (List.toArray [Value.int .i64 u.id, .string ⟨u.nm.toArray⟩, .slice u.a u.ps.length u.c]) 38)))
   generalize wx.alloc (.cells (List.toArray [Value.int .i64 u.id, .string ⟨u.nm.toArray⟩, .slice u.a u.ps.length u.c]) 38) = X2 at Hf ⊢
   obtain ⟨i0, i1, i2, i3, i4⟩ := Hf.out.i.im; have r3 := Hf.out.r.at 3 _ rfl; have r9 := Hf.out.r.at 9 _ rfl; have r11 := Hf.out.r.at 11 _ rfl; have r12 := Hf.out.r.at 12 _ rfl
   go_wp2_with (first | (refine wpList_load_mid rfl _ _ rfl _ _ rfl _ _ Hf.out.i.c Tryz.underlying30 rfl (by kernel_rfl) ?_) | (refine wS rfl _ _ _ rfl _ _ rfl Hf.out.z (iml m p) rfl rfl (by kernel_rfl) rfl ?_; intro W3 hz hk hb hp; have Ho := Hd (Hf.out.out hz hk hb); clear hz hk hb hp))
   obtain ⟨q0, q1, q2, q3, q4⟩ := Ho.out.z.im
   exact bodyPost_ret (v := .tuple #[.agg (iml m p).toArray, .int .i64 8]) (by simp [results, Tryz.results70, go_sem, q0, q1, q2, q3, q4, iml]) rfl (std_ret Ho.out (fun W hW => Hv.out W _ Ho.out.b hW))
 ·by_cases hB : (r.fl && !d) = true
  ·have Hr : Hid (cfgC m r = (m, 8)) := Hd (by
    obtain ⟨h1, h2⟩ := Bool.and_eq_true_iff.1 hB
    unfold cfgC
    rw [hbn, if_neg hA, if_pos h1, hdn, if_pos h2])
   rw [Hr.out]
   have HFL : Hid (r.fl = true) := Hd (Bool.and_eq_true_iff.1 hB).1
   cases d with
   | true => simp at hB
   | false =>
    clear hB hbn hdn HCL
    have HFR0 := fF w m p r a14 a15 a16 a17 c14 c15 c16 c17
    clear hv hw hrw hn0
    unfold imv
    unfold cR
    go_enter Tryz.func70, Tryz.ntmps70
    go_upto_region 1 with fail
    rw [fE]
    generalize frW w m p r a14 a15 a16 a17 c14 c15 c16 c17 = X at HFR0 ⊢
    have Hf := Hd HFR0
    clear HFR0
    obtain ⟨i0, i1, i2, i3, i4⟩ := Hf.out.i.im; have r3 := Hf.out.r.at 3 _ rfl; have r9 := Hf.out.r.at 9 _ rfl; have r11 := Hf.out.r.at 11 _ rfl; have r12 := Hf.out.r.at 12 _ rfl
    go_upto_region 2 with (first | (refine wpList_load_mid rfl _ _ rfl _ _ rfl _ _ Hf.out.i.c Tryz.underlying30 rfl (by kernel_rfl) ?_) | (go_at_call 10; refine (HTP.out _ Hf.out.b).mono ?_; rintro e wx ⟨rfl, hbx⟩; replace Hf := Hd (Hf.out.below hbx); clear i0 i1 i2 i3 i4 r3 r9 r11 r12; clear hbx HTP))
    replace Hf := Hd (Hf.out.below (bA wx (.cells (List.toArray [Value.int .i64 u.id, .string ⟨u.nm.toArray⟩, .slice u.a u.ps.length u.c]) 38)))
    generalize wx.alloc (.cells (List.toArray [Value.int .i64 u.id, .string ⟨u.nm.toArray⟩, .slice u.a u.ps.length u.c]) 38) = X2 at Hf ⊢
    obtain ⟨i0, i1, i2, i3, i4⟩ := Hf.out.i.im; have r3 := Hf.out.r.at 3 _ rfl; have r9 := Hf.out.r.at 9 _ rfl; have r11 := Hf.out.r.at 11 _ rfl; have r12 := Hf.out.r.at 12 _ rfl
    go_cut [27] (fun y W => y = .bool false ∧ Fr w m p (cR r a14 a15 a16 a17 c14 c15 c16 c17) imz W)
    case first =>
     cases b with
     | true => go_wp2_with fail; go_meet; exact ⟨rfl, Hf.out⟩
     | false =>
      have hn1 : (r.tp != 0) = false := by simpa using hA
      go_wp2_with fail
      go_meet
      exact ⟨rfl, Hf.out⟩
    case rest =>
     obtain ⟨rfl, hf0⟩ := hcut
     have Hf := Hd hf0
     clear hf0
     obtain ⟨i0, i1, i2, i3, i4⟩ := Hf.out.i.im; have r3 := Hf.out.r.at 3 _ rfl; have r9 := Hf.out.r.at 9 _ rfl; have r11 := Hf.out.r.at 11 _ rfl; have r12 := Hf.out.r.at 12 _ rfl
     rw [HFL.out] at r9
     go_wp2_with (first | (refine wpList_load_mid rfl _ _ rfl _ _ rfl _ _ Hf.out.i.c Tryz.underlying30 rfl (by kernel_rfl) ?_) | (go_at_call 16; refine (HCF.out _ Hf.out.b).mono ?_; rintro e wx ⟨rfl, hbx⟩; replace Hf := Hd (Hf.out.below hbx); clear i0 i1 i2 i3 i4 r3 r9 r11 r12; clear hbx HCF; obtain ⟨i0, i1, i2, i3, i4⟩ := Hf.out.i.im; have r3 := Hf.out.r.at 3 _ rfl; have r9 := Hf.out.r.at 9 _ rfl; have r11 := Hf.out.r.at 11 _ rfl; have r12 := Hf.out.r.at 12 _ rfl; rw [HFL.out] at r9) | (refine wS rfl _ _ _ rfl _ _ rfl Hf.out.z (iml m p) rfl rfl (by kernel_rfl) rfl ?_; intro W3 hz hk hb hp; have Ho := Hd (Hf.out.out hz hk hb); clear hz hk hb hp))
     obtain ⟨q0, q1, q2, q3, q4⟩ := Ho.out.z.im
     exact bodyPost_ret (v := .tuple #[.agg (iml m p).toArray, .int .i64 8]) (by simp [results, Tryz.results70, go_sem, q0, q1, q2, q3, q4, iml]) rfl (std_ret Ho.out (fun W hW => Hv.out W _ Ho.out.b hW))
  ·obtain ⟨L2, hL2⟩ : ∃ L2, L2 = if r.fl = true then m.cf.filter (fun x => !idC r.tp r.ky x) else putC m.cf (⟨r.tp, r.ky, r.va⟩ : Cf) := ⟨_, rfl⟩
   have Hr : Hid (cfgC m r = ({ m with cf := L2 }, 0)) := Hd (by
    unfold cfgC
    rw [hbn, if_neg hA, hdn, hL2]
    cases hf : r.fl with
    | false => rfl
    | true =>
     rw [hf] at hB
     rw [if_pos rfl, if_neg (by simpa using hB)]
     rfl)
   rw [Hr.out]
   have HCL2 := Hd (HCL.out.trans hL2.symm)
   clear HCL hL2 hbn hdn
   have HFR0 := fF w m p r a14 a15 a16 a17 c14 c15 c16 c17
   clear hv hw hrw hn0
   unfold imv
   unfold cR
   go_enter Tryz.func70, Tryz.ntmps70
   go_upto_region 1 with fail
   rw [fE]
   generalize frW w m p r a14 a15 a16 a17 c14 c15 c16 c17 = X at HFR0 ⊢
   have Hf := Hd HFR0
   clear HFR0
   obtain ⟨i0, i1, i2, i3, i4⟩ := Hf.out.i.im; have r3 := Hf.out.r.at 3 _ rfl; have r9 := Hf.out.r.at 9 _ rfl; have r11 := Hf.out.r.at 11 _ rfl; have r12 := Hf.out.r.at 12 _ rfl
   go_upto_region 2 with (first | (refine wpList_load_mid rfl _ _ rfl _ _ rfl _ _ Hf.out.i.c Tryz.underlying30 rfl (by kernel_rfl) ?_) | (go_at_call 10; refine (HTP.out _ Hf.out.b).mono ?_; rintro e wx ⟨rfl, hbx⟩; replace Hf := Hd (Hf.out.below hbx); clear i0 i1 i2 i3 i4 r3 r9 r11 r12; clear hbx HTP))
   replace Hf := Hd (Hf.out.below (bA wx (.cells (List.toArray [Value.int .i64 u.id, .string ⟨u.nm.toArray⟩, .slice u.a u.ps.length u.c]) 38)))
   generalize wx.alloc (.cells (List.toArray [Value.int .i64 u.id, .string ⟨u.nm.toArray⟩, .slice u.a u.ps.length u.c]) 38) = X2 at Hf ⊢
   obtain ⟨i0, i1, i2, i3, i4⟩ := Hf.out.i.im; have r3 := Hf.out.r.at 3 _ rfl; have r9 := Hf.out.r.at 9 _ rfl; have r11 := Hf.out.r.at 11 _ rfl; have r12 := Hf.out.r.at 12 _ rfl
   go_cut [27] (fun y W => y = .bool false ∧ Fr w m p (cR r a14 a15 a16 a17 c14 c15 c16 c17) imz W)
   case first =>
    cases b with
    | true => go_wp2_with fail; go_meet; exact ⟨rfl, Hf.out⟩
    | false =>
     have hn1 : (r.tp != 0) = false := by simpa using hA
     go_wp2_with fail
     go_meet
     exact ⟨rfl, Hf.out⟩
   case rest =>
    obtain ⟨rfl, hf0⟩ := hcut
    have Hf := Hd hf0
    clear hf0
    obtain ⟨i0, i1, i2, i3, i4⟩ := Hf.out.i.im; have r3 := Hf.out.r.at 3 _ rfl; have r9 := Hf.out.r.at 9 _ rfl; have r11 := Hf.out.r.at 11 _ rfl; have r12 := Hf.out.r.at 12 _ rfl
    go_upto_region 5 with (first | (refine wpList_load_mid rfl _ _ rfl _ _ rfl _ _ Hf.out.i.c Tryz.underlying30 rfl (by kernel_rfl) ?_) | (go_at_call 16; refine (HCF.out _ Hf.out.b).mono ?_; rintro e wx ⟨rfl, hbx⟩; replace Hf := Hd (Hf.out.below hbx); clear i0 i1 i2 i3 i4 r3 r9 r11 r12; clear hbx HCF; obtain ⟨i0, i1, i2, i3, i4⟩ := Hf.out.i.im; have r3 := Hf.out.r.at 3 _ rfl; have r9 := Hf.out.r.at 9 _ rfl; have r11 := Hf.out.r.at 11 _ rfl; have r12 := Hf.out.r.at 12 _ rfl))
    go_cut [43] (fun y W => y = .bool false ∧ Fr w m p (cR r a14 a15 a16 a17 c14 c15 c16 c17) imz W)
    case first =>
     rcases Bool.eq_false_or_eq_true r.fl with hf | hf
     ·rw [hf] at r9 hB
      have hd1 : d = true := by simpa using hB
      have HF := Hd hf
      clear hf
      subst hd1
      go_wp2_with fail
      go_meet
      exact ⟨rfl, Hf.out⟩
     ·rw [hf] at r9
      have HF := Hd hf
      clear hf
      go_wp2_with fail
      go_meet
      exact ⟨rfl, Hf.out⟩
    case rest =>
     obtain ⟨rfl, hf0⟩ := hcut
     replace Hf := Hd hf0
     clear hf0
     clear hA hB
     have HIU : Hid (wc.rangeAt w.heap.size 0 [Value.slice p.ab m.br.length p.cb, .slice p.aq p.ts.length p.cq, .slice p.ac m.cf.length p.cc, .slice p.ad m.dn.length p.cd, .int .i64 m.la]) := Hd Hf.out.i.c
     go_upto_region 8 with (first | (refine wpList_load_mid rfl _ _ rfl _ _ rfl _ _ HIU.out Tryz.underlying30 rfl (by kernel_rfl) ?_))
     clear HIU
     (try (clear i0 i1 i2 i3 i4 r3 r9 r11 r12))
     have Hz := Hd (Fo.new Hf.out [Value.slice p.ab m.br.length p.cb, .slice p.aq p.ts.length p.cq, .slice p.ac m.cf.length p.cc, .slice p.ad m.dn.length p.cd, .int .i64 m.la] 30)
     generalize wc.alloc (.cells (List.toArray [Value.slice p.ab m.br.length p.cb, .slice p.aq p.ts.length p.cq, .slice p.ac m.cf.length p.cc, .slice p.ad m.dn.length p.cd, .int .i64 m.la]) 30) = Y at Hz ⊢
     generalize wc.heap.size = bo at Hz ⊢
     have o2 := Hz.out.o.at 2 _ rfl
     have f2 := Hz.out.o.f 2 (by simp)
     go_upto_region 9 with fail
     replace Hz := Hd (Hz.out.set 2 (by simp) (.slice none 0 0))
     simp only [List.set] at Hz
     clear o2 f2 Hf
     generalize Y.setCell ⟨bo, 2, none⟩ (.slice none 0 0) = Y1 at Hz ⊢
     have r9 := Hz.out.f.r.at 9 _ rfl
     go_upto_region 11 with fail
     clear r9
     go_loopw [11, 12] (fun d i W => ∃ (k : Nat) (s : List Cf × Bool) (av : Option Addr) (cv : Nat), k ≤ m.cf.length ∧ i = .int .i64 (k : Int) ∧ d = .bool s.2 ∧ Hid (s = (m.cf.take k).foldl (stepO (fun x : Cf => cmpC x r.tp r.ky) (⟨r.tp, r.ky, r.va⟩ : Cf)) ([], r.fl)) ∧ Fo w W m p (cR r a14 a15 a16 a17 c14 c15 c16 c17) bo [Value.slice p.ab m.br.length p.cb, .slice p.aq p.ts.length p.cq, .slice av s.1.length cv, .slice p.ad m.dn.length p.cd, .int .i64 m.la] ∧ Ro cfc 3 78 W (bo + 1) (.slice av s.1.length cv) s.1) (fun _ i _ => m.cf.length - (ivQ i).toNat)
     case atStart => exact ⟨0, ([], r.fl), none, 0, Nat.zero_le _, rfl, rfl, Hd rfl, Hz.out, ro_nil _ _ _ _ _⟩
     case round =>
      clear Hz
      obtain ⟨k, s, av, cv, hk, rfl, rfl, HS, hf, hr⟩ := hrel
      have Ho := Hd hf
      have HRO := Hd hr
      clear hf hr
      have HLN : Hid (s.1.length ≤ 200000) := Hd (by
       have h1 := stepO_lens (fun x : Cf => cmpC x r.tp r.ky) (⟨r.tp, r.ky, r.va⟩ : Cf) (m.cf.take k) ([], r.fl)
       rw [← HS.out] at h1
       have h2 : (m.cf.take k).length ≤ k := by rw [List.length_take]; omega
       simp only [List.length_nil] at h1
       omega)
      have i2 := Ho.out.f.i.at 2 _ rfl
      by_cases hlt : k < m.cf.length
      ·have hltI : (k : Int) < (m.cf.length : Int) := by omega
       obtain ⟨bb, ob, hab, hrg⟩ := (HV.out wr Ho.out.f.b).c.rg (show 0 < m.cf.length by omega)
       have HXC := Hd (fm_at encC hrg hlt)
       rw [hab] at i2
       clear hab hrg
       have HST := Hd (fold_gets hlt (fun x : Cf => cmpC x r.tp r.ky) (⟨r.tp, r.ky, r.va⟩ : Cf) ([], r.fl))
       rw [← HS.out] at HST
       clear HS
       generalize m.cf[k] = x at HXC HST
       unfold cfc at HXC
       obtain ⟨Q, sb⟩ := s
       dsimp only at *
       go_upto_region 14 with (first | (refine wpList_load_mid rfl _ _ rfl _ _ rfl _ _ HXC.out Tryz.underlying78 rfl (by kernel_rfl) ?_))
       have HF1 := Hd (Ho.out.below (bA wr (.cells (List.toArray [Value.int .i64 x.tp, .string ⟨x.ky.toArray⟩, .string ⟨x.va.toArray⟩]) 78)))
       have HR1 := Hd (HRO.out.below (bA wr (.cells (List.toArray [Value.int .i64 x.tp, .string ⟨x.ky.toArray⟩, .string ⟨x.va.toArray⟩]) 78)))
       have HC1 := Hd (Bx.new wr [Value.int .i64 x.tp, .string ⟨x.ky.toArray⟩, .string ⟨x.va.toArray⟩] 78)
       have HNO : Hid (∀ g, (Value.slice av Q.length cv).ownBlock = some g → g < wr.heap.size) := Hd (fun g hg => (HRO.out.lt g hg).2)
       have HNB : Hid (bo < wr.heap.size) := Hd Ho.out.o.l
       clear Ho HRO i2 HXC
       generalize wr.alloc (.cells (List.toArray [Value.int .i64 x.tp, .string ⟨x.ky.toArray⟩, .string ⟨x.va.toArray⟩]) 78) = V at HF1 HR1 HC1 ⊢
       generalize wr.heap.size = n at HC1 HNO HNB ⊢
       have r3 := HF1.out.f.r.at 3 _ rfl
       have r11 := HF1.out.f.r.at 11 _ rfl
       have c0 := HC1.out.at 0 _ rfl
       have c1 := HC1.out.at 1 _ rfl
       obtain ⟨z, hz⟩ : ∃ z, z = decide (0 ≤ cmpC x r.tp r.ky) := ⟨_, rfl⟩
       have HZ := Hd hz
       obtain ⟨e, he⟩ : ∃ e, e = idC r.tp r.ky x := ⟨_, rfl⟩
       have HE := Hd he
       obtain ⟨y14, hy⟩ : ∃ y14, y14 = (!sb && z) := ⟨_, rfl⟩
       have HY := Hd hy
       have HST3 : Hid ((m.cf.take (k + 1)).foldl (stepO (fun x : Cf => cmpC x r.tp r.ky) (⟨r.tp, r.ky, r.va⟩ : Cf)) ([], r.fl) = ((if y14 = true then Q ++ [(⟨r.tp, r.ky, r.va⟩ : Cf)] else Q) ++ (if e = true then [] else [x]), sb || y14)) := Hd (by
        rw [HST.out]
        unfold stepO
        dsimp only
        rw [← hz, ← hy]
        have h1 : (if cmpC x r.tp r.ky = 0 then ([] : List Cf) else [x]) = if e = true then [] else [x] := by
         by_cases h : cmpC x r.tp r.ky = 0
         ·rw [if_pos h, if_pos (he.trans ((keyC x).2 h))]
         ·rw [if_neg h, if_neg (fun q => h ((keyC x).1 (he.symm.trans q)))]
        have h2 : (sb || z) = (sb || y14) := by rw [hy]; cases sb <;> rfl
        rw [h1, h2])
       clear hz he hy HST
       have HGE : Hid (∀ W, (binOp .geq 9 (.string ⟨x.ky.toArray⟩) (.string ⟨r.ky.toArray⟩)).run Tryz.prog W = .ok (.bool (decide (0 ≤ cmpT x.ky r.ky))) W) := Hd (fun W => run_geqT _ _ _ W)
       go_cut [83] (fun y W => y = .bool y14 ∧ W = V)
       case first =>
        cases sb with
        | true =>
         have hy : y14 = false := HY.out
         subst hy
         go_wp2_with fail
         go_meet
         exact ⟨rfl, rfl⟩
        | false =>
         have hy : y14 = z := HY.out
         subst hy
         rcases Int.lt_trichotomy x.tp r.tp with h | h | h
         ·have hz : y14 = false := HZ.out.trans (decide_eq_false (by have := (cmpC_neg (x := x) (t := r.tp) (k := r.ky)).2 (.inl h); omega))
          have n1 : ¬ r.tp < x.tp := by omega
          have n2 : (x.tp == r.tp) = false := by simp; omega
          clear h HY HZ
          subst hz
          go_wp2_with fail
          go_meet
          exact ⟨rfl, rfl⟩
         ·have n1 : ¬ r.tp < x.tp := by omega
          have n2 : (x.tp == r.tp) = true := by simpa using h
          have hz : decide (0 ≤ cmpT x.ky r.ky) = y14 := by
           rw [HZ.out]
           unfold cmpC
           rw [if_pos (cmpN_zero.2 h)]
          have h4 : ∀ W, (binOp .geq 9 (.string ⟨x.ky.toArray⟩) (.string ⟨r.ky.toArray⟩)).run Tryz.prog W = .ok (.bool y14) W := fun W => by rw [HGE.out W, hz]
          clear h hz HY HZ
          go_wp2_with fail
          go_meet
          exact ⟨rfl, rfl⟩
         ·have hz : y14 = true := HZ.out.trans (decide_eq_true (by have := (cmpC_pos (x := x) (t := r.tp) (k := r.ky)).2 (.inl h); omega))
          clear HY HZ
          subst hz
          go_wp2_with fail
          go_meet
          exact ⟨rfl, rfl⟩
       case rest =>
        obtain ⟨rfl, rfl⟩ := hcut
        clear r3 r11 c0 c1 HGE
        cases y14 with
        | true =>
         obtain ⟨Q1, hQ1⟩ : ∃ Q1, Q1 = Q ++ [(⟨r.tp, r.ky, r.va⟩ : Cf)] := ⟨_, rfl⟩
         have HQ1 := Hd hQ1
         clear hQ1
         have HL1 : Hid (Q1.length ≤ 200001) := Hd (by rw [HQ1.out, List.length_append]; have := HLN.out; simp only [List.length_cons, List.length_nil]; omega)
         have HF2 := Hd (HF1.out.below (bA wc (.cells (List.toArray [Value.int .i64 r.tp, .string ⟨r.ky.toArray⟩, .string ⟨r.va.toArray⟩]) 78)))
         have HR2 := Hd (HR1.out.below (bA wc (.cells (List.toArray [Value.int .i64 r.tp, .string ⟨r.ky.toArray⟩, .string ⟨r.va.toArray⟩]) 78)))
         have HC2 := Hd (HC1.out.below (bA wc (.cells (List.toArray [Value.int .i64 r.tp, .string ⟨r.ky.toArray⟩, .string ⟨r.va.toArray⟩]) 78)))
         have HU2 := Hd (Bx.new wc [Value.int .i64 r.tp, .string ⟨r.ky.toArray⟩, .string ⟨r.va.toArray⟩] 78).c
         have o2 := HF1.out.o.at 2 _ rfl
         have r3 := HF1.out.f.r.at 3 _ rfl
         have r11 := HF1.out.f.r.at 11 _ rfl
         have r12 := HF1.out.f.r.at 12 _ rfl
         go_upto_region 17 with (first | (refine wpList_app1g tyiC encC _ rfl _ _ rfl (bo + 1) _ Q rfl HR2.out (by have := HF2.out.o.l; omega) (⟨r.tp, r.ky, r.va⟩ : Cf) _ 1 rfl (Nat.le_refl _) HU2.out (by have := HLN.out; omega) ?_; intro v1 w1 ho1 hg1 hb1; have HF3 := Hd (HF2.out.low hb1); rw [← HQ1.out] at ho1; obtain ⟨av1, cv1, rfl⟩ := ho1.form; have HC3 := Hd (HC2.out.blk0 hg1.size (hg1.block _ HC2.out.l (fun q => by have := HNO.out _ q.symm; omega))); have HF4 := Hd (HF3.out.set 2 (by simp) (.slice av1 Q1.length cv1)); simp only [List.set] at HF4; have HR4 := Hd (ho1.keepG (W' := w1.setCell ⟨bo, 2, none⟩ (.slice av1 Q1.length cv1)) (fun g hg => Below.heap_setCell _ _ _ _ (show ¬ g = bo by omega))); have HC4 := Hd (HC3.out.setOther (show ¬ n = bo by have := HNB.out; omega) 2 (.slice av1 Q1.length cv1)); clear ho1 hg1 hb1 HC3; clear o2 r3 r11 r12; have o2 := HF3.out.o.at 2 _ rfl; have f2 := HF3.out.o.f 2 (by simp)))
         clear o2 f2 HF1 HF2 HF3 HR1 HR2 HC1 HC2 HU2
         generalize w1.setCell ⟨bo, 2, none⟩ (.slice av1 Q1.length cv1) = Z1 at HF4 HR4 HC4 ⊢
         have r3 := HF4.out.f.r.at 3 _ rfl
         have r11 := HF4.out.f.r.at 11 _ rfl
         have c0 := HC4.out.at 0 _ rfl
         have c1 := HC4.out.at 1 _ rfl
         go_cut [107] (fun y W => y = .bool (!e) ∧ Fo w W m p (cR r a14 a15 a16 a17 c14 c15 c16 c17) bo [Value.slice p.ab m.br.length p.cb, .slice p.aq p.ts.length p.cq, .slice av1 Q1.length cv1, .slice p.ad m.dn.length p.cd, .int .i64 m.la] ∧ Ro cfc 3 78 W (bo + 1) (.slice av1 Q1.length cv1) Q1 ∧ Bx W n [Value.int .i64 x.tp, .string ⟨x.ky.toArray⟩, .string ⟨x.va.toArray⟩])
         case first =>
          by_cases h : x.tp = r.tp
          ·have n1 : (x.tp != r.tp) = false := by simp [h]
           cases e with
           | true =>
            have n3 : (x.ky == r.ky) = true := by have := HE.out; unfold idC at this; simp [h] at this; simp [this]
            clear h
            go_wp2_with fail
            go_meet
            exact ⟨rfl, HF4.out, HR4.out, HC4.out⟩
           | false =>
            have n3 : (x.ky == r.ky) = false := by have := HE.out; unfold idC at this; simp [h] at this; simpa using this
            clear h
            go_wp2_with fail
            go_meet
            exact ⟨rfl, HF4.out, HR4.out, HC4.out⟩
          ·have n1 : (x.tp != r.tp) = true := by simpa using h
           have hee : e = false := by rw [HE.out]; unfold idC; simp [h]
           clear h HE
           subst hee
           go_wp2_with fail
           go_meet
           exact ⟨rfl, HF4.out, HR4.out, HC4.out⟩
         case rest =>
          obtain ⟨rfl, hf0, hr0, hc0⟩ := hcut
          have HFc := Hd hf0
          have HRc := Hd hr0
          have HCc := Hd hc0
          clear hf0 hr0 hc0 r3 r11 c0 c1 HE HY HZ
          cases e with
          | true =>
           have HSF : Hid ((Q1, true) = (m.cf.take (k + 1)).foldl (stepO (fun x : Cf => cmpC x r.tp r.ky) (⟨r.tp, r.ky, r.va⟩ : Cf)) ([], r.fl)) := Hd (by rw [HST3.out]; simp [HQ1.out])
           go_wp2_with fail
           go_roundw
           case rel => exact ⟨k + 1, (Q1, true), av1, cv1, by omega, by go_num, rfl, HSF, HFc.out, HRc.out⟩
           case measure => simp [ivQ]; omega
          | false =>
           obtain ⟨Q2, hQ2⟩ : ∃ Q2, Q2 = Q1 ++ [x] := ⟨_, rfl⟩
           have HQ2 := Hd hQ2
           clear hQ2
           have HSF : Hid ((Q2, true) = (m.cf.take (k + 1)).foldl (stepO (fun x : Cf => cmpC x r.tp r.ky) (⟨r.tp, r.ky, r.va⟩ : Cf)) ([], r.fl)) := Hd (by rw [HST3.out, HQ2.out]; simp [HQ1.out])
           have HFd := Hd (HFc.out.below (bA wc (.cells (List.toArray [Value.int .i64 x.tp, .string ⟨x.ky.toArray⟩, .string ⟨x.va.toArray⟩]) 78)))
           have HRd := Hd (HRc.out.below (bA wc (.cells (List.toArray [Value.int .i64 x.tp, .string ⟨x.ky.toArray⟩, .string ⟨x.va.toArray⟩]) 78)))
           have HUd := Hd (Bx.new wc [Value.int .i64 x.tp, .string ⟨x.ky.toArray⟩, .string ⟨x.va.toArray⟩] 78).c
           have o2 := HFc.out.o.at 2 _ rfl
           go_wp2_with (first | (refine wpList_load_mid rfl _ _ rfl _ _ rfl _ _ HCc.out.c Tryz.underlying78 rfl (by kernel_rfl) ?_) | (refine wpList_app1g tyiC encC _ rfl _ _ rfl (bo + 1) _ Q1 rfl HRd.out (by have := HFd.out.o.l; omega) x _ 1 rfl (Nat.le_refl _) HUd.out (by have := HL1.out; omega) ?_; intro v2 w2 ho2 hg2 hb2; have HFe := Hd (HFd.out.low hb2); rw [← HQ2.out] at ho2; obtain ⟨av2, cv2, rfl⟩ := ho2.form; have HFf := Hd (HFe.out.set 2 (by simp) (.slice av2 Q2.length cv2)); simp only [List.set] at HFf; have HRf := Hd (ho2.keepG (W' := w2.setCell ⟨bo, 2, none⟩ (.slice av2 Q2.length cv2)) (fun g hg => Below.heap_setCell _ _ _ _ (show ¬ g = bo by omega))); clear ho2 hg2 hb2; clear o2; have o2 := HFe.out.o.at 2 _ rfl; have f2 := HFe.out.o.f 2 (by simp)))
           go_roundw
           case rel => exact ⟨k + 1, (Q2, true), av2, cv2, by omega, by go_num, rfl, HSF, HFf.out, HRf.out⟩
           case measure => simp [ivQ]; omega
        | false =>
         go_upto_region 17 with fail
         have r3 := HF1.out.f.r.at 3 _ rfl
         have r11 := HF1.out.f.r.at 11 _ rfl
         have c0 := HC1.out.at 0 _ rfl
         have c1 := HC1.out.at 1 _ rfl
         go_cut [107] (fun y W => y = .bool (!e) ∧ Fo w W m p (cR r a14 a15 a16 a17 c14 c15 c16 c17) bo [Value.slice p.ab m.br.length p.cb, .slice p.aq p.ts.length p.cq, .slice av Q.length cv, .slice p.ad m.dn.length p.cd, .int .i64 m.la] ∧ Ro cfc 3 78 W (bo + 1) (.slice av Q.length cv) Q ∧ Bx W n [Value.int .i64 x.tp, .string ⟨x.ky.toArray⟩, .string ⟨x.va.toArray⟩])
         case first =>
          by_cases h : x.tp = r.tp
          ·have n1 : (x.tp != r.tp) = false := by simp [h]
           cases e with
           | true =>
            have n3 : (x.ky == r.ky) = true := by have := HE.out; unfold idC at this; simp [h] at this; simp [this]
            clear h
            go_wp2_with fail
            go_meet
            exact ⟨rfl, HF1.out, HR1.out, HC1.out⟩
           | false =>
            have n3 : (x.ky == r.ky) = false := by have := HE.out; unfold idC at this; simp [h] at this; simpa using this
            clear h
            go_wp2_with fail
            go_meet
            exact ⟨rfl, HF1.out, HR1.out, HC1.out⟩
          ·have n1 : (x.tp != r.tp) = true := by simpa using h
           have hee : e = false := by rw [HE.out]; unfold idC; simp [h]
           clear h HE
           subst hee
           go_wp2_with fail
           go_meet
           exact ⟨rfl, HF1.out, HR1.out, HC1.out⟩
         case rest =>
          obtain ⟨rfl, hf0, hr0, hc0⟩ := hcut
          have HFc := Hd hf0
          have HRc := Hd hr0
          have HCc := Hd hc0
          clear hf0 hr0 hc0 r3 r11 c0 c1 HE HY HZ
          cases e with
          | true =>
           have HSF : Hid ((Q, sb) = (m.cf.take (k + 1)).foldl (stepO (fun x : Cf => cmpC x r.tp r.ky) (⟨r.tp, r.ky, r.va⟩ : Cf)) ([], r.fl)) := Hd (by rw [HST3.out]; simp)
           go_wp2_with fail
           go_roundw
           case rel => exact ⟨k + 1, (Q, sb), av, cv, by omega, by go_num, rfl, HSF, HFc.out, HRc.out⟩
           case measure => simp [ivQ]; omega
          | false =>
           obtain ⟨Q2, hQ2⟩ : ∃ Q2, Q2 = Q ++ [x] := ⟨_, rfl⟩
           have HQ2 := Hd hQ2
           clear hQ2
           have HSF : Hid ((Q2, sb) = (m.cf.take (k + 1)).foldl (stepO (fun x : Cf => cmpC x r.tp r.ky) (⟨r.tp, r.ky, r.va⟩ : Cf)) ([], r.fl)) := Hd (by rw [HST3.out, HQ2.out]; simp)
           have HFd := Hd (HFc.out.below (bA wc (.cells (List.toArray [Value.int .i64 x.tp, .string ⟨x.ky.toArray⟩, .string ⟨x.va.toArray⟩]) 78)))
           have HRd := Hd (HRc.out.below (bA wc (.cells (List.toArray [Value.int .i64 x.tp, .string ⟨x.ky.toArray⟩, .string ⟨x.va.toArray⟩]) 78)))
           have HUd := Hd (Bx.new wc [Value.int .i64 x.tp, .string ⟨x.ky.toArray⟩, .string ⟨x.va.toArray⟩] 78).c
           have o2 := HFc.out.o.at 2 _ rfl
           go_wp2_with (first | (refine wpList_load_mid rfl _ _ rfl _ _ rfl _ _ HCc.out.c Tryz.underlying78 rfl (by kernel_rfl) ?_) | (refine wpList_app1g tyiC encC _ rfl _ _ rfl (bo + 1) _ Q rfl HRd.out (by have := HFd.out.o.l; omega) x _ 1 rfl (Nat.le_refl _) HUd.out (by have := HLN.out; omega) ?_; intro v2 w2 ho2 hg2 hb2; have HFe := Hd (HFd.out.low hb2); rw [← HQ2.out] at ho2; obtain ⟨av2, cv2, rfl⟩ := ho2.form; have HFf := Hd (HFe.out.set 2 (by simp) (.slice av2 Q2.length cv2)); simp only [List.set] at HFf; have HRf := Hd (ho2.keepG (W' := w2.setCell ⟨bo, 2, none⟩ (.slice av2 Q2.length cv2)) (fun g hg => Below.heap_setCell _ _ _ _ (show ¬ g = bo by omega))); clear ho2 hg2 hb2; clear o2; have o2 := HFe.out.o.at 2 _ rfl; have f2 := HFe.out.o.f 2 (by simp)))
           go_roundw
           case rel => exact ⟨k + 1, (Q2, sb), av2, cv2, by omega, by go_num, rfl, HSF, HFf.out, HRf.out⟩
           case measure => simp [ivQ]; omega
      ·obtain rfl : k = m.cf.length := by omega
       obtain ⟨Q, sb⟩ := s
       dsimp only at *
       have HLL : Hid (L2 = if sb = true then Q else Q ++ [(⟨r.tp, r.ky, r.va⟩ : Cf)]) := Hd (by
        have hs := HS.out
        rw [List.take_length] at hs
        have h := HCL2.out
        rw [← hs] at h
        exact h.symm)
       clear HS HCL2
       cases sb with
       | true =>
        have hq : L2 = Q := HLL.out
        subst hq
        go_wp2_with (first | (refine wpList_load_mid rfl _ _ rfl _ _ rfl _ _ Ho.out.o.c Tryz.underlying30 rfl (by kernel_rfl) ?_) | (refine wS rfl _ _ _ rfl _ _ rfl Ho.out.f.z (iml { m with cf := L2 } { p with ac := av, cc := cv }) rfl rfl (by kernel_rfl) rfl ?_; intro W3 hz hk hb hp; have HZ := Hd hz; have Hb := Hd (hb _ _ (show w.heap.size ≤ w.heap.size + 1 + 1 by omega) Ho.out.f.b); have HRS := Hd (fun W (hW : Agr n0 w.heap.size W3 W) => (HRO.out.keepG (fun g hg => (hW g (.inr (by have := Ho.out.ge; omega))).trans (hp g (by have := Ho.out.ge; omega)))).rs); clear hz hk hb hp))
        obtain ⟨q0, q1, q2, q3, q4⟩ := HZ.out.im
        exact bodyPost_ret (v := .tuple #[.agg (iml { m with cf := L2 } { p with ac := av, cc := cv }).toArray, .int .i64 0]) (by simp [results, Tryz.results70, go_sem, q0, q1, q2, q3, q4, iml]) rfl ⟨{ p with ac := av, cc := cv }, rfl, (fun W hW => ⟨(Hv.out W _ Hb.out hW).b, (Hv.out W _ Hb.out hW).t, (Hv.out W _ Hb.out hW).q, (Hv.out W _ Hb.out hW).e, HRS.out W hW, (Hv.out W _ Hb.out hW).d⟩), Hb.out⟩
       | false =>
        have HQ1 : Hid (L2 = Q ++ [(⟨r.tp, r.ky, r.va⟩ : Cf)]) := Hd HLL.out
        clear HLL i2
        have HF2 := Hd (Ho.out.below (bA wr (.cells (List.toArray [Value.int .i64 r.tp, .string ⟨r.ky.toArray⟩, .string ⟨r.va.toArray⟩]) 78)))
        have HR2 := Hd (HRO.out.below (bA wr (.cells (List.toArray [Value.int .i64 r.tp, .string ⟨r.ky.toArray⟩, .string ⟨r.va.toArray⟩]) 78)))
        have HU2 := Hd (Bx.new wr [Value.int .i64 r.tp, .string ⟨r.ky.toArray⟩, .string ⟨r.va.toArray⟩] 78).c
        have i2 := Ho.out.f.i.at 2 _ rfl
        have o2 := Ho.out.o.at 2 _ rfl
        have r3 := Ho.out.f.r.at 3 _ rfl
        have r11 := Ho.out.f.r.at 11 _ rfl
        have r12 := Ho.out.f.r.at 12 _ rfl
        go_upto_region 21 with (first | (refine wpList_app1g tyiC encC _ rfl _ _ rfl (bo + 1) _ Q rfl HR2.out (by have := HF2.out.o.l; omega) (⟨r.tp, r.ky, r.va⟩ : Cf) _ 1 rfl (Nat.le_refl _) HU2.out (by have := HLN.out; omega) ?_; intro v1 w1 ho1 hg1 hb1; have HF3 := Hd (HF2.out.low hb1); rw [← HQ1.out] at ho1; obtain ⟨av1, cv1, rfl⟩ := ho1.form; have HF4 := Hd (HF3.out.set 2 (by simp) (.slice av1 L2.length cv1)); simp only [List.set] at HF4; have HR4 := Hd (ho1.keepG (W' := w1.setCell ⟨bo, 2, none⟩ (.slice av1 L2.length cv1)) (fun g hg => Below.heap_setCell _ _ _ _ (show ¬ g = bo by omega))); clear ho1 hg1 hb1; clear o2 i2 r3 r11 r12; have o2 := HF3.out.o.at 2 _ rfl; have f2 := HF3.out.o.f 2 (by simp)))
        clear o2 f2 Ho HF2 HF3 HRO HR2 HU2
        generalize w1.setCell ⟨bo, 2, none⟩ (.slice av1 L2.length cv1) = Z1 at HF4 HR4 ⊢
        go_wp2_with (first | (refine wpList_load_mid rfl _ _ rfl _ _ rfl _ _ HF4.out.o.c Tryz.underlying30 rfl (by kernel_rfl) ?_) | (refine wS rfl _ _ _ rfl _ _ rfl HF4.out.f.z (iml { m with cf := L2 } { p with ac := av1, cc := cv1 }) rfl rfl (by kernel_rfl) rfl ?_; intro W3 hz hk hb hp; have HZ := Hd hz; have Hb := Hd (hb _ _ (show w.heap.size ≤ w.heap.size + 1 + 1 by omega) HF4.out.f.b); have HRS := Hd (fun W (hW : Agr n0 w.heap.size W3 W) => (HR4.out.keepG (fun g hg => (hW g (.inr (by have := HF4.out.ge; omega))).trans (hp g (by have := HF4.out.ge; omega)))).rs); clear hz hk hb hp))
        obtain ⟨q0, q1, q2, q3, q4⟩ := HZ.out.im
        exact bodyPost_ret (v := .tuple #[.agg (iml { m with cf := L2 } { p with ac := av1, cc := cv1 }).toArray, .int .i64 0]) (by simp [results, Tryz.results70, go_sem, q0, q1, q2, q3, q4, iml]) rfl ⟨{ p with ac := av1, cc := cv1 }, rfl, (fun W hW => ⟨(Hv.out W _ Hb.out hW).b, (Hv.out W _ Hb.out hW).t, (Hv.out W _ Hb.out hW).q, (Hv.out W _ Hb.out hW).e, HRS.out W hW, (Hv.out W _ Hb.out hW).d⟩), Hb.out⟩
end Go.Proofs.YtlggjgapdpkhiaaGreat
