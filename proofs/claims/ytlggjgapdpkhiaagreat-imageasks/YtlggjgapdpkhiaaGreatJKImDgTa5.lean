/-
  MANY ROWS AS ONE (slices.Grow, slices.Concat).
  ONE THAT IS PUT AT A PLACE (image.put), ahead of what is there, or in its stead.
  A TOPIC IS MADE (image.create). Conditions: an image in order, its lists no longer than a hundred thousand.
  ONE THAT IS TAKEN OUT OF A ROW (slices.Concat of two, image.without).
  MANY ROWS AS ONE (slices.Grow, slices.Concat).
-/
import Derived.Test.YtlggjgapdpkhiaaGreatJKImCba5
import Derived.Test.YtlggjgapdpkhiaaGreatJKImCda5
namespace Go.Proofs.YtlggjgapdpkhiaaGreat
open Go.RowKit
set_option maxRecDepth 100000
set_option maxHeartbeats 8000000
theorem growT_any (n : Nat) (w : World) (hn : n ≤ 1000000) : Calls Tryz.prog 155 #[.slice none 0 0, .int .i64 (n : Int)] w fun e w' => ∃ v, e = .returned v ∧ Ro tpc 3 38 w' w.heap.size v [] ∧ Below w.heap.size w w' := by
 have h2 : wrap64 ((0 : Int) - 0) = 0 := by unfold wrap64; omega
 have h1 : ¬ ((n : Int) < 0) := by omega
 rcases Nat.eq_zero_or_pos n with h0 | h0
 ·subst h0
  clear hn h1
  go_enter Tryz.func155, Tryz.ntmps155
  go_wp2_with fail
  go_ret
  exact ⟨_, rfl, ro_nil _ _ _ _ _, Below.refl _ _⟩
 ·have h3 : wrap64 ((n : Int) - 0) = (n : Int) := by unfold wrap64; omega
  have h4 : (n : Int) > 0 := by omega
  have hz := fun ty => grow_zeros (I := 3) tyiT (by decide) Tryz.underlying3 w n h0 hn ty
  obtain ⟨G, c, hG, hnG, hm, hc⟩ := hz 26
  have HU := Hd (fun W => upto_run tyiT (some ⟨w.heap.size, 0, none⟩) n G 0 (Nat.zero_le _) hnG W)
  have HG := Hd hG
  have HR := Hd (ro_room tpc 3 38 w G c hm hc)
  clear hz hG hm hc
  go_enter Tryz.func155, Tryz.ntmps155
  go_wp2_with (at_builtin; refine Lib.wpList_append_run _ rfl _ _ _ _ rfl _ _ rfl rfl _ _ HG.out ?_)
  all_goals
   go_ret
   exact ⟨_, rfl, HR.out, below_dal _ _⟩
theorem concT_3 (v1 v2 v3 : Value) (l1 l2 l3 : List Tq) (B : Nat) (w : World) (hB : Bx w B [v1, v2, v3]) (h1 : Rs tpc w v1 l1) (h2 : Rs tpc w v2 l2) (h3 : Rs tpc w v3 l3) (hl1 : l1.length ≤ 200000) (hl2 : l2.length ≤ 200000) (hl3 : l3.length ≤ 200000) :
  Calls Tryz.prog 141 #[.slice (some ⟨B, 0, none⟩) 3 3] w fun e w' => ∃ v, e = .returned v ∧ Ro tpc 3 38 w' w.heap.size v (l1 ++ l2 ++ l3) ∧ Below w.heap.size w w' := by
 have HG := Hd (fun n hn => growT_any n w hn)
 obtain ⟨a1, c1, rfl⟩ := h1.form
 obtain ⟨a2, c2, rfl⟩ := h2.form
 obtain ⟨a3, c3, rfl⟩ := h3.form
 have HB := Hd (fun W (h : Below w.heap.size w W) => (hB.below h).c3)
 have H1 := Hd (fun W (h : Below w.heap.size w W) => h1.below h)
 have H2 := Hd (fun W (h : Below w.heap.size w W) => h2.below h)
 have H3 := Hd (fun W (h : Below w.heap.size w W) => h3.below h)
 obtain ⟨b0, b1, b2⟩ := hB.c3
 have hbl := hB.l
 clear h1 h2 h3 hB
 go_enter Tryz.func141, Tryz.ntmps141
 go_wp2_with fail
 refine wp_loop_rounds 4 ?_
 rw [rounds_succ]
 go_wp2_with fail
 rw [rounds_succ]
 go_wp2_with fail
 rw [rounds_succ]
 go_wp2_with fail
 rw [rounds_succ]
 have HN : Hid (((l1.length : Int) + l2.length + l3.length) = ((l1.length + l2.length + l3.length : Nat) : Int)) := Hd (by omega)
 have HK : Hid (l1.length + l2.length + l3.length ≤ 1000000) := Hd (by omega)
 go_wp2_with (go_at_call 155; first | rw [HN.out] | skip; refine (HG.out _ HK.out).mono ?_; rintro e w1 ⟨v, rfl, hr, hb⟩; obtain ⟨d0, d1, d2⟩ := HB.out _ hb; have HR := Hd hr; have HBl := Hd hb; clear hr hb HG b0 b1 b2)
 refine wp_loop_rounds 4 ?_
 rw [rounds_succ]
 go_wp2_with (at_builtin; refine wR tyiT encT _ rfl _ _ rfl w.heap.size _ [] rfl HR.out HBl.out.size _ l1 rfl (H1.out _ HBl.out) (by rw [List.length_nil]; omega) ?_; intro v1 w2 hr _ hb; rw [List.nil_append] at hr; obtain ⟨d0, d1, d2⟩ := HB.out _ (HBl.out.trans hb); replace HR := Hd hr; replace HBl := Hd (HBl.out.trans hb); clear hr hb)
 rw [rounds_succ]
 go_wp2_with (at_builtin; refine wR tyiT encT _ rfl _ _ rfl w.heap.size _ l1 rfl HR.out HBl.out.size _ l2 rfl (H2.out _ HBl.out) (by omega) ?_; intro v2 w3 hr _ hb; obtain ⟨d0, d1, d2⟩ := HB.out _ (HBl.out.trans hb); replace HR := Hd hr; replace HBl := Hd (HBl.out.trans hb); clear hr hb)
 rw [rounds_succ]
 go_wp2_with (at_builtin; refine wR tyiT encT _ rfl _ _ rfl w.heap.size _ (l1 ++ l2) rfl HR.out HBl.out.size _ l3 rfl (H3.out _ HBl.out) (by rw [List.length_append]; omega) ?_; intro v3 w4 hr _ hb; obtain ⟨d0, d1, d2⟩ := HB.out _ (HBl.out.trans hb); replace HR := Hd hr; replace HBl := Hd (HBl.out.trans hb); clear hr hb)
 rw [rounds_succ]
 go_wp2_with fail
 go_ret
 exact ⟨_, rfl, HR.out, HBl.out⟩
end Go.Proofs.YtlggjgapdpkhiaaGreat
namespace Go.Proofs.YtlggjgapdpkhiaaGreat
open Go.RowKit
set_option maxRecDepth 100000
set_option maxHeartbeats 8000000
theorem putT_new (l : List Tq) (ao : Option Addr) (n cap i : Nat) (x : Tq) (w : World) (hn : n = l.length) (hv : Rs tpc w (.slice ao n cap) l) (hi : i ≤ l.length) (hl : l.length ≤ 100000) :
  Calls Tryz.prog 122 #[.slice ao n cap, .int .i64 (i : Int), .bool false, .agg (tpc x).toArray] w fun e w' => ∃ v, e = .returned v ∧ Ro tpc 3 38 w' w.heap.size v (l.take i ++ x :: l.drop i) ∧ Below w.heap.size w w' := by
 subst hn
 obtain ⟨ao', hr, hd⟩ := hv.from tyiT encT i hi
 have hu := fun W => upto_run tyiT ao l.length cap i hi hv.cap.2 W
 have HP := Hd (fun o1 T U => put_frame (f := tpc) w o1 x T U (.slice ao i cap) (.slice ao' (l.length - i) (cap - i)))
 have HC := Hd (fun W (hb : Below w.heap.size w W) (hB : Bx W (w.heap.size + 1 + 1) [.slice ao i cap, .slice (some ⟨w.heap.size + 1, 0, none⟩) 1 1, .slice ao' (l.length - i) (cap - i)]) (hx : Rs tpc W (.slice (some ⟨w.heap.size + 1, 0, none⟩) 1 1) [x]) => concT_3 _ _ _ (l.take i) [x] (l.drop i) _ W hB ((hv.below hb).upto encT i hi) hx (hd W hb) (by rw [List.length_take]; omega) (by simp) (by rw [List.length_drop]; omega))
 have HE : Hid (l.take i ++ [x] ++ l.drop i = l.take i ++ x :: l.drop i) := Hd (by simp)
 clear hv hd
 unfold tpc at *
 go_enter Tryz.func122, Tryz.ntmps122
 go_upto_region 4 with fail
 go_region_with (go_at_call 141; obtain ⟨p1, p2, p3⟩ := HP.out _ _ _; refine (HC.out _ p3 p1 p2).mono ?_; rintro e w1 ⟨v, rfl, hr, hb⟩; rw [HE.out] at hr; have HR := Hd (hr.mono p3.size); have HB := Hd (bt p3 hb); clear hr hb p1 p2 p3)
 all_goals
  go_wp2_with fail
  go_ret
  exact ⟨_, rfl, HR.out, HB.out⟩
theorem putT_old (l : List Tq) (ao : Option Addr) (n cap i : Nat) (x : Tq) (w : World) (hn : n = l.length) (hv : Rs tpc w (.slice ao n cap) l) (hi : i < l.length) (hl : l.length ≤ 100000) :
  Calls Tryz.prog 122 #[.slice ao n cap, .int .i64 (i : Int), .bool true, .agg (tpc x).toArray] w fun e w' => ∃ v, e = .returned v ∧ Ro tpc 3 38 w' w.heap.size v (l.take i ++ x :: l.drop (i + 1)) ∧ Below w.heap.size w w' := by
 subst hn
 obtain ⟨ao', hr, hd⟩ := hv.from tyiT encT i (Nat.le_of_lt hi)
 have hdl : (l.drop i).length = l.length - i := List.length_drop
 obtain ⟨ao2, hr2, hd2⟩ := (show Rs tpc w (.slice ao' (l.drop i).length (cap - i)) (l.drop i) from hdl ▸ hd w (Below.refl _ _)).from tyiT encT 1 (by omega)
 rw [hdl] at hr2 hd2
 have hdd : (l.drop i).drop 1 = l.drop (i + 1) := by rw [List.drop_drop]
 rw [hdd] at hd2
 have hu := fun W => upto_run tyiT ao l.length cap i (Nat.le_of_lt hi) hv.cap.2 W
 replace hr2 : ∀ W, (Instr.slice 26 (.slice ao' (l.length - i) (cap - i)) (some (.int .i64 1)) none none).run Tryz.prog W = .ok (.slice ao2 (l.length - i - 1) (cap - i - 1)) W := hr2
 have HP := Hd (fun o1 T U => put_frame (f := tpc) w o1 x T U (.slice ao i cap) (.slice ao2 (l.length - i - 1) (cap - i - 1)))
 have HC := Hd (fun W (hb : Below w.heap.size w W) (hB : Bx W (w.heap.size + 1 + 1) [.slice ao i cap, .slice (some ⟨w.heap.size + 1, 0, none⟩) 1 1, .slice ao2 (l.length - i - 1) (cap - i - 1)]) (hx : Rs tpc W (.slice (some ⟨w.heap.size + 1, 0, none⟩) 1 1) [x]) => concT_3 _ _ _ (l.take i) [x] (l.drop (i + 1)) _ W hB ((hv.below hb).upto encT i (Nat.le_of_lt hi)) hx (hd2 W hb) (by rw [List.length_take]; omega) (by simp) (by rw [List.length_drop]; omega))
 have HE : Hid (l.take i ++ [x] ++ l.drop (i + 1) = l.take i ++ x :: l.drop (i + 1)) := Hd (by simp)
 clear hv hd hd2 hdl hdd
 unfold tpc at *
 go_enter Tryz.func122, Tryz.ntmps122
 go_upto_region 4 with fail
 go_region_with (go_at_call 141; obtain ⟨p1, p2, p3⟩ := HP.out _ _ _; refine (HC.out _ p3 p1 p2).mono ?_; rintro e w1 ⟨v, rfl, hr, hb⟩; rw [HE.out] at hr; have HR := Hd (hr.mono p3.size); have HB := Hd (bt p3 hb); clear hr hb p1 p2 p3)
 all_goals
  go_wp2_with fail
  go_ret
  exact ⟨_, rfl, HR.out, HB.out⟩
end Go.Proofs.YtlggjgapdpkhiaaGreat
namespace Go.Proofs.YtlggjgapdpkhiaaGreat
open Go.RowKit
set_option maxRecDepth 100000 in
set_option maxHeartbeats 16000000 in
theorem create_any {ok : Nat → Prop} (m : Im) (p : Ip) (r : Rc) (v : Value) (w : World) (n0 : Nat → Prop) (hn0 : ∀ g, n0 g → g < w.heap.size) (hv : ∀ W, (∀ g, n0 g → W.heap[g]? = w.heap[g]?) → ImR W m p) (hw : Wf m 100000) (hr : IsR ok w v r) : Calls Tryz.prog 95 #[imv m p, v] w fun e w' => StP n0 w w' (crtT m r).1 (crtT m r).2 e := by
 obtain ⟨a14, a15, a16, a17, c14, c15, c16, c17, rfl, hrw⟩ := hr
 have Hv := Hd (fun (W W3 : World) (hb : Below w.heap.size w W3) (hW : Agr n0 w.heap.size W3 W) => hv W (fun g hg => (hW g (.inl hg)).trans (hb.block g (hn0 g hg))))
 clear hn0
 replace hv : ImR w m p := hv w (fun _ _ => rfl)
 have HV := Hd (fun W (h : Below w.heap.size w W) => hv.below h)
 have hwl : wrap64 (m.la + 1) = m.la + 1 := by have := hw.la; unfold wrap64; omega
 have hla := hw.la
 have HLN : Hid (p.ts.length = m.ts.length) := Hd hv.len
 by_cases h1 : r.tp = m.la + 1
 ·have hn1 : (r.tp != m.la + 1) = false := by simpa using h1
  have HFN := Hd (hv.fN r.nm)
  cases hf : p.ts.find? (nmQ r.nm) with
  | some t =>
   have HNA := Hd (fun W (h : Below w.heap.size w W) => Named_yes m p r.nm W (hv.below h) hw t hf)
   have Hr : Hid (crtT m r = (m, 9)) := Hd (by unfold crtT; rw [if_pos h1, HFN.out, hf]; rfl)
   rw [Hr.out]
   have HH1 := Hd h1
   clear h1
   have HFR0 := fF w m p r a14 a15 a16 a17 c14 c15 c16 c17
   clear hv hw hrw hf
   unfold imv
   unfold cR
   go_enter Tryz.func95, Tryz.ntmps95
   go_upto_region 1 with fail
   rw [fE]
   generalize frW w m p r a14 a15 a16 a17 c14 c15 c16 c17 = X at HFR0 ⊢
   have Hf := Hd HFR0
   clear HFR0
   obtain ⟨i0, i1, i2, i3, i4⟩ := Hf.out.i.im; have r3 := Hf.out.r.at 3 _ rfl; have r10 := Hf.out.r.at 10 _ rfl
   unfold imv tpc at HNA
   go_upto_region 4 with (go_at_call 11; refine (HNA.out _ Hf.out.b).mono ?_; rintro e wx ⟨rfl, hbx⟩;  replace Hf := Hd (Hf.out.below hbx); clear i0 i1 i2 i3 i4 r3 r10; clear hbx HNA; obtain ⟨i0, i1, i2, i3, i4⟩ := Hf.out.i.im; have r3 := Hf.out.r.at 3 _ rfl; have r10 := Hf.out.r.at 10 _ rfl)
   clear i0 i1 i2 i3 i4 r3 r10
   replace Hf := Hd (Hf.out.below (bA _ (.cells (List.toArray [Value.int .i64 t.id, .string ⟨t.nm.toArray⟩, .slice t.a t.ps.length t.c]) 38)))
   generalize wx.alloc (.cells (List.toArray [Value.int .i64 t.id, .string ⟨t.nm.toArray⟩, .slice t.a t.ps.length t.c]) 38) = X2 at Hf ⊢
   obtain ⟨i0, i1, i2, i3, i4⟩ := Hf.out.i.im; have r3 := Hf.out.r.at 3 _ rfl; have r10 := Hf.out.r.at 10 _ rfl
   go_wp2_with (first | (refine wS rfl _ _ _ rfl _ _ rfl Hf.out.z (iml m p) rfl rfl (by kernel_rfl) rfl ?_; intro W3 hz hk hb hp; have Ho := Hd (Hf.out.out hz hk hb); clear hz hk hb hp))
   obtain ⟨q0, q1, q2, q3, q4⟩ := Ho.out.z.im
   exact bodyPost_ret (v := .tuple #[.agg (iml m p).toArray, .iface 67 (.int .i64 9)]) (by simp [results, Tryz.results95, go_sem, q0, q1, q2, q3, q4, iml]) rfl (st_ret Ho.out (fun W hW => Hv.out W _ Ho.out.b hW) (erc_code (by decide)))
  | none =>
   have HNA := Hd (fun W (h : Below w.heap.size w W) => Named_no m p r.nm W (hv.below h) hw hf)
   by_cases h2 : 256 ≤ m.ts.length
   ·have Hr : Hid (crtT m r = (m, 6)) := Hd (by unfold crtT; rw [if_pos h1, HFN.out, hf, if_neg (by simp), if_pos h2])
    rw [Hr.out]
    have hn2 : (256 : Int) ≤ (p.ts.length : Int) := by rw [HLN.out]; omega
    clear h1
    have HFR0 := fF w m p r a14 a15 a16 a17 c14 c15 c16 c17
    clear hv hw hrw hf
    unfold imv
    unfold cR
    go_enter Tryz.func95, Tryz.ntmps95
    go_upto_region 1 with fail
    rw [fE]
    generalize frW w m p r a14 a15 a16 a17 c14 c15 c16 c17 = X at HFR0 ⊢
    have Hf := Hd HFR0
    clear HFR0
    obtain ⟨i0, i1, i2, i3, i4⟩ := Hf.out.i.im; have r3 := Hf.out.r.at 3 _ rfl; have r10 := Hf.out.r.at 10 _ rfl
    unfold imv at HNA
    go_upto_region 4 with (go_at_call 11; refine (HNA.out _ Hf.out.b).mono ?_; rintro e wx ⟨rfl, hbx⟩;  replace Hf := Hd (Hf.out.below hbx); clear i0 i1 i2 i3 i4 r3 r10; clear hbx HNA; obtain ⟨i0, i1, i2, i3, i4⟩ := Hf.out.i.im; have r3 := Hf.out.r.at 3 _ rfl; have r10 := Hf.out.r.at 10 _ rfl)
    clear i0 i1 i2 i3 i4 r3 r10
    replace Hf := Hd (Hf.out.below (bA _ (.cells (List.toArray [Value.int .i64 0, .string ⟨#[]⟩, .slice none 0 0]) 38)))
    generalize wx.alloc (.cells (List.toArray [Value.int .i64 0, .string ⟨#[]⟩, .slice none 0 0]) 38) = X2 at Hf ⊢
    obtain ⟨i0, i1, i2, i3, i4⟩ := Hf.out.i.im; have r3 := Hf.out.r.at 3 _ rfl; have r10 := Hf.out.r.at 10 _ rfl
    go_wp2_with (first | (refine wS rfl _ _ _ rfl _ _ rfl Hf.out.z (iml m p) rfl rfl (by kernel_rfl) rfl ?_; intro W3 hz hk hb hp; have Ho := Hd (Hf.out.out hz hk hb); clear hz hk hb hp))
    obtain ⟨q0, q1, q2, q3, q4⟩ := Ho.out.z.im
    exact bodyPost_ret (v := .tuple #[.agg (iml m p).toArray, .iface 67 (.int .i64 6)]) (by simp [results, Tryz.results95, go_sem, q0, q1, q2, q3, q4, iml]) rfl (st_ret Ho.out (fun W hW => Hv.out W _ Ho.out.b hW) (erc_code (by decide)))
   ·have Hr : Hid (crtT m r = ({ m with ts := m.ts ++ [⟨r.tp, r.nm, []⟩], la := r.tp }, 0)) := Hd (by unfold crtT; rw [if_pos h1, HFN.out, hf, if_neg (by simp), if_neg h2])
    rw [Hr.out]
    have hn2 : ¬ (256 : Int) ≤ (p.ts.length : Int) := by rw [HLN.out]; omega
    have HPU := Hd (fun W (h : Below w.heap.size w W) => putT_new p.ts p.aq _ p.cq p.ts.length (⟨r.tp, r.nm, [], none, 0⟩ : Tq) W rfl (hv.below h).t (Nat.le_refl _) (by rw [HLN.out]; exact hw.nt))
    obtain ⟨L, hL⟩ : ∃ L, L = p.ts ++ [(⟨r.tp, r.nm, [], none, 0⟩ : Tq)] := ⟨_, rfl⟩
    have HLL := Hd hL
    have HTL : Hid (p.ts.take p.ts.length ++ (⟨r.tp, r.nm, [], none, 0⟩ : Tq) :: p.ts.drop p.ts.length = L) := Hd (by rw [List.take_length, List.drop_length, hL])
    clear h1 hL
    have HFR0 := fF w m p r a14 a15 a16 a17 c14 c15 c16 c17
    clear hv hw hrw hf
    unfold imv
    unfold cR
    go_enter Tryz.func95, Tryz.ntmps95
    go_upto_region 1 with fail
    rw [fE]
    generalize frW w m p r a14 a15 a16 a17 c14 c15 c16 c17 = X at HFR0 ⊢
    have Hf := Hd HFR0
    clear HFR0
    obtain ⟨i0, i1, i2, i3, i4⟩ := Hf.out.i.im; have r3 := Hf.out.r.at 3 _ rfl; have r10 := Hf.out.r.at 10 _ rfl
    unfold imv at HNA
    go_upto_region 4 with (go_at_call 11; refine (HNA.out _ Hf.out.b).mono ?_; rintro e wx ⟨rfl, hbx⟩;  replace Hf := Hd (Hf.out.below hbx); clear i0 i1 i2 i3 i4 r3 r10; clear hbx HNA; obtain ⟨i0, i1, i2, i3, i4⟩ := Hf.out.i.im; have r3 := Hf.out.r.at 3 _ rfl; have r10 := Hf.out.r.at 10 _ rfl)
    clear i0 i1 i2 i3 i4 r3 r10
    replace Hf := Hd (Hf.out.below (bA _ (.cells (List.toArray [Value.int .i64 0, .string ⟨#[]⟩, .slice none 0 0]) 38)))
    generalize wx.alloc (.cells (List.toArray [Value.int .i64 0, .string ⟨#[]⟩, .slice none 0 0]) 38) = X2 at Hf ⊢
    obtain ⟨i0, i1, i2, i3, i4⟩ := Hf.out.i.im; have r3 := Hf.out.r.at 3 _ rfl; have r10 := Hf.out.r.at 10 _ rfl
    go_wp2_with (first | (go_at_call 122; refine (HPU.out _ Hf.out.b).mono ?_; rintro e w3 ⟨v, rfl, hro, hb3⟩; rw [HTL.out] at hro; obtain ⟨av, cv, rfl⟩ := hro.form; have HRO := Hd (hro.mono Hf.out.sz); replace Hf := Hd (Hf.out.below hb3); clear hro hb3 HPU; clear i0 i1 i2 i3 i4 r3 r10; obtain ⟨i0, i1, i2, i3, i4⟩ := Hf.out.i.im; have r3 := Hf.out.r.at 3 _ rfl; have r10 := Hf.out.r.at 10 _ rfl; have f1 := Hf.out.f 1 (by decide); have f4 := Hf.out.f 4 (by decide); have HFS := Hd ((Hf.out.set 1 (.slice av L.length cv) { m with ts := m.ts ++ [⟨r.tp, r.nm, []⟩] } { p with aq := av, cq := cv, ts := L } (by decide) rfl).set 4 (.int .i64 r.tp) { m with ts := m.ts ++ [⟨r.tp, r.nm, []⟩], la := r.tp } { p with aq := av, cq := cv, ts := L } (by decide) rfl)) | (refine wS rfl _ _ _ rfl _ _ rfl HFS.out.z (iml { m with ts := m.ts ++ [⟨r.tp, r.nm, []⟩], la := r.tp } { p with aq := av, cq := cv, ts := L }) rfl rfl (by kernel_rfl) rfl ?_; intro W3 hz hk hb hp; have Ho := Hd (HFS.out.out hz hk hb); have HRS := Hd (fun W (hW : Agr n0 w.heap.size W3 W) => (HRO.out.keepG (fun g hg => (hW g (.inr (by omega))).trans ((hp g (by omega)).trans ((Below.heap_setCell _ _ _ _ (show ¬ g = w.heap.size by omega)).trans (Below.heap_setCell _ _ _ _ (show ¬ g = w.heap.size by omega)))))).rs); clear hz hk hb hp))
    obtain ⟨q0, q1, q2, q3, q4⟩ := Ho.out.z.im
    exact bodyPost_ret (v := .tuple #[.agg (iml { m with ts := m.ts ++ [⟨r.tp, r.nm, []⟩], la := r.tp } { p with aq := av, cq := cv, ts := L }).toArray, .nilIface]) (by simp [results, Tryz.results95, go_sem, q0, q1, q2, q3, q4, iml]) rfl (st_ret Ho.out (fun W hW => ⟨(Hv.out W _ Ho.out.b hW).b, (HRS.out W hW), fun t ht => by
   rcases List.mem_append.1 (HLL.out ▸ ht) with h | h
   ·exact (Hv.out W _ Ho.out.b hW).q t h
   ·obtain rfl := List.mem_singleton.1 h
    exact ⟨rs_nil _ _ _ _, fun q hq => by cases hq⟩, by show L.map Tq.tp = _; rw [HLL.out, List.map_append, (Hv.out W _ Ho.out.b hW).e]; rfl, (Hv.out W _ Ho.out.b hW).c, (Hv.out W _ Ho.out.b hW).d⟩) erc_nil)
 ·have hn1 : (r.tp != m.la + 1) = true := by simpa using h1
  have Hr : Hid (crtT m r = (m, 10)) := Hd (if_neg h1)
  rw [Hr.out]
  have HFR0 := fF w m p r a14 a15 a16 a17 c14 c15 c16 c17
  clear hv hw hrw
  unfold imv
  unfold cR
  go_enter Tryz.func95, Tryz.ntmps95
  go_upto_region 1 with fail
  rw [fE]
  generalize frW w m p r a14 a15 a16 a17 c14 c15 c16 c17 = X at HFR0 ⊢
  have Hf := Hd HFR0
  clear HFR0
  obtain ⟨i0, i1, i2, i3, i4⟩ := Hf.out.i.im; have r3 := Hf.out.r.at 3 _ rfl; have r10 := Hf.out.r.at 10 _ rfl
  go_wp2_with (first | (refine wS rfl _ _ _ rfl _ _ rfl Hf.out.z (iml m p) rfl rfl (by kernel_rfl) rfl ?_; intro W3 hz hk hb hp; have Ho := Hd (Hf.out.out hz hk hb); clear hz hk hb hp))
  obtain ⟨q0, q1, q2, q3, q4⟩ := Ho.out.z.im
  exact bodyPost_ret (v := .tuple #[.agg (iml m p).toArray, .iface 67 (.int .i64 10)]) (by simp [results, Tryz.results95, go_sem, q0, q1, q2, q3, q4, iml]) rfl (st_ret Ho.out (fun W hW => Hv.out W _ Ho.out.b hW) (erc_code (by decide)))
end Go.Proofs.YtlggjgapdpkhiaaGreat
namespace Go.Proofs.YtlggjgapdpkhiaaGreat
open Go.RowKit
set_option maxRecDepth 100000
set_option maxHeartbeats 8000000
theorem concT_2 (v1 v2 : Value) (l1 l2 : List Tq) (B : Nat) (w : World) (hB : Bx w B [v1, v2]) (h1 : Rs tpc w v1 l1) (h2 : Rs tpc w v2 l2) (hl1 : l1.length ≤ 200000) (hl2 : l2.length ≤ 200000) :
  Calls Tryz.prog 141 #[.slice (some ⟨B, 0, none⟩) 2 2] w fun e w' => ∃ v, e = .returned v ∧ Ro tpc 3 38 w' w.heap.size v (l1 ++ l2) ∧ Below w.heap.size w w' := by
 have HG := Hd (fun n hn => growT_any n w hn)
 obtain ⟨a1, c1, rfl⟩ := h1.form
 obtain ⟨a2, c2, rfl⟩ := h2.form
 have HB := Hd (fun W (h : Below w.heap.size w W) => (hB.below h).c2)
 have H1 := Hd (fun W (h : Below w.heap.size w W) => h1.below h)
 have H2 := Hd (fun W (h : Below w.heap.size w W) => h2.below h)
 obtain ⟨b0, b1⟩ := hB.c2
 have hbl := hB.l
 clear h1 h2 hB
 go_enter Tryz.func141, Tryz.ntmps141
 go_wp2_with fail
 refine wp_loop_rounds 3 ?_
 rw [rounds_succ]
 go_wp2_with fail
 rw [rounds_succ]
 go_wp2_with fail
 rw [rounds_succ]
 have HN : Hid (((l1.length : Int) + l2.length) = ((l1.length + l2.length : Nat) : Int)) := Hd (by omega)
 have HK : Hid (l1.length + l2.length ≤ 1000000) := Hd (by omega)
 go_wp2_with (go_at_call 155; first | rw [HN.out] | skip; refine (HG.out _ HK.out).mono ?_; rintro e w1 ⟨v, rfl, hr, hb⟩; obtain ⟨d0, d1⟩ := HB.out _ hb; have HR := Hd hr; have HBl := Hd hb; clear hr hb HG b0 b1)
 refine wp_loop_rounds 3 ?_
 rw [rounds_succ]
 go_wp2_with (at_builtin; refine wR tyiT encT _ rfl _ _ rfl w.heap.size _ [] rfl HR.out HBl.out.size _ l1 rfl (H1.out _ HBl.out) (by rw [List.length_nil]; omega) ?_; intro v1 w2 hr _ hb; rw [List.nil_append] at hr; obtain ⟨d0, d1⟩ := HB.out _ (HBl.out.trans hb); replace HR := Hd hr; replace HBl := Hd (HBl.out.trans hb); clear hr hb)
 rw [rounds_succ]
 go_wp2_with (at_builtin; refine wR tyiT encT _ rfl _ _ rfl w.heap.size _ l1 rfl HR.out HBl.out.size _ l2 rfl (H2.out _ HBl.out) (by omega) ?_; intro v2 w3 hr _ hb; obtain ⟨d0, d1⟩ := HB.out _ (HBl.out.trans hb); replace HR := Hd hr; replace HBl := Hd (HBl.out.trans hb); clear hr hb)
 rw [rounds_succ]
 go_wp2_with fail
 go_ret
 exact ⟨_, rfl, HR.out, HBl.out⟩
theorem woT_any (l : List Tq) (ao : Option Addr) (n cap i : Nat) (w : World) (hn : n = l.length) (hv : Rs tpc w (.slice ao n cap) l) (hi : i < l.length) (hl : l.length ≤ 100000) :
  Calls Tryz.prog 128 #[.slice ao n cap, .int .i64 (i : Int)] w fun e w' => ∃ v, e = .returned v ∧ Ro tpc 3 38 w' w.heap.size v (l.take i ++ l.drop (i + 1)) ∧ Below w.heap.size w w' := by
 subst hn
 obtain ⟨bb, oo, rfl, hrg⟩ := hv.rg (by omega)
 have hu := fun W => upto_run tyiT (some ⟨bb, oo, none⟩) l.length cap i (Nat.le_of_lt hi) hv.cap.2 W
 have hcap := hv.cap.2
 have h0 : ¬ ((i : Int) + 1 < 0) := by omega
 have hwr : IntKind.i64.wrap ((i : Int) + 1) = (i : Int) + 1 := by rw [IntKind.wrap_i64]; omega
 have h00 : (0 : Int) ≤ (i : Int) + 1 := by omega
 have h1 : (i : Int) + 1 ≤ (l.length : Int) := by omega
 have hd : ∀ (ao' : Option Addr), (¬ cap = i + 1 → ao' = some ⟨bb, oo + (i + 1) * 3, none⟩) → ∀ W, Below w.heap.size w W → Rs tpc W (.slice ao' (l.length - (i + 1)) (cap - (i + 1))) (l.drop (i + 1)) := fun ao' hao W hb => by
  have := (hv.below hb).part encT (i + 1) l.length hi (Nat.le_refl _) ao' (fun q b o e => by cases e; rw [hao (by omega)])
  rwa [List.take_of_length_le (by rw [List.length_drop]; omega)] at this
 have HC : Hid (∀ (ao' : Option Addr), (¬ cap = i + 1 → ao' = some ⟨bb, oo + (i + 1) * 3, none⟩) → ∀ (n1 n2 : Nat), n1 = l.length - (i + 1) → n2 = cap - (i + 1) → ∀ U, Calls Tryz.prog 141 #[.slice (some ⟨w.heap.size, 0, none⟩) 2 2] (w.alloc (.cells #[.slice (some ⟨bb, oo, none⟩) i cap, .slice ao' n1 n2] U)).drew fun e w' => ∃ v, e = .returned v ∧ Ro tpc 3 38 w' w.heap.size v (l.take i ++ l.drop (i + 1)) ∧ Below w.heap.size w w') := Hd (fun ao' hao n1 n2 e1 e2 U => by
  subst e1 e2
  obtain ⟨p1, p3⟩ := wo_frame w U (.slice (some ⟨bb, oo, none⟩) i cap) (.slice ao' (l.length - (i + 1)) (cap - (i + 1)))
  refine (concT_2 _ _ (l.take i) (l.drop (i + 1)) _ _ p1 ((hv.below p3).upto encT i (Nat.le_of_lt hi)) (hd ao' hao _ p3) (by rw [List.length_take]; omega) (by rw [List.length_drop]; omega)).mono ?_
  rintro e w1 ⟨v, rfl, hr, hb⟩
  exact ⟨v, rfl, hr.mono p3.size, bt p3 hb⟩)
 have hcap := hv.cap.2
 clear hv hd hrg hu
 by_cases hce : cap = i + 1
 ·subst hce
  go_enter Tryz.func128, Tryz.ntmps128
  go_upto_region 1 with fail
  go_region_with (go_at_call 141; refine (HC.out _ (by simp) _ _ (by omega) (by omega) _).mono ?_; rintro e w1 ⟨v, rfl, hr, hb⟩; have HR := Hd hr; have HB := Hd hb; clear hr hb)
  all_goals
   go_wp2_with fail
   go_ret
   exact ⟨_, rfl, HR.out, HB.out⟩
 ·have hce2 : ¬ cap - (i + 1) = 0 := by omega
  have hce3 : ¬ cap ≤ i + 1 := by omega
  go_enter Tryz.func128, Tryz.ntmps128
  go_upto_region 1 with fail
  go_region_with (go_at_call 141; refine (HC.out _ (fun _ => rfl) _ _ (by omega) (by omega) _).mono ?_; rintro e w1 ⟨v, rfl, hr, hb⟩; have HR := Hd hr; have HB := Hd hb; clear hr hb)
  all_goals
   go_wp2_with fail
   go_ret
   exact ⟨_, rfl, HR.out, HB.out⟩
end Go.Proofs.YtlggjgapdpkhiaaGreat
namespace Go.Proofs.YtlggjgapdpkhiaaGreat
open Go.RowKit
set_option maxRecDepth 100000
set_option maxHeartbeats 8000000
theorem growB_any (n : Nat) (w : World) (hn : n ≤ 1000000) : Calls Tryz.prog 153 #[.slice none 0 0, .int .i64 (n : Int)] w fun e w' => ∃ v, e = .returned v ∧ Ro bkc 5 33 w' w.heap.size v [] ∧ Below w.heap.size w w' := by
 have h2 : wrap64 ((0 : Int) - 0) = 0 := by unfold wrap64; omega
 have h1 : ¬ ((n : Int) < 0) := by omega
 rcases Nat.eq_zero_or_pos n with h0 | h0
 ·subst h0
  clear hn h1
  go_enter Tryz.func153, Tryz.ntmps153
  go_wp2_with fail
  go_ret
  exact ⟨_, rfl, ro_nil _ _ _ _ _, Below.refl _ _⟩
 ·have h3 : wrap64 ((n : Int) - 0) = (n : Int) := by unfold wrap64; omega
  have h4 : (n : Int) > 0 := by omega
  have hz := fun ty => grow_zeros (I := 3) tyiB (by decide) Tryz.underlying3 w n h0 hn ty
  obtain ⟨G, c, hG, hnG, hm, hc⟩ := hz 25
  have HU := Hd (fun W => upto_run tyiB (some ⟨w.heap.size, 0, none⟩) n G 0 (Nat.zero_le _) hnG W)
  have HG := Hd hG
  have HR := Hd (ro_room bkc 5 33 w G c hm hc)
  clear hz hG hm hc
  go_enter Tryz.func153, Tryz.ntmps153
  go_wp2_with (at_builtin; refine Lib.wpList_append_run _ rfl _ _ _ _ rfl _ _ rfl rfl _ _ HG.out ?_)
  all_goals
   go_ret
   exact ⟨_, rfl, HR.out, below_dal _ _⟩
theorem concB_3 (v1 v2 v3 : Value) (l1 l2 l3 : List Bk) (B : Nat) (w : World) (hB : Bx w B [v1, v2, v3]) (h1 : Rs bkc w v1 l1) (h2 : Rs bkc w v2 l2) (h3 : Rs bkc w v3 l3) (hl1 : l1.length ≤ 200000) (hl2 : l2.length ≤ 200000) (hl3 : l3.length ≤ 200000) :
  Calls Tryz.prog 139 #[.slice (some ⟨B, 0, none⟩) 3 3] w fun e w' => ∃ v, e = .returned v ∧ Ro bkc 5 33 w' w.heap.size v (l1 ++ l2 ++ l3) ∧ Below w.heap.size w w' := by
 have HG := Hd (fun n hn => growB_any n w hn)
 obtain ⟨a1, c1, rfl⟩ := h1.form
 obtain ⟨a2, c2, rfl⟩ := h2.form
 obtain ⟨a3, c3, rfl⟩ := h3.form
 have HB := Hd (fun W (h : Below w.heap.size w W) => (hB.below h).c3)
 have H1 := Hd (fun W (h : Below w.heap.size w W) => h1.below h)
 have H2 := Hd (fun W (h : Below w.heap.size w W) => h2.below h)
 have H3 := Hd (fun W (h : Below w.heap.size w W) => h3.below h)
 obtain ⟨b0, b1, b2⟩ := hB.c3
 have hbl := hB.l
 clear h1 h2 h3 hB
 go_enter Tryz.func139, Tryz.ntmps139
 go_wp2_with fail
 refine wp_loop_rounds 4 ?_
 rw [rounds_succ]
 go_wp2_with fail
 rw [rounds_succ]
 go_wp2_with fail
 rw [rounds_succ]
 go_wp2_with fail
 rw [rounds_succ]
 have HN : Hid (((l1.length : Int) + l2.length + l3.length) = ((l1.length + l2.length + l3.length : Nat) : Int)) := Hd (by omega)
 have HK : Hid (l1.length + l2.length + l3.length ≤ 1000000) := Hd (by omega)
 go_wp2_with (go_at_call 153; first | rw [HN.out] | skip; refine (HG.out _ HK.out).mono ?_; rintro e w1 ⟨v, rfl, hr, hb⟩; obtain ⟨d0, d1, d2⟩ := HB.out _ hb; have HR := Hd hr; have HBl := Hd hb; clear hr hb HG b0 b1 b2)
 refine wp_loop_rounds 4 ?_
 rw [rounds_succ]
 go_wp2_with (at_builtin; refine wR tyiB encB _ rfl _ _ rfl w.heap.size _ [] rfl HR.out HBl.out.size _ l1 rfl (H1.out _ HBl.out) (by rw [List.length_nil]; omega) ?_; intro v1 w2 hr _ hb; rw [List.nil_append] at hr; obtain ⟨d0, d1, d2⟩ := HB.out _ (HBl.out.trans hb); replace HR := Hd hr; replace HBl := Hd (HBl.out.trans hb); clear hr hb)
 rw [rounds_succ]
 go_wp2_with (at_builtin; refine wR tyiB encB _ rfl _ _ rfl w.heap.size _ l1 rfl HR.out HBl.out.size _ l2 rfl (H2.out _ HBl.out) (by omega) ?_; intro v2 w3 hr _ hb; obtain ⟨d0, d1, d2⟩ := HB.out _ (HBl.out.trans hb); replace HR := Hd hr; replace HBl := Hd (HBl.out.trans hb); clear hr hb)
 rw [rounds_succ]
 go_wp2_with (at_builtin; refine wR tyiB encB _ rfl _ _ rfl w.heap.size _ (l1 ++ l2) rfl HR.out HBl.out.size _ l3 rfl (H3.out _ HBl.out) (by rw [List.length_append]; omega) ?_; intro v3 w4 hr _ hb; obtain ⟨d0, d1, d2⟩ := HB.out _ (HBl.out.trans hb); replace HR := Hd hr; replace HBl := Hd (HBl.out.trans hb); clear hr hb)
 rw [rounds_succ]
 go_wp2_with fail
 go_ret
 exact ⟨_, rfl, HR.out, HBl.out⟩
end Go.Proofs.YtlggjgapdpkhiaaGreat
