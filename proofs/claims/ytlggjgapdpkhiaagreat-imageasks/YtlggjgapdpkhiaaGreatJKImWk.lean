/-
  A SMALL WORLD THAT WORKS (castellanlaw15.First, works). No condition.
-/
import Derived.Test.YtlggjgapdpkhiaaGreatJKImAl
import Derived.Test.YtlggjgapdpkhiaaGreatJKImCpa5
import Derived.Test.YtlggjgapdpkhiaaGreatJKIsca5
namespace Go.Proofs.YtlggjgapdpkhiaaGreat
open Go.RowKit
set_option maxRecDepth 100000
set_option maxHeartbeats 16000000
def rcB (b : Int) (k : List UInt8) : Rc := ⟨2, b, 1, 0, 0, 0, 0, 0, 0, false, [], [], [], k, [], [], [], []⟩
def rcO (k b : Int) : Rc := ⟨k, b, 1, 0, 0, 0, 0, 0, 0, false, [], [], [], [], [], [], [], []⟩
def rcT : Rc := ⟨7, 0, 0, 1, 0, 0, 0, 0, 0, false, [116], [], [], [], [], [], [], []⟩
def rcP : Rc := ⟨8, 0, 0, 1, 0, 1, 0, 0, 0, false, [], [], [], [], [1, 2], [1, 2], [], []⟩
def rcC (ep : Int) : Rc := ⟨9, 0, ep, 1, 0, 2, 0, 0, 0, false, [], [], [], [], [1, 2], [2], [], []⟩
def plN : Pl := ⟨none, none, none, none, 0, 0, 0, 0⟩
def fstP (g : Nat) : List Rp := [(rcB 1 [97], plN), (rcO 4 1, plN), (rcB 2 [98], plN), (rcO 4 2, plN), (rcT, plN), (rcP, ⟨some ⟨g, 0, none⟩, some ⟨g + 1, 0, none⟩, none, none, 2, 2, 0, 0⟩)]
theorem pl_none {W : World} {r : Rc} (h1 : r.ids = []) (h2 : r.isr = []) (h3 : r.ad = []) (h4 : r.dr = []) : RwP (fun _ => True) W (r, plN) := by
 refine ⟨?_, ?_, ?_, ?_⟩
 ·exact .inl ⟨none, 0, h1, by show Value.slice none r.ids.length 0 = _; rw [h1]; rfl⟩
 ·exact .inl ⟨none, 0, h2, by show Value.slice none r.isr.length 0 = _; rw [h2]; rfl⟩
 ·exact .inl ⟨none, 0, h3, by show Value.slice none r.ad.length 0 = _; rw [h3]; rfl⟩
 ·exact .inl ⟨none, 0, h4, by show Value.slice none r.dr.length 0 = _; rw [h4]; rfl⟩
theorem sli_cells {W : World} {g : Nat} {l : List Int} (h : Bx W g (l.map ic)) (n : Nat) (hn : n = l.length) : Sli (fun _ => True) W (.slice (some ⟨g, 0, none⟩) n n) l := by
 subst hn
 refine .inr ⟨g, 0, l.length, rfl, Nat.le_refl _, trivial, fun i hi => ?_⟩
 have := h.at i (ic l[i]) (by simp [hi])
 rw [Nat.zero_add]
 exact this
theorem First_any (w : World) : Calls Tryz.prog 31 #[] w fun e w' => e = .returned (.slice (some ⟨w.heap.size + 1 + 1, 0, none⟩) 6 6) ∧ Rl (fun _ => True) (fun _ => True) w' (.slice (some ⟨w.heap.size + 1 + 1, 0, none⟩) 6 6) (fstP w.heap.size) ∧ Below w.heap.size w w' := by
 go_enter Tryz.func31, Tryz.ntmps31
 go_wp2_with fail
 go_ret
 obtain ⟨h1, h2, h3, h4⟩ := Bx.mk3 w ([1, 2].map ic) ([1, 2].map ic) (rcs (fstP w.heap.size)) 3 3 65 (Below.refl _ _)
 refine ⟨rfl, ⟨.inr ⟨w.heap.size + 1 + 1, 0, 6, rfl, Nat.le_refl _, trivial, (by show 0 < 6; decide), h3.c⟩, fun r hr => ?_⟩, h4⟩
 simp only [fstP, List.mem_cons, List.not_mem_nil, or_false] at hr
 rcases hr with rfl | rfl | rfl | rfl | rfl | rfl
 ·exact pl_none rfl rfl rfl rfl
 ·exact pl_none rfl rfl rfl rfl
 ·exact pl_none rfl rfl rfl rfl
 ·exact pl_none rfl rfl rfl rfl
 ·exact pl_none rfl rfl rfl rfl
 ·exact ⟨sli_cells h1 2 rfl, sli_cells h2 2 rfl, .inl ⟨none, 0, rfl, rfl⟩, .inl ⟨none, 0, rfl, rfl⟩⟩
structure Kp (V : World) (m : Im) (p : Ip) : Prop where
 r : ∀ W', (∀ g, g < V.heap.size → W'.heap[g]? = V.heap[g]?) → ImR W' m p
theorem Kp.below {V W : World} {m : Im} {p : Ip} (h : Kp V m p) (hb : Below V.heap.size V W) : Kp W m p := ⟨fun W' hW => h.r W' (fun g hg => (hW g (Nat.lt_of_lt_of_le hg hb.size)).trans (hb.block g hg))⟩
theorem Kp.im {V : World} {m : Im} {p : Ip} (h : Kp V m p) : ImR V m p := h.r V (fun _ _ => rfl)
theorem Kp.of {n0 : Nat → Prop} {n1 : Nat} {V : World} {m : Im} {p : Ip} (h : ∀ W, Agr n0 n1 V W → ImR W m p) : Kp V m p := ⟨fun _ hW => ImR.lift h (fun g _ hl => hW g hl)⟩
theorem apply_kp {ok : Nat → Prop} (m : Im) (p : Ip) (r : Rc) (v : Value) (w : World) (hk : Kp w m p) (hw : Wf m 100000) (hr : IsR ok w v r) (ht : TxR r) : Calls Tryz.prog 32 #[imv m p, v] w fun e w' => ∃ p' E, e = .returned (.tuple #[imv (app m r).1 p', E]) ∧ Kp w' (app m r).1 p' ∧ Erc (app m r).2 E ∧ Below w.heap.size w w' :=
 (Apply_any m p r v w (fun g => g < w.heap.size) (fun _ h => h) hk.r hw hr ht).mono fun _ _ ⟨p', E, e1, hi, hE, hb⟩ => ⟨p', E, e1, .of hi, hE, hb⟩
theorem erc_chn {c : Int} {E : Value} (h : Erc c E) (hc : c ≠ 0) : ∃ l, E = chn l (bse c) := by
 rcases h with ⟨h, _⟩ | ⟨_, l, e⟩
 ·exact absurd h hc
 ·exact ⟨l, e⟩
theorem chg_is (w : World) (ep : Int) : IsR (fun _ => True) ((w.alloc (.cells (List.toArray [Value.int .i64 1, .int .i64 2]) 3)).alloc (.cells (List.toArray [Value.int .i64 2]) 3)) (.agg (cR (rcC ep) (some ⟨w.heap.size, 0, none⟩) (some ⟨w.heap.size + 1, 0, none⟩) none none 2 1 0 0).toArray) (rcC ep) := by
 obtain ⟨h1, h2, _⟩ := Bx.mk2 w ([1, 2].map ic) ([2].map ic) 3 3 (Below.refl _ _)
 exact ⟨_, _, _, _, _, _, _, _, rfl, sli_cells h1 2 rfl, sli_cells h2 1 rfl, .inl ⟨none, 0, rfl, rfl⟩, .inl ⟨none, 0, rfl, rfl⟩⟩
theorem fen_is (W : World) : IsR (fun _ => True) W (.agg (cR (rcO 3 1) none none none none 0 0 0 0).toArray) (rcO 3 1) :=
 ⟨_, _, _, _, _, _, _, _, rfl, .inl ⟨none, 0, rfl, rfl⟩, .inl ⟨none, 0, rfl, rfl⟩, .inl ⟨none, 0, rfl, rfl⟩, .inl ⟨none, 0, rfl, rfl⟩⟩
theorem tx_of {r : Rc} (h1 : r.nm.length ≤ 1000) (h2 : r.ky.length ≤ 1000) (h3 : r.va.length ≤ 1000) (h4 : r.rk.length ≤ 1000) : TxR r := ⟨h1, h2, h3, h4⟩
def wkP (a b : List Int) (l e : Int) : Pt := ⟨a, b, l, e, [], []⟩
def wk0 : Im := ⟨[⟨1, 1, [97], false, false⟩, ⟨2, 1, [98], false, false⟩], [⟨1, [116], [wkP [1, 2] [1, 2] 1 0]⟩], [], [], 1⟩
def wk1 : Im := ⟨[⟨1, 1, [97], false, false⟩, ⟨2, 1, [98], false, false⟩], [⟨1, [116], [wkP [1, 2] [2] 2 1]⟩], [], [], 1⟩
def wk2 : Im := ⟨[⟨1, 1, [97], true, false⟩, ⟨2, 1, [98], false, false⟩], [⟨1, [116], [wkP [1, 2] [2] 2 1]⟩], [], [], 1⟩
theorem wk_all (g : Nat) : allI Im.zero (rcl (fstP g)) = (wk0, 0) := by kernel_rfl
theorem wk_1 : app wk0 (rcC 1) = (wk1, 0) := by kernel_rfl
theorem wk_2 : (app wk0 (rcC 0)).2 = 11 := by kernel_rfl
theorem wk_3 : (app wk0 (rcO 3 1)).2 = 10 := by kernel_rfl
theorem wk_4 : app wk1 (rcO 3 1) = (wk2, 0) := by kernel_rfl
theorem wk_b : wk2.br.find? (idB 1) = some ⟨1, 1, [97], true, false⟩ := by kernel_rfl
theorem wk_a1 : alive wk2.br 1 = false := by kernel_rfl
theorem wk_a2 : alive wk2.br 2 = true := by kernel_rfl
theorem wk_l2 : leads wk2.ts 2 = true := by kernel_rfl
theorem wk_l1 : leads wk2.ts 1 = false := by kernel_rfl
theorem wk_topic {W : World} {p : Ip} (h : ImR W wk0 p) : ∃ t q, p.ts.find? (idQ 1) = some t ∧ TqR W t ∧ t.ps = [q] ∧ q.1 = wkP [1, 2] [1, 2] 1 0 := by
 have he := h.e
 obtain ⟨ab, aq, ac, ad, cb, cq, cc, cd, ts⟩ := p
 simp only [wk0] at he
 rcases ts with _ | ⟨t, ts⟩
 ·cases he
 ·rcases ts with _ | ⟨t2, ts⟩
  ·obtain ⟨id, nm, ps, ta, tc⟩ := t
   simp only [List.map_cons, List.map_nil, Tq.tp, List.cons.injEq, and_true, Tp.mk.injEq] at he
   obtain ⟨e1, e2, e3⟩ := he
   rcases ps with _ | ⟨q, ps⟩
   ·cases e3
   ·rcases ps with _ | ⟨q2, ps⟩
    ·simp only [List.map_cons, List.map_nil, List.cons.injEq, and_true] at e3
     subst e1
     exact ⟨_, q, rfl, h.q _ (List.mem_cons_self), rfl, e3⟩
    ·simp at e3
  ·simp at he
theorem wf_wk0 : Wf wk0 100 := by
 have h := wf_made (m := Im.zero) (l := rcl (fstP 0)) (N := 0) (wf_zero 0)
 have e : made Im.zero (rcl (fstP 0)) = wk0 := by kernel_rfl
 rw [e] at h
 exact h.mono (by decide)
theorem wf_wk1 : Wf wk1 101 := by
 have h := wf_app wf_wk0 (rcC 1)
 rw [wk_1] at h
 exact h
theorem wf_wk2 : Wf wk2 102 := by
 have h := wf_app wf_wk1 (rcO 3 1)
 rw [wk_4] at h
 exact h
theorem works_any (w : World) : Calls Tryz.prog 5 #[] w fun e w' => e = .returned (.bool true) ∧ Below w.heap.size w w' := by
 have HB : Hid (Below w.heap.size w w) := Hd (Below.refl _ _)
 have HAL : Hid (∀ W g, Rl (fun _ => True) (fun _ => True) W (.slice (some ⟨g + 1 + 1, 0, none⟩) 6 6) (fstP g) → Calls Tryz.prog 30 #[.agg #[.slice none 0 0, .slice none 0 0, .slice none 0 0, .slice none 0 0, .int .i64 0], .slice (some ⟨g + 1 + 1, 0, none⟩) 6 6] W fun e w' => ∃ p' E, e = .returned (.tuple #[imv wk0 p', E]) ∧ Kp w' wk0 p' ∧ Erc 0 E ∧ Below W.heap.size W w') := Hd (fun W g h => by
  have := All_any Im.zero Ip.zero _ (fstP g) W (fun _ => False) 0 (fun _ h => h.elim) (fun W' _ => ⟨rs_nil _ _ _ _, rs_nil _ _ _ _, (fun t ht => by cases ht), rfl, rs_nil _ _ _ _, rs_nil _ _ _ _⟩) (wf_zero 0) (by show 0 + 6 ≤ 100000; decide) h (fun r hr => by
   have hr2 : r ∈ [rcB 1 [97], rcO 4 1, rcB 2 [98], rcO 4 2, rcT, rcP] := hr
   simp only [List.mem_cons, List.not_mem_nil, or_false] at hr2
   rcases hr2 with rfl | rfl | rfl | rfl | rfl | rfl <;> exact tx_of (by decide) (by decide) (by decide) (by decide))
  rw [wk_all g] at this
  exact this.mono fun _ _ ⟨p', E, e1, hi, hE, hb⟩ => ⟨p', E, e1, .of hi, hE, hb⟩)
 go_enter Tryz.func5, Tryz.ntmps5
 go_upto_region 2 with (first | (go_at_call 31; refine (First_any _).mono ?_; rintro e w1 ⟨rfl, hl1, hb1⟩; replace HAL := Hd (HAL.out w1 _ hl1); replace HB := Hd (bt HB.out hb1); clear hl1 hb1) | (go_at_call 30; refine HAL.out.mono ?_; rintro e w2 ⟨p0, E0, rfl, hk0, he0, hb2⟩; obtain rfl := erc_zero he0; have HK0 := Hd hk0; replace HB := Hd (bt HB.out hb2); clear hk0 he0 hb2 HAL; unfold imv; dsimp only))
 have H1 := Hd wk_1
 have H2 := Hd wk_2
 have H3 := Hd wk_3
 have H4 := Hd wk_4
 have H5 := Hd wk_b
 have H6 := Hd wk_a1
 have H7 := Hd wk_a2
 have H8 := Hd wk_l2
 have H9 := Hd wk_l1
 have HW0 := Hd wf_wk0
 have HW1 := Hd wf_wk1
 have HW2 := Hd wf_wk2
 obtain ⟨t0, q0, ht1, ht2, ht3, ht4⟩ := wk_topic HK0.out.im
 have HT1 := Hd ht1
 have HT2 := Hd (fun W (h : Below w2.heap.size w2 W) => ht2.below h)
 have HT3 := Hd ht3
 have HT4 := Hd ht4
 clear ht1 ht2 ht3 ht4
 have HPA : Hid (∀ W, Below w2.heap.size w2 W → Calls Tryz.prog 13 #[imv wk0 p0, .int .i64 1, .int .i64 0] W fun e w' => e = .returned (.tuple #[.agg (ptc q0).toArray, .bool true]) ∧ Below W.heap.size W w') := Hd (fun W h => by
  have hx := part_yes wk0 p0 1 0 t0 true W (fun W2 h2 => by
   have := topic_of wk0 p0 1 W2 ((HK0.out.below h).below h2).im (HW0.out.mono (by decide))
   unfold tqOf at this
   rw [HT1.out] at this
   exact this) (HT2.out W h) 0 (by rw [HT3.out]; exact Nat.one_pos) rfl
  have e2 : ∀ (l : List Pp) (hl : 0 < l.length), l = [q0] → l[0] = q0 := fun l hl e => by subst e; rfl
  rw [e2 _ _ HT3.out] at hx
  exact hx)
 have HQ0 : Hid (q0.1.ld = 1) := Hd (by rw [HT4.out]; rfl)
 clear HT1 HT2 HT3 HT4
 generalize wk0 = m0 at *
 generalize wk1 = m1 at *
 generalize wk2 = m2 at *
 have B1 := Hd (Bx.new w2 [Value.slice p0.ab m0.br.length p0.cb, .slice p0.aq p0.ts.length p0.cq, .slice p0.ac m0.cf.length p0.cc, .slice p0.ad m0.dn.length p0.cd, .int .i64 m0.la] 30)
 replace HK0 := Hd (HK0.out.below (bA w2 (.cells (List.toArray [Value.slice p0.ab m0.br.length p0.cb, .slice p0.aq p0.ts.length p0.cq, .slice p0.ac m0.cf.length p0.cc, .slice p0.ad m0.dn.length p0.cd, .int .i64 m0.la]) 30)))
 replace HB := Hd (bt HB.out (bA w2 (.cells (List.toArray [Value.slice p0.ab m0.br.length p0.cb, .slice p0.aq p0.ts.length p0.cq, .slice p0.ac m0.cf.length p0.cc, .slice p0.ad m0.dn.length p0.cd, .int .i64 m0.la]) 30)))
 have HBP := Hd (bA w2 (.cells (List.toArray [Value.slice p0.ab m0.br.length p0.cb, .slice p0.aq p0.ts.length p0.cq, .slice p0.ac m0.cf.length p0.cc, .slice p0.ad m0.dn.length p0.cd, .int .i64 m0.la]) 30))
 replace HPA := Hd (HPA.out _ HBP.out)
 clear HBP
 unfold imv at HPA
 generalize w2.alloc (.cells (List.toArray [Value.slice p0.ab m0.br.length p0.cb, .slice p0.aq p0.ts.length p0.cq, .slice p0.ac m0.cf.length p0.cc, .slice p0.ad m0.dn.length p0.cd, .int .i64 m0.la]) 30) = V1 at B1 HK0 HB HPA ⊢
 generalize w2.heap.size = b1 at B1 ⊢
 go_upto_region 3 with (first | (refine wpList_load_mid rfl _ _ rfl _ _ rfl _ _ B1.out.c Tryz.underlying30 rfl (by kernel_rfl) ?_) | (go_at_call 13; refine HPA.out.mono ?_; rintro e w3 ⟨rfl, hb3⟩; unfold ptc; dsimp only; replace HK0 := Hd (HK0.out.below (hb3)); replace B1 := Hd (B1.out.below (hb3)); replace HB := Hd (bt HB.out (hb3)); clear hb3 HPA))
 have B3 := Hd (Bx.new w3 [Value.slice q0.2.a0 q0.1.ids.length q0.2.c0, .slice q0.2.a1 q0.1.isr.length q0.2.c1, .int .i64 q0.1.ld, .int .i64 q0.1.ep, .slice q0.2.a2 q0.1.ad.length q0.2.c2, .slice q0.2.a3 q0.1.dr.length q0.2.c3] 44)
 replace HK0 := Hd (HK0.out.below (bA w3 (.cells (List.toArray [Value.slice q0.2.a0 q0.1.ids.length q0.2.c0, .slice q0.2.a1 q0.1.isr.length q0.2.c1, .int .i64 q0.1.ld, .int .i64 q0.1.ep, .slice q0.2.a2 q0.1.ad.length q0.2.c2, .slice q0.2.a3 q0.1.dr.length q0.2.c3]) 44)))
 replace B1 := Hd (B1.out.below (bA w3 (.cells (List.toArray [Value.slice q0.2.a0 q0.1.ids.length q0.2.c0, .slice q0.2.a1 q0.1.isr.length q0.2.c1, .int .i64 q0.1.ld, .int .i64 q0.1.ep, .slice q0.2.a2 q0.1.ad.length q0.2.c2, .slice q0.2.a3 q0.1.dr.length q0.2.c3]) 44)))
 replace HB := Hd (bt HB.out (bA w3 (.cells (List.toArray [Value.slice q0.2.a0 q0.1.ids.length q0.2.c0, .slice q0.2.a1 q0.1.isr.length q0.2.c1, .int .i64 q0.1.ld, .int .i64 q0.1.ep, .slice q0.2.a2 q0.1.ad.length q0.2.c2, .slice q0.2.a3 q0.1.dr.length q0.2.c3]) 44)))
 generalize w3.alloc (.cells (List.toArray [Value.slice q0.2.a0 q0.1.ids.length q0.2.c0, .slice q0.2.a1 q0.1.isr.length q0.2.c1, .int .i64 q0.1.ld, .int .i64 q0.1.ep, .slice q0.2.a2 q0.1.ad.length q0.2.c2, .slice q0.2.a3 q0.1.dr.length q0.2.c3]) 44) = V2 at B3 HK0 B1 HB ⊢
 generalize w3.heap.size = b3 at B3 ⊢
 -- region 3
 have HAP : Hid (Calls Tryz.prog 32 #[imv m0 p0, .agg (cR (rcC 1) (some ⟨V2.heap.size, 0, none⟩) (some ⟨V2.heap.size + 1, 0, none⟩) none none 2 1 0 0).toArray] ((V2.alloc (.cells (List.toArray [Value.int .i64 1, .int .i64 2]) 3)).alloc (.cells (List.toArray [Value.int .i64 2]) 3)) fun e w' => ∃ p' E, e = .returned (.tuple #[imv m1 p', E]) ∧ Kp w' m1 p' ∧ Erc 0 E ∧ Below ((V2.alloc (.cells (List.toArray [Value.int .i64 1, .int .i64 2]) 3)).alloc (.cells (List.toArray [Value.int .i64 2]) 3)).heap.size ((V2.alloc (.cells (List.toArray [Value.int .i64 1, .int .i64 2]) 3)).alloc (.cells (List.toArray [Value.int .i64 2]) 3)) w') := Hd (by
  have := apply_kp m0 p0 (rcC 1) _ ((V2.alloc (.cells (List.toArray [Value.int .i64 1, .int .i64 2]) 3)).alloc (.cells (List.toArray [Value.int .i64 2]) 3)) (HK0.out.below (below_al2 V2 (.cells (List.toArray [Value.int .i64 1, .int .i64 2]) 3) (.cells (List.toArray [Value.int .i64 2]) 3))) (HW0.out.mono (by decide)) (chg_is V2 1) (tx_of (by decide) (by decide) (by decide) (by decide))
  rw [H1.out] at this
  exact this)
 unfold imv cR rcC at HAP
 simp only [List.length_cons, List.length_nil] at HAP
 go_upto_region 4 with (first | (refine wpList_load_mid rfl _ _ rfl _ _ rfl _ _ B1.out.c Tryz.underlying30 rfl (by kernel_rfl) ?_) | (go_at_call 32; refine HAP.out.mono ?_; rintro e w4 ⟨p1, E1, rfl, hk, he, hb⟩; obtain rfl := erc_zero he; have HK1 := Hd hk; replace HK0 := Hd (HK0.out.below (below_al2 V2 (.cells (List.toArray [Value.int .i64 1, .int .i64 2]) 3) (.cells (List.toArray [Value.int .i64 2]) 3))); replace B1 := Hd (B1.out.below (below_al2 V2 (.cells (List.toArray [Value.int .i64 1, .int .i64 2]) 3) (.cells (List.toArray [Value.int .i64 2]) 3))); replace B3 := Hd (B3.out.below (below_al2 V2 (.cells (List.toArray [Value.int .i64 1, .int .i64 2]) 3) (.cells (List.toArray [Value.int .i64 2]) 3))); replace HB := Hd (bt HB.out (below_al2 V2 (.cells (List.toArray [Value.int .i64 1, .int .i64 2]) 3) (.cells (List.toArray [Value.int .i64 2]) 3))); replace HK0 := Hd (HK0.out.below (hb)); replace B1 := Hd (B1.out.below (hb)); replace B3 := Hd (B3.out.below (hb)); replace HB := Hd (bt HB.out (hb)); clear hb hk he HAP; (try unfold imv); (try dsimp only)))
 have B5 := Hd (Bx.new w4 [Value.slice p1.ab m1.br.length p1.cb, .slice p1.aq p1.ts.length p1.cq, .slice p1.ac m1.cf.length p1.cc, .slice p1.ad m1.dn.length p1.cd, .int .i64 m1.la] 30)
 replace HK0 := Hd (HK0.out.below (bA w4 (.cells (List.toArray [Value.slice p1.ab m1.br.length p1.cb, .slice p1.aq p1.ts.length p1.cq, .slice p1.ac m1.cf.length p1.cc, .slice p1.ad m1.dn.length p1.cd, .int .i64 m1.la]) 30)))
 replace B1 := Hd (B1.out.below (bA w4 (.cells (List.toArray [Value.slice p1.ab m1.br.length p1.cb, .slice p1.aq p1.ts.length p1.cq, .slice p1.ac m1.cf.length p1.cc, .slice p1.ad m1.dn.length p1.cd, .int .i64 m1.la]) 30)))
 replace B3 := Hd (B3.out.below (bA w4 (.cells (List.toArray [Value.slice p1.ab m1.br.length p1.cb, .slice p1.aq p1.ts.length p1.cq, .slice p1.ac m1.cf.length p1.cc, .slice p1.ad m1.dn.length p1.cd, .int .i64 m1.la]) 30)))
 replace HK1 := Hd (HK1.out.below (bA w4 (.cells (List.toArray [Value.slice p1.ab m1.br.length p1.cb, .slice p1.aq p1.ts.length p1.cq, .slice p1.ac m1.cf.length p1.cc, .slice p1.ad m1.dn.length p1.cd, .int .i64 m1.la]) 30)))
 replace HB := Hd (bt HB.out (bA w4 (.cells (List.toArray [Value.slice p1.ab m1.br.length p1.cb, .slice p1.aq p1.ts.length p1.cq, .slice p1.ac m1.cf.length p1.cc, .slice p1.ad m1.dn.length p1.cd, .int .i64 m1.la]) 30)))
 generalize w4.alloc (.cells (List.toArray [Value.slice p1.ab m1.br.length p1.cb, .slice p1.aq p1.ts.length p1.cq, .slice p1.ac m1.cf.length p1.cc, .slice p1.ad m1.dn.length p1.cd, .int .i64 m1.la]) 30) = V3 at B5 HK0 B1 B3 HK1 HB ⊢
 generalize w4.heap.size = b5 at B5 ⊢
 -- region 4
 have HAP := Hd (apply_kp m0 p0 (rcC 0) _ ((V3.alloc (.cells (List.toArray [Value.int .i64 1, .int .i64 2]) 3)).alloc (.cells (List.toArray [Value.int .i64 2]) 3)) (HK0.out.below (below_al2 V3 (.cells (List.toArray [Value.int .i64 1, .int .i64 2]) 3) (.cells (List.toArray [Value.int .i64 2]) 3))) (HW0.out.mono (by decide)) (chg_is V3 0) (tx_of (by decide) (by decide) (by decide) (by decide)))
 obtain ⟨ma, ca, hma⟩ : ∃ a b, app m0 (rcC 0) = (a, b) := ⟨_, _, rfl⟩
 rw [hma] at HAP H2
 clear hma
 unfold imv cR rcC at HAP
 simp only [List.length_cons, List.length_nil] at HAP H2
 go_upto_region 5 with (first | (refine wpList_load_mid rfl _ _ rfl _ _ rfl _ _ B1.out.c Tryz.underlying30 rfl (by kernel_rfl) ?_) | (go_at_call 32; refine HAP.out.mono ?_; rintro e w5 ⟨pa, E2, rfl, hk, he, hb⟩; have HE2 := Hd he; replace HK0 := Hd (HK0.out.below (below_al2 V3 (.cells (List.toArray [Value.int .i64 1, .int .i64 2]) 3) (.cells (List.toArray [Value.int .i64 2]) 3))); replace B1 := Hd (B1.out.below (below_al2 V3 (.cells (List.toArray [Value.int .i64 1, .int .i64 2]) 3) (.cells (List.toArray [Value.int .i64 2]) 3))); replace B3 := Hd (B3.out.below (below_al2 V3 (.cells (List.toArray [Value.int .i64 1, .int .i64 2]) 3) (.cells (List.toArray [Value.int .i64 2]) 3))); replace HK1 := Hd (HK1.out.below (below_al2 V3 (.cells (List.toArray [Value.int .i64 1, .int .i64 2]) 3) (.cells (List.toArray [Value.int .i64 2]) 3))); replace B5 := Hd (B5.out.below (below_al2 V3 (.cells (List.toArray [Value.int .i64 1, .int .i64 2]) 3) (.cells (List.toArray [Value.int .i64 2]) 3))); replace HB := Hd (bt HB.out (below_al2 V3 (.cells (List.toArray [Value.int .i64 1, .int .i64 2]) 3) (.cells (List.toArray [Value.int .i64 2]) 3))); replace HK0 := Hd (HK0.out.below (hb)); replace B1 := Hd (B1.out.below (hb)); replace B3 := Hd (B3.out.below (hb)); replace HK1 := Hd (HK1.out.below (hb)); replace B5 := Hd (B5.out.below (hb)); replace HB := Hd (bt HB.out (hb)); clear hb hk he HAP; (try unfold imv); (try dsimp only)))
 have B7 := Hd (Bx.new w5 [Value.slice pa.ab ma.br.length pa.cb, .slice pa.aq pa.ts.length pa.cq, .slice pa.ac ma.cf.length pa.cc, .slice pa.ad ma.dn.length pa.cd, .int .i64 ma.la] 30)
 replace HK0 := Hd (HK0.out.below (bA w5 (.cells (List.toArray [Value.slice pa.ab ma.br.length pa.cb, .slice pa.aq pa.ts.length pa.cq, .slice pa.ac ma.cf.length pa.cc, .slice pa.ad ma.dn.length pa.cd, .int .i64 ma.la]) 30)))
 replace B1 := Hd (B1.out.below (bA w5 (.cells (List.toArray [Value.slice pa.ab ma.br.length pa.cb, .slice pa.aq pa.ts.length pa.cq, .slice pa.ac ma.cf.length pa.cc, .slice pa.ad ma.dn.length pa.cd, .int .i64 ma.la]) 30)))
 replace B3 := Hd (B3.out.below (bA w5 (.cells (List.toArray [Value.slice pa.ab ma.br.length pa.cb, .slice pa.aq pa.ts.length pa.cq, .slice pa.ac ma.cf.length pa.cc, .slice pa.ad ma.dn.length pa.cd, .int .i64 ma.la]) 30)))
 replace HK1 := Hd (HK1.out.below (bA w5 (.cells (List.toArray [Value.slice pa.ab ma.br.length pa.cb, .slice pa.aq pa.ts.length pa.cq, .slice pa.ac ma.cf.length pa.cc, .slice pa.ad ma.dn.length pa.cd, .int .i64 ma.la]) 30)))
 replace B5 := Hd (B5.out.below (bA w5 (.cells (List.toArray [Value.slice pa.ab ma.br.length pa.cb, .slice pa.aq pa.ts.length pa.cq, .slice pa.ac ma.cf.length pa.cc, .slice pa.ad ma.dn.length pa.cd, .int .i64 ma.la]) 30)))
 replace HB := Hd (bt HB.out (bA w5 (.cells (List.toArray [Value.slice pa.ab ma.br.length pa.cb, .slice pa.aq pa.ts.length pa.cq, .slice pa.ac ma.cf.length pa.cc, .slice pa.ad ma.dn.length pa.cd, .int .i64 ma.la]) 30)))
 generalize w5.alloc (.cells (List.toArray [Value.slice pa.ab ma.br.length pa.cb, .slice pa.aq pa.ts.length pa.cq, .slice pa.ac ma.cf.length pa.cc, .slice pa.ad ma.dn.length pa.cd, .int .i64 ma.la]) 30) = V4 at B7 HK0 B1 B3 HK1 B5 HB ⊢
 generalize w5.heap.size = b7 at B7 ⊢
 clear B7
 -- region 5
 have HAP := Hd (apply_kp m0 p0 (rcO 3 1) _ V4 HK0.out (HW0.out.mono (by decide)) (fen_is V4) (tx_of (by decide) (by decide) (by decide) (by decide)))
 obtain ⟨mb, cb, hmb⟩ : ∃ a b, app m0 (rcO 3 1) = (a, b) := ⟨_, _, rfl⟩
 rw [hmb] at HAP H3
 clear hmb
 unfold imv cR rcO at HAP
 simp only [List.length_nil] at HAP H3
 go_upto_region 6 with (first | (refine wpList_load_mid rfl _ _ rfl _ _ rfl _ _ B1.out.c Tryz.underlying30 rfl (by kernel_rfl) ?_) | (go_at_call 32; refine HAP.out.mono ?_; rintro e w6 ⟨pb, E3, rfl, hk, he, hb⟩; have HE3 := Hd he; replace HK0 := Hd (HK0.out.below (hb)); replace B1 := Hd (B1.out.below (hb)); replace B3 := Hd (B3.out.below (hb)); replace HK1 := Hd (HK1.out.below (hb)); replace B5 := Hd (B5.out.below (hb)); replace HB := Hd (bt HB.out (hb)); clear hb hk he HAP; (try unfold imv); (try dsimp only)))
 have B9 := Hd (Bx.new w6 [Value.slice pb.ab mb.br.length pb.cb, .slice pb.aq pb.ts.length pb.cq, .slice pb.ac mb.cf.length pb.cc, .slice pb.ad mb.dn.length pb.cd, .int .i64 mb.la] 30)
 replace HK0 := Hd (HK0.out.below (bA w6 (.cells (List.toArray [Value.slice pb.ab mb.br.length pb.cb, .slice pb.aq pb.ts.length pb.cq, .slice pb.ac mb.cf.length pb.cc, .slice pb.ad mb.dn.length pb.cd, .int .i64 mb.la]) 30)))
 replace B1 := Hd (B1.out.below (bA w6 (.cells (List.toArray [Value.slice pb.ab mb.br.length pb.cb, .slice pb.aq pb.ts.length pb.cq, .slice pb.ac mb.cf.length pb.cc, .slice pb.ad mb.dn.length pb.cd, .int .i64 mb.la]) 30)))
 replace B3 := Hd (B3.out.below (bA w6 (.cells (List.toArray [Value.slice pb.ab mb.br.length pb.cb, .slice pb.aq pb.ts.length pb.cq, .slice pb.ac mb.cf.length pb.cc, .slice pb.ad mb.dn.length pb.cd, .int .i64 mb.la]) 30)))
 replace HK1 := Hd (HK1.out.below (bA w6 (.cells (List.toArray [Value.slice pb.ab mb.br.length pb.cb, .slice pb.aq pb.ts.length pb.cq, .slice pb.ac mb.cf.length pb.cc, .slice pb.ad mb.dn.length pb.cd, .int .i64 mb.la]) 30)))
 replace B5 := Hd (B5.out.below (bA w6 (.cells (List.toArray [Value.slice pb.ab mb.br.length pb.cb, .slice pb.aq pb.ts.length pb.cq, .slice pb.ac mb.cf.length pb.cc, .slice pb.ad mb.dn.length pb.cd, .int .i64 mb.la]) 30)))
 replace HB := Hd (bt HB.out (bA w6 (.cells (List.toArray [Value.slice pb.ab mb.br.length pb.cb, .slice pb.aq pb.ts.length pb.cq, .slice pb.ac mb.cf.length pb.cc, .slice pb.ad mb.dn.length pb.cd, .int .i64 mb.la]) 30)))
 generalize w6.alloc (.cells (List.toArray [Value.slice pb.ab mb.br.length pb.cb, .slice pb.aq pb.ts.length pb.cq, .slice pb.ac mb.cf.length pb.cc, .slice pb.ad mb.dn.length pb.cd, .int .i64 mb.la]) 30) = V5 at B9 HK0 B1 B3 HK1 B5 HB ⊢
 generalize w6.heap.size = b9 at B9 ⊢
 clear B9
 -- region 6
 have HAP : Hid (Calls Tryz.prog 32 #[imv m1 p1, .agg (cR (rcO 3 1) none none none none 0 0 0 0).toArray] V5 fun e w' => ∃ p' E, e = .returned (.tuple #[imv m2 p', E]) ∧ Kp w' m2 p' ∧ Erc 0 E ∧ Below V5.heap.size V5 w') := Hd (by
  have := apply_kp m1 p1 (rcO 3 1) _ V5 HK1.out (HW1.out.mono (by decide)) (fen_is V5) (tx_of (by decide) (by decide) (by decide) (by decide))
  rw [H4.out] at this
  exact this)
 unfold imv cR rcO at HAP
 simp only [List.length_nil] at HAP
 go_upto_region 7 with (first | (refine wpList_load_mid rfl _ _ rfl _ _ rfl _ _ B5.out.c Tryz.underlying30 rfl (by kernel_rfl) ?_) | (go_at_call 32; refine HAP.out.mono ?_; rintro e w7 ⟨p2, E4, rfl, hk, he, hb⟩; obtain rfl := erc_zero he; have HK2 := Hd hk; replace HK0 := Hd (HK0.out.below (hb)); replace B1 := Hd (B1.out.below (hb)); replace B3 := Hd (B3.out.below (hb)); replace HK1 := Hd (HK1.out.below (hb)); replace B5 := Hd (B5.out.below (hb)); replace HB := Hd (bt HB.out (hb)); clear hb hk he HAP; (try unfold imv); (try dsimp only)))
 have B11 := Hd (Bx.new w7 [Value.slice p2.ab m2.br.length p2.cb, .slice p2.aq p2.ts.length p2.cq, .slice p2.ac m2.cf.length p2.cc, .slice p2.ad m2.dn.length p2.cd, .int .i64 m2.la] 30)
 replace HK0 := Hd (HK0.out.below (bA w7 (.cells (List.toArray [Value.slice p2.ab m2.br.length p2.cb, .slice p2.aq p2.ts.length p2.cq, .slice p2.ac m2.cf.length p2.cc, .slice p2.ad m2.dn.length p2.cd, .int .i64 m2.la]) 30)))
 replace B1 := Hd (B1.out.below (bA w7 (.cells (List.toArray [Value.slice p2.ab m2.br.length p2.cb, .slice p2.aq p2.ts.length p2.cq, .slice p2.ac m2.cf.length p2.cc, .slice p2.ad m2.dn.length p2.cd, .int .i64 m2.la]) 30)))
 replace B3 := Hd (B3.out.below (bA w7 (.cells (List.toArray [Value.slice p2.ab m2.br.length p2.cb, .slice p2.aq p2.ts.length p2.cq, .slice p2.ac m2.cf.length p2.cc, .slice p2.ad m2.dn.length p2.cd, .int .i64 m2.la]) 30)))
 replace HK1 := Hd (HK1.out.below (bA w7 (.cells (List.toArray [Value.slice p2.ab m2.br.length p2.cb, .slice p2.aq p2.ts.length p2.cq, .slice p2.ac m2.cf.length p2.cc, .slice p2.ad m2.dn.length p2.cd, .int .i64 m2.la]) 30)))
 replace B5 := Hd (B5.out.below (bA w7 (.cells (List.toArray [Value.slice p2.ab m2.br.length p2.cb, .slice p2.aq p2.ts.length p2.cq, .slice p2.ac m2.cf.length p2.cc, .slice p2.ad m2.dn.length p2.cd, .int .i64 m2.la]) 30)))
 replace HK2 := Hd (HK2.out.below (bA w7 (.cells (List.toArray [Value.slice p2.ab m2.br.length p2.cb, .slice p2.aq p2.ts.length p2.cq, .slice p2.ac m2.cf.length p2.cc, .slice p2.ad m2.dn.length p2.cd, .int .i64 m2.la]) 30)))
 replace HB := Hd (bt HB.out (bA w7 (.cells (List.toArray [Value.slice p2.ab m2.br.length p2.cb, .slice p2.aq p2.ts.length p2.cq, .slice p2.ac m2.cf.length p2.cc, .slice p2.ad m2.dn.length p2.cd, .int .i64 m2.la]) 30)))
 generalize w7.alloc (.cells (List.toArray [Value.slice p2.ab m2.br.length p2.cb, .slice p2.aq p2.ts.length p2.cq, .slice p2.ac m2.cf.length p2.cc, .slice p2.ad m2.dn.length p2.cd, .int .i64 m2.la]) 30) = V6 at B11 HK0 B1 B3 HK1 B5 HK2 HB ⊢
 generalize w7.heap.size = b11 at B11 ⊢
 clear B1 B5 HK0 HK1
 -- region 7
 have HBR := Hd (Broker_yes m2 p2 1 V6 HK2.out.im (HW2.out.mono (by decide)) _ H5.out)
 unfold imv bkc at HBR
 go_upto_region 8 with (first | (refine wpList_load_mid rfl _ _ rfl _ _ rfl _ _ B11.out.c Tryz.underlying30 rfl (by kernel_rfl) ?_) | (go_at_call 7; refine HBR.out.mono ?_; rintro e w8 ⟨rfl, hb⟩; replace B3 := Hd (B3.out.below (hb)); replace HK2 := Hd (HK2.out.below (hb)); replace B11 := Hd (B11.out.below (hb)); replace HB := Hd (bt HB.out (hb)); clear hb HBR))
 have B13 := Hd (Bx.new w8 [Value.int .i64 1, .int .i64 1, .string ⟨#[97]⟩, .bool true, .bool false] 33)
 replace B3 := Hd (B3.out.below (bA w8 (.cells (List.toArray [Value.int .i64 1, .int .i64 1, .string ⟨#[97]⟩, .bool true, .bool false]) 33)))
 replace HK2 := Hd (HK2.out.below (bA w8 (.cells (List.toArray [Value.int .i64 1, .int .i64 1, .string ⟨#[97]⟩, .bool true, .bool false]) 33)))
 replace B11 := Hd (B11.out.below (bA w8 (.cells (List.toArray [Value.int .i64 1, .int .i64 1, .string ⟨#[97]⟩, .bool true, .bool false]) 33)))
 replace HB := Hd (bt HB.out (bA w8 (.cells (List.toArray [Value.int .i64 1, .int .i64 1, .string ⟨#[97]⟩, .bool true, .bool false]) 33)))
 generalize w8.alloc (.cells (List.toArray [Value.int .i64 1, .int .i64 1, .string ⟨#[97]⟩, .bool true, .bool false]) 33) = V7 at B13 B3 HK2 B11 HB ⊢
 generalize w8.heap.size = b13 at B13 ⊢
 -- region 8
 obtain ⟨l2, rfl⟩ := erc_chn HE2.out (by rw [H2.out]; decide)
 obtain ⟨l3, rfl⟩ := erc_chn HE3.out (by rw [H3.out]; decide)
 rw [H2.out, H3.out]
 clear HE2 HE3 H1 H2 H3 H4 H5 HW0 HW1
 have c1 : V7.cell? ⟨b3, 2, none⟩ = some (.int .i64 1) := HQ0.out ▸ B3.out.at 2 _ rfl
 have c2 := B13.out.at 3 _ rfl
 have HAV := Hd (fun id W (h : Below V7.heap.size V7 W) => Alive_any m2 p2 id W (HK2.out.below h).im (HW2.out.mono (by decide)))
 have HLE := Hd (fun id W (h : Below V7.heap.size V7 W) => Leads_any m2 p2 id W (HK2.out.below h).im (HW2.out.mono (by decide)))
 have HI1 : Hid (isB 11 11 = true) := Hd rfl
 have HI2 : Hid (isB 10 10 = true) := Hd rfl
 have HBC : Hid (Below V7.heap.size V7 V7) := Hd (Below.refl _ _)
 unfold imv at HAV HLE
 clear B3 HK2
 go_wp2_with (first | (refine wpList_load_want (by go_simp; done) _ _ rfl _ _ rfl _ _ (B11.out.below HBC.out).c Tryz.underlying30 rfl (by kernel_rfl) ?_) | (go_at_call 33; refine (is_chn _ _ _ _).mono ?_; rintro e wz ⟨rfl, hb⟩; (first | rw [HI1.out] | rw [HI2.out]); replace HBC := Hd (bt HBC.out hb); replace c2 := (B13.out.below HBC.out).at 3 _ rfl; clear hb) | (go_at_call 22; refine (HAV.out _ _ HBC.out).mono ?_; rintro e wz ⟨rfl, hb⟩; (first | rw [H6.out] | rw [H7.out]); replace HBC := Hd (bt HBC.out hb); replace c2 := (B13.out.below HBC.out).at 3 _ rfl; clear hb) | (go_at_call 24; refine (HLE.out _ _ HBC.out).mono ?_; rintro e wz ⟨rfl, hb⟩; (first | rw [H8.out] | rw [H9.out]); replace HBC := Hd (bt HBC.out hb); replace c2 := (B13.out.below HBC.out).at 3 _ rfl; clear hb))
 go_ret
 exact ⟨rfl, bt HB.out HBC.out⟩
end Go.Proofs.YtlggjgapdpkhiaaGreat
