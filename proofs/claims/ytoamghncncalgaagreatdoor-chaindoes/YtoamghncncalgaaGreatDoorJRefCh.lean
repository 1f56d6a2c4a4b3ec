/-
  THE DOCUMENT's CHAIN IS CUT (castellanref09.Cut): a block that begins nothing, the blocks behind it freed, and the store synced; or what is wrong. Conditions: fewer than seventy thousand blocks and writes; blocks below 2^30.
-/
import Derived.Test.YtoamghncncalgaaGreatDoorJRefCg
namespace Go.Proofs.YtoamghncncalgaaGreatDoor
open Go.RowKit

theorem fill_z (st : Int) (w : World) (h0 : 0 ≤ st) (h1 : st ≤ 4611686018427387904) : Calls Tryz.prog 43 #[.int .i64 st, .bool true, .int .i64 0, .slice none 0 0] w fun e w' => ∃ x, e = .returned x ∧ Sl bc w' x (blkOf st true []) ∧ Below w.heap.size w w' := fill_rl st true (.slice none 0 0) [] 0 w h0 h1 rfl (by decide) (.inl ⟨_, _, rfl, rfl⟩)
theorem rfreeT {P : Nat → Prop} (a1 a2 : Option Addr) (n1 k1 n2 k2 : Nat) (s : Dst) (frm upto : Int) (n : Nat) (w : World) (hd : Dd w P (.agg #[.int .i64 s.room, .slice a1 n1 k1, .slice a2 n2 k2]) s) (hf : 0 ≤ frm) (hu : upto = frm + n) (hu2 : upto ≤ 1073741825) (hn : s.lo.length + n < 90000) : Calls Tryz.prog 45 #[.agg #[.int .i64 s.room, .slice a1 n1 k1, .slice a2 n2 k2], .int .i64 frm, .int .i64 upto] w fun e w' => ∃ b1 b2 m1 j1 m2 j2, e = .returned (.agg #[.int .i64 s.room, .slice b1 m1 j1, .slice b2 m2 j2]) ∧ Dd w' (fun k => P k ∨ w.heap.size ≤ k) (.agg #[.int .i64 s.room, .slice b1 m1 j1, .slice b2 m2 j2]) (frN s (trL frm n)) ∧ Below w.heap.size w w' := by
  subst hu
  exact rfreeN_any a1 a2 n1 k1 n2 k2 s frm n w hd hf hu2 hn
/-- What is written where it is cut. -/
def cuB (s : Dst) (a sp : Int) : Dst := wrS s a (blkOf sp true [])
def cuC (s : Dst) (a sp : Int) : Int := wrC s a (blkOf sp true [])
theorem cuB_rm (s : Dst) (a sp : Int) : (cuB s a sp).room = s.room := by
  unfold cuB wrS
  split
  · split
    · split <;> rfl
    · rfl
  · rfl
/-- Between the put and the rest. -/
structure Ub (w W : World) (gB : Nat) (P : Nat → Prop) (s t : Dst) (x y : Value) (cl : List Value) : Prop where
  c : Cb w W cl
  o : B3 W gB (.int .i64 s.room) x y
  d : Dd W (Pn P w.heap.size (w.heap.size + 2)) (.agg #[.int .i64 s.room, x, y]) t
  lo : w.heap.size + 2 ≤ gB
theorem Ub.below {w W W' : World} {gB : Nat} {P : Nat → Prop} {s t : Dst} {x y : Value} {cl : List Value} (h : Ub w W gB P s t x y cl) (hb : Below W.heap.size W W') : Ub w W' gB P s t x y cl := ⟨h.c.below hb, h.o.below hb, h.d.below hb, h.lo⟩
set_option maxRecDepth 100000 in
set_option maxHeartbeats 8000000 in
theorem rcut_full {P : Nat → Prop} (a1 a2 : Option Addr) (n1 k1 n2 k2 : Nat) (s : Dst) (base nx sp a : Int) (m : Nat) (w : World) (hd : Dd w P (.agg #[.int .i64 s.room, .slice a1 n1 k1, .slice a2 n2 k2]) s) (hok : s.Ok) (hn8 : s.cs.length + s.lo.length < 60000) (_hb0 : 0 ≤ base) (hb : base ≤ a) (hm : nx = a + 1 + m) (_hx : nx ≤ 1073741824) (hm2 : m < 10000) (hs : 0 ≤ sp ∧ sp ≤ 2305843009213693952) (hc : cuC s a sp = 7) : Calls Tryz.prog 17 #[.agg #[.int .i64 s.room, .slice a1 n1 k1, .slice a2 n2 k2, .int .i64 base, .int .i64 nx, .int .i64 sp], .int .i64 a] w fun e w' => ∃ v, e = .returned (.tuple #[v, .int .i64 7]) ∧ Dc w' (fun k => P k ∨ w.heap.size ≤ k) v s base nx sp ∧ Below w.heap.size w w' := by
  have hcb := Cb.new w (.int .i64 s.room) (.slice a1 n1 k1) (.slice a2 n2 k2) (.int .i64 base) (.int .i64 nx) (.int .i64 sp)
  have HCB := hide hcb
  have HD := hide (hd.pn hcb.be (w.heap.size + 2))
  have HDO : Hid (∀ W, Below w.heap.size w W → Dd W (fun k => P k ∨ w.heap.size ≤ k) (.agg #[.int .i64 s.room, .slice a1 n1 k1, .slice a2 n2 k2]) s) := hide (fun W h => hd.stay h)
  clear hcb hd
  have HOK := hide hok
  have HAS := hide hok.asc
  have HBB : Hid (Byt (blkOf sp true [])) := hide (fun x hx => (blkOf_blk sp true (r := []) (fun y hy => by simp at hy) (by decide)).2 x hx)
  have HRM := hide (cuB_rm s a sp)
  have HCC := hide hc
  clear hok hc
  have g1 : ¬ a < base := by omega
  have g2 : ¬ nx < a := by omega
  have g3 : (a == nx) = false := beq_eq_false_iff_ne.2 (by omega)
  have HM := hide hm
  clear hm
  go_enter Tryz.func17, Tryz.ntmps17
  go_upto_region 1 with fail
  generalize ((w.alloc (.cells #[.int .i64 s.room, .slice a1 n1 k1, .slice a2 n2 k2, .int .i64 base, .int .i64 nx, .int .i64 sp] 39)).alloc (.cells #[.int .i64 0, .slice none 0 0, .slice none 0 0, .int .i64 0, .int .i64 0, .int .i64 0] 39)) = W1 at HCB HD ⊢
  have x3 := HCB.out.x.at (i := 3) (by simp)
  have x4 := HCB.out.x.at (i := 4) (by simp)
  simp only [List.getElem_cons_zero, List.getElem_cons_succ] at x3 x4
  go_upto_region 5 with fail
  clear x3 x4 g1 g2 g3
  go_cut [6, 7] (fun p cv W => ∃ (gB : Nat) (c1 c2 : Option Addr) (o1 q1 o2 q2 : Nat), p = .pointer (some ⟨gB, 0, none⟩) ∧ cv = .int .i64 (cuC s a sp) ∧ Ub w W gB P s (cuB s a sp) (.slice c1 o1 q1) (.slice c2 o2 q2) [.int .i64 s.room, .slice a1 n1 k1, .slice a2 n2 k2, .int .i64 base, .int .i64 nx, .int .i64 sp])
  case first =>
    have hdw : Below W1.heap.size W1 W1.drew := (Below.refl _ _).drew
    refine wp_region_held_drew (S := fun W => B6 W w.heap.size [.int .i64 s.room, .slice a1 n1 k1, .slice a2 n2 k2, .int .i64 base, .int .i64 nx, .int .i64 sp]) (by kernel_rfl) (HCB.out.x.below hdw) (fun hHeld => ?_)
    have HC1 := hide (HCB.out.below hdw)
    have HD1 := hide (HD.out.below hdw)
    generalize W1.drew = V1 at HC1 HD1 hHeld ⊢
    clear hdw HCB HD
    refine wpAnyH_take (i := 0) (oi := _) (v := .pointer (some ⟨w.heap.size, 0, none⟩)) rfl (by kernel_rfl) (by kernel_rfl) (by kernel_rfl) (fun _ _ _ h => h) (Or.inl ⟨by rfl, by intro w hSw; go_simp⟩) hHeld ?_
    change wpAnyH _ _ _ _ _ _ _ (Act.put _ (some 26) _) _
    simp only [Act.put, List.setIfInBounds_toArray, List.set_cons_zero, List.set_cons_succ]
    refine wpAnyH_take (i := 1) (oi := _) (v := .agg #[.int .i64 s.room, .slice a1 n1 k1, .slice a2 n2 k2]) rfl (by kernel_rfl) (by kernel_rfl) (by kernel_rfl) (fun _ _ _ h => h) (Or.inl ⟨by rfl, by intro w hSw; have h0 := hSw.at (i := 0) (by simp); have h1 := hSw.at (i := 1) (by simp); have h2 := hSw.at (i := 2) (by simp); simp only [List.getElem_cons_zero, List.getElem_cons_succ] at h0 h1 h2; go_simp⟩) hHeld ?_
    change wpAnyH _ _ _ _ _ _ _ (Act.put _ (some 27) _) _
    simp only [Act.put, List.setIfInBounds_toArray, List.set_cons_zero, List.set_cons_succ]
    refine wpAnyH_take (i := 2) (oi := _) (v := .int .i64 a) rfl (by kernel_rfl) (by kernel_rfl) (by kernel_rfl) (fun _ _ _ h => h) (Or.inl ⟨by rfl, by intro w hSw; go_simp⟩) hHeld ?_
    change wpAnyH _ _ _ _ _ _ _ (Act.put _ (some 28) _) _
    simp only [Act.put, List.setIfInBounds_toArray, List.set_cons_zero, List.set_cons_succ]
    refine wpAnyH_take (i := 3) (oi := _) (v := .pointer (some ⟨w.heap.size, 5, none⟩)) rfl (by kernel_rfl) (by kernel_rfl) (by kernel_rfl) (fun _ _ _ h => h) (Or.inl ⟨by rfl, by intro w hSw; go_simp⟩) hHeld ?_
    change wpAnyH _ _ _ _ _ _ _ (Act.put _ (some 29) _) _
    simp only [Act.put, List.setIfInBounds_toArray, List.set_cons_zero, List.set_cons_succ]
    refine wpAnyH_take (i := 4) (oi := _) (v := .int .i64 sp) rfl (by kernel_rfl) (by kernel_rfl) (by kernel_rfl) (fun _ _ _ h => h) (Or.inl ⟨by rfl, by intro w hSw; have h5 := hSw.at (i := 5) (by simp); simp only [List.getElem_cons_zero, List.getElem_cons_succ] at h5; go_simp⟩) hHeld ?_
    change wpAnyH _ _ _ _ _ _ _ (Act.put _ (some 30) _) _
    simp only [Act.put, List.setIfInBounds_toArray, List.set_cons_zero, List.set_cons_succ]
    refine wpAnyH_ready (rs := [5, 10]) (by kernel_rfl) (by simp) ?_
    refine AllReadyH.cons (o := _) rfl (fun K hK => ?_) (AllReadyH.cons (o := _) rfl (fun K hK => ?_) AllReadyH.nil)
    · go_simp
      go_at_call 43
      refine (fill_z sp _ hs.1 (by omega)).mono ?_
      rintro e V2 ⟨x2, rfl, hs2, hb2⟩
      obtain ⟨ea, ek, rfl⟩ := hs2.form
      rw [blkOf_len] at hs2 ⊢
      go_wp2_with fail
      refine hK.out _ _ (hHeld.below hb2) (fun hHeld1 => ?_)
      clear hK K hHeld
      have hHeld := hHeld1
      clear hHeld1
      have HC2 := hide (HC1.out.below hb2)
      have HD2 := hide (HD1.out.below hb2)
      have HSF2 := hide hs2
      clear hb2 hs2
      refine wpAnyH_ready (rs := [6, 10]) (by kernel_rfl) (by simp) ?_
      refine AllReadyH.cons (o := _) rfl (fun K hK => ?_) (AllReadyH.cons (o := _) rfl (fun K hK => ?_) AllReadyH.nil)
      · go_simp
        go_at_call 26
        refine (rputA_any _ a _ (blkOf sp true []) s _ HD2.out HAS.out HSF2.out HBB.out (by omega)).mono ?_
        rintro e V3 ⟨v3, rfl, hd3, hb3⟩
        change Dd _ _ _ (cuB s a sp) at hd3
        rw [show wrC s a (blkOf sp true []) = cuC s a sp from rfl]
        obtain ⟨c1, o1, q1, c2, o2, q2, rfl⟩ := hd3.form9
        rw [HRM.out] at hd3 ⊢
        go_wp2_with fail
        refine hK.out _ _ (hHeld.below hb3) (fun hHeld1 => ?_)
        clear hK K hHeld
        have hHeld := hHeld1
        clear hHeld1
        refine wpAnyH_take (i := 7) (oi := _) (v := .tuple #[.agg #[.int .i64 s.room, .slice c1 o1 q1, .slice c2 o2 q2], .int .i64 (cuC s a sp)]) rfl (by kernel_rfl) (by kernel_rfl) (by kernel_rfl) (fun _ _ _ h => h) (Or.inl ⟨by rfl, by intro w hSw; go_simp⟩) hHeld ?_
        change wpAnyH _ _ _ _ _ _ _ (Act.put _ (some 25) _) _
        simp only [Act.put, List.setIfInBounds_toArray, List.set_cons_zero, List.set_cons_succ]
        refine wpAnyH_take (i := 8) (oi := _) (v := .agg #[.int .i64 s.room, .slice c1 o1 q1, .slice c2 o2 q2]) rfl (by kernel_rfl) (by kernel_rfl) (by kernel_rfl) (fun _ _ _ h => h) (Or.inl ⟨by rfl, by intro w hSw; go_simp⟩) hHeld ?_
        change wpAnyH _ _ _ _ _ _ _ (Act.put _ (some 33) _) _
        simp only [Act.put, List.setIfInBounds_toArray, List.set_cons_zero, List.set_cons_succ]
        refine wpAnyH_take (i := 9) (oi := _) (v := .int .i64 (cuC s a sp)) rfl (by kernel_rfl) (by kernel_rfl) (by kernel_rfl) (fun _ _ _ h => h) (Or.inl ⟨by rfl, by intro w hSw; go_simp⟩) hHeld ?_
        change wpAnyH _ _ _ _ _ _ _ (Act.put _ (some 34) _) _
        simp only [Act.put, List.setIfInBounds_toArray, List.set_cons_zero, List.set_cons_succ]
        refine wpAnyH_ready (rs := [10]) (by kernel_rfl) (by simp) ?_
        refine AllReadyH.cons (o := _) rfl (fun K hK => ?_) AllReadyH.nil
        go_simp
        refine hK.out _ _ (hHeld.below (al_d _ _)) (fun hHeld1 => ?_)
        clear hK K hHeld
        have hHeld := hHeld1
        clear hHeld1
        have hal := al_d V3 (.cells #[.int .i64 0, .slice none 0 0, .slice none 0 0] 37)
        have HC := hide ((HC2.out.below hb3).below hal)
        have HG := hide (b3_new V3 (.int .i64 0) (.slice none 0 0) (.slice none 0 0) 37)
        have HLT : Hid (w.heap.size + 2 ≤ V3.heap.size) := hide (Nat.le_trans HC2.out.sz hb3.size)
        have HDn : Hid (Dd (V3.alloc (.cells #[.int .i64 0, .slice none 0 0, .slice none 0 0] 37)) (fun k => Pn P w.heap.size (w.heap.size + 2) k ∧ k ≠ V3.heap.size) (.agg #[.int .i64 s.room, .slice c1 o1 q1, .slice c2 o2 q2]) (cuB s a sp)) := hide ((hd3.pnC HC2.out.sz).keep (fun k p hk => ⟨p, by omega⟩) (fun k _ hk => hal.block k hk))
        clear hal
        generalize V3.alloc (.cells #[.int .i64 0, .slice none 0 0, .slice none 0 0] 37) = V9 at HC HG HDn hHeld ⊢
        generalize V3.heap.size = gB at HG HLT HDn ⊢
        refine wpAnyH_ready (rs := [11]) (by kernel_rfl) (by simp) ?_
        refine AllReadyH.cons (o := _) rfl (fun K hK => ?_) AllReadyH.nil
        have e0 := HG.out.c0
        have e1 := HG.out.c1
        have e2 := HG.out.c2
        have f0 := HG.out.fz 0
        have f1 := HG.out.fz 1
        have f2 := HG.out.fz 2
        go_simp
        clear e0 e1 e2 f0 f1 f2
        refine hK.out _ _ (hHeld.keepB (set3_heap (by have h1 := HLT.out; omega) _ _ _)) (fun hHeld1 => ?_)
        clear hK K hHeld
        have hHeld := hHeld1
        clear hHeld1
        refine wpAnyH_take (i := 12) (oi := _) (v := .int .i64 (cuC s a sp)) rfl (by kernel_rfl) (by kernel_rfl) (by kernel_rfl) (fun _ _ _ h => h) (Or.inl ⟨by rfl, by intro w hSw; go_simp⟩) hHeld ?_
        change wpAnyH _ _ _ _ _ _ _ (Act.put _ (some 7) _) _
        simp only [Act.put, List.setIfInBounds_toArray, List.set_cons_zero, List.set_cons_succ]
        refine wpAnyH_done (by kernel_rfl) ?_ _
        clear hHeld
        go_wp2_with fail
        go_meet
        exact ⟨gB, c1, c2, o1, q1, o2, q2, rfl, rfl, ⟨HC.out.keep (fun k hk => set3_heap (by have h1 := HLT.out; omega) _ _ _) (set3_below HC.out.be (by have h1 := HLT.out; omega) _ _ _) (by simp), HG.out.all _ _ _, HDn.out.keep (fun k p _ => p.1) (fun k p _ => set3_heap p.2 _ _ _), HLT.out⟩⟩
      · go_simp
        refine hK.out _ _ (hHeld.below (al_d _ _)) (fun hHeld1 => ?_)
        clear hK K hHeld
        have hHeld := hHeld1
        clear hHeld1
        have hal := al_d V2 (.cells #[.int .i64 0, .slice none 0 0, .slice none 0 0] 37)
        have HC5 := hide (HC2.out.below hal)
        have HG5 := hide (b3_new V2 (.int .i64 0) (.slice none 0 0) (.slice none 0 0) 37)
        have HLT : Hid (w.heap.size + 2 ≤ V2.heap.size) := hide HC2.out.sz
        have HD5 : Hid (Dd (V2.alloc (.cells #[.int .i64 0, .slice none 0 0, .slice none 0 0] 37)) (fun k => Pn P w.heap.size (w.heap.size + 2) k ∧ k ≠ V2.heap.size) (.agg #[.int .i64 s.room, .slice a1 n1 k1, .slice a2 n2 k2]) s) := hide (HD2.out.keep (fun k p hk => ⟨p, by omega⟩) (fun k _ hk => hal.block k hk))
        have HSF5 := hide (HSF2.out.below hal)
        clear hal
        generalize V2.alloc (.cells #[.int .i64 0, .slice none 0 0, .slice none 0 0] 37) = V5 at HC5 HG5 HD5 HSF5 hHeld ⊢
        generalize V2.heap.size = gB at HG5 HLT HD5 ⊢
        refine wpAnyH_ready (rs := [6]) (by kernel_rfl) (by simp) ?_
        refine AllReadyH.cons (o := _) rfl (fun K hK => ?_) AllReadyH.nil
        go_simp
        go_at_call 26
        refine (rputA_any _ a _ (blkOf sp true []) s _ HD5.out HAS.out HSF5.out HBB.out (by omega)).mono ?_
        rintro e V6 ⟨v6, rfl, hd6, hb6⟩
        change Dd _ _ _ (cuB s a sp) at hd6
        rw [show wrC s a (blkOf sp true []) = cuC s a sp from rfl]
        obtain ⟨c1, o1, q1, c2, o2, q2, rfl⟩ := hd6.form9
        rw [HRM.out] at hd6 ⊢
        go_wp2_with fail
        refine hK.out _ _ (hHeld.below hb6) (fun hHeld1 => ?_)
        clear hK K hHeld
        have hHeld := hHeld1
        clear hHeld1
        refine wpAnyH_take (i := 7) (oi := _) (v := .tuple #[.agg #[.int .i64 s.room, .slice c1 o1 q1, .slice c2 o2 q2], .int .i64 (cuC s a sp)]) rfl (by kernel_rfl) (by kernel_rfl) (by kernel_rfl) (fun _ _ _ h => h) (Or.inl ⟨by rfl, by intro w hSw; go_simp⟩) hHeld ?_
        change wpAnyH _ _ _ _ _ _ _ (Act.put _ (some 25) _) _
        simp only [Act.put, List.setIfInBounds_toArray, List.set_cons_zero, List.set_cons_succ]
        refine wpAnyH_take (i := 8) (oi := _) (v := .agg #[.int .i64 s.room, .slice c1 o1 q1, .slice c2 o2 q2]) rfl (by kernel_rfl) (by kernel_rfl) (by kernel_rfl) (fun _ _ _ h => h) (Or.inl ⟨by rfl, by intro w hSw; go_simp⟩) hHeld ?_
        change wpAnyH _ _ _ _ _ _ _ (Act.put _ (some 33) _) _
        simp only [Act.put, List.setIfInBounds_toArray, List.set_cons_zero, List.set_cons_succ]
        refine wpAnyH_take (i := 9) (oi := _) (v := .int .i64 (cuC s a sp)) rfl (by kernel_rfl) (by kernel_rfl) (by kernel_rfl) (fun _ _ _ h => h) (Or.inl ⟨by rfl, by intro w hSw; go_simp⟩) hHeld ?_
        change wpAnyH _ _ _ _ _ _ _ (Act.put _ (some 34) _) _
        simp only [Act.put, List.setIfInBounds_toArray, List.set_cons_zero, List.set_cons_succ]
        have HC := hide (HC5.out.below hb6)
        have HG := hide (HG5.out.below hb6)
        have HDn : Hid (Dd V6 (fun k => Pn P w.heap.size (w.heap.size + 2) k ∧ k ≠ gB) (.agg #[.int .i64 s.room, .slice c1 o1 q1, .slice c2 o2 q2]) (cuB s a sp)) := hide (hd6.keep (fun k p hk => p.elim id (fun e => ⟨.inr (by have h1 := HC5.out.sz; omega), by have h1 := HG5.out.lt9; omega⟩)) (fun _ _ _ => rfl))
        refine wpAnyH_ready (rs := [11]) (by kernel_rfl) (by simp) ?_
        refine AllReadyH.cons (o := _) rfl (fun K hK => ?_) AllReadyH.nil
        have e0 := HG.out.c0
        have e1 := HG.out.c1
        have e2 := HG.out.c2
        have f0 := HG.out.fz 0
        have f1 := HG.out.fz 1
        have f2 := HG.out.fz 2
        go_simp
        clear e0 e1 e2 f0 f1 f2
        refine hK.out _ _ (hHeld.keepB (set3_heap (by have h1 := HLT.out; omega) _ _ _)) (fun hHeld1 => ?_)
        clear hK K hHeld
        have hHeld := hHeld1
        clear hHeld1
        refine wpAnyH_take (i := 12) (oi := _) (v := .int .i64 (cuC s a sp)) rfl (by kernel_rfl) (by kernel_rfl) (by kernel_rfl) (fun _ _ _ h => h) (Or.inl ⟨by rfl, by intro w hSw; go_simp⟩) hHeld ?_
        change wpAnyH _ _ _ _ _ _ _ (Act.put _ (some 7) _) _
        simp only [Act.put, List.setIfInBounds_toArray, List.set_cons_zero, List.set_cons_succ]
        refine wpAnyH_done (by kernel_rfl) ?_ _
        clear hHeld
        go_wp2_with fail
        go_meet
        exact ⟨gB, c1, c2, o1, q1, o2, q2, rfl, rfl, ⟨HC.out.keep (fun k hk => set3_heap (by have h1 := HLT.out; omega) _ _ _) (set3_below HC.out.be (by have h1 := HLT.out; omega) _ _ _) (by simp), HG.out.all _ _ _, HDn.out.keep (fun k p _ => p.1) (fun k p _ => set3_heap p.2 _ _ _), HLT.out⟩⟩
    · go_simp
      refine hK.out _ _ (hHeld.below (al_d _ _)) (fun hHeld1 => ?_)
      clear hK K hHeld
      have hHeld := hHeld1
      clear hHeld1
      have hal := al_d V1 (.cells #[.int .i64 0, .slice none 0 0, .slice none 0 0] 37)
      have HC5 := hide (HC1.out.below hal)
      have HG5 := hide (b3_new V1 (.int .i64 0) (.slice none 0 0) (.slice none 0 0) 37)
      have HLT : Hid (w.heap.size + 2 ≤ V1.heap.size) := hide HC1.out.sz
      have HD5 : Hid (Dd (V1.alloc (.cells #[.int .i64 0, .slice none 0 0, .slice none 0 0] 37)) (fun k => Pn P w.heap.size (w.heap.size + 2) k ∧ k ≠ V1.heap.size) (.agg #[.int .i64 s.room, .slice a1 n1 k1, .slice a2 n2 k2]) s) := hide (HD1.out.keep (fun k p hk => ⟨p, by omega⟩) (fun k _ hk => hal.block k hk))
      clear hal
      generalize V1.alloc (.cells #[.int .i64 0, .slice none 0 0, .slice none 0 0] 37) = V5 at HC5 HG5 HD5 hHeld ⊢
      generalize V1.heap.size = gB at HG5 HLT HD5 ⊢
      refine wpAnyH_ready (rs := [5]) (by kernel_rfl) (by simp) ?_
      refine AllReadyH.cons (o := _) rfl (fun K hK => ?_) AllReadyH.nil
      go_simp
      go_at_call 43
      refine (fill_z sp _ hs.1 (by omega)).mono ?_
      rintro e V7 ⟨x7, rfl, hs7, hb7⟩
      obtain ⟨ea, ek, rfl⟩ := hs7.form
      rw [blkOf_len] at hs7 ⊢
      go_wp2_with fail
      refine hK.out _ _ (hHeld.below hb7) (fun hHeld1 => ?_)
      clear hK K hHeld
      have hHeld := hHeld1
      clear hHeld1
      have HC7 := hide (HC5.out.below hb7)
      have HD7 := hide (HD5.out.below hb7)
      have HSF7 := hide hs7
      have HG7 := hide (HG5.out.below hb7)
      clear hb7 hs7 HC5 HD5 HG5
      have HC5 := HC7
      have HD5 := HD7
      have HG5 := HG7
      clear HC7 HD7 HG7
      refine wpAnyH_ready (rs := [6]) (by kernel_rfl) (by simp) ?_
      refine AllReadyH.cons (o := _) rfl (fun K hK => ?_) AllReadyH.nil
      go_simp
      go_at_call 26
      refine (rputA_any _ a _ (blkOf sp true []) s _ HD5.out HAS.out HSF7.out HBB.out (by omega)).mono ?_
      rintro e V8 ⟨v8, rfl, hd8, hb8⟩
      change Dd _ _ _ (cuB s a sp) at hd8
      rw [show wrC s a (blkOf sp true []) = cuC s a sp from rfl]
      obtain ⟨c1, o1, q1, c2, o2, q2, rfl⟩ := hd8.form9
      rw [HRM.out] at hd8 ⊢
      go_wp2_with fail
      refine hK.out _ _ (hHeld.below hb8) (fun hHeld1 => ?_)
      clear hK K hHeld
      have hHeld := hHeld1
      clear hHeld1
      refine wpAnyH_take (i := 7) (oi := _) (v := .tuple #[.agg #[.int .i64 s.room, .slice c1 o1 q1, .slice c2 o2 q2], .int .i64 (cuC s a sp)]) rfl (by kernel_rfl) (by kernel_rfl) (by kernel_rfl) (fun _ _ _ h => h) (Or.inl ⟨by rfl, by intro w hSw; go_simp⟩) hHeld ?_
      change wpAnyH _ _ _ _ _ _ _ (Act.put _ (some 25) _) _
      simp only [Act.put, List.setIfInBounds_toArray, List.set_cons_zero, List.set_cons_succ]
      refine wpAnyH_take (i := 8) (oi := _) (v := .agg #[.int .i64 s.room, .slice c1 o1 q1, .slice c2 o2 q2]) rfl (by kernel_rfl) (by kernel_rfl) (by kernel_rfl) (fun _ _ _ h => h) (Or.inl ⟨by rfl, by intro w hSw; go_simp⟩) hHeld ?_
      change wpAnyH _ _ _ _ _ _ _ (Act.put _ (some 33) _) _
      simp only [Act.put, List.setIfInBounds_toArray, List.set_cons_zero, List.set_cons_succ]
      refine wpAnyH_take (i := 9) (oi := _) (v := .int .i64 (cuC s a sp)) rfl (by kernel_rfl) (by kernel_rfl) (by kernel_rfl) (fun _ _ _ h => h) (Or.inl ⟨by rfl, by intro w hSw; go_simp⟩) hHeld ?_
      change wpAnyH _ _ _ _ _ _ _ (Act.put _ (some 34) _) _
      simp only [Act.put, List.setIfInBounds_toArray, List.set_cons_zero, List.set_cons_succ]
      have HC := hide (HC5.out.below hb8)
      have HG := hide (HG5.out.below hb8)
      have HDn : Hid (Dd V8 (fun k => Pn P w.heap.size (w.heap.size + 2) k ∧ k ≠ gB) (.agg #[.int .i64 s.room, .slice c1 o1 q1, .slice c2 o2 q2]) (cuB s a sp)) := hide (hd8.keep (fun k p hk => p.elim id (fun e => ⟨.inr (by have h1 := HC5.out.sz; omega), by have h1 := HG5.out.lt9; omega⟩)) (fun _ _ _ => rfl))
      refine wpAnyH_ready (rs := [11]) (by kernel_rfl) (by simp) ?_
      refine AllReadyH.cons (o := _) rfl (fun K hK => ?_) AllReadyH.nil
      have e0 := HG.out.c0
      have e1 := HG.out.c1
      have e2 := HG.out.c2
      have f0 := HG.out.fz 0
      have f1 := HG.out.fz 1
      have f2 := HG.out.fz 2
      go_simp
      clear e0 e1 e2 f0 f1 f2
      refine hK.out _ _ (hHeld.keepB (set3_heap (by have h1 := HLT.out; omega) _ _ _)) (fun hHeld1 => ?_)
      clear hK K hHeld
      have hHeld := hHeld1
      clear hHeld1
      refine wpAnyH_take (i := 12) (oi := _) (v := .int .i64 (cuC s a sp)) rfl (by kernel_rfl) (by kernel_rfl) (by kernel_rfl) (fun _ _ _ h => h) (Or.inl ⟨by rfl, by intro w hSw; go_simp⟩) hHeld ?_
      change wpAnyH _ _ _ _ _ _ _ (Act.put _ (some 7) _) _
      simp only [Act.put, List.setIfInBounds_toArray, List.set_cons_zero, List.set_cons_succ]
      refine wpAnyH_done (by kernel_rfl) ?_ _
      clear hHeld
      go_wp2_with fail
      go_meet
      exact ⟨gB, c1, c2, o1, q1, o2, q2, rfl, rfl, ⟨HC.out.keep (fun k hk => set3_heap (by have h1 := HLT.out; omega) _ _ _) (set3_below HC.out.be (by have h1 := HLT.out; omega) _ _ _) (by simp), HG.out.all _ _ _, HDn.out.keep (fun k p _ => p.1) (fun k p _ => set3_heap p.2 _ _ _), HLT.out⟩⟩
  case rest =>
    obtain ⟨gB, c1, c2, o1, q1, o2, q2, rfl, rfl, hub⟩ := hcut
    have HU := hide hub
    clear hub HCB HD
    rw [HCC.out]
    have x0 := HU.out.c.x.at (i := 0) (by simp)
    have x1 := HU.out.c.x.at (i := 1) (by simp)
    have x2 := HU.out.c.x.at (i := 2) (by simp)
    have x3 := HU.out.c.x.at (i := 3) (by simp)
    have x4 := HU.out.c.x.at (i := 4) (by simp)
    have x5 := HU.out.c.x.at (i := 5) (by simp)
    simp only [List.getElem_cons_zero, List.getElem_cons_succ] at x0 x1 x2 x3 x4 x5
    have z0 := HU.out.c.y.at (i := 0) (by simp)
    have z1 := HU.out.c.y.at (i := 1) (by simp)
    have z2 := HU.out.c.y.at (i := 2) (by simp)
    have z3 := HU.out.c.y.at (i := 3) (by simp)
    have z4 := HU.out.c.y.at (i := 4) (by simp)
    have z5 := HU.out.c.y.at (i := 5) (by simp)
    simp only [List.getElem_cons_zero, List.getElem_cons_succ] at z0 z1 z2 z3 z4 z5
    have f0 := HU.out.c.y.fz 0
    have f1 := HU.out.c.y.fz 1
    have f2 := HU.out.c.y.fz 2
    have f3 := HU.out.c.y.fz 3
    have f4 := HU.out.c.y.fz 4
    have f5 := HU.out.c.y.fz 5
    have HF := hide (HU.out.c.y.all (.int .i64 s.room) (.slice a1 n1 k1) (.slice a2 n2 k2) (.int .i64 base) (.int .i64 nx) (.int .i64 sp))
    have HDF := hide (HDO.out _ (s6_below HU.out.c.be (g := w.heap.size + 1) (by omega) (.int .i64 s.room) (.slice a1 n1 k1) (.slice a2 n2 k2) (.int .i64 base) (.int .i64 nx) (.int .i64 sp)))
    go_wp2_with fail
    exact bodyPost_ret (v := .tuple #[.agg #[.int .i64 s.room, .slice a1 n1 k1, .slice a2 n2 k2, .int .i64 base, .int .i64 nx, .int .i64 sp], .int .i64 7]) (res_2 Tryz.results17 _ _ (w.heap.size + 1) [_, _, _, _, _, _] _ _ rfl rfl HF.out Tryz.underlying39 rfl infoHc) rfl ⟨_, rfl, ⟨a1, a2, n1, k1, n2, k2, rfl, HDF.out⟩, s6_below HU.out.c.be (by omega) _ _ _ _ _ _⟩
theorem wr_lo (s : Dst) (a : Int) (b : List Int) : (wrS s a b).lo.length ≤ s.lo.length + 1 ∧ (wrS s a b).cs = s.cs := by
  unfold wrS
  split
  · split
    · split
      · simp
      · simp
    · simp
  · simp
theorem rfreeR {P : Nat → Prop} (a1 a2 : Option Addr) (n1 k1 n2 k2 : Nat) (s : Dst) (r frm upto : Int) (n : Nat) (w : World) (hr : s.room = r) (hd : Dd w P (.agg #[.int .i64 r, .slice a1 n1 k1, .slice a2 n2 k2]) s) (hf : 0 ≤ frm) (hu : upto = frm + n) (hu2 : upto ≤ 1073741825) (hn : s.lo.length + n < 90000) : Calls Tryz.prog 45 #[.agg #[.int .i64 r, .slice a1 n1 k1, .slice a2 n2 k2], .int .i64 frm, .int .i64 upto] w fun e w' => ∃ b1 b2 m1 j1 m2 j2, e = .returned (.agg #[.int .i64 r, .slice b1 m1 j1, .slice b2 m2 j2]) ∧ Dd w' (fun k => P k ∨ w.heap.size ≤ k) (.agg #[.int .i64 r, .slice b1 m1 j1, .slice b2 m2 j2]) (frN s (trL frm n)) ∧ Below w.heap.size w w' := by
  subst hr
  exact rfreeT a1 a2 n1 k1 n2 k2 s frm upto n w hd hf hu hu2 hn
theorem rsync9_r {P : Nat → Prop} (a1 a2 : Option Addr) (n1 k1 n2 k2 : Nat) (s : Dst) (r base nx sp : Int) (w : World) (hr : s.room = r) (hd : Dd w P (.agg #[.int .i64 r, .slice a1 n1 k1, .slice a2 n2 k2]) s) (hA : Asc s.cs) (hn : s.cs.length + s.lo.length < 80000) : Calls Tryz.prog 14 #[.agg #[.int .i64 r, .slice a1 n1 k1, .slice a2 n2 k2, .int .i64 base, .int .i64 nx, .int .i64 sp]] w fun e w' => ∃ v, e = .returned v ∧ Dc w' (fun k => P k ∨ w.heap.size ≤ k) v (syS s) base nx sp ∧ Below w.heap.size w w' := by
  subst hr
  exact rsync9_any a1 a2 n1 k1 n2 k2 s base nx sp w hd hA hn
set_option maxRecDepth 100000 in
set_option maxHeartbeats 8000000 in
theorem rcut_ok {P : Nat → Prop} (a1 a2 : Option Addr) (n1 k1 n2 k2 : Nat) (s : Dst) (base nx sp a : Int) (m : Nat) (w : World) (hd : Dd w P (.agg #[.int .i64 s.room, .slice a1 n1 k1, .slice a2 n2 k2]) s) (hok : s.Ok) (hn8 : s.cs.length + s.lo.length < 60000) (hb0 : 0 ≤ base) (hb : base ≤ a) (hm : nx = a + 1 + m) (hx : nx ≤ 1073741824) (hm2 : m < 10000) (hs : 0 ≤ sp ∧ sp ≤ 2305843009213693952) (hc : cuC s a sp = 0) : Calls Tryz.prog 17 #[.agg #[.int .i64 s.room, .slice a1 n1 k1, .slice a2 n2 k2, .int .i64 base, .int .i64 nx, .int .i64 sp], .int .i64 a] w fun e w' => ∃ v, e = .returned (.tuple #[v, .int .i64 0]) ∧ Dc w' (fun k => P k ∨ w.heap.size ≤ k) v (syS (frN (cuB s a sp) (trL (a + 1) m))) base (a + 1) (sp + 1) ∧ Below w.heap.size w w' := by
  have hcb := Cb.new w (.int .i64 s.room) (.slice a1 n1 k1) (.slice a2 n2 k2) (.int .i64 base) (.int .i64 nx) (.int .i64 sp)
  have HCB := hide hcb
  have HD := hide (hd.pn hcb.be (w.heap.size + 2))
  clear hcb hd
  have HOK := hide hok
  have HAS := hide hok.asc
  have HBB : Hid (Byt (blkOf sp true [])) := hide (fun x hx => (blkOf_blk sp true (r := []) (fun y hy => by simp at hy) (by decide)).2 x hx)
  have HRM := hide (cuB_rm s a sp)
  have HCC := hide hc
  clear hok hc
  have g1 : ¬ a < base := by omega
  have g2 : ¬ nx < a := by omega
  have g3 : (a == nx) = false := beq_eq_false_iff_ne.2 (by omega)
  have HM := hide hm
  clear hm
  go_enter Tryz.func17, Tryz.ntmps17
  go_upto_region 1 with fail
  generalize ((w.alloc (.cells #[.int .i64 s.room, .slice a1 n1 k1, .slice a2 n2 k2, .int .i64 base, .int .i64 nx, .int .i64 sp] 39)).alloc (.cells #[.int .i64 0, .slice none 0 0, .slice none 0 0, .int .i64 0, .int .i64 0, .int .i64 0] 39)) = W1 at HCB HD ⊢
  have x3 := HCB.out.x.at (i := 3) (by simp)
  have x4 := HCB.out.x.at (i := 4) (by simp)
  simp only [List.getElem_cons_zero, List.getElem_cons_succ] at x3 x4
  go_upto_region 5 with fail
  clear x3 x4 g1 g2 g3
  go_cut [6, 7] (fun p cv W => ∃ (gB : Nat) (c1 c2 : Option Addr) (o1 q1 o2 q2 : Nat), p = .pointer (some ⟨gB, 0, none⟩) ∧ cv = .int .i64 (cuC s a sp) ∧ Ub w W gB P s (cuB s a sp) (.slice c1 o1 q1) (.slice c2 o2 q2) [.int .i64 s.room, .slice a1 n1 k1, .slice a2 n2 k2, .int .i64 base, .int .i64 nx, .int .i64 sp])
  case first =>
    have hdw : Below W1.heap.size W1 W1.drew := (Below.refl _ _).drew
    refine wp_region_held_drew (S := fun W => B6 W w.heap.size [.int .i64 s.room, .slice a1 n1 k1, .slice a2 n2 k2, .int .i64 base, .int .i64 nx, .int .i64 sp]) (by kernel_rfl) (HCB.out.x.below hdw) (fun hHeld => ?_)
    have HC1 := hide (HCB.out.below hdw)
    have HD1 := hide (HD.out.below hdw)
    generalize W1.drew = V1 at HC1 HD1 hHeld ⊢
    clear hdw HCB HD
    refine wpAnyH_take (i := 0) (oi := _) (v := .pointer (some ⟨w.heap.size, 0, none⟩)) rfl (by kernel_rfl) (by kernel_rfl) (by kernel_rfl) (fun _ _ _ h => h) (Or.inl ⟨by rfl, by intro w hSw; go_simp⟩) hHeld ?_
    change wpAnyH _ _ _ _ _ _ _ (Act.put _ (some 26) _) _
    simp only [Act.put, List.setIfInBounds_toArray, List.set_cons_zero, List.set_cons_succ]
    refine wpAnyH_take (i := 1) (oi := _) (v := .agg #[.int .i64 s.room, .slice a1 n1 k1, .slice a2 n2 k2]) rfl (by kernel_rfl) (by kernel_rfl) (by kernel_rfl) (fun _ _ _ h => h) (Or.inl ⟨by rfl, by intro w hSw; have h0 := hSw.at (i := 0) (by simp); have h1 := hSw.at (i := 1) (by simp); have h2 := hSw.at (i := 2) (by simp); simp only [List.getElem_cons_zero, List.getElem_cons_succ] at h0 h1 h2; go_simp⟩) hHeld ?_
    change wpAnyH _ _ _ _ _ _ _ (Act.put _ (some 27) _) _
    simp only [Act.put, List.setIfInBounds_toArray, List.set_cons_zero, List.set_cons_succ]
    refine wpAnyH_take (i := 2) (oi := _) (v := .int .i64 a) rfl (by kernel_rfl) (by kernel_rfl) (by kernel_rfl) (fun _ _ _ h => h) (Or.inl ⟨by rfl, by intro w hSw; go_simp⟩) hHeld ?_
    change wpAnyH _ _ _ _ _ _ _ (Act.put _ (some 28) _) _
    simp only [Act.put, List.setIfInBounds_toArray, List.set_cons_zero, List.set_cons_succ]
    refine wpAnyH_take (i := 3) (oi := _) (v := .pointer (some ⟨w.heap.size, 5, none⟩)) rfl (by kernel_rfl) (by kernel_rfl) (by kernel_rfl) (fun _ _ _ h => h) (Or.inl ⟨by rfl, by intro w hSw; go_simp⟩) hHeld ?_
    change wpAnyH _ _ _ _ _ _ _ (Act.put _ (some 29) _) _
    simp only [Act.put, List.setIfInBounds_toArray, List.set_cons_zero, List.set_cons_succ]
    refine wpAnyH_take (i := 4) (oi := _) (v := .int .i64 sp) rfl (by kernel_rfl) (by kernel_rfl) (by kernel_rfl) (fun _ _ _ h => h) (Or.inl ⟨by rfl, by intro w hSw; have h5 := hSw.at (i := 5) (by simp); simp only [List.getElem_cons_zero, List.getElem_cons_succ] at h5; go_simp⟩) hHeld ?_
    change wpAnyH _ _ _ _ _ _ _ (Act.put _ (some 30) _) _
    simp only [Act.put, List.setIfInBounds_toArray, List.set_cons_zero, List.set_cons_succ]
    refine wpAnyH_ready (rs := [5, 10]) (by kernel_rfl) (by simp) ?_
    refine AllReadyH.cons (o := _) rfl (fun K hK => ?_) (AllReadyH.cons (o := _) rfl (fun K hK => ?_) AllReadyH.nil)
    · go_simp
      go_at_call 43
      refine (fill_z sp _ hs.1 (by omega)).mono ?_
      rintro e V2 ⟨x2, rfl, hs2, hb2⟩
      obtain ⟨ea, ek, rfl⟩ := hs2.form
      rw [blkOf_len] at hs2 ⊢
      go_wp2_with fail
      refine hK.out _ _ (hHeld.below hb2) (fun hHeld1 => ?_)
      clear hK K hHeld
      have hHeld := hHeld1
      clear hHeld1
      have HC2 := hide (HC1.out.below hb2)
      have HD2 := hide (HD1.out.below hb2)
      have HSF2 := hide hs2
      clear hb2 hs2
      refine wpAnyH_ready (rs := [6, 10]) (by kernel_rfl) (by simp) ?_
      refine AllReadyH.cons (o := _) rfl (fun K hK => ?_) (AllReadyH.cons (o := _) rfl (fun K hK => ?_) AllReadyH.nil)
      · go_simp
        go_at_call 26
        refine (rputA_any _ a _ (blkOf sp true []) s _ HD2.out HAS.out HSF2.out HBB.out (by omega)).mono ?_
        rintro e V3 ⟨v3, rfl, hd3, hb3⟩
        change Dd _ _ _ (cuB s a sp) at hd3
        rw [show wrC s a (blkOf sp true []) = cuC s a sp from rfl]
        obtain ⟨c1, o1, q1, c2, o2, q2, rfl⟩ := hd3.form9
        rw [HRM.out] at hd3 ⊢
        go_wp2_with fail
        refine hK.out _ _ (hHeld.below hb3) (fun hHeld1 => ?_)
        clear hK K hHeld
        have hHeld := hHeld1
        clear hHeld1
        refine wpAnyH_take (i := 7) (oi := _) (v := .tuple #[.agg #[.int .i64 s.room, .slice c1 o1 q1, .slice c2 o2 q2], .int .i64 (cuC s a sp)]) rfl (by kernel_rfl) (by kernel_rfl) (by kernel_rfl) (fun _ _ _ h => h) (Or.inl ⟨by rfl, by intro w hSw; go_simp⟩) hHeld ?_
        change wpAnyH _ _ _ _ _ _ _ (Act.put _ (some 25) _) _
        simp only [Act.put, List.setIfInBounds_toArray, List.set_cons_zero, List.set_cons_succ]
        refine wpAnyH_take (i := 8) (oi := _) (v := .agg #[.int .i64 s.room, .slice c1 o1 q1, .slice c2 o2 q2]) rfl (by kernel_rfl) (by kernel_rfl) (by kernel_rfl) (fun _ _ _ h => h) (Or.inl ⟨by rfl, by intro w hSw; go_simp⟩) hHeld ?_
        change wpAnyH _ _ _ _ _ _ _ (Act.put _ (some 33) _) _
        simp only [Act.put, List.setIfInBounds_toArray, List.set_cons_zero, List.set_cons_succ]
        refine wpAnyH_take (i := 9) (oi := _) (v := .int .i64 (cuC s a sp)) rfl (by kernel_rfl) (by kernel_rfl) (by kernel_rfl) (fun _ _ _ h => h) (Or.inl ⟨by rfl, by intro w hSw; go_simp⟩) hHeld ?_
        change wpAnyH _ _ _ _ _ _ _ (Act.put _ (some 34) _) _
        simp only [Act.put, List.setIfInBounds_toArray, List.set_cons_zero, List.set_cons_succ]
        refine wpAnyH_ready (rs := [10]) (by kernel_rfl) (by simp) ?_
        refine AllReadyH.cons (o := _) rfl (fun K hK => ?_) AllReadyH.nil
        go_simp
        refine hK.out _ _ (hHeld.below (al_d _ _)) (fun hHeld1 => ?_)
        clear hK K hHeld
        have hHeld := hHeld1
        clear hHeld1
        have hal := al_d V3 (.cells #[.int .i64 0, .slice none 0 0, .slice none 0 0] 37)
        have HC := hide ((HC2.out.below hb3).below hal)
        have HG := hide (b3_new V3 (.int .i64 0) (.slice none 0 0) (.slice none 0 0) 37)
        have HLT : Hid (w.heap.size + 2 ≤ V3.heap.size) := hide (Nat.le_trans HC2.out.sz hb3.size)
        have HDn : Hid (Dd (V3.alloc (.cells #[.int .i64 0, .slice none 0 0, .slice none 0 0] 37)) (fun k => Pn P w.heap.size (w.heap.size + 2) k ∧ k ≠ V3.heap.size) (.agg #[.int .i64 s.room, .slice c1 o1 q1, .slice c2 o2 q2]) (cuB s a sp)) := hide ((hd3.pnC HC2.out.sz).keep (fun k p hk => ⟨p, by omega⟩) (fun k _ hk => hal.block k hk))
        clear hal
        generalize V3.alloc (.cells #[.int .i64 0, .slice none 0 0, .slice none 0 0] 37) = V9 at HC HG HDn hHeld ⊢
        generalize V3.heap.size = gB at HG HLT HDn ⊢
        refine wpAnyH_ready (rs := [11]) (by kernel_rfl) (by simp) ?_
        refine AllReadyH.cons (o := _) rfl (fun K hK => ?_) AllReadyH.nil
        have e0 := HG.out.c0
        have e1 := HG.out.c1
        have e2 := HG.out.c2
        have f0 := HG.out.fz 0
        have f1 := HG.out.fz 1
        have f2 := HG.out.fz 2
        go_simp
        clear e0 e1 e2 f0 f1 f2
        refine hK.out _ _ (hHeld.keepB (set3_heap (by have h1 := HLT.out; omega) _ _ _)) (fun hHeld1 => ?_)
        clear hK K hHeld
        have hHeld := hHeld1
        clear hHeld1
        refine wpAnyH_take (i := 12) (oi := _) (v := .int .i64 (cuC s a sp)) rfl (by kernel_rfl) (by kernel_rfl) (by kernel_rfl) (fun _ _ _ h => h) (Or.inl ⟨by rfl, by intro w hSw; go_simp⟩) hHeld ?_
        change wpAnyH _ _ _ _ _ _ _ (Act.put _ (some 7) _) _
        simp only [Act.put, List.setIfInBounds_toArray, List.set_cons_zero, List.set_cons_succ]
        refine wpAnyH_done (by kernel_rfl) ?_ _
        clear hHeld
        go_wp2_with fail
        go_meet
        exact ⟨gB, c1, c2, o1, q1, o2, q2, rfl, rfl, ⟨HC.out.keep (fun k hk => set3_heap (by have h1 := HLT.out; omega) _ _ _) (set3_below HC.out.be (by have h1 := HLT.out; omega) _ _ _) (by simp), HG.out.all _ _ _, HDn.out.keep (fun k p _ => p.1) (fun k p _ => set3_heap p.2 _ _ _), HLT.out⟩⟩
      · go_simp
        refine hK.out _ _ (hHeld.below (al_d _ _)) (fun hHeld1 => ?_)
        clear hK K hHeld
        have hHeld := hHeld1
        clear hHeld1
        have hal := al_d V2 (.cells #[.int .i64 0, .slice none 0 0, .slice none 0 0] 37)
        have HC5 := hide (HC2.out.below hal)
        have HG5 := hide (b3_new V2 (.int .i64 0) (.slice none 0 0) (.slice none 0 0) 37)
        have HLT : Hid (w.heap.size + 2 ≤ V2.heap.size) := hide HC2.out.sz
        have HD5 : Hid (Dd (V2.alloc (.cells #[.int .i64 0, .slice none 0 0, .slice none 0 0] 37)) (fun k => Pn P w.heap.size (w.heap.size + 2) k ∧ k ≠ V2.heap.size) (.agg #[.int .i64 s.room, .slice a1 n1 k1, .slice a2 n2 k2]) s) := hide (HD2.out.keep (fun k p hk => ⟨p, by omega⟩) (fun k _ hk => hal.block k hk))
        have HSF5 := hide (HSF2.out.below hal)
        clear hal
        generalize V2.alloc (.cells #[.int .i64 0, .slice none 0 0, .slice none 0 0] 37) = V5 at HC5 HG5 HD5 HSF5 hHeld ⊢
        generalize V2.heap.size = gB at HG5 HLT HD5 ⊢
        refine wpAnyH_ready (rs := [6]) (by kernel_rfl) (by simp) ?_
        refine AllReadyH.cons (o := _) rfl (fun K hK => ?_) AllReadyH.nil
        go_simp
        go_at_call 26
        refine (rputA_any _ a _ (blkOf sp true []) s _ HD5.out HAS.out HSF5.out HBB.out (by omega)).mono ?_
        rintro e V6 ⟨v6, rfl, hd6, hb6⟩
        change Dd _ _ _ (cuB s a sp) at hd6
        rw [show wrC s a (blkOf sp true []) = cuC s a sp from rfl]
        obtain ⟨c1, o1, q1, c2, o2, q2, rfl⟩ := hd6.form9
        rw [HRM.out] at hd6 ⊢
        go_wp2_with fail
        refine hK.out _ _ (hHeld.below hb6) (fun hHeld1 => ?_)
        clear hK K hHeld
        have hHeld := hHeld1
        clear hHeld1
        refine wpAnyH_take (i := 7) (oi := _) (v := .tuple #[.agg #[.int .i64 s.room, .slice c1 o1 q1, .slice c2 o2 q2], .int .i64 (cuC s a sp)]) rfl (by kernel_rfl) (by kernel_rfl) (by kernel_rfl) (fun _ _ _ h => h) (Or.inl ⟨by rfl, by intro w hSw; go_simp⟩) hHeld ?_
        change wpAnyH _ _ _ _ _ _ _ (Act.put _ (some 25) _) _
        simp only [Act.put, List.setIfInBounds_toArray, List.set_cons_zero, List.set_cons_succ]
        refine wpAnyH_take (i := 8) (oi := _) (v := .agg #[.int .i64 s.room, .slice c1 o1 q1, .slice c2 o2 q2]) rfl (by kernel_rfl) (by kernel_rfl) (by kernel_rfl) (fun _ _ _ h => h) (Or.inl ⟨by rfl, by intro w hSw; go_simp⟩) hHeld ?_
        change wpAnyH _ _ _ _ _ _ _ (Act.put _ (some 33) _) _
        simp only [Act.put, List.setIfInBounds_toArray, List.set_cons_zero, List.set_cons_succ]
        refine wpAnyH_take (i := 9) (oi := _) (v := .int .i64 (cuC s a sp)) rfl (by kernel_rfl) (by kernel_rfl) (by kernel_rfl) (fun _ _ _ h => h) (Or.inl ⟨by rfl, by intro w hSw; go_simp⟩) hHeld ?_
        change wpAnyH _ _ _ _ _ _ _ (Act.put _ (some 34) _) _
        simp only [Act.put, List.setIfInBounds_toArray, List.set_cons_zero, List.set_cons_succ]
        have HC := hide (HC5.out.below hb6)
        have HG := hide (HG5.out.below hb6)
        have HDn : Hid (Dd V6 (fun k => Pn P w.heap.size (w.heap.size + 2) k ∧ k ≠ gB) (.agg #[.int .i64 s.room, .slice c1 o1 q1, .slice c2 o2 q2]) (cuB s a sp)) := hide (hd6.keep (fun k p hk => p.elim id (fun e => ⟨.inr (by have h1 := HC5.out.sz; omega), by have h1 := HG5.out.lt9; omega⟩)) (fun _ _ _ => rfl))
        refine wpAnyH_ready (rs := [11]) (by kernel_rfl) (by simp) ?_
        refine AllReadyH.cons (o := _) rfl (fun K hK => ?_) AllReadyH.nil
        have e0 := HG.out.c0
        have e1 := HG.out.c1
        have e2 := HG.out.c2
        have f0 := HG.out.fz 0
        have f1 := HG.out.fz 1
        have f2 := HG.out.fz 2
        go_simp
        clear e0 e1 e2 f0 f1 f2
        refine hK.out _ _ (hHeld.keepB (set3_heap (by have h1 := HLT.out; omega) _ _ _)) (fun hHeld1 => ?_)
        clear hK K hHeld
        have hHeld := hHeld1
        clear hHeld1
        refine wpAnyH_take (i := 12) (oi := _) (v := .int .i64 (cuC s a sp)) rfl (by kernel_rfl) (by kernel_rfl) (by kernel_rfl) (fun _ _ _ h => h) (Or.inl ⟨by rfl, by intro w hSw; go_simp⟩) hHeld ?_
        change wpAnyH _ _ _ _ _ _ _ (Act.put _ (some 7) _) _
        simp only [Act.put, List.setIfInBounds_toArray, List.set_cons_zero, List.set_cons_succ]
        refine wpAnyH_done (by kernel_rfl) ?_ _
        clear hHeld
        go_wp2_with fail
        go_meet
        exact ⟨gB, c1, c2, o1, q1, o2, q2, rfl, rfl, ⟨HC.out.keep (fun k hk => set3_heap (by have h1 := HLT.out; omega) _ _ _) (set3_below HC.out.be (by have h1 := HLT.out; omega) _ _ _) (by simp), HG.out.all _ _ _, HDn.out.keep (fun k p _ => p.1) (fun k p _ => set3_heap p.2 _ _ _), HLT.out⟩⟩
    · go_simp
      refine hK.out _ _ (hHeld.below (al_d _ _)) (fun hHeld1 => ?_)
      clear hK K hHeld
      have hHeld := hHeld1
      clear hHeld1
      have hal := al_d V1 (.cells #[.int .i64 0, .slice none 0 0, .slice none 0 0] 37)
      have HC5 := hide (HC1.out.below hal)
      have HG5 := hide (b3_new V1 (.int .i64 0) (.slice none 0 0) (.slice none 0 0) 37)
      have HLT : Hid (w.heap.size + 2 ≤ V1.heap.size) := hide HC1.out.sz
      have HD5 : Hid (Dd (V1.alloc (.cells #[.int .i64 0, .slice none 0 0, .slice none 0 0] 37)) (fun k => Pn P w.heap.size (w.heap.size + 2) k ∧ k ≠ V1.heap.size) (.agg #[.int .i64 s.room, .slice a1 n1 k1, .slice a2 n2 k2]) s) := hide (HD1.out.keep (fun k p hk => ⟨p, by omega⟩) (fun k _ hk => hal.block k hk))
      clear hal
      generalize V1.alloc (.cells #[.int .i64 0, .slice none 0 0, .slice none 0 0] 37) = V5 at HC5 HG5 HD5 hHeld ⊢
      generalize V1.heap.size = gB at HG5 HLT HD5 ⊢
      refine wpAnyH_ready (rs := [5]) (by kernel_rfl) (by simp) ?_
      refine AllReadyH.cons (o := _) rfl (fun K hK => ?_) AllReadyH.nil
      go_simp
      go_at_call 43
      refine (fill_z sp _ hs.1 (by omega)).mono ?_
      rintro e V7 ⟨x7, rfl, hs7, hb7⟩
      obtain ⟨ea, ek, rfl⟩ := hs7.form
      rw [blkOf_len] at hs7 ⊢
      go_wp2_with fail
      refine hK.out _ _ (hHeld.below hb7) (fun hHeld1 => ?_)
      clear hK K hHeld
      have hHeld := hHeld1
      clear hHeld1
      have HC7 := hide (HC5.out.below hb7)
      have HD7 := hide (HD5.out.below hb7)
      have HSF7 := hide hs7
      have HG7 := hide (HG5.out.below hb7)
      clear hb7 hs7 HC5 HD5 HG5
      have HC5 := HC7
      have HD5 := HD7
      have HG5 := HG7
      clear HC7 HD7 HG7
      refine wpAnyH_ready (rs := [6]) (by kernel_rfl) (by simp) ?_
      refine AllReadyH.cons (o := _) rfl (fun K hK => ?_) AllReadyH.nil
      go_simp
      go_at_call 26
      refine (rputA_any _ a _ (blkOf sp true []) s _ HD5.out HAS.out HSF7.out HBB.out (by omega)).mono ?_
      rintro e V8 ⟨v8, rfl, hd8, hb8⟩
      change Dd _ _ _ (cuB s a sp) at hd8
      rw [show wrC s a (blkOf sp true []) = cuC s a sp from rfl]
      obtain ⟨c1, o1, q1, c2, o2, q2, rfl⟩ := hd8.form9
      rw [HRM.out] at hd8 ⊢
      go_wp2_with fail
      refine hK.out _ _ (hHeld.below hb8) (fun hHeld1 => ?_)
      clear hK K hHeld
      have hHeld := hHeld1
      clear hHeld1
      refine wpAnyH_take (i := 7) (oi := _) (v := .tuple #[.agg #[.int .i64 s.room, .slice c1 o1 q1, .slice c2 o2 q2], .int .i64 (cuC s a sp)]) rfl (by kernel_rfl) (by kernel_rfl) (by kernel_rfl) (fun _ _ _ h => h) (Or.inl ⟨by rfl, by intro w hSw; go_simp⟩) hHeld ?_
      change wpAnyH _ _ _ _ _ _ _ (Act.put _ (some 25) _) _
      simp only [Act.put, List.setIfInBounds_toArray, List.set_cons_zero, List.set_cons_succ]
      refine wpAnyH_take (i := 8) (oi := _) (v := .agg #[.int .i64 s.room, .slice c1 o1 q1, .slice c2 o2 q2]) rfl (by kernel_rfl) (by kernel_rfl) (by kernel_rfl) (fun _ _ _ h => h) (Or.inl ⟨by rfl, by intro w hSw; go_simp⟩) hHeld ?_
      change wpAnyH _ _ _ _ _ _ _ (Act.put _ (some 33) _) _
      simp only [Act.put, List.setIfInBounds_toArray, List.set_cons_zero, List.set_cons_succ]
      refine wpAnyH_take (i := 9) (oi := _) (v := .int .i64 (cuC s a sp)) rfl (by kernel_rfl) (by kernel_rfl) (by kernel_rfl) (fun _ _ _ h => h) (Or.inl ⟨by rfl, by intro w hSw; go_simp⟩) hHeld ?_
      change wpAnyH _ _ _ _ _ _ _ (Act.put _ (some 34) _) _
      simp only [Act.put, List.setIfInBounds_toArray, List.set_cons_zero, List.set_cons_succ]
      have HC := hide (HC5.out.below hb8)
      have HG := hide (HG5.out.below hb8)
      have HDn : Hid (Dd V8 (fun k => Pn P w.heap.size (w.heap.size + 2) k ∧ k ≠ gB) (.agg #[.int .i64 s.room, .slice c1 o1 q1, .slice c2 o2 q2]) (cuB s a sp)) := hide (hd8.keep (fun k p hk => p.elim id (fun e => ⟨.inr (by have h1 := HC5.out.sz; omega), by have h1 := HG5.out.lt9; omega⟩)) (fun _ _ _ => rfl))
      refine wpAnyH_ready (rs := [11]) (by kernel_rfl) (by simp) ?_
      refine AllReadyH.cons (o := _) rfl (fun K hK => ?_) AllReadyH.nil
      have e0 := HG.out.c0
      have e1 := HG.out.c1
      have e2 := HG.out.c2
      have f0 := HG.out.fz 0
      have f1 := HG.out.fz 1
      have f2 := HG.out.fz 2
      go_simp
      clear e0 e1 e2 f0 f1 f2
      refine hK.out _ _ (hHeld.keepB (set3_heap (by have h1 := HLT.out; omega) _ _ _)) (fun hHeld1 => ?_)
      clear hK K hHeld
      have hHeld := hHeld1
      clear hHeld1
      refine wpAnyH_take (i := 12) (oi := _) (v := .int .i64 (cuC s a sp)) rfl (by kernel_rfl) (by kernel_rfl) (by kernel_rfl) (fun _ _ _ h => h) (Or.inl ⟨by rfl, by intro w hSw; go_simp⟩) hHeld ?_
      change wpAnyH _ _ _ _ _ _ _ (Act.put _ (some 7) _) _
      simp only [Act.put, List.setIfInBounds_toArray, List.set_cons_zero, List.set_cons_succ]
      refine wpAnyH_done (by kernel_rfl) ?_ _
      clear hHeld
      go_wp2_with fail
      go_meet
      exact ⟨gB, c1, c2, o1, q1, o2, q2, rfl, rfl, ⟨HC.out.keep (fun k hk => set3_heap (by have h1 := HLT.out; omega) _ _ _) (set3_below HC.out.be (by have h1 := HLT.out; omega) _ _ _) (by simp), HG.out.all _ _ _, HDn.out.keep (fun k p _ => p.1) (fun k p _ => set3_heap p.2 _ _ _), HLT.out⟩⟩
  case rest =>
    obtain ⟨gB, c1, c2, o1, q1, o2, q2, rfl, rfl, hub⟩ := hcut
    have HU := hide hub
    clear hub HCB HD
    rw [HCC.out]
    have HWL : Hid ((cuB s a sp).lo.length ≤ s.lo.length + 1 ∧ (cuB s a sp).cs = s.cs) := hide (wr_lo s a _)
    go_upto_region 8 with fail
    go_cut [8] (fun p W => ∃ (g : Nat) (b1 b2 : Option Addr) (m1 j1 m2 j2 : Nat), p = .pointer (some ⟨g, 0, none⟩) ∧ Cb w W [.int .i64 s.room, .slice a1 n1 k1, .slice a2 n2 k2, .int .i64 base, .int .i64 nx, .int .i64 sp] ∧ B6 W g [.int .i64 s.room, .slice b1 m1 j1, .slice b2 m2 j2, .int .i64 base, .int .i64 (a + 1), .int .i64 (sp + 1)] ∧ Dd W (Pn P w.heap.size (w.heap.size + 2)) (.agg #[.int .i64 s.room, .slice b1 m1 j1, .slice b2 m2 j2]) (frN (cuB s a sp) (trL (a + 1) m)) ∧ w.heap.size + 2 ≤ g)
    case first =>
      have hdw : Below wc.heap.size wc wc.drew := (Below.refl _ _).drew
      refine wp_region_held_drew (S := fun W => B6 W w.heap.size [.int .i64 s.room, .slice a1 n1 k1, .slice a2 n2 k2, .int .i64 base, .int .i64 nx, .int .i64 sp] ∧ B3 W gB (.int .i64 s.room) (.slice c1 o1 q1) (.slice c2 o2 q2)) (by kernel_rfl) ⟨HU.out.c.x.below hdw, HU.out.o.below hdw⟩ (fun hHeld => ?_)
      have HU1 := hide (HU.out.below hdw)
      generalize wc.drew = V1 at HU1 hHeld ⊢
      clear hdw HU
      have hwa : IntKind.i64.wrap (a + 1) = a + 1 := by rw [IntKind.wrap_i64]; have := HM.out; omega
      have hws : IntKind.i64.wrap (sp + 1) = sp + 1 := by rw [IntKind.wrap_i64]; omega
      refine wpAnyH_take (i := 0) (oi := _) (v := .agg #[.int .i64 s.room, .slice c1 o1 q1, .slice c2 o2 q2]) rfl (by kernel_rfl) (by kernel_rfl) (by kernel_rfl) (fun _ _ _ h => h) (Or.inl ⟨by rfl, by intro w hSw; have h0 := hSw.2.c0; have h1 := hSw.2.c1; have h2 := hSw.2.c2; go_simp⟩) hHeld ?_
      change wpAnyH _ _ _ _ _ _ _ (Act.put _ (some 39) _) _
      simp only [Act.put, List.setIfInBounds_toArray, List.set_cons_zero, List.set_cons_succ]
      refine wpAnyH_take (i := 1) (oi := _) (v := .int .i64 a) rfl (by kernel_rfl) (by kernel_rfl) (by kernel_rfl) (fun _ _ _ h => h) (Or.inl ⟨by rfl, by intro w hSw; go_simp⟩) hHeld ?_
      change wpAnyH _ _ _ _ _ _ _ (Act.put _ (some 40) _) _
      simp only [Act.put, List.setIfInBounds_toArray, List.set_cons_zero, List.set_cons_succ]
      refine wpAnyH_take (i := 2) (oi := _) (v := .int .i64 (a + 1)) rfl (by kernel_rfl) (by kernel_rfl) (by kernel_rfl) (fun _ _ _ h => h) (Or.inl ⟨by rfl, by intro w hSw; go_simp⟩) hHeld ?_
      change wpAnyH _ _ _ _ _ _ _ (Act.put _ (some 41) _) _
      simp only [Act.put, List.setIfInBounds_toArray, List.set_cons_zero, List.set_cons_succ]
      refine wpAnyH_take (i := 3) (oi := _) (v := .pointer (some ⟨w.heap.size, 4, none⟩)) rfl (by kernel_rfl) (by kernel_rfl) (by kernel_rfl) (fun _ _ _ h => h) (Or.inl ⟨by rfl, by intro w hSw; go_simp⟩) hHeld ?_
      change wpAnyH _ _ _ _ _ _ _ (Act.put _ (some 42) _) _
      simp only [Act.put, List.setIfInBounds_toArray, List.set_cons_zero, List.set_cons_succ]
      refine wpAnyH_take (i := 4) (oi := _) (v := .int .i64 nx) rfl (by kernel_rfl) (by kernel_rfl) (by kernel_rfl) (fun _ _ _ h => h) (Or.inl ⟨by rfl, by intro w hSw; have h4 := hSw.1.at (i := 4) (by simp); simp only [List.getElem_cons_zero, List.getElem_cons_succ] at h4; go_simp⟩) hHeld ?_
      change wpAnyH _ _ _ _ _ _ _ (Act.put _ (some 43) _) _
      simp only [Act.put, List.setIfInBounds_toArray, List.set_cons_zero, List.set_cons_succ]
      refine wpAnyH_take (i := 6) (oi := _) (v := .pointer (some ⟨w.heap.size, 3, none⟩)) rfl (by kernel_rfl) (by kernel_rfl) (by kernel_rfl) (fun _ _ _ h => h) (Or.inl ⟨by rfl, by intro w hSw; go_simp⟩) hHeld ?_
      change wpAnyH _ _ _ _ _ _ _ (Act.put _ (some 45) _) _
      simp only [Act.put, List.setIfInBounds_toArray, List.set_cons_zero, List.set_cons_succ]
      refine wpAnyH_take (i := 7) (oi := _) (v := .int .i64 base) rfl (by kernel_rfl) (by kernel_rfl) (by kernel_rfl) (fun _ _ _ h => h) (Or.inl ⟨by rfl, by intro w hSw; have h3 := hSw.1.at (i := 3) (by simp); simp only [List.getElem_cons_zero, List.getElem_cons_succ] at h3; go_simp⟩) hHeld ?_
      change wpAnyH _ _ _ _ _ _ _ (Act.put _ (some 46) _) _
      simp only [Act.put, List.setIfInBounds_toArray, List.set_cons_zero, List.set_cons_succ]
      refine wpAnyH_take (i := 8) (oi := _) (v := .int .i64 a) rfl (by kernel_rfl) (by kernel_rfl) (by kernel_rfl) (fun _ _ _ h => h) (Or.inl ⟨by rfl, by intro w hSw; go_simp⟩) hHeld ?_
      change wpAnyH _ _ _ _ _ _ _ (Act.put _ (some 47) _) _
      simp only [Act.put, List.setIfInBounds_toArray, List.set_cons_zero, List.set_cons_succ]
      refine wpAnyH_take (i := 9) (oi := _) (v := .int .i64 (a + 1)) rfl (by kernel_rfl) (by kernel_rfl) (by kernel_rfl) (fun _ _ _ h => h) (Or.inl ⟨by rfl, by intro w hSw; go_simp⟩) hHeld ?_
      change wpAnyH _ _ _ _ _ _ _ (Act.put _ (some 48) _) _
      simp only [Act.put, List.setIfInBounds_toArray, List.set_cons_zero, List.set_cons_succ]
      refine wpAnyH_take (i := 10) (oi := _) (v := .pointer (some ⟨w.heap.size, 5, none⟩)) rfl (by kernel_rfl) (by kernel_rfl) (by kernel_rfl) (fun _ _ _ h => h) (Or.inl ⟨by rfl, by intro w hSw; go_simp⟩) hHeld ?_
      change wpAnyH _ _ _ _ _ _ _ (Act.put _ (some 49) _) _
      simp only [Act.put, List.setIfInBounds_toArray, List.set_cons_zero, List.set_cons_succ]
      refine wpAnyH_take (i := 11) (oi := _) (v := .int .i64 sp) rfl (by kernel_rfl) (by kernel_rfl) (by kernel_rfl) (fun _ _ _ h => h) (Or.inl ⟨by rfl, by intro w hSw; have h5 := hSw.1.at (i := 5) (by simp); simp only [List.getElem_cons_zero, List.getElem_cons_succ] at h5; go_simp⟩) hHeld ?_
      change wpAnyH _ _ _ _ _ _ _ (Act.put _ (some 50) _) _
      simp only [Act.put, List.setIfInBounds_toArray, List.set_cons_zero, List.set_cons_succ]
      refine wpAnyH_take (i := 12) (oi := _) (v := .int .i64 (sp + 1)) rfl (by kernel_rfl) (by kernel_rfl) (by kernel_rfl) (fun _ _ _ h => h) (Or.inl ⟨by rfl, by intro w hSw; go_simp⟩) hHeld ?_
      change wpAnyH _ _ _ _ _ _ _ (Act.put _ (some 51) _) _
      simp only [Act.put, List.setIfInBounds_toArray, List.set_cons_zero, List.set_cons_succ]
      refine wpAnyH_ready (rs := [5, 14]) (by kernel_rfl) (by simp) ?_
      refine AllReadyH.cons (o := _) rfl (fun K hK => ?_) (AllReadyH.cons (o := _) rfl (fun K hK => ?_) AllReadyH.nil)
      · go_simp
        go_at_call 45
        refine (rfreeR _ _ _ _ _ _ (cuB s a sp) s.room (a + 1) nx m _ HRM.out HU1.out.d (by omega) HM.out (by omega) (by have := HWL.out; omega)).mono ?_
        rintro e V3 ⟨b1, b2, m1, j1, m2, j2, rfl, hd3, hb3⟩
        go_wp2_with fail
        refine hK.out _ _ ⟨hHeld.1.below hb3, hHeld.2.below hb3⟩ (fun hHeld1 => ?_)
        clear hK K hHeld
        have hHeld := hHeld1
        clear hHeld1
        refine wpAnyH_take (i := 13) (oi := _) (v := .agg #[.int .i64 s.room, .slice b1 m1 j1, .slice b2 m2 j2, .int .i64 base, .int .i64 (a + 1), .int .i64 (sp + 1)]) rfl (by kernel_rfl) (by kernel_rfl) (by kernel_rfl) (fun _ _ _ h => h) (Or.inl ⟨by rfl, by intro w hSw; go_simp⟩) hHeld ?_
        change wpAnyH _ _ _ _ _ _ _ (Act.put _ (some 52) _) _
        simp only [Act.put, List.setIfInBounds_toArray, List.set_cons_zero, List.set_cons_succ]
        refine wpAnyH_ready (rs := [14]) (by kernel_rfl) (by simp) ?_
        refine AllReadyH.cons (o := _) rfl (fun K hK => ?_) AllReadyH.nil
        go_simp
        refine hK.out _ _ ⟨hHeld.1.below (al_d _ _), hHeld.2.below (al_d _ _)⟩ (fun hHeld1 => ?_)
        clear hK K hHeld
        have hHeld := hHeld1
        clear hHeld1
        have hal := al_d V3 (.cells #[.int .i64 0, .slice none 0 0, .slice none 0 0, .int .i64 0, .int .i64 0, .int .i64 0] 39)
        have HC := hide ((HU1.out.c.below hb3).below hal)
        have HG := hide (B6.new V3 (.int .i64 0) (.slice none 0 0) (.slice none 0 0) (.int .i64 0) (.int .i64 0) (.int .i64 0) 39)
        have HLG : Hid (w.heap.size + 2 ≤ V3.heap.size) := hide (Nat.le_trans HU1.out.c.sz hb3.size)
        have HGN : Hid (gB ≠ V3.heap.size) := hide (by have h1 := HU1.out.o.lt9; have h2 := hb3.size; omega)
        have HDn : Hid (Dd (V3.alloc (.cells #[.int .i64 0, .slice none 0 0, .slice none 0 0, .int .i64 0, .int .i64 0, .int .i64 0] 39)) (fun k => Pn P w.heap.size (w.heap.size + 2) k ∧ k ≠ V3.heap.size) (.agg #[.int .i64 s.room, .slice b1 m1 j1, .slice b2 m2 j2]) (frN (cuB s a sp) (trL (a + 1) m))) := hide ((hd3.pnC HU1.out.c.sz).keep (fun k p hk => ⟨p, by omega⟩) (fun k _ hk => hal.block k hk))
        clear hal
        generalize V3.alloc (.cells #[.int .i64 0, .slice none 0 0, .slice none 0 0, .int .i64 0, .int .i64 0, .int .i64 0] 39) = V9 at HC HG HDn hHeld ⊢
        generalize V3.heap.size = g at HG HLG HGN HDn ⊢
        refine wpAnyH_ready (rs := [15]) (by kernel_rfl) (by simp) ?_
        refine AllReadyH.cons (o := _) rfl (fun K hK => ?_) AllReadyH.nil
        have z0 := HG.out.at (i := 0) (by simp)
        have z1 := HG.out.at (i := 1) (by simp)
        have z2 := HG.out.at (i := 2) (by simp)
        have z3 := HG.out.at (i := 3) (by simp)
        have z4 := HG.out.at (i := 4) (by simp)
        have z5 := HG.out.at (i := 5) (by simp)
        simp only [List.getElem_cons_zero, List.getElem_cons_succ] at z0 z1 z2 z3 z4 z5
        have f0 := HG.out.fz 0
        have f1 := HG.out.fz 1
        have f2 := HG.out.fz 2
        have f3 := HG.out.fz 3
        have f4 := HG.out.fz 4
        have f5 := HG.out.fz 5
        have HK : Hid (∀ k, k ≠ g → (s6 V9 g (.int .i64 s.room) (.slice b1 m1 j1) (.slice b2 m2 j2) (.int .i64 base) (.int .i64 (a + 1)) (.int .i64 (sp + 1))).heap[k]? = V9.heap[k]?) := hide (fun k hk => s6_heap hk _ _ _ _ _ _)
        have HPT := hide (HG.out.put (.int .i64 s.room) (.slice b1 m1 j1) (.slice b2 m2 j2) (.int .i64 base) (.int .i64 (a + 1)) (.int .i64 (sp + 1)))
        have HCN : Hid (Cb w (s6 V9 g (.int .i64 s.room) (.slice b1 m1 j1) (.slice b2 m2 j2) (.int .i64 base) (.int .i64 (a + 1)) (.int .i64 (sp + 1))) [.int .i64 s.room, .slice a1 n1 k1, .slice a2 n2 k2, .int .i64 base, .int .i64 nx, .int .i64 sp]) := hide (HC.out.keep (fun k hk => HK.out k (by have h1 := HLG.out; omega)) (s6_below HC.out.be (by have h1 := HLG.out; omega) _ _ _ _ _ _) (by simp [s6]))
        have HDN : Hid (Dd (s6 V9 g (.int .i64 s.room) (.slice b1 m1 j1) (.slice b2 m2 j2) (.int .i64 base) (.int .i64 (a + 1)) (.int .i64 (sp + 1))) (Pn P w.heap.size (w.heap.size + 2)) (.agg #[.int .i64 s.room, .slice b1 m1 j1, .slice b2 m2 j2]) (frN (cuB s a sp) (trL (a + 1) m))) := hide (HDn.out.keep (fun k p _ => p.1) (fun k p _ => HK.out k p.2))
        go_simp
        clear z0 z1 z2 z3 z4 z5 f0 f1 f2 f3 f4 f5
        refine hK.out _ _ ⟨hHeld.1.keepB (HK.out w.heap.size (by have h1 := HLG.out; omega)), hHeld.2.keepB (HK.out gB HGN.out)⟩ (fun hHeld1 => ?_)
        clear hK K hHeld
        have hHeld := hHeld1
        clear hHeld1
        refine wpAnyH_done (by kernel_rfl) ?_ _
        clear hHeld
        go_wp2_with fail
        go_meet
        exact ⟨g, b1, b2, m1, j1, m2, j2, rfl, HCN.out, HPT.out, HDN.out, HLG.out⟩
      · go_simp
        refine hK.out _ _ ⟨hHeld.1.below (al_d _ _), hHeld.2.below (al_d _ _)⟩ (fun hHeld1 => ?_)
        clear hK K hHeld
        have hHeld := hHeld1
        clear hHeld1
        have hal := al_d V1 (.cells #[.int .i64 0, .slice none 0 0, .slice none 0 0, .int .i64 0, .int .i64 0, .int .i64 0] 39)
        have HC5 := hide (HU1.out.c.below hal)
        have HG5 := hide (B6.new V1 (.int .i64 0) (.slice none 0 0) (.slice none 0 0) (.int .i64 0) (.int .i64 0) (.int .i64 0) 39)
        have HLG : Hid (w.heap.size + 2 ≤ V1.heap.size) := hide HU1.out.c.sz
        have HGN : Hid (gB ≠ V1.heap.size) := hide (by have h1 := HU1.out.o.lt9; omega)
        have HD5 : Hid (Dd (V1.alloc (.cells #[.int .i64 0, .slice none 0 0, .slice none 0 0, .int .i64 0, .int .i64 0, .int .i64 0] 39)) (fun k => Pn P w.heap.size (w.heap.size + 2) k ∧ k ≠ V1.heap.size) (.agg #[.int .i64 s.room, .slice c1 o1 q1, .slice c2 o2 q2]) (cuB s a sp)) := hide (HU1.out.d.keep (fun k p hk => ⟨p, by omega⟩) (fun k _ hk => hal.block k hk))
        clear hal
        generalize V1.alloc (.cells #[.int .i64 0, .slice none 0 0, .slice none 0 0, .int .i64 0, .int .i64 0, .int .i64 0] 39) = V5 at HC5 HG5 HD5 hHeld ⊢
        generalize V1.heap.size = g at HG5 HLG HGN HD5 ⊢
        refine wpAnyH_ready (rs := [5]) (by kernel_rfl) (by simp) ?_
        refine AllReadyH.cons (o := _) rfl (fun K hK => ?_) AllReadyH.nil
        go_simp
        go_at_call 45
        refine (rfreeR _ _ _ _ _ _ (cuB s a sp) s.room (a + 1) nx m _ HRM.out HD5.out (by omega) HM.out (by omega) (by have := HWL.out; omega)).mono ?_
        rintro e V9 ⟨b1, b2, m1, j1, m2, j2, rfl, hd9, hb9⟩
        go_wp2_with fail
        refine hK.out _ _ ⟨hHeld.1.below hb9, hHeld.2.below hb9⟩ (fun hHeld1 => ?_)
        clear hK K hHeld
        have hHeld := hHeld1
        clear hHeld1
        refine wpAnyH_take (i := 13) (oi := _) (v := .agg #[.int .i64 s.room, .slice b1 m1 j1, .slice b2 m2 j2, .int .i64 base, .int .i64 (a + 1), .int .i64 (sp + 1)]) rfl (by kernel_rfl) (by kernel_rfl) (by kernel_rfl) (fun _ _ _ h => h) (Or.inl ⟨by rfl, by intro w hSw; go_simp⟩) hHeld ?_
        change wpAnyH _ _ _ _ _ _ _ (Act.put _ (some 52) _) _
        simp only [Act.put, List.setIfInBounds_toArray, List.set_cons_zero, List.set_cons_succ]
        have HC := hide (HC5.out.below hb9)
        have HG := hide (HG5.out.below hb9)
        have HDn : Hid (Dd V9 (fun k => Pn P w.heap.size (w.heap.size + 2) k ∧ k ≠ g) (.agg #[.int .i64 s.room, .slice b1 m1 j1, .slice b2 m2 j2]) (frN (cuB s a sp) (trL (a + 1) m))) := hide (hd9.keep (fun k p hk => p.elim id (fun e => ⟨.inr (by have h1 := HC5.out.sz; omega), by have h1 := HG5.out.lt; omega⟩)) (fun _ _ _ => rfl))
        refine wpAnyH_ready (rs := [15]) (by kernel_rfl) (by simp) ?_
        refine AllReadyH.cons (o := _) rfl (fun K hK => ?_) AllReadyH.nil
        have z0 := HG.out.at (i := 0) (by simp)
        have z1 := HG.out.at (i := 1) (by simp)
        have z2 := HG.out.at (i := 2) (by simp)
        have z3 := HG.out.at (i := 3) (by simp)
        have z4 := HG.out.at (i := 4) (by simp)
        have z5 := HG.out.at (i := 5) (by simp)
        simp only [List.getElem_cons_zero, List.getElem_cons_succ] at z0 z1 z2 z3 z4 z5
        have f0 := HG.out.fz 0
        have f1 := HG.out.fz 1
        have f2 := HG.out.fz 2
        have f3 := HG.out.fz 3
        have f4 := HG.out.fz 4
        have f5 := HG.out.fz 5
        have HK : Hid (∀ k, k ≠ g → (s6 V9 g (.int .i64 s.room) (.slice b1 m1 j1) (.slice b2 m2 j2) (.int .i64 base) (.int .i64 (a + 1)) (.int .i64 (sp + 1))).heap[k]? = V9.heap[k]?) := hide (fun k hk => s6_heap hk _ _ _ _ _ _)
        have HPT := hide (HG.out.put (.int .i64 s.room) (.slice b1 m1 j1) (.slice b2 m2 j2) (.int .i64 base) (.int .i64 (a + 1)) (.int .i64 (sp + 1)))
        have HCN : Hid (Cb w (s6 V9 g (.int .i64 s.room) (.slice b1 m1 j1) (.slice b2 m2 j2) (.int .i64 base) (.int .i64 (a + 1)) (.int .i64 (sp + 1))) [.int .i64 s.room, .slice a1 n1 k1, .slice a2 n2 k2, .int .i64 base, .int .i64 nx, .int .i64 sp]) := hide (HC.out.keep (fun k hk => HK.out k (by have h1 := HLG.out; omega)) (s6_below HC.out.be (by have h1 := HLG.out; omega) _ _ _ _ _ _) (by simp [s6]))
        have HDN : Hid (Dd (s6 V9 g (.int .i64 s.room) (.slice b1 m1 j1) (.slice b2 m2 j2) (.int .i64 base) (.int .i64 (a + 1)) (.int .i64 (sp + 1))) (Pn P w.heap.size (w.heap.size + 2)) (.agg #[.int .i64 s.room, .slice b1 m1 j1, .slice b2 m2 j2]) (frN (cuB s a sp) (trL (a + 1) m))) := hide (HDn.out.keep (fun k p _ => p.1) (fun k p _ => HK.out k p.2))
        go_simp
        clear z0 z1 z2 z3 z4 z5 f0 f1 f2 f3 f4 f5
        refine hK.out _ _ ⟨hHeld.1.keepB (HK.out w.heap.size (by have h1 := HLG.out; omega)), hHeld.2.keepB (HK.out gB HGN.out)⟩ (fun hHeld1 => ?_)
        clear hK K hHeld
        have hHeld := hHeld1
        clear hHeld1
        refine wpAnyH_done (by kernel_rfl) ?_ _
        clear hHeld
        go_wp2_with fail
        go_meet
        exact ⟨g, b1, b2, m1, j1, m2, j2, rfl, HCN.out, HPT.out, HDN.out, HLG.out⟩
    case rest =>
      obtain ⟨g, b1, b2, m1, j1, m2, j2, rfl, hc9, hg9, hd9, hl9⟩ := hcut
      have HC9 := hide hc9
      have HG9 := hide hg9
      have HD9 := hide hd9
      clear hc9 hg9 hd9 hl9 HU
      have y0 := HG9.out.at (i := 0) (by simp)
      have y1 := HG9.out.at (i := 1) (by simp)
      have y2 := HG9.out.at (i := 2) (by simp)
      have y3 := HG9.out.at (i := 3) (by simp)
      have y4 := HG9.out.at (i := 4) (by simp)
      have y5 := HG9.out.at (i := 5) (by simp)
      simp only [List.getElem_cons_zero, List.getElem_cons_succ] at y0 y1 y2 y3 y4 y5
      have HAF : Hid (Asc (frN (cuB s a sp) (trL (a + 1) m)).cs ∧ (frN (cuB s a sp) (trL (a + 1) m)).cs.length + (frN (cuB s a sp) (trL (a + 1) m)).lo.length < 80000) := hide ⟨by show Asc (cuB s a sp).cs; rw [HWL.out.2]; exact HAS.out, by have h1 := HWL.out; simp only [frN, List.length_append, List.length_map, trL_len]; rw [h1.2]; omega⟩
      go_wp2_with (first | (go_at_call 14; refine (rsync9_r _ _ _ _ _ _ (frN (cuB s a sp) (trL (a + 1) m)) s.room base (a + 1) (sp + 1) _ HRM.out HD9.out HAF.out.1 HAF.out.2).mono ?_; rintro e W5 ⟨v5, rfl, hdc5, hb5⟩; obtain ⟨e1, e2, p1, r1, p2, r2, rfl, hd5⟩ := hdc5; have hrm5 : (syS (frN (cuB s a sp) (trL (a + 1) m))).room = s.room := HRM.out; rw [hrm5] at hd5 ⊢; have HD5 := hide (hd5.pnC HC9.out.sz); have HC5 := hide (HC9.out.below hb5); have HRM5 := hide hrm5; clear hd5 hb5 hrm5; have z0 := HC5.out.y.at (i := 0) (by simp); have z1 := HC5.out.y.at (i := 1) (by simp); have z2 := HC5.out.y.at (i := 2) (by simp); have z3 := HC5.out.y.at (i := 3) (by simp); have z4 := HC5.out.y.at (i := 4) (by simp); have z5 := HC5.out.y.at (i := 5) (by simp); simp only [List.getElem_cons_zero, List.getElem_cons_succ] at z0 z1 z2 z3 z4 z5; have f0 := HC5.out.y.fz 0; have f1 := HC5.out.y.fz 1; have f2 := HC5.out.y.fz 2; have f3 := HC5.out.y.fz 3; have f4 := HC5.out.y.fz 4; have f5 := HC5.out.y.fz 5; have HF := hide (HC5.out.y.all (.int .i64 s.room) (.slice e1 p1 r1) (.slice e2 p2 r2) (.int .i64 base) (.int .i64 (a + 1)) (.int .i64 (sp + 1)))))
      exact bodyPost_ret (v := .tuple #[.agg #[.int .i64 s.room, .slice e1 p1 r1, .slice e2 p2 r2, .int .i64 base, .int .i64 (a + 1), .int .i64 (sp + 1)], .int .i64 0]) (res_2 Tryz.results17 _ _ (w.heap.size + 1) [_, _, _, _, _, _] _ _ rfl rfl HF.out Tryz.underlying39 rfl infoHc) rfl ⟨_, rfl, ⟨e1, e2, p1, r1, p2, r2, by rw [HRM5.out], by rw [HRM5.out]; exact HD5.out.pnO (by omega) (fun k hk _ => s6_heap (by omega) _ _ _ _ _ _)⟩, s6_below HC5.out.be (by omega) _ _ _ _ _ _⟩
end Go.Proofs.YtoamghncncalgaaGreatDoor
