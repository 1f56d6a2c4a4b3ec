/-
  WHATEVER IS WRITTEN, FREED, READ, SYNCED, LOST AND WIPED, one behind the other, each call is answered, and the blocks are, as the chapter says (BlockDoes): true for any room and any acts. Conditions: the acts lie in memory, and the handle of errors.As.
-/
import Derived.Test.YtpmpmdlmcpakiaaDoorBlkDa
import Derived.Test.YtpmpmdlmcpakiaaDoorBlkN
namespace Go.Proofs.YtpmpmdlmcpakiaaDoor
open Go.RowKit

/-- Both stores, in one state, and the box of the document's. -/
structure Lp (w W : World) (d bS bT rB : Nat) (u : Value) (s : Dst) (r : Int) (a3 a4 : Option Addr) (n3 k3 n4 k4 : Nat) : Prop where
  q : Dq W d bS bT u s
  b : Nb w W d bS bT u
  dd : Dd W (No d bS bT u (fun k => k = rB)) (.agg #[.int .i64 r, .slice a3 n3 k3, .slice a4 n4 k4]) s
  x : B3 W rB (.int .i64 r) (.slice a3 n3 k3) (.slice a4 n4 k4)
  no : ¬ Own d bS bT u rB
  ge : w.heap.size ≤ rB
  rm : s.room = r
section
variable {w W W' : World} {d bS bT rB : Nat} {u u' : Value} {s s' : Dst} {r : Int} {a3 a4 : Option Addr} {n3 k3 n4 k4 : Nat}
theorem Lp.below (h : Lp w W d bS bT rB u s r a3 a4 n3 k3 n4 k4) (hb : Below W.heap.size W W') : Lp w W' d bS bT rB u s r a3 a4 n3 k3 n4 k4 :=
  ⟨h.q.below hb, h.b.call hb, h.dd.below hb, h.x.below hb, h.no, h.ge, h.rm⟩
theorem Dd.fresh {P : Nat → Prop} {v : Value} (h : Dd W P v s) (o : Obj) (x y z : Value) : Dd ((((W.alloc o).setCell ⟨W.heap.size, 0, none⟩ x).setCell ⟨W.heap.size, 1, none⟩ y).setCell ⟨W.heap.size, 2, none⟩ z) P v s :=
  h.keep (fun _ p _ => p) (fun k _ hk => (set3_heap (by omega) _ _ _).trans ((al_d W o).block k hk))
theorem Nb.set3 (h : Nb w W d bS bT u) {g : Nat} (hg : w.heap.size ≤ g) (x y z : Value) : Nb w (((W.setCell ⟨g, 0, none⟩ x).setCell ⟨g, 1, none⟩ y).setCell ⟨g, 2, none⟩ z) d bS bT u := ⟨set3_below h.be hg _ _ _, h.ow⟩
/-- Behind an act, with the box of what the document answered. -/
structure Lr (w W : World) (d bS bT rB g : Nat) (u : Value) (s : Dst) (r : Int) (a3 a4 b3 b4 : Option Addr) (n3 k3 n4 k4 m3 j3 m4 j4 : Nat) : Prop where
  q : Dq W d bS bT u s
  b : Nb w W d bS bT u
  dd : Dd W (No d bS bT u (fun k => k = rB)) (.agg #[.int .i64 r, .slice b3 m3 j3, .slice b4 m4 j4]) s
  x : B3 W rB (.int .i64 r) (.slice a3 n3 k3) (.slice a4 n4 k4)
  y : B3 W g (.int .i64 r) (.slice b3 m3 j3) (.slice b4 m4 j4)
  no : ¬ Own d bS bT u rB
  rm : s.room = r
/-- The box takes what the document answered. -/
theorem Lr.store {g : Nat} {b3 b4 : Option Addr} {m3 j3 m4 j4 : Nat} (h : Lr w W d bS bT rB g u s r a3 a4 b3 b4 n3 k3 n4 k4 m3 j3 m4 j4) (hge : w.heap.size ≤ rB) : Lp w (((W.setCell ⟨rB, 0, none⟩ (.int .i64 r)).setCell ⟨rB, 1, none⟩ (.slice b3 m3 j3)).setCell ⟨rB, 2, none⟩ (.slice b4 m4 j4)) d bS bT rB u s r b3 b4 m3 j3 m4 j4 :=
  ⟨h.q.set3 h.no _ _ _, h.b.set3 hge _ _ _, h.dd.keep (fun _ p _ => p) (fun _ p _ => set3_heap p.2 _ _ _), h.x.all _ _ _, h.no, hge, h.rm⟩
/-- The call first, then the box. -/
theorem lr_one {b3 b4 : Option Addr} {m3 j3 m4 j4 : Nat} {V : World} (h : Lp w V d bS bT rB u s r a3 a4 n3 k3 n4 k4) (hq : Dq W d bS bT u' s') (hd : Dd W (No d bS bT u' (fun k => k = rB)) (.agg #[.int .i64 r, .slice b3 m3 j3, .slice b4 m4 j4]) s') (hx : Dx d bS bT u V W u') (hr : s'.room = r) (o : Obj) : Lr w ((((W.alloc o).setCell ⟨W.heap.size, 0, none⟩ (.int .i64 r)).setCell ⟨W.heap.size, 1, none⟩ (.slice b3 m3 j3)).setCell ⟨W.heap.size, 2, none⟩ (.slice b4 m4 j4)) d bS bT rB W.heap.size u' s' r a3 a4 b3 b4 n3 k3 n4 k4 m3 j3 m4 j4 ∨ o ≠ .cells #[.int .i64 0, .slice none 0 0, .slice none 0 0] 35 := by
  by_cases ho : o = .cells #[.int .i64 0, .slice none 0 0, .slice none 0 0] 35
  · subst ho
    have hal := al_d W (.cells #[.int .i64 0, .slice none 0 0, .slice none 0 0] 35)
    have hlt : rB < W.heap.size := Nat.lt_of_lt_of_le (cell_block h.x.c0) hx.ba.size
    have hnb := h.b.step hx
    refine .inl ⟨(hq.below hal).set3 (fun e => by have := hq.dk.lt e; omega) _ _ _, (hnb.call hal).set3 hnb.be.size _ _ _, hd.fresh _ _ _ _, ?_, (b3_new W _ _ _ 35).all _ _ _, hx.own (cell_block h.x.c0) h.no, hr⟩
    exact ((((hx.b3 h.no h.x).below hal).setO (by omega) _).setO (by omega) _).setO (by omega) _
  · exact .inr ho
/-- The box first, then the call. -/
theorem lr_two {b3 b4 : Option Addr} {m3 j3 m4 j4 g : Nat} {V : World} (h : Lp w V d bS bT rB u s r a3 a4 n3 k3 n4 k4) (hg : B3 V g (.int .i64 0) (.slice none 0 0) (.slice none 0 0)) (hgo : ¬ Own d bS bT u g) (hgr : rB ≠ g) (hgw : w.heap.size ≤ g) (hq : Dq W d bS bT u' s') (hd : Dd W (No d bS bT u' (fun k => k = rB ∨ k = g)) (.agg #[.int .i64 r, .slice b3 m3 j3, .slice b4 m4 j4]) s') (hx : Dx d bS bT u V W u') (hr : s'.room = r) : Lr w (((W.setCell ⟨g, 0, none⟩ (.int .i64 r)).setCell ⟨g, 1, none⟩ (.slice b3 m3 j3)).setCell ⟨g, 2, none⟩ (.slice b4 m4 j4)) d bS bT rB g u' s' r a3 a4 b3 b4 n3 k3 n4 k4 m3 j3 m4 j4 :=
  have hno := hx.own (cell_block hg.c0) hgo
  ⟨hq.set3 hno _ _ _, (h.b.step hx).set3 hgw _ _ _, hd.keep (fun _ p _ => ⟨p.1, fun e => p.2 (.inl e)⟩) (fun _ p _ => set3_heap (fun e => p.2 (.inr e)) _ _ _), (((hx.b3 h.no h.x).setO hgr _).setO hgr _).setO hgr _, (hx.b3 hgo hg).all _ _ _, hx.own (cell_block h.x.c0) h.no, hr⟩
end
set_option maxRecDepth 100000 in
set_option maxHeartbeats 16000000 in
theorem bdoes_bad (r : Int) (v : Value) (ps : List Ap) (w : World) (hv : Al w v ps) (hli : liB ps = true) (hr : ¬ Num r) : Calls Tryd.prog 3 #[.int .i64 r, v] w fun e w' => e = .returned (.bool true) ∧ Below w.heap.size w w' := by
  have HV := hide hv
  have HLI := hide hli
  have HR := hide hr
  have HI : Hid (∀ W, Calls Tryd.prog 7 #[bft opRoom r 2, .int .i64 2] W fun e w' => e = .returned (.bool true) ∧ Below W.heap.size W w') := hide (fun W => is_ev (some ([(opRoom, r)], 2)) 2 W)
  have hcs : r < 0 ∨ (0 ≤ r ∧ 1073741824 < r) := by unfold Num at hr; omega
  clear hv hli hr
  go_enter Tryd.func3, Tryd.ntmps3
  rcases hcs with hc | ⟨hc, hc2⟩
  all_goals
    go_wp2_with (first | (go_at_call 4; refine (light_any _ ps _ HV.out).mono ?_; rintro e w9 ⟨rfl, hw9⟩; rw [hw9, HLI.out]; clear hw9 w9) | (go_at_call 6; refine (bnew_bad r _ HR.out).mono ?_; rintro e w9 ⟨rfl, hw9⟩; rw [hw9]; clear hw9 w9) | (go_at_call 7; refine (HI.out _).mono ?_; rintro e w2 ⟨rfl, hb2⟩; have HB2 := hide hb2; clear hb2) | (go_at_call 5; refine (bworks_any _).mono ?_; rintro e w12 ⟨rfl, hb12⟩; have HB12 := hide (bt HB2.out hb12); clear hb12))
    go_ret
    exact ⟨rfl, HB12.out⟩
set_option maxRecDepth 100000 in
set_option maxHeartbeats 16000000 in
theorem bdoes_ok (r : Int) (v : Value) (ps : List Ap) (w : World) (hv : Al w v ps) (hli : liB ps = true) (hr : Num r) (hh : Hnd w) : Calls Tryd.prog 3 #[.int .i64 r, v] w fun e w' => e = .returned (.bool true) ∧ Below w.heap.size w w' := by
  have HV := hide hv
  have HLI := hide hli
  have HNR := hide hr
  have HH := hide hh
  obtain ⟨⟨ao, cap, rfl, hrow⟩, hps⟩ := hv
  have HROW := hide hrow
  have HPS := hide hps
  have hlen : ps.length ≤ 60 := (liB_is hli).1
  obtain ⟨r0, r1⟩ := hr
  clear hrow hps hli hh
  go_enter Tryd.func3, Tryd.ntmps3
  go_wp2_with (first | (go_at_call 4; refine (light_any _ ps _ HV.out).mono ?_; rintro e w9 ⟨rfl, hw9⟩; rw [hw9, HLI.out]; clear hw9 w9) | (go_at_call 6; refine (q_new2 r w _ HNR.out (Below.refl _ _)).mono ?_; rintro e w1 ⟨d, bS, bT, rfl, hq1, hn1, hm1⟩; have HQ1 := hide hq1; have HB1 := hide hn1; clear hq1 hn1 hm1))
  have HL0 : Hid (Lp w (w1.alloc (.cells #[.int .i64 r, .slice none 0 0, .slice none 0 0] 35)) d bS bT w1.heap.size (.slice none 0 0) ⟨r, [], []⟩ r none none 0 0 0 0) := hide (by
    have hal := al_d w1 (.cells #[.int .i64 r, .slice none 0 0, .slice none 0 0] 35)
    exact ⟨HQ1.out.below hal, HB1.out.call hal, ⟨_, _, [], [], rfl, ⟨⟨_, _, rfl⟩, (fun h => by simp at h), (fun q hq => by simp at hq)⟩, ⟨⟨_, _, rfl⟩, (fun h => by simp at h), (fun q hq => by simp at hq)⟩, rfl, rfl⟩, b3_new w1 _ _ _ _, (fun e => by have := HQ1.out.dk.lt e; omega), HB1.out.be.size, rfl⟩)
  generalize w1.alloc (.cells #[.int .i64 r, .slice none 0 0, .slice none 0 0] 35) = V at HL0 ⊢
  generalize w1.heap.size = rB at HL0 ⊢
  clear HQ1 HB1
  go_loopw [8] (fun i W => ∃ (k : Nat) (u : Value) (s : Dst) (a3 a4 : Option Addr) (n3 k3 n4 k4 : Nat), k ≤ ps.length ∧ i = .int .i64 k ∧ Lp w W d bS bT rB u s r a3 a4 n3 k3 n4 k4 ∧ s.wt ≤ k) (fun i _ => ps.length - (iv i).toNat)
  case atStart => exact ⟨0, _, _, _, _, _, _, _, _, Nat.zero_le _, rfl, HL0.out, Nat.le_refl _⟩
  case round =>
    obtain ⟨k, u, s, a3, a4, n3, k3, n4, k4, hk, rfl, hlp, hwt⟩ := hrel
    have HL := hide hlp
    have HWT := hide hwt
    clear hlp hwt
    by_cases hlt : k < ps.length
    · obtain ⟨rb, ro, rfl, hrg⟩ := HROW.out (by omega)
      have HRG := hide (Al.at hrg hlt)
      have HAP := hide (HPS.out _ (List.getElem_mem hlt))
      clear hrg
      generalize ps[k] = p at HRG HAP
      have HFO : Hid (∃ ab nb cb ak nk ck, acl p = [.int .i64 p.1.kd, .int .i64 p.1.bl, .slice ab nb cb, .slice ak nk ck, .int .i64 p.1.cut]) := hide (by obtain ⟨ab, cb, e1⟩ := HAP.out.1.form; obtain ⟨ak, ck, e2⟩ := HAP.out.2.2.form; exact ⟨ab, _, cb, ak, _, ck, by unfold acl; rw [e1, e2]⟩)
      have HN3 : Hid (s.wt < 30000) := hide (by have := HWT.out; omega)
      have HGO : Hid (¬ Own d bS bT u 0) := hide (fun q => by have := HL.out.b.ow _ q; have := cell_block HH.out; simp only at this; omega)
      have HLT : Hid (rb < w.heap.size) := hide (cell_block (HRG.out 0 _ rfl))
      have HRO : Hid (¬ Own d bS bT u rb) := hide (fun q => by have := HL.out.b.ow _ q; have := HLT.out; omega)
      have HRM : Hid ((doS s p.1).room = r) := hide ((doS_room s p.1).trans HL.out.rm)
      go_wp2_with fail
      go_cut [9, 10] (fun x y W => ∃ (g : Nat) (u' : Value) (b3 b4 : Option Addr) (m3 j3 m4 j4 : Nat), x = .pointer (some ⟨g, 0, none⟩) ∧ y = .bool true ∧ Lr w W d bS bT rB g u' (doS s p.1) r a3 a4 b3 b4 n3 k3 n4 k4 m3 j3 m4 j4)
      case first =>
        have hdw : Below wr.heap.size wr wr.drew := (Below.refl _ _).drew
        refine wp_region_held_drew (S := fun W => B3 W rB (.int .i64 r) (.slice a3 n3 k3) (.slice a4 n4 k4) ∧ W.rangeAt rb (ro + k * 5) (acl p)) (by kernel_rfl) ⟨HL.out.x.below hdw, range_belW HRG.out (HL.out.b.call hdw).be⟩ (fun hHeld => ?_)
        have HL4 := hide (HL.out.below hdw)
        generalize wr.drew = V4 at HL4 hHeld ⊢
        clear hdw HL
        obtain ⟨ab, nb, cb, ak, nk, ck, hfo⟩ := HFO.out
        have HFE := hide hfo
        clear hfo HFO
        refine wpAnyH_take (i := 0) (oi := _) (v := .pointer (some ⟨d, 0, none⟩)) rfl (by kernel_rfl) (by kernel_rfl) (by kernel_rfl) (fun _ _ _ h => h) (Or.inl ⟨by rfl, by intro w hSw; go_simp⟩) hHeld ?_
        change wpAnyH _ _ _ _ _ _ _ (Act.put _ (some 50) _) _
        simp only [Act.put, List.setIfInBounds_toArray, List.set_cons_zero, List.set_cons_succ]
        refine wpAnyH_take (i := 1) (oi := _) (v := .agg #[.int .i64 r, .slice a3 n3 k3, .slice a4 n4 k4]) rfl (by kernel_rfl) (by kernel_rfl) (by kernel_rfl) (fun _ _ _ h => h) (Or.inl ⟨by rfl, by intro w hSw; have h0 := hSw.1.c0; have h1 := hSw.1.c1; have h2 := hSw.1.c2; go_simp⟩) hHeld ?_
        change wpAnyH _ _ _ _ _ _ _ (Act.put _ (some 51) _) _
        simp only [Act.put, List.setIfInBounds_toArray, List.set_cons_zero, List.set_cons_succ]
        refine wpAnyH_take (i := 2) (oi := _) (v := .slice (some ⟨rb, ro, none⟩) ps.length cap) rfl (by kernel_rfl) (by kernel_rfl) (by kernel_rfl) (fun _ _ _ h => h) (Or.inl ⟨by rfl, by intro w hSw; go_simp⟩) hHeld ?_
        change wpAnyH _ _ _ _ _ _ _ (Act.put _ (some 52) _) _
        simp only [Act.put, List.setIfInBounds_toArray, List.set_cons_zero, List.set_cons_succ]
        refine wpAnyH_take (i := 3) (oi := _) (v := .int .i64 (k : Int)) rfl (by kernel_rfl) (by kernel_rfl) (by kernel_rfl) (fun _ _ _ h => h) (Or.inl ⟨by rfl, by intro w hSw; go_simp⟩) hHeld ?_
        change wpAnyH _ _ _ _ _ _ _ (Act.put _ (some 53) _) _
        simp only [Act.put, List.setIfInBounds_toArray, List.set_cons_zero, List.set_cons_succ]
        refine wpAnyH_take (i := 4) (oi := _) (v := .pointer (some ⟨rb, ro + k * 5, none⟩)) rfl (by kernel_rfl) (by kernel_rfl) (by kernel_rfl) (fun _ _ _ h => h) (Or.inl ⟨by rfl, by intro w hSw; go_simp⟩) hHeld ?_
        change wpAnyH _ _ _ _ _ _ _ (Act.put _ (some 54) _) _
        simp only [Act.put, List.setIfInBounds_toArray, List.set_cons_zero, List.set_cons_succ]
        refine wpAnyH_take (i := 5) (oi := _) (v := _) rfl (by kernel_rfl) (by kernel_rfl) (by kernel_rfl) (fun _ _ _ h => h) (yieldsIf_load_mid (by rfl) _ _ rfl _ _ rfl (acl p) _ (fun W hW => hW.2) Tryd.underlying41 rfl (by kernel_rfl)) hHeld ?_
        change wpAnyH _ _ _ _ _ _ _ (Act.put _ (some 55) _) _
        simp only [Act.put, List.setIfInBounds_toArray, List.set_cons_zero, List.set_cons_succ]
        refine wpAnyH_ready (rs := [6, 10]) (by kernel_rfl) (by simp) ?_
        refine AllReadyH.cons (o := _) rfl (fun K hK => ?_) (AllReadyH.cons (o := _) rfl (fun K hK => ?_) AllReadyH.nil)
        · go_simp
          go_at_call 8
          refine (do_any (Bd := fun k => k = rB) _ p w _ HL4.out.q HN3.out (HH.out.below HL4.out.b.be) HGO.out HL4.out.b HAP.out HL4.out.dd (fun k e => by rw [e]; exact cell_block HL4.out.x.c0)).mono ?_
          rintro e V6 ⟨v6, u6, rfl, hq6, hd6, hx6⟩
          obtain ⟨b3, m3, j3, b4, m4, j4, rfl⟩ := hd6.form
          rw [HRM.out] at hd6 ⊢
          go_wp2_with fail
          refine hK.out _ _ ⟨hx6.b3 HL4.out.no hHeld.1, hx6.rg HRO.out hHeld.2⟩ (fun hHeld1 => ?_)
          clear hK K hHeld
          have hHeld := hHeld1
          clear hHeld1
          refine wpAnyH_take (i := 7) (oi := _) (v := .tuple #[.agg #[.int .i64 r, .slice b3 m3 j3, .slice b4 m4 j4], .bool true]) rfl (by kernel_rfl) (by kernel_rfl) (by kernel_rfl) (fun _ _ _ h => h) (Or.inl ⟨by rfl, by intro w hSw; go_simp⟩) hHeld ?_
          change wpAnyH _ _ _ _ _ _ _ (Act.put _ (some 49) _) _
          simp only [Act.put, List.setIfInBounds_toArray, List.set_cons_zero, List.set_cons_succ]
          refine wpAnyH_take (i := 8) (oi := _) (v := .agg #[.int .i64 r, .slice b3 m3 j3, .slice b4 m4 j4]) rfl (by kernel_rfl) (by kernel_rfl) (by kernel_rfl) (fun _ _ _ h => h) (Or.inl ⟨by rfl, by intro w hSw; go_simp⟩) hHeld ?_
          change wpAnyH _ _ _ _ _ _ _ (Act.put _ (some 57) _) _
          simp only [Act.put, List.setIfInBounds_toArray, List.set_cons_zero, List.set_cons_succ]
          refine wpAnyH_take (i := 9) (oi := _) (v := .bool true) rfl (by kernel_rfl) (by kernel_rfl) (by kernel_rfl) (fun _ _ _ h => h) (Or.inl ⟨by rfl, by intro w hSw; go_simp⟩) hHeld ?_
          change wpAnyH _ _ _ _ _ _ _ (Act.put _ (some 58) _) _
          simp only [Act.put, List.setIfInBounds_toArray, List.set_cons_zero, List.set_cons_succ]
          refine wpAnyH_ready (rs := [10]) (by kernel_rfl) (by simp) ?_
          refine AllReadyH.cons (o := _) rfl (fun K hK => ?_) AllReadyH.nil
          go_simp
          refine hK.out _ _ ⟨hHeld.1.below (al_d _ _), range_belW hHeld.2 (al_d _ _)⟩ (fun hHeld1 => ?_)
          clear hK K hHeld
          have hHeld := hHeld1
          clear hHeld1
          have HR8 := hide ((lr_one HL4.out hq6 hd6 hx6 HRM.out (.cells #[.int .i64 0, .slice none 0 0, .slice none 0 0] 35)).resolve_right (fun h => h rfl))
          have hb := b3_new V6 (.int .i64 0) (.slice none 0 0) (.slice none 0 0) 35
          have hne : rB ≠ V6.heap.size := fun e => by have : rB < V6.heap.size := Nat.lt_of_lt_of_le (cell_block HL4.out.x.c0) hx6.ba.size; omega
          have hne2 : rb ≠ V6.heap.size := fun e => by have : rb < V6.heap.size := Nat.lt_of_lt_of_le (cell_block (HRG.out 0 _ rfl)) (Nat.le_trans HL4.out.b.be.size hx6.ba.size); omega
          generalize V6.alloc (.cells #[.int .i64 0, .slice none 0 0, .slice none 0 0] 35) = V7 at HR8 hb hHeld ⊢
          generalize V6.heap.size = g at HR8 hb hne hne2 ⊢
          refine wpAnyH_ready (rs := [11]) (by kernel_rfl) (by simp) ?_
          refine AllReadyH.cons (o := _) rfl (fun K hK => ?_) AllReadyH.nil
          have e0 := hb.c0
          have e1 := hb.c1
          have e2 := hb.c2
          have f0 := hb.fz 0
          have f1 := hb.fz 1
          have f2 := hb.fz 2
          go_simp
          clear e0 e1 e2 f0 f1 f2
          refine hK.out _ _ ⟨((hHeld.1.setO hne _).setO hne _).setO hne _, rg_set (rg_set (rg_set hHeld.2 hne2) hne2) hne2⟩ (fun hHeld1 => ?_)
          clear hK K hHeld
          have hHeld := hHeld1
          clear hHeld1
          refine wpAnyH_take (i := 12) (oi := _) (v := .bool true) rfl (by kernel_rfl) (by kernel_rfl) (by kernel_rfl) (fun _ _ _ h => h) (Or.inl ⟨by rfl, by intro w hSw; go_simp⟩) hHeld ?_
          change wpAnyH _ _ _ _ _ _ _ (Act.put _ (some 10) _) _
          simp only [Act.put, List.setIfInBounds_toArray, List.set_cons_zero, List.set_cons_succ]
          refine wpAnyH_done (by kernel_rfl) ?_ _
          clear hHeld
          go_wp2_with fail
          go_meet
          exact ⟨g, u6, b3, b4, m3, j3, m4, j4, rfl, rfl, HR8.out⟩
        · go_simp
          refine hK.out _ _ ⟨hHeld.1.below (al_d _ _), range_belW hHeld.2 (al_d _ _)⟩ (fun hHeld1 => ?_)
          clear hK K hHeld
          have hHeld := hHeld1
          clear hHeld1
          have hal := al_d V4 (.cells #[.int .i64 0, .slice none 0 0, .slice none 0 0] 35)
          have hb := b3_new V4 (.int .i64 0) (.slice none 0 0) (.slice none 0 0) 35
          have HL5 := hide (HL4.out.below hal)
          have HG5 : Hid (¬ Own d bS bT u V4.heap.size ∧ rB ≠ V4.heap.size ∧ rb ≠ V4.heap.size ∧ w.heap.size ≤ V4.heap.size) := hide ⟨fun e => by have := HL4.out.q.dk.lt e; omega, fun e => by have : rB < V4.heap.size := cell_block HL4.out.x.c0; omega, fun e => by have := HL4.out.b.be.size; have := HLT.out; omega, HL4.out.b.be.size⟩
          have HD5 : Hid (Dd (V4.alloc (.cells #[.int .i64 0, .slice none 0 0, .slice none 0 0] 35)) (No d bS bT u (fun k => k = rB ∨ k = V4.heap.size)) (.agg #[.int .i64 r, .slice a3 n3 k3, .slice a4 n4 k4]) s) := hide (HL4.out.dd.keep (fun k p hk => ⟨p.1, fun e => e.elim p.2 (fun e => by omega)⟩) (fun k _ hk => hal.block k hk))
          have HB5 := hide hb
          clear hal hb
          generalize V4.alloc (.cells #[.int .i64 0, .slice none 0 0, .slice none 0 0] 35) = V5 at HL5 HD5 HB5 hHeld ⊢
          generalize V4.heap.size = g at HG5 HD5 HB5 ⊢
          clear HL4
          refine wpAnyH_ready (rs := [6]) (by kernel_rfl) (by simp) ?_
          refine AllReadyH.cons (o := _) rfl (fun K hK => ?_) AllReadyH.nil
          go_simp
          go_at_call 8
          refine (do_any (Bd := fun k => k = rB ∨ k = g) _ p w _ HL5.out.q HN3.out (HH.out.below HL5.out.b.be) HGO.out HL5.out.b HAP.out HD5.out (fun k e => e.elim (fun e => by rw [e]; exact cell_block HL5.out.x.c0) (fun e => by rw [e]; exact cell_block HB5.out.c0))).mono ?_
          rintro e V6 ⟨v6, u6, rfl, hq6, hd6, hx6⟩
          obtain ⟨b3, m3, j3, b4, m4, j4, rfl⟩ := hd6.form
          rw [HRM.out] at hd6 ⊢
          go_wp2_with fail
          refine hK.out _ _ ⟨hx6.b3 HL5.out.no hHeld.1, hx6.rg HRO.out hHeld.2⟩ (fun hHeld1 => ?_)
          clear hK K hHeld
          have hHeld := hHeld1
          clear hHeld1
          refine wpAnyH_take (i := 7) (oi := _) (v := .tuple #[.agg #[.int .i64 r, .slice b3 m3 j3, .slice b4 m4 j4], .bool true]) rfl (by kernel_rfl) (by kernel_rfl) (by kernel_rfl) (fun _ _ _ h => h) (Or.inl ⟨by rfl, by intro w hSw; go_simp⟩) hHeld ?_
          change wpAnyH _ _ _ _ _ _ _ (Act.put _ (some 49) _) _
          simp only [Act.put, List.setIfInBounds_toArray, List.set_cons_zero, List.set_cons_succ]
          refine wpAnyH_take (i := 8) (oi := _) (v := .agg #[.int .i64 r, .slice b3 m3 j3, .slice b4 m4 j4]) rfl (by kernel_rfl) (by kernel_rfl) (by kernel_rfl) (fun _ _ _ h => h) (Or.inl ⟨by rfl, by intro w hSw; go_simp⟩) hHeld ?_
          change wpAnyH _ _ _ _ _ _ _ (Act.put _ (some 57) _) _
          simp only [Act.put, List.setIfInBounds_toArray, List.set_cons_zero, List.set_cons_succ]
          refine wpAnyH_take (i := 9) (oi := _) (v := .bool true) rfl (by kernel_rfl) (by kernel_rfl) (by kernel_rfl) (fun _ _ _ h => h) (Or.inl ⟨by rfl, by intro w hSw; go_simp⟩) hHeld ?_
          change wpAnyH _ _ _ _ _ _ _ (Act.put _ (some 58) _) _
          simp only [Act.put, List.setIfInBounds_toArray, List.set_cons_zero, List.set_cons_succ]
          have HR8 := hide (lr_two HL5.out HB5.out HG5.out.1 HG5.out.2.1 HG5.out.2.2.2 hq6 hd6 hx6 HRM.out)
          have hb := hx6.b3 HG5.out.1 HB5.out
          have hne := HG5.out.2.1
          have hne2 := HG5.out.2.2.1
          refine wpAnyH_ready (rs := [11]) (by kernel_rfl) (by simp) ?_
          refine AllReadyH.cons (o := _) rfl (fun K hK => ?_) AllReadyH.nil
          have e0 := hb.c0
          have e1 := hb.c1
          have e2 := hb.c2
          have f0 := hb.fz 0
          have f1 := hb.fz 1
          have f2 := hb.fz 2
          go_simp
          clear e0 e1 e2 f0 f1 f2
          refine hK.out _ _ ⟨((hHeld.1.setO hne _).setO hne _).setO hne _, rg_set (rg_set (rg_set hHeld.2 hne2) hne2) hne2⟩ (fun hHeld1 => ?_)
          clear hK K hHeld
          have hHeld := hHeld1
          clear hHeld1
          refine wpAnyH_take (i := 12) (oi := _) (v := .bool true) rfl (by kernel_rfl) (by kernel_rfl) (by kernel_rfl) (fun _ _ _ h => h) (Or.inl ⟨by rfl, by intro w hSw; go_simp⟩) hHeld ?_
          change wpAnyH _ _ _ _ _ _ _ (Act.put _ (some 10) _) _
          simp only [Act.put, List.setIfInBounds_toArray, List.set_cons_zero, List.set_cons_succ]
          refine wpAnyH_done (by kernel_rfl) ?_ _
          clear hHeld
          go_wp2_with fail
          go_meet
          exact ⟨g, u6, b3, b4, m3, j3, m4, j4, rfl, rfl, HR8.out⟩
      case rest =>
        obtain ⟨g, u6, b3, b4, m3, j3, m4, j4, rfl, rfl, hlr⟩ := hcut
        have HLR := hide hlr
        clear hlr
        have HWT6 : Hid ((doS s p.1).wt ≤ k + 1) := hide (by have := doS_wt HL.out.q.ok p.1; have := HWT.out; omega)
        have HGE := hide HL.out.ge
        clear HL HFO HRG HAP HGO HRO HRM HN3 HLT HWT
        generalize doS s p.1 = s6 at HWT6 HLR
        have HLP := hide (HLR.out.store HGE.out)
        obtain ⟨x0, x1, x2, xf⟩ := HLR.out.x
        obtain ⟨y0, y1, y2, _⟩ := HLR.out.y
        have xf0 := xf 0
        have xf1 := xf 1
        have xf2 := xf 2
        clear xf
        go_upto_region 14 with fail
        clear x0 x1 x2 y0 y1 y2 xf0 xf1 xf2 HLR
        generalize ((wc.setCell ⟨rB, 0, none⟩ (.int .i64 r)).setCell ⟨rB, 1, none⟩ (.slice b3 m3 j3)).setCell ⟨rB, 2, none⟩ (.slice b4 m4 j4) = W9 at HLP ⊢
        have hdw : Below W9.heap.size W9 W9.drew := (Below.refl _ _).drew
        refine wp_region_held_drew (S := fun W => B3 W rB (.int .i64 r) (.slice b3 m3 j3) (.slice b4 m4 j4)) (by kernel_rfl) (HLP.out.x.below hdw) (fun hHeld => ?_)
        have HL1 := hide (HLP.out.below hdw)
        generalize W9.drew = V1 at HL1 hHeld ⊢
        clear hdw HLP
        have HN6 : Hid (s6.wt < 30000) := hide (by have := HWT6.out; omega)
        obtain ⟨qs, ls, hqs, hls⟩ : ∃ qs ls, (∀ W, Below V1.heap.size V1 W → Cl W (No d bS bT u6 (fun k => k = rB)) (.slice b3 m3 j3) qs) ∧ csOf qs = s6.cs ∧ m4 = ls ∧ ls = s6.lo.length := (by obtain ⟨vc, vl, qs, ls, e, h1, h2, h3, h4⟩ := HL1.out.dd; obtain ⟨ca, cc, rfl⟩ := h1.fm; obtain ⟨la, lc, rfl⟩ := h2.fm; cases e; exact ⟨qs, ls.length, fun W hW => h1.below hW, h3, rfl, by have := congrArg List.length h4; simpa [loOf] using this⟩)
        have HQS := hide hqs
        obtain ⟨hcs, rfl, hlo⟩ := hls
        have HCS := hide hcs
        have HLO := hide hlo
        clear hqs hcs hlo
        refine wpAnyH_take (i := 0) (oi := _) (v := .bool true) rfl (by kernel_rfl) (by kernel_rfl) (by kernel_rfl) (fun _ _ _ h => h) (Or.inl ⟨by rfl, by intro w hSw; go_simp⟩) hHeld ?_
        change wpAnyH _ _ _ _ _ _ _ (Act.put _ (some 60) _) _
        simp only [Act.put, List.setIfInBounds_toArray, List.set_cons_zero, List.set_cons_succ]
        refine wpAnyH_take (i := 1) (oi := _) (v := .bool false) rfl (by kernel_rfl) (by kernel_rfl) (by kernel_rfl) (fun _ _ _ h => h) (Or.inl ⟨by rfl, by intro w hSw; go_simp⟩) hHeld ?_
        change wpAnyH _ _ _ _ _ _ _ (Act.put _ (some 61) _) _
        simp only [Act.put, List.setIfInBounds_toArray, List.set_cons_zero, List.set_cons_succ]
        refine wpAnyH_take (i := 2) (oi := _) (v := .bool false) rfl (by kernel_rfl) (by kernel_rfl) (by kernel_rfl) (fun _ _ _ h => h) (Or.inl ⟨by rfl, by intro w hSw; go_simp⟩) hHeld ?_
        change wpAnyH _ _ _ _ _ _ _ (Act.put _ (some 62) _) _
        simp only [Act.put, List.setIfInBounds_toArray, List.set_cons_zero, List.set_cons_succ]
        refine wpAnyH_take (i := 3) (oi := _) (v := .pointer (some ⟨d, 0, none⟩)) rfl (by kernel_rfl) (by kernel_rfl) (by kernel_rfl) (fun _ _ _ h => h) (Or.inl ⟨by rfl, by intro w hSw; go_simp⟩) hHeld ?_
        change wpAnyH _ _ _ _ _ _ _ (Act.put _ (some 63) _) _
        simp only [Act.put, List.setIfInBounds_toArray, List.set_cons_zero, List.set_cons_succ]
        refine wpAnyH_take (i := 5) (oi := _) (v := .pointer (some ⟨rB, 1, none⟩)) rfl (by kernel_rfl) (by kernel_rfl) (by kernel_rfl) (fun _ _ _ h => h) (Or.inl ⟨by rfl, by intro w hSw; go_simp⟩) hHeld ?_
        change wpAnyH _ _ _ _ _ _ _ (Act.put _ (some 65) _) _
        simp only [Act.put, List.setIfInBounds_toArray, List.set_cons_zero, List.set_cons_succ]
        refine wpAnyH_take (i := 6) (oi := _) (v := .slice b3 m3 j3) rfl (by kernel_rfl) (by kernel_rfl) (by kernel_rfl) (fun _ _ _ h => h) (Or.inl ⟨by rfl, by intro w hSw; have h0 := hSw.c0; have h1 := hSw.c1; have h2 := hSw.c2; go_simp⟩) hHeld ?_
        change wpAnyH _ _ _ _ _ _ _ (Act.put _ (some 66) _) _
        simp only [Act.put, List.setIfInBounds_toArray, List.set_cons_zero, List.set_cons_succ]
        refine wpAnyH_ready (rs := [4]) (by kernel_rfl) (by simp) ?_
        refine AllReadyH.cons (o := _) rfl (fun K hK => ?_) AllReadyH.nil
        go_simp
        go_at_call 10
        refine (q_cells _ HL1.out.q HN6.out).mono ?_
        rintro e V2 ⟨vq, pq, rfl, hcw, hcq, hbq⟩
        go_wp2_with fail
        refine hK.out _ _ (hHeld.below hbq) (fun hHeld1 => ?_)
        clear hK K hHeld
        have hHeld := hHeld1
        clear hHeld1
        have HL2 := hide (HL1.out.below hbq)
        have HC2 := hide hcw
        have HCQ := hide hcq
        have HQ2 := hide (HQS.out V2 hbq)
        have HPB : Hid (∀ q ∈ pq, Blk q.2.2) := hide (fun q hq => (HL1.out.q.ok.cb (q.1, q.2.2) (by rw [← hcq]; exact List.mem_map.2 ⟨q, hq, rfl⟩)).2)
        have HPN : Hid (pq.length < 100000) := hide (by have h1 := congrArg List.length hcq; simp only [csOf, List.length_map] at h1; have h2 := HN6.out; unfold Dst.wt at h2; omega)
        obtain ⟨qa, qc, rfl⟩ := cw_form hcw
        clear hcw hcq hbq HL1 HQS
        refine wpAnyH_ready (rs := [7]) (by kernel_rfl) (by simp) ?_
        refine AllReadyH.cons (o := _) rfl (fun K hK => ?_) AllReadyH.nil
        go_simp
        go_at_call 9
        refine (rcells_same _ _ pq qs _ HC2.out HPB.out HQ2.out (by rw [HCQ.out, HCS.out]) HPN.out).mono ?_
        rintro e V3 ⟨rfl, hbq⟩
        go_wp2_with fail
        refine hK.out _ _ (hHeld.below hbq) (fun hHeld1 => ?_)
        clear hK K hHeld
        have hHeld := hHeld1
        clear hHeld1
        have HL3 := hide (HL2.out.below hbq)
        clear hbq HL2 HC2 HQ2
        refine wpAnyH_take (i := 8) (oi := _) (v := .bool false) rfl (by kernel_rfl) (by kernel_rfl) (by kernel_rfl) (fun _ _ _ h => h) (Or.inl ⟨by rfl, by intro w hSw; go_simp⟩) hHeld ?_
        change wpAnyH _ _ _ _ _ _ _ (Act.put _ (some 68) _) _
        simp only [Act.put, List.setIfInBounds_toArray, List.set_cons_zero, List.set_cons_succ]
        refine wpAnyH_take (i := 9) (oi := _) (v := .bool false) rfl (by kernel_rfl) (by kernel_rfl) (by kernel_rfl) (fun _ _ _ h => h) (Or.inl ⟨by rfl, by intro w hSw; go_simp⟩) hHeld ?_
        change wpAnyH _ _ _ _ _ _ _ (Act.put _ (some 69) _) _
        simp only [Act.put, List.setIfInBounds_toArray, List.set_cons_zero, List.set_cons_succ]
        refine wpAnyH_take (i := 10) (oi := _) (v := .bool false) rfl (by kernel_rfl) (by kernel_rfl) (by kernel_rfl) (fun _ _ _ h => h) (Or.inl ⟨by rfl, by intro w hSw; go_simp⟩) hHeld ?_
        change wpAnyH _ _ _ _ _ _ _ (Act.put _ (some 70) _) _
        simp only [Act.put, List.setIfInBounds_toArray, List.set_cons_zero, List.set_cons_succ]
        refine wpAnyH_take (i := 11) (oi := _) (v := .pointer (some ⟨d, 0, none⟩)) rfl (by kernel_rfl) (by kernel_rfl) (by kernel_rfl) (fun _ _ _ h => h) (Or.inl ⟨by rfl, by intro w hSw; go_simp⟩) hHeld ?_
        change wpAnyH _ _ _ _ _ _ _ (Act.put _ (some 71) _) _
        simp only [Act.put, List.setIfInBounds_toArray, List.set_cons_zero, List.set_cons_succ]
        refine wpAnyH_take (i := 13) (oi := _) (v := .pointer (some ⟨rB, 2, none⟩)) rfl (by kernel_rfl) (by kernel_rfl) (by kernel_rfl) (fun _ _ _ h => h) (Or.inl ⟨by rfl, by intro w hSw; go_simp⟩) hHeld ?_
        change wpAnyH _ _ _ _ _ _ _ (Act.put _ (some 73) _) _
        simp only [Act.put, List.setIfInBounds_toArray, List.set_cons_zero, List.set_cons_succ]
        refine wpAnyH_take (i := 14) (oi := _) (v := .slice b4 m4 j4) rfl (by kernel_rfl) (by kernel_rfl) (by kernel_rfl) (fun _ _ _ h => h) (Or.inl ⟨by rfl, by intro w hSw; have h0 := hSw.c0; have h1 := hSw.c1; have h2 := hSw.c2; go_simp⟩) hHeld ?_
        change wpAnyH _ _ _ _ _ _ _ (Act.put _ (some 74) _) _
        simp only [Act.put, List.setIfInBounds_toArray, List.set_cons_zero, List.set_cons_succ]
        refine wpAnyH_take (i := 15) (oi := _) (v := .int .i64 (m4 : Int)) rfl (by kernel_rfl) (by kernel_rfl) (by kernel_rfl) (fun _ _ _ h => h) (Or.inl ⟨by rfl, by intro w hSw; go_simp⟩) hHeld ?_
        change wpAnyH _ _ _ _ _ _ _ (Act.put _ (some 75) _) _
        simp only [Act.put, List.setIfInBounds_toArray, List.set_cons_zero, List.set_cons_succ]
        refine wpAnyH_ready (rs := [12]) (by kernel_rfl) (by simp) ?_
        refine AllReadyH.cons (o := _) rfl (fun K hK => ?_) AllReadyH.nil
        go_simp
        go_at_call 11
        refine (q_loose _ HL3.out.q).mono ?_
        rintro e W8 ⟨rfl, hw8⟩
        rw [hw8, ← HLO.out]
        clear hw8
        go_wp2_with fail
        refine hK.out _ _ hHeld (fun hHeld1 => ?_)
        clear hK K hHeld
        have hHeld := hHeld1
        clear hHeld1
        have hmm : ((m4 : Int) != (m4 : Int)) = false := by simp
        refine wpAnyH_take (i := 16) (oi := _) (v := .bool false) rfl (by kernel_rfl) (by kernel_rfl) (by kernel_rfl) (fun _ _ _ h => h) (Or.inl ⟨by rfl, by intro w hSw; go_simp⟩) hHeld ?_
        change wpAnyH _ _ _ _ _ _ _ (Act.put _ (some 76) _) _
        simp only [Act.put, List.setIfInBounds_toArray, List.set_cons_zero, List.set_cons_succ]
        clear hmm
        refine wpAnyH_take (i := 17) (oi := _) (v := .bool false) rfl (by kernel_rfl) (by kernel_rfl) (by kernel_rfl) (fun _ _ _ h => h) (Or.inl ⟨by rfl, by intro w hSw; go_simp⟩) hHeld ?_
        change wpAnyH _ _ _ _ _ _ _ (Act.put _ (some 77) _) _
        simp only [Act.put, List.setIfInBounds_toArray, List.set_cons_zero, List.set_cons_succ]
        refine wpAnyH_take (i := 18) (oi := _) (v := .bool false) rfl (by kernel_rfl) (by kernel_rfl) (by kernel_rfl) (fun _ _ _ h => h) (Or.inl ⟨by rfl, by intro w hSw; go_simp⟩) hHeld ?_
        change wpAnyH _ _ _ _ _ _ _ (Act.put _ (some 78) _) _
        simp only [Act.put, List.setIfInBounds_toArray, List.set_cons_zero, List.set_cons_succ]
        refine wpAnyH_take (i := 19) (oi := _) (v := .pointer (some ⟨d, 0, none⟩)) rfl (by kernel_rfl) (by kernel_rfl) (by kernel_rfl) (fun _ _ _ h => h) (Or.inl ⟨by rfl, by intro w hSw; go_simp⟩) hHeld ?_
        change wpAnyH _ _ _ _ _ _ _ (Act.put _ (some 79) _) _
        simp only [Act.put, List.setIfInBounds_toArray, List.set_cons_zero, List.set_cons_succ]
        refine wpAnyH_take (i := 21) (oi := _) (v := .agg #[.int .i64 r, .slice b3 m3 j3, .slice b4 m4 j4]) rfl (by kernel_rfl) (by kernel_rfl) (by kernel_rfl) (fun _ _ _ h => h) (Or.inl ⟨by rfl, by intro w hSw; have h0 := hSw.c0; have h1 := hSw.c1; have h2 := hSw.c2; go_simp⟩) hHeld ?_
        change wpAnyH _ _ _ _ _ _ _ (Act.put _ (some 81) _) _
        simp only [Act.put, List.setIfInBounds_toArray, List.set_cons_zero, List.set_cons_succ]
        refine wpAnyH_ready (rs := [20]) (by kernel_rfl) (by simp) ?_
        refine AllReadyH.cons (o := _) rfl (fun K hK => ?_) AllReadyH.nil
        go_simp
        go_at_call 12
        refine (q_used _ HL3.out.q).mono ?_
        rintro e W8 ⟨rfl, hw8⟩
        rw [hw8]
        clear hw8
        go_wp2_with fail
        refine hK.out _ _ hHeld (fun hHeld1 => ?_)
        clear hK K hHeld
        have hHeld := hHeld1
        clear hHeld1
        refine wpAnyH_ready (rs := [22]) (by kernel_rfl) (by simp) ?_
        refine AllReadyH.cons (o := _) rfl (fun K hK => ?_) AllReadyH.nil
        go_simp
        go_at_call 13
        refine (rused_any _ s6 _ HL3.out.dd HL3.out.q.ok.asc (wt_80 HN6.out)).mono ?_
        rintro e V5 ⟨rfl, hbq⟩
        go_wp2_with fail
        refine hK.out _ _ (hHeld.below hbq) (fun hHeld1 => ?_)
        clear hK K hHeld
        have hHeld := hHeld1
        clear hHeld1
        have HL5 := hide (HL3.out.below hbq)
        clear hbq HL3
        generalize (s6.tk.length : Int) = tl
        have htt : (tl != tl) = false := by simp
        refine wpAnyH_take (i := 23) (oi := _) (v := .bool false) rfl (by kernel_rfl) (by kernel_rfl) (by kernel_rfl) (fun _ _ _ h => h) (Or.inl ⟨by rfl, by intro w hSw; go_simp⟩) hHeld ?_
        change wpAnyH _ _ _ _ _ _ _ (Act.put _ (some 83) _) _
        simp only [Act.put, List.setIfInBounds_toArray, List.set_cons_zero, List.set_cons_succ]
        clear htt
        refine wpAnyH_take (i := 24) (oi := _) (v := .bool false) rfl (by kernel_rfl) (by kernel_rfl) (by kernel_rfl) (fun _ _ _ h => h) (Or.inl ⟨by rfl, by intro w hSw; go_simp⟩) hHeld ?_
        change wpAnyH _ _ _ _ _ _ _ (Act.put _ (some 84) _) _
        simp only [Act.put, List.setIfInBounds_toArray, List.set_cons_zero, List.set_cons_succ]
        refine wpAnyH_take (i := 25) (oi := _) (v := .bool false) rfl (by kernel_rfl) (by kernel_rfl) (by kernel_rfl) (fun _ _ _ h => h) (Or.inl ⟨by rfl, by intro w hSw; go_simp⟩) hHeld ?_
        change wpAnyH _ _ _ _ _ _ _ (Act.put _ (some 85) _) _
        simp only [Act.put, List.setIfInBounds_toArray, List.set_cons_zero, List.set_cons_succ]
        refine wpAnyH_take (i := 26) (oi := _) (v := .pointer (some ⟨d, 0, none⟩)) rfl (by kernel_rfl) (by kernel_rfl) (by kernel_rfl) (fun _ _ _ h => h) (Or.inl ⟨by rfl, by intro w hSw; go_simp⟩) hHeld ?_
        change wpAnyH _ _ _ _ _ _ _ (Act.put _ (some 86) _) _
        simp only [Act.put, List.setIfInBounds_toArray, List.set_cons_zero, List.set_cons_succ]
        refine wpAnyH_take (i := 28) (oi := _) (v := .int .i64 r) rfl (by kernel_rfl) (by kernel_rfl) (by kernel_rfl) (fun _ _ _ h => h) (Or.inl ⟨by rfl, by intro w hSw; go_simp⟩) hHeld ?_
        change wpAnyH _ _ _ _ _ _ _ (Act.put _ (some 88) _) _
        simp only [Act.put, List.setIfInBounds_toArray, List.set_cons_zero, List.set_cons_succ]
        refine wpAnyH_ready (rs := [27]) (by kernel_rfl) (by simp) ?_
        refine AllReadyH.cons (o := _) rfl (fun K hK => ?_) AllReadyH.nil
        go_simp
        go_at_call 14
        refine (q_room _ HL5.out.q).mono ?_
        rintro e W8 ⟨rfl, hw8⟩
        rw [hw8, HL5.out.rm]
        clear hw8
        go_wp2_with fail
        refine hK.out _ _ hHeld (fun hHeld1 => ?_)
        clear hK K hHeld
        have hHeld := hHeld1
        clear hHeld1
        have hrr : (r != r) = false := by simp
        refine wpAnyH_take (i := 29) (oi := _) (v := .bool false) rfl (by kernel_rfl) (by kernel_rfl) (by kernel_rfl) (fun _ _ _ h => h) (Or.inl ⟨by rfl, by intro w hSw; go_simp⟩) hHeld ?_
        change wpAnyH _ _ _ _ _ _ _ (Act.put _ (some 89) _) _
        simp only [Act.put, List.setIfInBounds_toArray, List.set_cons_zero, List.set_cons_succ]
        clear hrr
        refine wpAnyH_take (i := 30) (oi := _) (v := .bool false) rfl (by kernel_rfl) (by kernel_rfl) (by kernel_rfl) (fun _ _ _ h => h) (Or.inl ⟨by rfl, by intro w hSw; go_simp⟩) hHeld ?_
        change wpAnyH _ _ _ _ _ _ _ (Act.put _ (some 90) _) _
        simp only [Act.put, List.setIfInBounds_toArray, List.set_cons_zero, List.set_cons_succ]
        refine wpAnyH_done (by kernel_rfl) ?_ _
        clear hHeld
        go_wp2_with fail
        go_roundw
        case rel => exact ⟨k + 1, _, _, _, _, _, _, _, _, by omega, by go_num, HL5.out, HWT6.out⟩
        case measure => simp [iv]; omega
    · obtain rfl : k = ps.length := by omega
      have HBE := hide HL.out.b.be
      go_wp2_with (first | (go_at_call 5; refine (bworks_any _).mono ?_; rintro e w12 ⟨rfl, hb12⟩; have HB12 := hide (bt HBE.out hb12); clear hb12))
      go_ret
      exact ⟨rfl, HB12.out⟩
theorem bdoes_law (r : Int) (v : Value) (ps : List Ap) (w : World) (hv : Al w v ps) (hh : Hnd w) : Calls Tryd.prog 3 #[.int .i64 r, v] w fun e w' => e = .returned (.bool true) ∧ Below w.heap.size w w' := by
  by_cases hli : liB ps = true
  · by_cases hr : Num r
    · exact bdoes_ok r v ps w hv hli hr hh
    · exact bdoes_bad r v ps w hv hli hr
  · have HLI : Hid (liB ps = false) := hide (by simpa using hli)
    have HV := hide hv
    clear hli hv
    go_enter Tryd.func3, Tryd.ntmps3
    go_wp2_with (first | (go_at_call 4; refine (light_any _ ps _ HV.out).mono ?_; rintro e w9 ⟨rfl, hw9⟩; rw [hw9, HLI.out]; clear hw9 w9) | (go_at_call 5; refine (bworks_any _).mono ?_; rintro e w12 ⟨rfl, hb12⟩; have HB12 := hide (hb12); clear hb12))
    go_ret
    exact ⟨rfl, HB12.out⟩
end Go.Proofs.YtpmpmdlmcpakiaaDoor
