/-
  A BLOCK IS WRITTEN (block.Write): what is wrong, or a write more. Conditions: fewer than a hundred thousand blocks and writes.
-/
import Derived.Test.YtoamghncncalgaaGreatDoorJBlkWa2
namespace Go.Proofs.YtoamghncncalgaaGreatDoor
open Go.RowKit Go.Maps

section
variable {d bS bT : Nat} {u : Value} {s : Dst} {tk : Cs} {lo : List Wr}
set_option maxRecDepth 100000 in
theorem bwrite_bad (a : Int) (v : Value) (w : World) (ha : ¬ Num a) : Calls Tryz.prog 25 #[.pointer (some ⟨d, 0, none⟩), .int .i64 a, v] w fun e w' => e = .returned (bft opBlock a 2) ∧ w' = w := by
  have HA := hide ha
  clear ha
  go_enter Tryz.func25, Tryz.ntmps25
  go_wp2_with (first | (go_at_call 59; refine (check_bad _ _ HA.out).mono ?_; rintro e w9 ⟨rfl, hw9⟩; rw [hw9]; clear hw9 w9))
  go_ret
  exact ⟨rfl, rfl⟩
set_option maxRecDepth 100000 in
theorem bwrite_long (a : Int) (ao : Option Addr) (n cap : Nat) (w : World) (ha : Num a) (hn : 64 < n) : Calls Tryz.prog 25 #[.pointer (some ⟨d, 0, none⟩), .int .i64 a, .slice ao n cap] w fun e w' => e = .returned (bft opSize n 6) ∧ w' = w := by
  have HA := hide ha
  clear ha
  go_enter Tryz.func25, Tryz.ntmps25
  go_wp2_with (first | (go_at_call 59; refine (check_ok _ _ HA.out).mono ?_; rintro e w9 ⟨rfl, hw9⟩; rw [hw9]; clear hw9 w9) | (go_at_call 32; refine (new_any _ _ _ _).mono ?_; rintro e w9 ⟨rfl, hw9⟩; rw [hw9]; clear hw9 w9))
  go_ret
  exact ⟨rfl, rfl⟩
theorem wpList_lookOk2 {ops : Array Oper} {rest : List Oper} {o : Oper} {a : Act} {Q : Exit → Act → World → Prop} (w : World) (hg : o.guard = none) (x y : Operand) (ho : o.op = .lookup 78 x y true) (b : Nat) (n : Int) (l : Cs) (hx : a.eval x = .map (some b)) (hy : a.eval y = .int .i64 n) (hm : Mp w b l) (hn : Num n) (c : List Int) (q : Bool) (hc : (look l n).getD zer = c) (hq : (look l n).isSome = q)
    (h : wpList Tryz.prog ops Q rest (a.put o.dst (.tuple #[.agg (bv c).toArray, .bool q])) w) : wpList Tryz.prog ops Q (o :: rest) a w := by
  subst hc hq
  exact wpList_lookOk w hg x y ho b n l hx hy hm hn h
theorem range_belW {W W' : World} {b o : Nat} {cs : List Value} (h : W.rangeAt b o cs) (hb : Below W.heap.size W W') : W'.rangeAt b o cs := fun j u hu =>
  (hb.cell (p := ⟨b, o + j, none⟩) (cell_block (h j u hu) : b < W.heap.size)).trans (h j u hu)
theorem range_newsW {W : World} {b : Nat} {cs : List Value} (h : W.rangeAt b 0 cs) : ∀ j u, cs[j]? = some u → W.cell? ((⟨b, 0, none⟩ : Addr).add j) = some u := fun j u hu => by
  rw [Addr.add_lit]
  exact h j u hu
theorem range_newW (W : World) (cs : List Value) (t : TypeId) : (W.alloc (.cells cs.toArray t)).rangeAt W.heap.size 0 cs := fun j v hv => by
  rw [Nat.zero_add, World.cell?_alloc_at _ _ _ _ rfl]
  simpa using hv
theorem range_tail {W : World} {G : Nat} {x : Wr} (h : W.rangeAt G 0 (wcl x)) : W.rangeAt G 2 (bv x.by_) := fun j v hv => by
  have := h (j + 2) v (by simpa [wcl] using hv)
  rwa [Nat.zero_add, Nat.add_comm] at this
theorem range_far {W W' : World} {G o b : Nat} {cs : List Value} (h : W.rangeAt G o cs) (hg : W.grownBy W' (some b)) (hn : G ≠ b) : W'.rangeAt G o cs := fun j v hv =>
  (World.cell?_of_block (hg.block G (cell_block (h j v hv)) (fun e => hn (by cases e; rfl)))).trans (h j v hv)
theorem range_far2 {W W' : World} {G o b : Nat} {l : Cs} {cs : List Value} (h : W.rangeAt G o cs) (hg : W.grownBy W' (some b)) (hm : Mp W b l) (hl : 0 < cs.length) : W'.rangeAt G o cs := range_far h hg (fun e => by
  have h0 := h 0 _ (List.getElem?_eq_getElem hl)
  have := hm.noCell (o + 0)
  rw [← e, h0] at this
  cases this)
set_option maxRecDepth 100000 in
set_option maxHeartbeats 4000000 in
theorem bwrite_full (a : Int) (v : Value) (b : List Int) (w : World) (h : Dk w d bS bT u s tk lo) (hb : ∀ p ∈ tk, Num p.1 ∧ Blk p.2) (hv : Sl bc w v b) (hl : b.length ≤ 64) (ha : Num a) (c : List Int) (hc : (look tk a).getD zer = c) (hq : (look tk a).isSome = false) (hr : s.room ≤ (tk.length : Int)) :
    Calls Tryz.prog 25 #[.pointer (some ⟨d, 0, none⟩), .int .i64 a, v] w fun e w' => e = .returned (bft opBlock a 7) ∧ Below w.heap.size w w' := by
  obtain ⟨ao, cap, rfl⟩ := hv.form
  have HH := hide h
  have HA := hide ha
  have HV := hide hv
  have HC := hide hc
  have HQ := hide hq
  have HL : Hid (c.length = 64) := hide (by rw [← hc]; exact at_len hb a)
  have j2 := h.c2
  clear h ha hv hc hb hq
  go_enter Tryz.func25, Tryz.ntmps25
  go_upto_region 7 with (first | (go_at_call 59; refine (check_ok _ _ HA.out).mono ?_; rintro e w9 ⟨rfl, hw9⟩; rw [hw9]; clear hw9 w9) | (refine wpList_lookOk2 _ rfl _ _ rfl _ _ _ rfl rfl HH.out.mt HA.out _ _ HC.out HQ.out ?_) | (refine wpList_allocB _ rfl rfl ?_) | (refine wpList_storeB _ rfl _ _ rfl zer _ zer_len HL.out rfl rfl ?_))
  have hbl : Below w.heap.size w (w.alloc (.cells (bv c).toArray 101)) := (Below.refl _ _).alloc (Nat.le_refl _) _
  have HD := hide (HH.out.below hbl)
  have HV1 := hide (HV.out.below hbl)
  have HX := hide hbl
  generalize w.alloc (.cells (bv c).toArray 101) = V at HD HV1 HX ⊢
  clear hbl HH HV j2
  have i0 := HD.out.c0
  have i2 := HD.out.c2
  have hln : ∀ k, (Builtin.len_ #[78] 3 #[.map (some bT)]).run Tryz.prog (V.drewN k) = .ok (.int .i64 tk.length) (V.drewN k) := fun k => (HD.out.below (below_drewN (Below.refl _ _) k)).mt.len _
  go_quiet (fail)
  go_wp2_with (first | (go_at_call 32; refine (new_any _ _ _ _).mono ?_; rintro e w9 ⟨rfl, hw9⟩; rw [hw9]; clear hw9 w9))
  go_ret
  exact ⟨rfl, below_drewN HX.out _⟩
set_option maxRecDepth 100000 in
set_option maxHeartbeats 8000000 in
theorem bwrite_new (a : Int) (v : Value) (b : List Int) (w : World) (h : Dk w d bS bT u s tk lo) (hA : Asc tk) (hb : ∀ p ∈ tk, Num p.1 ∧ Blk p.2) (hv : Sl bc w v b) (hby : Byt b) (hl : b.length ≤ 64) (ha : Num a) (c : List Int) (hc : (look tk a).getD zer = c) (hq : (look tk a).isSome = false) (hr : (tk.length : Int) < s.room) (hn : tk.length < 100000) (hn2 : lo.length < 100000) :
    Calls Tryz.prog 25 #[.pointer (some ⟨d, 0, none⟩), .int .i64 a, v] w fun e w' => ∃ u', e = .returned .nilIface ∧ Dk w' d bS bT u' s (insM a (padL b) tk) (lo ++ [⟨a, false, padL b⟩]) ∧ Dx d bS bT u w w' u' := by
  have HAS := hide hA
  clear hA
  obtain ⟨ao, cap, rfl⟩ := hv.form
  have HH := hide h
  have HA := hide ha
  have HV := hide hv
  have HC := hide hc
  have HQ := hide hq
  have HL : Hid (c.length = 64) := hide (by rw [← hc]; exact at_len hb a)
  have j2 := h.c2
  clear h ha hv hc hb hq
  go_enter Tryz.func25, Tryz.ntmps25
  go_upto_region 7 with (first | (go_at_call 59; refine (check_ok _ _ HA.out).mono ?_; rintro e w9 ⟨rfl, hw9⟩; rw [hw9]; clear hw9 w9) | (refine wpList_lookOk2 _ rfl _ _ rfl _ _ _ rfl rfl HH.out.mt HA.out _ _ HC.out HQ.out ?_) | (refine wpList_allocB _ rfl rfl ?_) | (refine wpList_storeB _ rfl _ _ rfl zer _ zer_len HL.out rfl rfl ?_))
  have hbl : Below w.heap.size w (w.alloc (.cells (bv c).toArray 101)) := (Below.refl _ _).alloc (Nat.le_refl _) _
  have HD := hide (HH.out.below hbl)
  have HV1 := hide (HV.out.below hbl)
  have HX : Hid (Dx d bS bT u w (w.alloc (.cells (bv c).toArray 101)) u) := hide (Dx.of hbl)
  generalize w.alloc (.cells (bv c).toArray 101) = V at HD HV1 HX ⊢
  clear hbl HH HV j2
  have i0 := HD.out.c0
  have i2 := HD.out.c2
  have hln : ∀ k, (Builtin.len_ #[78] 3 #[.map (some bT)]).run Tryz.prog (V.drewN k) = .ok (.int .i64 tk.length) (V.drewN k) := fun k => (HD.out.below (below_drewN (Below.refl _ _) k)).mt.len _
  go_quiet (fail)
  have HD1 := hide (HD.out.below (below_drewN (Below.refl _ _) nq))
  have HV2 := hide (HV1.out.below (below_drewN (Below.refl _ _) nq))
  have HX1 := hide (HX.out.call (below_drewN (Below.refl _ _) nq))
  generalize V.drewN nq = X at HD1 HV2 HX1 ⊢
  clear hln i0 i2 HD HV1 HX
  have hcp := copyW X a (.slice ao b.length cap) b 3 HV2.out hl
  go_upto_region 11 with (first | (refine wpList_buildW _ rfl _ rfl _ rfl ?_) | (refine wpList_allocW _ rfl rfl ?_) | (refine wpList_storeW _ rfl _ _ rfl wz _ zer_len zer_len rfl rfl ?_))
  clear hcp
  have HPL : Hid ((padL b).length = 64) := hide (padL_len hl)
  have HBK : Hid (Blk (padL b)) := hide (padL_blk hl hby)
  have hbl : Below X.heap.size X (X.alloc (.cells (wcl ⟨a, false, padL b⟩).toArray 103)) := (Below.refl _ _).alloc (Nat.le_refl _) _
  have HD2 := hide (HD1.out.below hbl)
  have HX2 := hide (HX1.out.call hbl)
  have HG : Hid ((X.alloc (.cells (wcl ⟨a, false, padL b⟩).toArray 103)).rangeAt X.heap.size 0 (wcl ⟨a, false, padL b⟩)) := hide (range_newW X _ _)
  have HGU : Hid (∀ k, Own d bS bT u k → k < X.heap.size) := hide (fun k hk => HD1.out.lt hk)
  generalize X.alloc (.cells (wcl ⟨a, false, padL b⟩).toArray 103) = Y at HD2 HX2 HG ⊢
  generalize X.heap.size = G at HG HGU ⊢
  clear hbl HD1 HV2 HX1 HL HC HQ
  refine wp_region_held_drew (S := fun W => W.cell? ⟨d, 2, none⟩ = some (.map (some bT)) ∧ W.rangeAt G 2 (bv (padL b))) (by kernel_rfl) ⟨HD2.out.drew.c2, range_tail HG.out⟩ (fun hHeld => ?_)
  have HD3 := hide HD2.out.drew
  have HX3 := hide (HX2.out.call (Below.refl _ _).drew)
  have HG3 : Hid (Y.drew.rangeAt G 0 (wcl ⟨a, false, padL b⟩)) := hide HG.out
  generalize Y.drew = Z at HD3 HX3 HG3 hHeld ⊢
  clear HD2 HX2 HG
  refine wpAnyH_take (i := 0) (oi := _) (v := .pointer (some ⟨d, 0, none⟩)) rfl (by kernel_rfl) (by kernel_rfl) (by kernel_rfl) (fun _ _ _ h => h) (Or.inl ⟨by rfl, by intro w hSw; go_simp⟩) hHeld ?_
  change wpAnyH _ _ _ _ _ _ _ (Act.put _ (some 53) _) _
  simp only [Act.put, List.setIfInBounds_toArray, List.set_cons_zero, List.set_cons_succ]
  refine wpAnyH_take (i := 1) (oi := _) (v := .pointer (some ⟨d, 0, none⟩)) rfl (by kernel_rfl) (by kernel_rfl) (by kernel_rfl) (fun _ _ _ h => h) (Or.inl ⟨by rfl, by intro w hSw; go_simp⟩) hHeld ?_
  change wpAnyH _ _ _ _ _ _ _ (Act.put _ (some 54) _) _
  simp only [Act.put, List.setIfInBounds_toArray, List.set_cons_zero, List.set_cons_succ]
  refine wpAnyH_take (i := 2) (oi := _) (v := .pointer (some ⟨d, 2, none⟩)) rfl (by kernel_rfl) (by kernel_rfl) (by kernel_rfl) (fun _ _ _ h => h) (Or.inl ⟨by rfl, by intro w hSw; go_simp⟩) hHeld ?_
  change wpAnyH _ _ _ _ _ _ _ (Act.put _ (some 55) _) _
  simp only [Act.put, List.setIfInBounds_toArray, List.set_cons_zero, List.set_cons_succ]
  refine wpAnyH_take (i := 3) (oi := _) (v := .map (some bT)) rfl (by kernel_rfl) (by kernel_rfl) (by kernel_rfl) (fun _ _ _ h => h) (Or.inl ⟨by rfl, by intro w hSw; have h1 := hSw.1; go_simp⟩) hHeld ?_
  change wpAnyH _ _ _ _ _ _ _ (Act.put _ (some 56) _) _
  simp only [Act.put, List.setIfInBounds_toArray, List.set_cons_zero, List.set_cons_succ]
  refine wpAnyH_take (i := 4) (oi := _) (v := .int .i64 a) rfl (by kernel_rfl) (by kernel_rfl) (by kernel_rfl) (fun _ _ _ h => h) (Or.inl ⟨by rfl, by intro w hSw; go_simp⟩) hHeld ?_
  change wpAnyH _ _ _ _ _ _ _ (Act.put _ (some 57) _) _
  simp only [Act.put, List.setIfInBounds_toArray, List.set_cons_zero, List.set_cons_succ]
  refine wpAnyH_take (i := 5) (oi := _) (v := .pointer (some ⟨G, 2, none⟩)) rfl (by kernel_rfl) (by kernel_rfl) (by kernel_rfl) (fun _ _ _ h => h) (Or.inl ⟨by rfl, by intro w hSw; go_simp⟩) hHeld ?_
  change wpAnyH _ _ _ _ _ _ _ (Act.put _ (some 58) _) _
  simp only [Act.put, List.setIfInBounds_toArray, List.set_cons_zero, List.set_cons_succ]
  refine wpAnyH_take (i := 6) (oi := _) (v := _) rfl (by kernel_rfl) (by kernel_rfl) (by kernel_rfl) (fun _ _ _ h => h) (yieldsIf_load_mid (by rfl) _ _ rfl _ _ rfl _ _ (fun W hW => hW.2) Tryz.underlying101 rfl (by rw [infoBl, bv_len, HPL.out])) hHeld ?_
  change wpAnyH _ _ _ _ _ _ _ (Act.put _ (some 59) _) _
  simp only [Act.put, List.setIfInBounds_toArray, List.set_cons_zero, List.set_cons_succ]
  refine wpAnyH_ready (rs := [7]) (by kernel_rfl) (by simp) ?_
  refine AllReadyH.cons (o := _) rfl (fun K hK => ?_) AllReadyH.nil
  refine step_putM rfl _ _ _ rfl _ _ _ _ rfl rfl rfl HD3.out.mt HAS.out hn HA.out ?_
  intro Z1 hm4 hg4
  show K (Act.put _ none _) _
  simp only [Act.put]
  refine hK.out _ _ ⟨(HD3.out.putT hg4 hm4).c2, range_far2 hHeld.2 hg4 HD3.out.mt (by rw [bv_len, HPL.out]; decide)⟩ (fun hHeld1 => ?_)
  clear hK K hHeld
  have hHeld := hHeld1
  clear hHeld1
  have HD4 := hide (HD3.out.putT hg4 hm4)
  have HX4 := hide (HX3.out.turnT hg4)
  have HG4 := hide (range_far HG3.out hg4 (fun e => by have := HD3.out.mt.noCell 0; rw [← e] at this; have k := HG3.out 0 _ rfl; rw [Nat.add_zero] at k; rw [k] at this; cases this))
  clear hg4 hm4 HD3 HX3 HG3
  refine wpAnyH_done (by kernel_rfl) ?_ _
  obtain ⟨al, cl, hul⟩ := HD4.out.ro.form
  subst hul
  go_upto_region 12 with (fail)
  refine wp_region_held_drew (S := fun W => W.rangeAt G 0 (wcl ⟨a, false, padL b⟩)) (by kernel_rfl) HG4.out (fun hHeld => ?_)
  have HD5 := hide HD4.out.drew
  have HX5 := hide (HX4.out.call (Below.refl _ _).drew)
  generalize Z1.drew = W5 at HD5 HX5 hHeld ⊢
  clear HD4 HX4 HG4
  refine wpAnyH_take (i := 0) (oi := _) (v := .pointer (some ⟨d, 0, none⟩)) rfl (by kernel_rfl) (by kernel_rfl) (by kernel_rfl) (fun _ _ _ h => h) (Or.inl ⟨by rfl, by intro w hSw; go_simp⟩) hHeld ?_
  change wpAnyH _ _ _ _ _ _ _ (Act.put _ (some 60) _) _
  simp only [Act.put, List.setIfInBounds_toArray, List.set_cons_zero, List.set_cons_succ]
  refine wpAnyH_take (i := 1) (oi := _) (v := .pointer (some ⟨d, 0, none⟩)) rfl (by kernel_rfl) (by kernel_rfl) (by kernel_rfl) (fun _ _ _ h => h) (Or.inl ⟨by rfl, by intro w hSw; go_simp⟩) hHeld ?_
  change wpAnyH _ _ _ _ _ _ _ (Act.put _ (some 61) _) _
  simp only [Act.put, List.setIfInBounds_toArray, List.set_cons_zero, List.set_cons_succ]
  refine wpAnyH_take (i := 2) (oi := _) (v := .pointer (some ⟨d, 0, none⟩)) rfl (by kernel_rfl) (by kernel_rfl) (by kernel_rfl) (fun _ _ _ h => h) (Or.inl ⟨by rfl, by intro w hSw; go_simp⟩) hHeld ?_
  change wpAnyH _ _ _ _ _ _ _ (Act.put _ (some 62) _) _
  simp only [Act.put, List.setIfInBounds_toArray, List.set_cons_zero, List.set_cons_succ]
  refine wpAnyH_take (i := 3) (oi := _) (v := .pointer (some ⟨d, 3, none⟩)) rfl (by kernel_rfl) (by kernel_rfl) (by kernel_rfl) (fun _ _ _ h => h) (Or.inl ⟨by rfl, by intro w hSw; go_simp⟩) hHeld ?_
  change wpAnyH _ _ _ _ _ _ _ (Act.put _ (some 63) _) _
  simp only [Act.put, List.setIfInBounds_toArray, List.set_cons_zero, List.set_cons_succ]
  refine wpAnyH_take (i := 5) (oi := _) (v := _) rfl (by kernel_rfl) (by kernel_rfl) (by kernel_rfl) (fun _ _ _ h => h) (yieldsIf_load_mid (by rfl) _ _ rfl _ _ rfl _ _ (fun W hW => hW) Tryz.underlying103 rfl (by rw [infoWr, wcl_len (show Blk (Wr.by_ ⟨a, false, padL b⟩) from HBK.out)])) hHeld ?_
  change wpAnyH _ _ _ _ _ _ _ (Act.put _ (some 65) _) _
  simp only [Act.put, List.setIfInBounds_toArray, List.set_cons_zero, List.set_cons_succ]
  refine wpAnyH_ready (rs := [4, 6]) (by kernel_rfl) (by simp) ?_
  refine AllReadyH.cons (o := _) rfl (fun K hK => ?_) (AllReadyH.cons (o := _) rfl (fun K hK => ?_) AllReadyH.nil)
  · have i3 := HD5.out.c3
    go_simp
    clear i3
    refine hK.out _ _ hHeld (fun hHeld1 => ?_)
    clear hK K hHeld
    have hHeld := hHeld1
    clear hHeld1
    refine wpAnyH_ready (rs := [6]) (by kernel_rfl) (by simp) ?_
    refine AllReadyH.cons (o := _) rfl (fun K hK => ?_) AllReadyH.nil
    refine step_bldW rfl _ rfl ⟨a, false, padL b⟩ HPL.out rfl ?_
    show K (Act.put _ (some 66) _) _
    simp only [Act.put, List.setIfInBounds_toArray, List.set_cons_zero, List.set_cons_succ]
    have hbl6 : Below W5.heap.size W5 (W5.alloc (.cells (wcl ⟨a, false, padL b⟩).toArray 103)) := (Below.refl _ _).alloc (Nat.le_refl _) _
    refine hK.out _ _ (range_belW hHeld hbl6) (fun hHeld1 => ?_)
    clear hK K hHeld
    have hHeld := hHeld1
    clear hHeld1
    have HD6 := hide (HD5.out.below hbl6)
    have HX6 := hide (HX5.out.call hbl6)
    have HNW := hide (range_newsW (range_newW W5 (wcl ⟨a, false, padL b⟩) 103))
    generalize W5.alloc (.cells (wcl ⟨a, false, padL b⟩).toArray 103) = U6 at HD6 HX6 HNW hHeld ⊢
    generalize W5.heap.size = D at HNW ⊢
    clear hbl6 HD5 HX5
    refine wpAnyH_ready (rs := [7]) (by kernel_rfl) (by simp) ?_
    refine AllReadyH.cons (o := _) rfl (fun K hK => ?_) AllReadyH.nil
    refine step_appW rfl _ _ rfl _ _ rfl HD6.out.ro ⟨D, 0, none⟩ 1 ⟨a, false, padL b⟩ rfl HPL.out HNW.out (by omega) ?_
    intro v' W7 hlo hgr hub
    have HF := hide (HD6.out.putL hgr hlo hub)
    have HXF := hide (HX6.out.turnL hgr hub)
    have c7 : W7.cell? ⟨d, 3, none⟩ = some _ := (World.cell?_of_block (hgr.block d HD6.out.dl (fun e => HD6.out.du e.symm))).trans HD6.out.c3
    have f7 : W7.frozen? ⟨d, 3, none⟩ = false := (World.frozen?_of_block (hgr.block d HD6.out.dl (fun e => HD6.out.du e.symm))).trans (HD6.out.fz 3)
    have hS7 : W7.rangeAt G 0 (wcl ⟨a, false, padL b⟩) := fun j x hx => (World.cell?_of_block (hgr.block G (cell_block (hHeld j x hx)) (fun e => by have := HGU.out G (.inr (.inr (.inr e.symm))); omega))).trans (hHeld j x hx)
    have hS8 : (W7.setCell ⟨d, 3, none⟩ v').rangeAt G 0 (wcl ⟨a, false, padL b⟩) := fun j x hx => (World.cell?_setCell_other _ _ _ _ (fun q => by have := HGU.out d (.inl rfl); have := congrArg Addr.block q; simp at this; omega)).trans (hS7 j x hx)
    obtain ⟨a6, c6, hu6⟩ := hlo.form
    simp only [List.length_append, List.length_cons, List.length_nil, Nat.zero_add] at hu6
    subst hu6
    clear hlo hgr hub HD6 HX6 HNW
    show K (Act.put _ (some 67) _) _
    simp only [Act.put, List.setIfInBounds_toArray, List.set_cons_zero, List.set_cons_succ]
    refine hK.out _ _ hS7 (fun hHeld1 => ?_)
    clear hK K hHeld
    have hHeld := hHeld1
    clear hHeld1
    refine wpAnyH_take (i := 8) (oi := _) (v := .pointer (some ⟨d, 0, none⟩)) rfl (by kernel_rfl) (by kernel_rfl) (by kernel_rfl) (fun _ _ _ h => h) (Or.inl ⟨by rfl, by intro w hSw; go_simp⟩) hHeld ?_
    change wpAnyH _ _ _ _ _ _ _ (Act.put _ (some 68) _) _
    simp only [Act.put, List.setIfInBounds_toArray, List.set_cons_zero, List.set_cons_succ]
    refine wpAnyH_take (i := 9) (oi := _) (v := .pointer (some ⟨d, 3, none⟩)) rfl (by kernel_rfl) (by kernel_rfl) (by kernel_rfl) (fun _ _ _ h => h) (Or.inl ⟨by rfl, by intro w hSw; go_simp⟩) hHeld ?_
    change wpAnyH _ _ _ _ _ _ _ (Act.put _ (some 69) _) _
    simp only [Act.put, List.setIfInBounds_toArray, List.set_cons_zero, List.set_cons_succ]
    refine wpAnyH_ready (rs := [10]) (by kernel_rfl) (by simp) ?_
    refine AllReadyH.cons (o := _) rfl (fun K hK => ?_) AllReadyH.nil
    go_simp
    clear c7 f7
    refine hK.out _ _ hS8 (fun hHeld1 => ?_)
    clear hK K hHeld hHeld1
    refine wpAnyH_done (by kernel_rfl) ?_ _
    go_wp2
    go_ret
    exact ⟨_, rfl, HF.out, HXF.out⟩
  · refine step_bldW rfl _ rfl ⟨a, false, padL b⟩ HPL.out rfl ?_
    show K (Act.put _ (some 66) _) _
    simp only [Act.put, List.setIfInBounds_toArray, List.set_cons_zero, List.set_cons_succ]
    have hbl6 : Below W5.heap.size W5 (W5.alloc (.cells (wcl ⟨a, false, padL b⟩).toArray 103)) := (Below.refl _ _).alloc (Nat.le_refl _) _
    refine hK.out _ _ (range_belW hHeld hbl6) (fun hHeld1 => ?_)
    clear hK K hHeld
    have hHeld := hHeld1
    clear hHeld1
    have HD6 := hide (HD5.out.below hbl6)
    have HX6 := hide (HX5.out.call hbl6)
    have HNW := hide (range_newsW (range_newW W5 (wcl ⟨a, false, padL b⟩) 103))
    generalize W5.alloc (.cells (wcl ⟨a, false, padL b⟩).toArray 103) = U6 at HD6 HX6 HNW hHeld ⊢
    generalize W5.heap.size = D at HNW ⊢
    clear hbl6 HD5 HX5
    refine wpAnyH_ready (rs := [4]) (by kernel_rfl) (by simp) ?_
    refine AllReadyH.cons (o := _) rfl (fun K hK => ?_) AllReadyH.nil
    have i3 := HD6.out.c3
    go_simp
    clear i3
    refine hK.out _ _ hHeld (fun hHeld1 => ?_)
    clear hK K hHeld
    have hHeld := hHeld1
    clear hHeld1
    refine wpAnyH_ready (rs := [7]) (by kernel_rfl) (by simp) ?_
    refine AllReadyH.cons (o := _) rfl (fun K hK => ?_) AllReadyH.nil
    refine step_appW rfl _ _ rfl _ _ rfl HD6.out.ro ⟨D, 0, none⟩ 1 ⟨a, false, padL b⟩ rfl HPL.out HNW.out (by omega) ?_
    intro v' W7 hlo hgr hub
    have HF := hide (HD6.out.putL hgr hlo hub)
    have HXF := hide (HX6.out.turnL hgr hub)
    have c7 : W7.cell? ⟨d, 3, none⟩ = some _ := (World.cell?_of_block (hgr.block d HD6.out.dl (fun e => HD6.out.du e.symm))).trans HD6.out.c3
    have f7 : W7.frozen? ⟨d, 3, none⟩ = false := (World.frozen?_of_block (hgr.block d HD6.out.dl (fun e => HD6.out.du e.symm))).trans (HD6.out.fz 3)
    have hS7 : W7.rangeAt G 0 (wcl ⟨a, false, padL b⟩) := fun j x hx => (World.cell?_of_block (hgr.block G (cell_block (hHeld j x hx)) (fun e => by have := HGU.out G (.inr (.inr (.inr e.symm))); omega))).trans (hHeld j x hx)
    have hS8 : (W7.setCell ⟨d, 3, none⟩ v').rangeAt G 0 (wcl ⟨a, false, padL b⟩) := fun j x hx => (World.cell?_setCell_other _ _ _ _ (fun q => by have := HGU.out d (.inl rfl); have := congrArg Addr.block q; simp at this; omega)).trans (hS7 j x hx)
    obtain ⟨a6, c6, hu6⟩ := hlo.form
    simp only [List.length_append, List.length_cons, List.length_nil, Nat.zero_add] at hu6
    subst hu6
    clear hlo hgr hub HD6 HX6 HNW
    show K (Act.put _ (some 67) _) _
    simp only [Act.put, List.setIfInBounds_toArray, List.set_cons_zero, List.set_cons_succ]
    refine hK.out _ _ hS7 (fun hHeld1 => ?_)
    clear hK K hHeld
    have hHeld := hHeld1
    clear hHeld1
    refine wpAnyH_take (i := 8) (oi := _) (v := .pointer (some ⟨d, 0, none⟩)) rfl (by kernel_rfl) (by kernel_rfl) (by kernel_rfl) (fun _ _ _ h => h) (Or.inl ⟨by rfl, by intro w hSw; go_simp⟩) hHeld ?_
    change wpAnyH _ _ _ _ _ _ _ (Act.put _ (some 68) _) _
    simp only [Act.put, List.setIfInBounds_toArray, List.set_cons_zero, List.set_cons_succ]
    refine wpAnyH_take (i := 9) (oi := _) (v := .pointer (some ⟨d, 3, none⟩)) rfl (by kernel_rfl) (by kernel_rfl) (by kernel_rfl) (fun _ _ _ h => h) (Or.inl ⟨by rfl, by intro w hSw; go_simp⟩) hHeld ?_
    change wpAnyH _ _ _ _ _ _ _ (Act.put _ (some 69) _) _
    simp only [Act.put, List.setIfInBounds_toArray, List.set_cons_zero, List.set_cons_succ]
    refine wpAnyH_ready (rs := [10]) (by kernel_rfl) (by simp) ?_
    refine AllReadyH.cons (o := _) rfl (fun K hK => ?_) AllReadyH.nil
    go_simp
    clear c7 f7
    refine hK.out _ _ hS8 (fun hHeld1 => ?_)
    clear hK K hHeld hHeld1
    refine wpAnyH_done (by kernel_rfl) ?_ _
    go_wp2
    go_ret
    exact ⟨_, rfl, HF.out, HXF.out⟩
set_option maxRecDepth 100000 in
set_option maxHeartbeats 8000000 in
theorem bwrite_over (a : Int) (v : Value) (b : List Int) (w : World) (h : Dk w d bS bT u s tk lo) (hA : Asc tk) (hb : ∀ p ∈ tk, Num p.1 ∧ Blk p.2) (hv : Sl bc w v b) (hby : Byt b) (hl : b.length ≤ 64) (ha : Num a) (c : List Int) (hc : (look tk a).getD zer = c) (hq : (look tk a).isSome = true) (hn : tk.length < 100000) (hn2 : lo.length < 100000) :
    Calls Tryz.prog 25 #[.pointer (some ⟨d, 0, none⟩), .int .i64 a, v] w fun e w' => ∃ u', e = .returned .nilIface ∧ Dk w' d bS bT u' s (insM a (padL b) tk) (lo ++ [⟨a, false, padL b⟩]) ∧ Dx d bS bT u w w' u' := by
  have HAS := hide hA
  clear hA
  obtain ⟨ao, cap, rfl⟩ := hv.form
  have HH := hide h
  have HA := hide ha
  have HV := hide hv
  have HC := hide hc
  have HQ := hide hq
  have HL : Hid (c.length = 64) := hide (by rw [← hc]; exact at_len hb a)
  have j2 := h.c2
  clear h ha hv hc hb hq
  go_enter Tryz.func25, Tryz.ntmps25
  go_upto_region 7 with (first | (go_at_call 59; refine (check_ok _ _ HA.out).mono ?_; rintro e w9 ⟨rfl, hw9⟩; rw [hw9]; clear hw9 w9) | (refine wpList_lookOk2 _ rfl _ _ rfl _ _ _ rfl rfl HH.out.mt HA.out _ _ HC.out HQ.out ?_) | (refine wpList_allocB _ rfl rfl ?_) | (refine wpList_storeB _ rfl _ _ rfl zer _ zer_len HL.out rfl rfl ?_))
  have hbl : Below w.heap.size w (w.alloc (.cells (bv c).toArray 101)) := (Below.refl _ _).alloc (Nat.le_refl _) _
  have HD := hide (HH.out.below hbl)
  have HV1 := hide (HV.out.below hbl)
  have HX : Hid (Dx d bS bT u w (w.alloc (.cells (bv c).toArray 101)) u) := hide (Dx.of hbl)
  generalize w.alloc (.cells (bv c).toArray 101) = V at HD HV1 HX ⊢
  clear hbl HH HV j2
  go_quiet (fail)
  have HD1 := hide (HD.out.below (below_drewN (Below.refl _ _) nq))
  have HV2 := hide (HV1.out.below (below_drewN (Below.refl _ _) nq))
  have HX1 := hide (HX.out.call (below_drewN (Below.refl _ _) nq))
  generalize V.drewN nq = X at HD1 HV2 HX1 ⊢
  clear HD HV1 HX
  have hcp := copyW X a (.slice ao b.length cap) b 3 HV2.out hl
  go_upto_region 11 with (first | (refine wpList_buildW _ rfl _ rfl _ rfl ?_) | (refine wpList_allocW _ rfl rfl ?_) | (refine wpList_storeW _ rfl _ _ rfl wz _ zer_len zer_len rfl rfl ?_))
  clear hcp
  have HPL : Hid ((padL b).length = 64) := hide (padL_len hl)
  have HBK : Hid (Blk (padL b)) := hide (padL_blk hl hby)
  have hbl : Below X.heap.size X (X.alloc (.cells (wcl ⟨a, false, padL b⟩).toArray 103)) := (Below.refl _ _).alloc (Nat.le_refl _) _
  have HD2 := hide (HD1.out.below hbl)
  have HX2 := hide (HX1.out.call hbl)
  have HG : Hid ((X.alloc (.cells (wcl ⟨a, false, padL b⟩).toArray 103)).rangeAt X.heap.size 0 (wcl ⟨a, false, padL b⟩)) := hide (range_newW X _ _)
  have HGU : Hid (∀ k, Own d bS bT u k → k < X.heap.size) := hide (fun k hk => HD1.out.lt hk)
  generalize X.alloc (.cells (wcl ⟨a, false, padL b⟩).toArray 103) = Y at HD2 HX2 HG ⊢
  generalize X.heap.size = G at HG HGU ⊢
  clear hbl HD1 HV2 HX1 HL HC HQ
  refine wp_region_held_drew (S := fun W => W.cell? ⟨d, 2, none⟩ = some (.map (some bT)) ∧ W.rangeAt G 2 (bv (padL b))) (by kernel_rfl) ⟨HD2.out.drew.c2, range_tail HG.out⟩ (fun hHeld => ?_)
  have HD3 := hide HD2.out.drew
  have HX3 := hide (HX2.out.call (Below.refl _ _).drew)
  have HG3 : Hid (Y.drew.rangeAt G 0 (wcl ⟨a, false, padL b⟩)) := hide HG.out
  generalize Y.drew = Z at HD3 HX3 HG3 hHeld ⊢
  clear HD2 HX2 HG
  refine wpAnyH_take (i := 0) (oi := _) (v := .pointer (some ⟨d, 0, none⟩)) rfl (by kernel_rfl) (by kernel_rfl) (by kernel_rfl) (fun _ _ _ h => h) (Or.inl ⟨by rfl, by intro w hSw; go_simp⟩) hHeld ?_
  change wpAnyH _ _ _ _ _ _ _ (Act.put _ (some 53) _) _
  simp only [Act.put, List.setIfInBounds_toArray, List.set_cons_zero, List.set_cons_succ]
  refine wpAnyH_take (i := 1) (oi := _) (v := .pointer (some ⟨d, 0, none⟩)) rfl (by kernel_rfl) (by kernel_rfl) (by kernel_rfl) (fun _ _ _ h => h) (Or.inl ⟨by rfl, by intro w hSw; go_simp⟩) hHeld ?_
  change wpAnyH _ _ _ _ _ _ _ (Act.put _ (some 54) _) _
  simp only [Act.put, List.setIfInBounds_toArray, List.set_cons_zero, List.set_cons_succ]
  refine wpAnyH_take (i := 2) (oi := _) (v := .pointer (some ⟨d, 2, none⟩)) rfl (by kernel_rfl) (by kernel_rfl) (by kernel_rfl) (fun _ _ _ h => h) (Or.inl ⟨by rfl, by intro w hSw; go_simp⟩) hHeld ?_
  change wpAnyH _ _ _ _ _ _ _ (Act.put _ (some 55) _) _
  simp only [Act.put, List.setIfInBounds_toArray, List.set_cons_zero, List.set_cons_succ]
  refine wpAnyH_take (i := 3) (oi := _) (v := .map (some bT)) rfl (by kernel_rfl) (by kernel_rfl) (by kernel_rfl) (fun _ _ _ h => h) (Or.inl ⟨by rfl, by intro w hSw; have h1 := hSw.1; go_simp⟩) hHeld ?_
  change wpAnyH _ _ _ _ _ _ _ (Act.put _ (some 56) _) _
  simp only [Act.put, List.setIfInBounds_toArray, List.set_cons_zero, List.set_cons_succ]
  refine wpAnyH_take (i := 4) (oi := _) (v := .int .i64 a) rfl (by kernel_rfl) (by kernel_rfl) (by kernel_rfl) (fun _ _ _ h => h) (Or.inl ⟨by rfl, by intro w hSw; go_simp⟩) hHeld ?_
  change wpAnyH _ _ _ _ _ _ _ (Act.put _ (some 57) _) _
  simp only [Act.put, List.setIfInBounds_toArray, List.set_cons_zero, List.set_cons_succ]
  refine wpAnyH_take (i := 5) (oi := _) (v := .pointer (some ⟨G, 2, none⟩)) rfl (by kernel_rfl) (by kernel_rfl) (by kernel_rfl) (fun _ _ _ h => h) (Or.inl ⟨by rfl, by intro w hSw; go_simp⟩) hHeld ?_
  change wpAnyH _ _ _ _ _ _ _ (Act.put _ (some 58) _) _
  simp only [Act.put, List.setIfInBounds_toArray, List.set_cons_zero, List.set_cons_succ]
  refine wpAnyH_take (i := 6) (oi := _) (v := _) rfl (by kernel_rfl) (by kernel_rfl) (by kernel_rfl) (fun _ _ _ h => h) (yieldsIf_load_mid (by rfl) _ _ rfl _ _ rfl _ _ (fun W hW => hW.2) Tryz.underlying101 rfl (by rw [infoBl, bv_len, HPL.out])) hHeld ?_
  change wpAnyH _ _ _ _ _ _ _ (Act.put _ (some 59) _) _
  simp only [Act.put, List.setIfInBounds_toArray, List.set_cons_zero, List.set_cons_succ]
  refine wpAnyH_ready (rs := [7]) (by kernel_rfl) (by simp) ?_
  refine AllReadyH.cons (o := _) rfl (fun K hK => ?_) AllReadyH.nil
  refine step_putM rfl _ _ _ rfl _ _ _ _ rfl rfl rfl HD3.out.mt HAS.out hn HA.out ?_
  intro Z1 hm4 hg4
  show K (Act.put _ none _) _
  simp only [Act.put]
  refine hK.out _ _ ⟨(HD3.out.putT hg4 hm4).c2, range_far2 hHeld.2 hg4 HD3.out.mt (by rw [bv_len, HPL.out]; decide)⟩ (fun hHeld1 => ?_)
  clear hK K hHeld
  have hHeld := hHeld1
  clear hHeld1
  have HD4 := hide (HD3.out.putT hg4 hm4)
  have HX4 := hide (HX3.out.turnT hg4)
  have HG4 := hide (range_far HG3.out hg4 (fun e => by have := HD3.out.mt.noCell 0; rw [← e] at this; have k := HG3.out 0 _ rfl; rw [Nat.add_zero] at k; rw [k] at this; cases this))
  clear hg4 hm4 HD3 HX3 HG3
  refine wpAnyH_done (by kernel_rfl) ?_ _
  obtain ⟨al, cl, hul⟩ := HD4.out.ro.form
  subst hul
  go_upto_region 12 with (fail)
  refine wp_region_held_drew (S := fun W => W.rangeAt G 0 (wcl ⟨a, false, padL b⟩)) (by kernel_rfl) HG4.out (fun hHeld => ?_)
  have HD5 := hide HD4.out.drew
  have HX5 := hide (HX4.out.call (Below.refl _ _).drew)
  generalize Z1.drew = W5 at HD5 HX5 hHeld ⊢
  clear HD4 HX4 HG4
  refine wpAnyH_take (i := 0) (oi := _) (v := .pointer (some ⟨d, 0, none⟩)) rfl (by kernel_rfl) (by kernel_rfl) (by kernel_rfl) (fun _ _ _ h => h) (Or.inl ⟨by rfl, by intro w hSw; go_simp⟩) hHeld ?_
  change wpAnyH _ _ _ _ _ _ _ (Act.put _ (some 60) _) _
  simp only [Act.put, List.setIfInBounds_toArray, List.set_cons_zero, List.set_cons_succ]
  refine wpAnyH_take (i := 1) (oi := _) (v := .pointer (some ⟨d, 0, none⟩)) rfl (by kernel_rfl) (by kernel_rfl) (by kernel_rfl) (fun _ _ _ h => h) (Or.inl ⟨by rfl, by intro w hSw; go_simp⟩) hHeld ?_
  change wpAnyH _ _ _ _ _ _ _ (Act.put _ (some 61) _) _
  simp only [Act.put, List.setIfInBounds_toArray, List.set_cons_zero, List.set_cons_succ]
  refine wpAnyH_take (i := 2) (oi := _) (v := .pointer (some ⟨d, 0, none⟩)) rfl (by kernel_rfl) (by kernel_rfl) (by kernel_rfl) (fun _ _ _ h => h) (Or.inl ⟨by rfl, by intro w hSw; go_simp⟩) hHeld ?_
  change wpAnyH _ _ _ _ _ _ _ (Act.put _ (some 62) _) _
  simp only [Act.put, List.setIfInBounds_toArray, List.set_cons_zero, List.set_cons_succ]
  refine wpAnyH_take (i := 3) (oi := _) (v := .pointer (some ⟨d, 3, none⟩)) rfl (by kernel_rfl) (by kernel_rfl) (by kernel_rfl) (fun _ _ _ h => h) (Or.inl ⟨by rfl, by intro w hSw; go_simp⟩) hHeld ?_
  change wpAnyH _ _ _ _ _ _ _ (Act.put _ (some 63) _) _
  simp only [Act.put, List.setIfInBounds_toArray, List.set_cons_zero, List.set_cons_succ]
  refine wpAnyH_take (i := 5) (oi := _) (v := _) rfl (by kernel_rfl) (by kernel_rfl) (by kernel_rfl) (fun _ _ _ h => h) (yieldsIf_load_mid (by rfl) _ _ rfl _ _ rfl _ _ (fun W hW => hW) Tryz.underlying103 rfl (by rw [infoWr, wcl_len (show Blk (Wr.by_ ⟨a, false, padL b⟩) from HBK.out)])) hHeld ?_
  change wpAnyH _ _ _ _ _ _ _ (Act.put _ (some 65) _) _
  simp only [Act.put, List.setIfInBounds_toArray, List.set_cons_zero, List.set_cons_succ]
  refine wpAnyH_ready (rs := [4, 6]) (by kernel_rfl) (by simp) ?_
  refine AllReadyH.cons (o := _) rfl (fun K hK => ?_) (AllReadyH.cons (o := _) rfl (fun K hK => ?_) AllReadyH.nil)
  · have i3 := HD5.out.c3
    go_simp
    clear i3
    refine hK.out _ _ hHeld (fun hHeld1 => ?_)
    clear hK K hHeld
    have hHeld := hHeld1
    clear hHeld1
    refine wpAnyH_ready (rs := [6]) (by kernel_rfl) (by simp) ?_
    refine AllReadyH.cons (o := _) rfl (fun K hK => ?_) AllReadyH.nil
    refine step_bldW rfl _ rfl ⟨a, false, padL b⟩ HPL.out rfl ?_
    show K (Act.put _ (some 66) _) _
    simp only [Act.put, List.setIfInBounds_toArray, List.set_cons_zero, List.set_cons_succ]
    have hbl6 : Below W5.heap.size W5 (W5.alloc (.cells (wcl ⟨a, false, padL b⟩).toArray 103)) := (Below.refl _ _).alloc (Nat.le_refl _) _
    refine hK.out _ _ (range_belW hHeld hbl6) (fun hHeld1 => ?_)
    clear hK K hHeld
    have hHeld := hHeld1
    clear hHeld1
    have HD6 := hide (HD5.out.below hbl6)
    have HX6 := hide (HX5.out.call hbl6)
    have HNW := hide (range_newsW (range_newW W5 (wcl ⟨a, false, padL b⟩) 103))
    generalize W5.alloc (.cells (wcl ⟨a, false, padL b⟩).toArray 103) = U6 at HD6 HX6 HNW hHeld ⊢
    generalize W5.heap.size = D at HNW ⊢
    clear hbl6 HD5 HX5
    refine wpAnyH_ready (rs := [7]) (by kernel_rfl) (by simp) ?_
    refine AllReadyH.cons (o := _) rfl (fun K hK => ?_) AllReadyH.nil
    refine step_appW rfl _ _ rfl _ _ rfl HD6.out.ro ⟨D, 0, none⟩ 1 ⟨a, false, padL b⟩ rfl HPL.out HNW.out (by omega) ?_
    intro v' W7 hlo hgr hub
    have HF := hide (HD6.out.putL hgr hlo hub)
    have HXF := hide (HX6.out.turnL hgr hub)
    have c7 : W7.cell? ⟨d, 3, none⟩ = some _ := (World.cell?_of_block (hgr.block d HD6.out.dl (fun e => HD6.out.du e.symm))).trans HD6.out.c3
    have f7 : W7.frozen? ⟨d, 3, none⟩ = false := (World.frozen?_of_block (hgr.block d HD6.out.dl (fun e => HD6.out.du e.symm))).trans (HD6.out.fz 3)
    have hS7 : W7.rangeAt G 0 (wcl ⟨a, false, padL b⟩) := fun j x hx => (World.cell?_of_block (hgr.block G (cell_block (hHeld j x hx)) (fun e => by have := HGU.out G (.inr (.inr (.inr e.symm))); omega))).trans (hHeld j x hx)
    have hS8 : (W7.setCell ⟨d, 3, none⟩ v').rangeAt G 0 (wcl ⟨a, false, padL b⟩) := fun j x hx => (World.cell?_setCell_other _ _ _ _ (fun q => by have := HGU.out d (.inl rfl); have := congrArg Addr.block q; simp at this; omega)).trans (hS7 j x hx)
    obtain ⟨a6, c6, hu6⟩ := hlo.form
    simp only [List.length_append, List.length_cons, List.length_nil, Nat.zero_add] at hu6
    subst hu6
    clear hlo hgr hub HD6 HX6 HNW
    show K (Act.put _ (some 67) _) _
    simp only [Act.put, List.setIfInBounds_toArray, List.set_cons_zero, List.set_cons_succ]
    refine hK.out _ _ hS7 (fun hHeld1 => ?_)
    clear hK K hHeld
    have hHeld := hHeld1
    clear hHeld1
    refine wpAnyH_take (i := 8) (oi := _) (v := .pointer (some ⟨d, 0, none⟩)) rfl (by kernel_rfl) (by kernel_rfl) (by kernel_rfl) (fun _ _ _ h => h) (Or.inl ⟨by rfl, by intro w hSw; go_simp⟩) hHeld ?_
    change wpAnyH _ _ _ _ _ _ _ (Act.put _ (some 68) _) _
    simp only [Act.put, List.setIfInBounds_toArray, List.set_cons_zero, List.set_cons_succ]
    refine wpAnyH_take (i := 9) (oi := _) (v := .pointer (some ⟨d, 3, none⟩)) rfl (by kernel_rfl) (by kernel_rfl) (by kernel_rfl) (fun _ _ _ h => h) (Or.inl ⟨by rfl, by intro w hSw; go_simp⟩) hHeld ?_
    change wpAnyH _ _ _ _ _ _ _ (Act.put _ (some 69) _) _
    simp only [Act.put, List.setIfInBounds_toArray, List.set_cons_zero, List.set_cons_succ]
    refine wpAnyH_ready (rs := [10]) (by kernel_rfl) (by simp) ?_
    refine AllReadyH.cons (o := _) rfl (fun K hK => ?_) AllReadyH.nil
    go_simp
    clear c7 f7
    refine hK.out _ _ hS8 (fun hHeld1 => ?_)
    clear hK K hHeld hHeld1
    refine wpAnyH_done (by kernel_rfl) ?_ _
    go_wp2
    go_ret
    exact ⟨_, rfl, HF.out, HXF.out⟩
  · refine step_bldW rfl _ rfl ⟨a, false, padL b⟩ HPL.out rfl ?_
    show K (Act.put _ (some 66) _) _
    simp only [Act.put, List.setIfInBounds_toArray, List.set_cons_zero, List.set_cons_succ]
    have hbl6 : Below W5.heap.size W5 (W5.alloc (.cells (wcl ⟨a, false, padL b⟩).toArray 103)) := (Below.refl _ _).alloc (Nat.le_refl _) _
    refine hK.out _ _ (range_belW hHeld hbl6) (fun hHeld1 => ?_)
    clear hK K hHeld
    have hHeld := hHeld1
    clear hHeld1
    have HD6 := hide (HD5.out.below hbl6)
    have HX6 := hide (HX5.out.call hbl6)
    have HNW := hide (range_newsW (range_newW W5 (wcl ⟨a, false, padL b⟩) 103))
    generalize W5.alloc (.cells (wcl ⟨a, false, padL b⟩).toArray 103) = U6 at HD6 HX6 HNW hHeld ⊢
    generalize W5.heap.size = D at HNW ⊢
    clear hbl6 HD5 HX5
    refine wpAnyH_ready (rs := [4]) (by kernel_rfl) (by simp) ?_
    refine AllReadyH.cons (o := _) rfl (fun K hK => ?_) AllReadyH.nil
    have i3 := HD6.out.c3
    go_simp
    clear i3
    refine hK.out _ _ hHeld (fun hHeld1 => ?_)
    clear hK K hHeld
    have hHeld := hHeld1
    clear hHeld1
    refine wpAnyH_ready (rs := [7]) (by kernel_rfl) (by simp) ?_
    refine AllReadyH.cons (o := _) rfl (fun K hK => ?_) AllReadyH.nil
    refine step_appW rfl _ _ rfl _ _ rfl HD6.out.ro ⟨D, 0, none⟩ 1 ⟨a, false, padL b⟩ rfl HPL.out HNW.out (by omega) ?_
    intro v' W7 hlo hgr hub
    have HF := hide (HD6.out.putL hgr hlo hub)
    have HXF := hide (HX6.out.turnL hgr hub)
    have c7 : W7.cell? ⟨d, 3, none⟩ = some _ := (World.cell?_of_block (hgr.block d HD6.out.dl (fun e => HD6.out.du e.symm))).trans HD6.out.c3
    have f7 : W7.frozen? ⟨d, 3, none⟩ = false := (World.frozen?_of_block (hgr.block d HD6.out.dl (fun e => HD6.out.du e.symm))).trans (HD6.out.fz 3)
    have hS7 : W7.rangeAt G 0 (wcl ⟨a, false, padL b⟩) := fun j x hx => (World.cell?_of_block (hgr.block G (cell_block (hHeld j x hx)) (fun e => by have := HGU.out G (.inr (.inr (.inr e.symm))); omega))).trans (hHeld j x hx)
    have hS8 : (W7.setCell ⟨d, 3, none⟩ v').rangeAt G 0 (wcl ⟨a, false, padL b⟩) := fun j x hx => (World.cell?_setCell_other _ _ _ _ (fun q => by have := HGU.out d (.inl rfl); have := congrArg Addr.block q; simp at this; omega)).trans (hS7 j x hx)
    obtain ⟨a6, c6, hu6⟩ := hlo.form
    simp only [List.length_append, List.length_cons, List.length_nil, Nat.zero_add] at hu6
    subst hu6
    clear hlo hgr hub HD6 HX6 HNW
    show K (Act.put _ (some 67) _) _
    simp only [Act.put, List.setIfInBounds_toArray, List.set_cons_zero, List.set_cons_succ]
    refine hK.out _ _ hS7 (fun hHeld1 => ?_)
    clear hK K hHeld
    have hHeld := hHeld1
    clear hHeld1
    refine wpAnyH_take (i := 8) (oi := _) (v := .pointer (some ⟨d, 0, none⟩)) rfl (by kernel_rfl) (by kernel_rfl) (by kernel_rfl) (fun _ _ _ h => h) (Or.inl ⟨by rfl, by intro w hSw; go_simp⟩) hHeld ?_
    change wpAnyH _ _ _ _ _ _ _ (Act.put _ (some 68) _) _
    simp only [Act.put, List.setIfInBounds_toArray, List.set_cons_zero, List.set_cons_succ]
    refine wpAnyH_take (i := 9) (oi := _) (v := .pointer (some ⟨d, 3, none⟩)) rfl (by kernel_rfl) (by kernel_rfl) (by kernel_rfl) (fun _ _ _ h => h) (Or.inl ⟨by rfl, by intro w hSw; go_simp⟩) hHeld ?_
    change wpAnyH _ _ _ _ _ _ _ (Act.put _ (some 69) _) _
    simp only [Act.put, List.setIfInBounds_toArray, List.set_cons_zero, List.set_cons_succ]
    refine wpAnyH_ready (rs := [10]) (by kernel_rfl) (by simp) ?_
    refine AllReadyH.cons (o := _) rfl (fun K hK => ?_) AllReadyH.nil
    go_simp
    clear c7 f7
    refine hK.out _ _ hS8 (fun hHeld1 => ?_)
    clear hK K hHeld hHeld1
    refine wpAnyH_done (by kernel_rfl) ?_ _
    go_wp2
    go_ret
    exact ⟨_, rfl, HF.out, HXF.out⟩
end
end Go.Proofs.YtoamghncncalgaaGreatDoor
