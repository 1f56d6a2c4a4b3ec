/-
  WRITES ARE DONE, AND FORGOTTEN (block.do, forget, Sync): what the mathematics says. Conditions: fewer than a hundred thousand blocks and writes.
  WHAT WAS NOT SYNCED IS FORGOTTEN, AND ALL IS SYNCED (block.forget, Sync): what the mathematics says. Conditions: fewer than a hundred thousand blocks and writes.
-/
import Derived.Test.YtoamghncncalgaaGreatDoorJBlkWr
namespace Go.Proofs.YtoamghncncalgaaGreatDoor
open Go.RowKit

def iv : Value → Int
  | .int _ q => q
  | _ => 0
/-- The slice v holds these writes. -/
def Sw (W : World) (v : Value) (l : List Wr) : Prop := ∃ ao cap, v = .slice ao l.length cap ∧ (0 < l.length → ∃ g o, ao = some ⟨g, o, none⟩ ∧ W.rangeAt g o (wcs l))
theorem Lo.sw {W : World} {u : Value} {lo : List Wr} (h : Lo W u lo) : Sw W u lo := by
  obtain ⟨ao, cap, rfl⟩ := h.form
  refine ⟨ao, cap, rfl, fun h0 => ?_⟩
  obtain ⟨g, e, _, _, hr⟩ := h.rg h0
  exact ⟨g, 0, e, hr⟩
theorem range_ba {p : Nat → Prop} {W W' : World} {g o : Nat} {cs : List Value} (h : W.rangeAt g o cs) (hb : Ba p W W') (hp : ¬ p g) : W'.rangeAt g o cs := fun j v hv =>
  (hb.cell (cell_block (h j v hv)) hp _).trans (h j v hv)
theorem range_map {W : World} {g o b : Nat} {cs : List Value} {l : Cs} (h : W.rangeAt g o cs) (hm : Mp W b l) (hl : 0 < cs.length) : ¬ g = b := fun e => by
  have h0 := h 0 _ (List.getElem?_eq_getElem hl)
  have := hm.noCell (o + 0)
  rw [← e, h0] at this
  cases this
theorem take_step {α : Type} {l : List α} {k : Nat} (h : k < l.length) : l.take (k + 1) = l.take k ++ [l[k]] := List.take_succ_eq_append_getElem h
theorem stT_len {t : Cs} (h : Asc t) (w : Wr) : (stT t w).length ≤ t.length + 1 := by
  unfold stT
  split
  · split
    · rw [ins_len _ _ h]; split <;> omega
    · omega
  · rw [ins_len _ _ h]; split <;> omega
theorem stS_len {t : Cs} (h : Asc t) (w : Wr) : (stS t w).length ≤ t.length + 1 := by
  unfold stS
  split
  · have : (delM w.at_ t).length ≤ t.length := List.length_filter_le _ _
    omega
  · rw [ins_len _ _ h]; split <;> omega
theorem stF_len {c t : Cs} (h : Asc t) (w : Wr) : (stF c t w).length ≤ t.length + 1 := by
  unfold stF
  split
  · rw [ins_len _ _ h]; split <;> omega
  · have : (delM w.at_ t).length ≤ t.length := List.length_filter_le _ _
    omega
theorem syn_len : ∀ {l : List Wr} {t : Cs}, Asc t → (syn t l).length ≤ t.length + l.length
  | [], _, _ => Nat.le_refl _
  | w :: r, t, h => by
    have h1 := syn_len (l := r) (asc_stS h w)
    have h2 := stS_len h w
    show (syn (stS t w) r).length ≤ t.length + (r.length + 1)
    omega
theorem tkO_len : ∀ {l : List Wr} {t : Cs}, Asc t → (tkO t l).length ≤ t.length + l.length
  | [], _, _ => Nat.le_refl _
  | w :: r, t, h => by
    have h1 := tkO_len (l := r) (asc_stT h w)
    have h2 := stT_len h w
    show (tkO (stT t w) r).length ≤ t.length + (r.length + 1)
    omega
theorem fgt_len {c : Cs} : ∀ {l : List Wr} {t : Cs}, Asc t → (l.foldl (stF c) t).length ≤ t.length + l.length
  | [], _, _ => Nat.le_refl _
  | w :: r, t, h => by
    have h1 := fgt_len (c := c) (l := r) (asc_stF c h w)
    have h2 := stF_len (c := c) h w
    show (r.foldl (stF c) (stF c t w)).length ≤ t.length + (r.length + 1)
    omega
section
variable {d bS bT : Nat} {u : Value} {s : Dst} {tk : Cs} {lo : List Wr}
set_option maxRecDepth 100000 in
set_option maxHeartbeats 8000000 in
theorem bdo_any (v : Value) (l : List Wr) (w : World) (h : Dk w d bS bT u s tk lo) (hA : Asc s.cs) (hv : Sw w v l) (hl : ∀ x ∈ l, Num x.at_ ∧ Blk x.by_) (hn : s.cs.length + l.length < 100000) :
    Calls Tryz.prog 49 #[.pointer (some ⟨d, 0, none⟩), v] w fun e w' => e = .returned (.tuple #[]) ∧ Dk w' d bS bT u { s with cs := syn s.cs l } tk lo ∧ Ba (fun k => k = bS) w w' := by
  obtain ⟨ao, cap, rfl, hr⟩ := hv
  have HH := hide h
  have HAS := hide hA
  have HR := hide hr
  have HL := hide hl
  clear h hA hr hl
  go_enter Tryz.func49, Tryz.ntmps49
  go_wp2
  go_loopw [8] (fun i W => ∃ k : Nat, k ≤ l.length ∧ i = .int .i64 k ∧ Dk W d bS bT u { s with cs := syn s.cs (l.take k) } tk lo ∧ Ba (fun k => k = bS) w W) (fun i _ => l.length - (iv i).toNat)
  case atStart => exact ⟨0, Nat.zero_le _, rfl, HH.out, Ba.refl _ _⟩
  case round =>
    obtain ⟨k, hk, rfl, hd, hba⟩ := hrel
    by_cases hlt : k < l.length
    · obtain ⟨g, o, rfl, hrg⟩ := HR.out (by omega)
      have HB : Hid (Blk l[k].by_) := hide (HL.out _ (List.getElem_mem hlt)).2
      have HN : Hid (Num l[k].at_) := hide (HL.out _ (List.getElem_mem hlt)).1
      have hr0 : wr.rangeAt g o (wcs l) := range_ba hrg hba (range_map hrg HH.out.ms (by rw [wcs_len (fun x hx => (HL.out x hx).2)]; omega))
      have HE := hide (range_wr (fun x hx => (HL.out x hx).2) hr0 hlt)
      have HT : Hid (syn s.cs (l.take (k + 1)) = stS (syn s.cs (l.take k)) l[k]) := hide (by rw [take_step hlt, syn_snoc])
      have HAK : Hid (Asc (syn s.cs (l.take k))) := hide (asc_syn HAS.out _)
      have HNK : Hid ((syn s.cs (l.take k)).length < 100000) := hide (by have := syn_len HAS.out (l := l.take k); rw [List.length_take] at this; omega)
      have HD0 := hide hd
      have HBA0 := hide hba
      generalize l[k] = x at HB HN HE HT
      generalize syn s.cs (l.take k) = cs0 at HD0 HAK HNK HT
      clear hd hba hr0 hrg
      obtain ⟨xa, xf, xb⟩ := x
      go_upto_region 3 with (first | (refine wpList_load_mid rfl _ _ rfl _ _ rfl _ _ HE.out Tryz.underlying103 rfl (by rw [infoWr, wcl_len HB.out]) ?_) | (refine wpList_allocW _ rfl rfl ?_) | (refine wpList_storeW _ rfl _ _ rfl wz ⟨xa, xf, xb⟩ zer_len HB.out.1 rfl rfl ?_))
      have hbl : Below wr.heap.size wr (wr.alloc (.cells (wcl ⟨xa, xf, xb⟩).toArray 103)) := (Below.refl _ _).alloc (Nat.le_refl _) _
      have HD1 := hide (HD0.out.below hbl)
      have HBA1 := hide (HBA0.out.call hbl)
      have HG : Hid ((wr.alloc (.cells (wcl ⟨xa, xf, xb⟩).toArray 103)).rangeAt wr.heap.size 0 (wcl ⟨xa, xf, xb⟩)) := hide (range_newW wr _ _)
      generalize wr.alloc (.cells (wcl ⟨xa, xf, xb⟩).toArray 103) = V at HD1 HBA1 HG ⊢
      generalize wr.heap.size = G at HG ⊢
      clear hbl HD0 HBA0 HE
      have g1 := HG.out 1 _ rfl
      simp only [Nat.zero_add] at g1
      have HX : Hid (∀ y, stS cs0 ⟨xa, xf, xb⟩ = y → syn s.cs (l.take (k + 1)) = y) := hide (fun y e => HT.out.trans e)
      clear HT
      cases xf
      · go_upto_region 5 with (fail)
        refine wp_region_held_drew (S := fun W => W.cell? ⟨d, 1, none⟩ = some (.map (some bS)) ∧ W.rangeAt G 0 (wcl ⟨xa, false, xb⟩)) (by kernel_rfl) ⟨HD1.out.drew.c1, HG.out⟩ (fun hHeld => ?_)
        have HD2 := hide HD1.out.drew
        have HBA2 := hide (HBA1.out.call (Below.refl _ _).drew)
        generalize V.drew = Z at HD2 HBA2 hHeld ⊢
        clear HD1 HBA1 HG g1
        refine wpAnyH_take (i := 0) (oi := _) (v := .pointer (some ⟨d, 0, none⟩)) rfl (by kernel_rfl) (by kernel_rfl) (by kernel_rfl) (fun _ _ _ h => h) (Or.inl ⟨by rfl, by intro w hSw; go_simp⟩) hHeld ?_
        change wpAnyH _ _ _ _ _ _ _ (Act.put _ (some 20) _) _
        simp only [Act.put, List.setIfInBounds_toArray, List.set_cons_zero, List.set_cons_succ]
        refine wpAnyH_take (i := 1) (oi := _) (v := .pointer (some ⟨d, 0, none⟩)) rfl (by kernel_rfl) (by kernel_rfl) (by kernel_rfl) (fun _ _ _ h => h) (Or.inl ⟨by rfl, by intro w hSw; go_simp⟩) hHeld ?_
        change wpAnyH _ _ _ _ _ _ _ (Act.put _ (some 21) _) _
        simp only [Act.put, List.setIfInBounds_toArray, List.set_cons_zero, List.set_cons_succ]
        refine wpAnyH_take (i := 2) (oi := _) (v := .pointer (some ⟨d, 1, none⟩)) rfl (by kernel_rfl) (by kernel_rfl) (by kernel_rfl) (fun _ _ _ h => h) (Or.inl ⟨by rfl, by intro w hSw; go_simp⟩) hHeld ?_
        change wpAnyH _ _ _ _ _ _ _ (Act.put _ (some 22) _) _
        simp only [Act.put, List.setIfInBounds_toArray, List.set_cons_zero, List.set_cons_succ]
        refine wpAnyH_take (i := 3) (oi := _) (v := .map (some bS)) rfl (by kernel_rfl) (by kernel_rfl) (by kernel_rfl) (fun _ _ _ h => h) (Or.inl ⟨by rfl, by intro w hSw; have h1 := hSw.1; go_simp⟩) hHeld ?_
        change wpAnyH _ _ _ _ _ _ _ (Act.put _ (some 23) _) _
        simp only [Act.put, List.setIfInBounds_toArray, List.set_cons_zero, List.set_cons_succ]
        refine wpAnyH_take (i := 4) (oi := _) (v := .pointer (some ⟨G, 0, none⟩)) rfl (by kernel_rfl) (by kernel_rfl) (by kernel_rfl) (fun _ _ _ h => h) (Or.inl ⟨by rfl, by intro w hSw; go_simp⟩) hHeld ?_
        change wpAnyH _ _ _ _ _ _ _ (Act.put _ (some 24) _) _
        simp only [Act.put, List.setIfInBounds_toArray, List.set_cons_zero, List.set_cons_succ]
        refine wpAnyH_take (i := 5) (oi := _) (v := .int .i64 xa) rfl (by kernel_rfl) (by kernel_rfl) (by kernel_rfl) (fun _ _ _ h => h) (Or.inl ⟨by rfl, by intro w hSw; have h1 := hSw.2 0 _ rfl; simp only [Nat.zero_add] at h1; go_simp⟩) hHeld ?_
        change wpAnyH _ _ _ _ _ _ _ (Act.put _ (some 25) _) _
        simp only [Act.put, List.setIfInBounds_toArray, List.set_cons_zero, List.set_cons_succ]
        refine wpAnyH_take (i := 6) (oi := _) (v := .pointer (some ⟨G, 2, none⟩)) rfl (by kernel_rfl) (by kernel_rfl) (by kernel_rfl) (fun _ _ _ h => h) (Or.inl ⟨by rfl, by intro w hSw; go_simp⟩) hHeld ?_
        change wpAnyH _ _ _ _ _ _ _ (Act.put _ (some 26) _) _
        simp only [Act.put, List.setIfInBounds_toArray, List.set_cons_zero, List.set_cons_succ]
        refine wpAnyH_take (i := 7) (oi := _) (v := _) rfl (by kernel_rfl) (by kernel_rfl) (by kernel_rfl) (fun _ _ _ h => h) (yieldsIf_load_mid (by rfl) _ _ rfl _ _ rfl _ _ (fun W hW => range_tail hW.2) Tryz.underlying101 rfl (by rw [infoBl, bv_len, HB.out.1])) hHeld ?_
        change wpAnyH _ _ _ _ _ _ _ (Act.put _ (some 27) _) _
        simp only [Act.put, List.setIfInBounds_toArray, List.set_cons_zero, List.set_cons_succ]
        refine wpAnyH_ready (rs := [8]) (by kernel_rfl) (by simp) ?_
        refine AllReadyH.cons (o := _) rfl (fun K hK => ?_) AllReadyH.nil
        refine step_putM rfl _ _ _ rfl _ _ _ _ rfl rfl rfl HD2.out.ms HAK.out HNK.out HN.out ?_
        intro Z1 hm3 hg3
        have HD3 := hide (HD2.out.putS hg3 hm3)
        have HBA3 := hide (HBA2.out.grown hg3 (fun i _ e => by cases e; rfl))
        show K (Act.put _ none _) _
        simp only [Act.put]
        refine hK.out _ _ ⟨HD3.out.c1, range_far hHeld.2 hg3 (range_map hHeld.2 HD2.out.ms (by rw [wcl_len (show Blk (Wr.by_ _) from HB.out)]; decide))⟩ (fun hHeld1 => ?_)
        clear hK K hHeld
        have hHeld := hHeld1
        clear hHeld1
        clear hHeld
        refine wpAnyH_done (by kernel_rfl) ?_ _
        rw [show insM xa xb cs0 = syn s.cs (l.take (k + 1)) from (HX.out _ rfl).symm] at HD3
        go_wp2
        exact ⟨⟨k + 1, by omega, by go_num, HD3.out, HBA3.out⟩, by simp [iv]; omega⟩
      · go_upto_region 4 with (fail)
        refine wp_region_held_drew (S := fun W => W.cell? ⟨d, 1, none⟩ = some (.map (some bS)) ∧ W.rangeAt G 0 (wcl ⟨xa, true, xb⟩)) (by kernel_rfl) ⟨HD1.out.drew.c1, HG.out⟩ (fun hHeld => ?_)
        have HD2 := hide HD1.out.drew
        have HBA2 := hide (HBA1.out.call (Below.refl _ _).drew)
        generalize V.drew = Z at HD2 HBA2 hHeld ⊢
        clear HD1 HBA1 HG g1
        refine wpAnyH_take (i := 0) (oi := _) (v := .pointer (some ⟨d, 0, none⟩)) rfl (by kernel_rfl) (by kernel_rfl) (by kernel_rfl) (fun _ _ _ h => h) (Or.inl ⟨by rfl, by intro w hSw; go_simp⟩) hHeld ?_
        change wpAnyH _ _ _ _ _ _ _ (Act.put _ (some 14) _) _
        simp only [Act.put, List.setIfInBounds_toArray, List.set_cons_zero, List.set_cons_succ]
        refine wpAnyH_take (i := 1) (oi := _) (v := .pointer (some ⟨d, 0, none⟩)) rfl (by kernel_rfl) (by kernel_rfl) (by kernel_rfl) (fun _ _ _ h => h) (Or.inl ⟨by rfl, by intro w hSw; go_simp⟩) hHeld ?_
        change wpAnyH _ _ _ _ _ _ _ (Act.put _ (some 15) _) _
        simp only [Act.put, List.setIfInBounds_toArray, List.set_cons_zero, List.set_cons_succ]
        refine wpAnyH_take (i := 2) (oi := _) (v := .pointer (some ⟨d, 1, none⟩)) rfl (by kernel_rfl) (by kernel_rfl) (by kernel_rfl) (fun _ _ _ h => h) (Or.inl ⟨by rfl, by intro w hSw; go_simp⟩) hHeld ?_
        change wpAnyH _ _ _ _ _ _ _ (Act.put _ (some 16) _) _
        simp only [Act.put, List.setIfInBounds_toArray, List.set_cons_zero, List.set_cons_succ]
        refine wpAnyH_take (i := 3) (oi := _) (v := .map (some bS)) rfl (by kernel_rfl) (by kernel_rfl) (by kernel_rfl) (fun _ _ _ h => h) (Or.inl ⟨by rfl, by intro w hSw; have h1 := hSw.1; go_simp⟩) hHeld ?_
        change wpAnyH _ _ _ _ _ _ _ (Act.put _ (some 17) _) _
        simp only [Act.put, List.setIfInBounds_toArray, List.set_cons_zero, List.set_cons_succ]
        refine wpAnyH_take (i := 4) (oi := _) (v := .pointer (some ⟨G, 0, none⟩)) rfl (by kernel_rfl) (by kernel_rfl) (by kernel_rfl) (fun _ _ _ h => h) (Or.inl ⟨by rfl, by intro w hSw; go_simp⟩) hHeld ?_
        change wpAnyH _ _ _ _ _ _ _ (Act.put _ (some 18) _) _
        simp only [Act.put, List.setIfInBounds_toArray, List.set_cons_zero, List.set_cons_succ]
        refine wpAnyH_take (i := 5) (oi := _) (v := .int .i64 xa) rfl (by kernel_rfl) (by kernel_rfl) (by kernel_rfl) (fun _ _ _ h => h) (Or.inl ⟨by rfl, by intro w hSw; have h1 := hSw.2 0 _ rfl; simp only [Nat.zero_add] at h1; go_simp⟩) hHeld ?_
        change wpAnyH _ _ _ _ _ _ _ (Act.put _ (some 19) _) _
        simp only [Act.put, List.setIfInBounds_toArray, List.set_cons_zero, List.set_cons_succ]
        refine wpAnyH_ready (rs := [6]) (by kernel_rfl) (by simp) ?_
        refine AllReadyH.cons (o := _) rfl (fun K hK => ?_) AllReadyH.nil
        refine step_delM rfl _ _ rfl _ _ _ rfl rfl HD2.out.ms HN.out ?_
        intro Z1 hm3 hg3
        have HD3 := hide (HD2.out.putS hg3 hm3)
        have HBA3 := hide (HBA2.out.grown hg3 (fun i _ e => by cases e; rfl))
        show K (Act.put _ none _) _
        simp only [Act.put]
        refine hK.out _ _ ⟨HD3.out.c1, range_far hHeld.2 hg3 (range_map hHeld.2 HD2.out.ms (by rw [wcl_len (show Blk (Wr.by_ _) from HB.out)]; decide))⟩ (fun hHeld1 => ?_)
        clear hK K hHeld
        have hHeld := hHeld1
        clear hHeld1
        clear hHeld
        refine wpAnyH_done (by kernel_rfl) ?_ _
        rw [show delM xa cs0 = syn s.cs (l.take (k + 1)) from (HX.out _ rfl).symm] at HD3
        go_wp2
        exact ⟨⟨k + 1, by omega, by go_num, HD3.out, HBA3.out⟩, by simp [iv]; omega⟩
    · have HD0 := hide hd
      have HBA0 := hide hba
      clear hd hba
      have HE : Hid (l.take k = l) := hide (List.take_of_length_le (by omega))
      go_wp2
      rw [HE.out] at HD0
      exact bodyPost_end (v := .tuple #[]) (by simp [results, Tryz.results49]) rfl ⟨rfl, HD0.out, HBA0.out⟩
end
end Go.Proofs.YtoamghncncalgaaGreatDoor
namespace Go.Proofs.YtoamghncncalgaaGreatDoor
open Go.RowKit

section
variable {ops : Array Oper} {o : Oper} {a : Act} {w : World} {K : Act → World → Prop} {Q : Exit → Act → World → Prop} {E : Prop}
theorem step_allocB (hg : o.guard = none) (ho : o.op = .alloc 101) (h : K (a.put o.dst (.pointer (some ⟨w.heap.size, 0, none⟩))) (w.alloc (.cells (bv zer).toArray 101))) : if Region.wanted o (yielded ops a.tmps) = true then Oper.wp Tryz.prog o a w K Q else E := by
  have hw : Region.wanted o (yielded ops a.tmps) = true := by simp [Region.wanted, hg]
  rw [if_pos hw]
  unfold Oper.wp
  simp [execOp, ho, run_allocB, Result.andThen]
  exact h
theorem step_storeB (hg : o.guard = none) (x y : Operand) (ho : o.op = .store 101 x y) (c b : List Int) (hc : c.length = 64) (hb : b.length = 64) (hx : a.eval x = .pointer (some ⟨w.heap.size, 0, none⟩)) (hy : a.eval y = .agg (bv b).toArray)
    (h : K (a.put o.dst undef) (w.alloc (.cells (bv b).toArray 101))) : if Region.wanted o (yielded ops a.tmps) = true then Oper.wp Tryz.prog o a (w.alloc (.cells (bv c).toArray 101)) K Q else E := by
  have hw : Region.wanted o (yielded ops a.tmps) = true := by simp [Region.wanted, hg]
  rw [if_pos hw]
  have hrun := run_storeAt_new (P := Tryz.prog) w 101 (bv c).toArray (bv b).toArray (by rw [infoBl]; simp [bv_len, hb]) (by simp [bv_len, hb, hc]) (all_oneCell_toArray (bv_one b))
  unfold Oper.wp
  simp only [execOp, ho, hx, hy]
  simp [hrun, Result.andThen]
  exact h
end
theorem stF_some {c t : Cs} {w : Wr} {b : List Int} (hb : (look c w.at_).getD zer = b) (hq : (look c w.at_).isSome = true) : stF c t w = insM w.at_ b t := by
  unfold stF
  cases h : look c w.at_ with
  | none => rw [h] at hq; cases hq
  | some x => rw [h] at hb; simp at hb; rw [hb]
theorem stF_none {c t : Cs} {w : Wr} (hq : (look c w.at_).isSome = false) : stF c t w = delM w.at_ t := by
  unfold stF
  cases h : look c w.at_ with
  | none => rfl
  | some x => rw [h] at hq; cases hq
theorem grown_refl (w : World) (r : Option Nat) : w.grownBy w r := ⟨rfl, rfl, rfl, Nat.le_refl _, fun _ _ _ => rfl⟩
section
variable {d bS bT : Nat} {u : Value} {s : Dst} {tk : Cs} {lo : List Wr}
set_option maxRecDepth 100000 in
set_option maxHeartbeats 8000000 in
theorem bforget_any (w : World) (h : Dk w d bS bT u s tk lo) (hA : Asc tk) (hB : ∀ p ∈ s.cs, Num p.1 ∧ Blk p.2) (hl : ∀ x ∈ lo, Num x.at_ ∧ Blk x.by_) (hn : tk.length + lo.length < 100000) :
    Calls Tryz.prog 51 #[.pointer (some ⟨d, 0, none⟩)] w fun e w' => e = .returned (.tuple #[]) ∧ Dk w' d bS bT (.slice none 0 0) s (lo.foldl (stF s.cs) tk) [] ∧ Dx d bS bT u w w' (.slice none 0 0) := by
  obtain ⟨ao, cap, rfl, hr⟩ := h.ro.sw
  have HH := hide h
  have HAS := hide hA
  have HBS := hide hB
  have HR := hide hr
  have HL := hide hl
  have j3 := h.c3
  clear h hA hr hl hB
  go_enter Tryz.func51, Tryz.ntmps51
  go_wp2
  clear j3
  go_loopw [11] (fun i W => ∃ k : Nat, k ≤ lo.length ∧ i = .int .i64 k ∧ Dk W d bS bT (.slice ao lo.length cap) s ((lo.take k).foldl (stF s.cs) tk) lo ∧ Ba (fun k => k = bT) w W) (fun i _ => lo.length - (iv i).toNat)
  case atStart => exact ⟨0, Nat.zero_le _, rfl, HH.out, Ba.refl _ _⟩
  case round =>
    obtain ⟨k, hk, rfl, hd, hba⟩ := hrel
    by_cases hlt : k < lo.length
    · obtain ⟨g, o, rfl, hrg⟩ := HR.out (by omega)
      have HB : Hid (Blk lo[k].by_) := hide (HL.out _ (List.getElem_mem hlt)).2
      have HN : Hid (Num lo[k].at_) := hide (HL.out _ (List.getElem_mem hlt)).1
      have hr0 : wr.rangeAt g o (wcs lo) := range_ba hrg hba (range_map hrg HH.out.mt (by rw [wcs_len (fun x hx => (HL.out x hx).2)]; omega))
      have HE := hide (range_wr (fun x hx => (HL.out x hx).2) hr0 hlt)
      have HT : Hid ((lo.take (k + 1)).foldl (stF s.cs) tk = stF s.cs ((lo.take k).foldl (stF s.cs) tk) lo[k]) := hide (by rw [take_step hlt, List.foldl_append]; rfl)
      have HAK : Hid (Asc ((lo.take k).foldl (stF s.cs) tk)) := hide (asc_fgt _ HAS.out _)
      have HNK : Hid (((lo.take k).foldl (stF s.cs) tk).length < 100000) := hide (by have := fgt_len (c := s.cs) HAS.out (l := lo.take k); rw [List.length_take] at this; omega)
      have HD0 := hide hd
      have HBA0 := hide hba
      generalize lo[k] = x at HB HN HE HT
      generalize (lo.take k).foldl (stF s.cs) tk = tk0 at HD0 HAK HNK HT
      clear hd hba hr0 hrg
      obtain ⟨xa, xf, xb⟩ := x
      go_upto_region 3 with (first | (refine wpList_load_mid rfl _ _ rfl _ _ rfl _ _ HE.out Tryz.underlying103 rfl (by rw [infoWr, wcl_len HB.out]) ?_) | (refine wpList_allocW _ rfl rfl ?_) | (refine wpList_storeW _ rfl _ _ rfl wz ⟨xa, xf, xb⟩ zer_len HB.out.1 rfl rfl ?_))
      have hbl : Below wr.heap.size wr (wr.alloc (.cells (wcl ⟨xa, xf, xb⟩).toArray 103)) := (Below.refl _ _).alloc (Nat.le_refl _) _
      have HD1 := hide (HD0.out.below hbl)
      have HBA1 := hide (HBA0.out.call hbl)
      have HG : Hid ((wr.alloc (.cells (wcl ⟨xa, xf, xb⟩).toArray 103)).rangeAt wr.heap.size 0 (wcl ⟨xa, xf, xb⟩)) := hide (range_newW wr _ _)
      generalize wr.alloc (.cells (wcl ⟨xa, xf, xb⟩).toArray 103) = V at HD1 HBA1 HG ⊢
      generalize wr.heap.size = G at HG ⊢
      clear hbl HD0 HBA0 HE
      obtain ⟨c, HC⟩ : ∃ c, Hid ((look s.cs xa).getD zer = c) := ⟨_, rfl⟩
      obtain ⟨q, HQ⟩ : ∃ q, Hid ((look s.cs xa).isSome = q) := ⟨_, rfl⟩
      have HCL : Hid (c.length = 64) := hide (by rw [← HC.out]; exact at_len HBS.out xa)
      refine wp_region_held_drew (S := fun W => W.cell? ⟨d, 1, none⟩ = some (.map (some bS)) ∧ W.rangeAt G 0 (wcl ⟨xa, xf, xb⟩) ∧ Mp W bS s.cs) (by kernel_rfl) ⟨HD1.out.drew.c1, HG.out, HD1.out.drew.ms⟩ (fun hHeld => ?_)
      have HD2 := hide HD1.out.drew
      have HBA2 := hide (HBA1.out.call (Below.refl _ _).drew)
      generalize V.drew = Z at HD2 HBA2 hHeld ⊢
      clear HD1 HBA1 HG
      refine wpAnyH_take (i := 0) (oi := _) (v := .pointer (some ⟨d, 0, none⟩)) rfl (by kernel_rfl) (by kernel_rfl) (by kernel_rfl) (fun _ _ _ h => h) (Or.inl ⟨by rfl, by intro w hSw; go_simp⟩) hHeld ?_
      change wpAnyH _ _ _ _ _ _ _ (Act.put _ (some 16) _) _
      simp only [Act.put, List.setIfInBounds_toArray, List.set_cons_zero, List.set_cons_succ]
      refine wpAnyH_take (i := 1) (oi := _) (v := .pointer (some ⟨d, 0, none⟩)) rfl (by kernel_rfl) (by kernel_rfl) (by kernel_rfl) (fun _ _ _ h => h) (Or.inl ⟨by rfl, by intro w hSw; go_simp⟩) hHeld ?_
      change wpAnyH _ _ _ _ _ _ _ (Act.put _ (some 17) _) _
      simp only [Act.put, List.setIfInBounds_toArray, List.set_cons_zero, List.set_cons_succ]
      refine wpAnyH_take (i := 2) (oi := _) (v := .pointer (some ⟨d, 1, none⟩)) rfl (by kernel_rfl) (by kernel_rfl) (by kernel_rfl) (fun _ _ _ h => h) (Or.inl ⟨by rfl, by intro w hSw; go_simp⟩) hHeld ?_
      change wpAnyH _ _ _ _ _ _ _ (Act.put _ (some 18) _) _
      simp only [Act.put, List.setIfInBounds_toArray, List.set_cons_zero, List.set_cons_succ]
      refine wpAnyH_take (i := 3) (oi := _) (v := .map (some bS)) rfl (by kernel_rfl) (by kernel_rfl) (by kernel_rfl) (fun _ _ _ h => h) (Or.inl ⟨by rfl, by intro w hSw; have h1 := hSw.1; go_simp⟩) hHeld ?_
      change wpAnyH _ _ _ _ _ _ _ (Act.put _ (some 19) _) _
      simp only [Act.put, List.setIfInBounds_toArray, List.set_cons_zero, List.set_cons_succ]
      refine wpAnyH_take (i := 4) (oi := _) (v := .pointer (some ⟨G, 0, none⟩)) rfl (by kernel_rfl) (by kernel_rfl) (by kernel_rfl) (fun _ _ _ h => h) (Or.inl ⟨by rfl, by intro w hSw; go_simp⟩) hHeld ?_
      change wpAnyH _ _ _ _ _ _ _ (Act.put _ (some 20) _) _
      simp only [Act.put, List.setIfInBounds_toArray, List.set_cons_zero, List.set_cons_succ]
      refine wpAnyH_take (i := 5) (oi := _) (v := .int .i64 xa) rfl (by kernel_rfl) (by kernel_rfl) (by kernel_rfl) (fun _ _ _ h => h) (Or.inl ⟨by rfl, by intro w hSw; have h1 := hSw.2.1 0 _ rfl; simp only [Nat.zero_add] at h1; go_simp⟩) hHeld ?_
      change wpAnyH _ _ _ _ _ _ _ (Act.put _ (some 21) _) _
      simp only [Act.put, List.setIfInBounds_toArray, List.set_cons_zero, List.set_cons_succ]
      refine wpAnyH_take (i := 6) (oi := _) (v := .tuple #[.agg (bv c).toArray, .bool q]) rfl (by kernel_rfl) (by kernel_rfl) (by kernel_rfl) (fun _ _ _ h => h) (yields_lookOk (by rfl) _ _ rfl _ _ _ rfl rfl (fun W hW => hW.2.2) HN.out c q HC.out HQ.out) hHeld ?_
      change wpAnyH _ _ _ _ _ _ _ (Act.put _ (some 22) _) _
      simp only [Act.put, List.setIfInBounds_toArray, List.set_cons_zero, List.set_cons_succ]
      refine wpAnyH_take (i := 7) (oi := _) (v := .tuple #[.agg (bv c).toArray, .bool q]) rfl (by kernel_rfl) (by kernel_rfl) (by kernel_rfl) (fun _ _ _ h => h) (Or.inl ⟨by rfl, by intro w hSw; go_simp⟩) hHeld ?_
      change wpAnyH _ _ _ _ _ _ _ (Act.put _ (some 15) _) _
      simp only [Act.put, List.setIfInBounds_toArray, List.set_cons_zero, List.set_cons_succ]
      refine wpAnyH_take (i := 8) (oi := _) (v := .agg (bv c).toArray) rfl (by kernel_rfl) (by kernel_rfl) (by kernel_rfl) (fun _ _ _ h => h) (Or.inl ⟨by rfl, by intro w hSw; go_simp⟩) hHeld ?_
      change wpAnyH _ _ _ _ _ _ _ (Act.put _ (some 23) _) _
      simp only [Act.put, List.setIfInBounds_toArray, List.set_cons_zero, List.set_cons_succ]
      refine wpAnyH_take (i := 9) (oi := _) (v := .bool q) rfl (by kernel_rfl) (by kernel_rfl) (by kernel_rfl) (fun _ _ _ h => h) (Or.inl ⟨by rfl, by intro w hSw; go_simp⟩) hHeld ?_
      change wpAnyH _ _ _ _ _ _ _ (Act.put _ (some 24) _) _
      simp only [Act.put, List.setIfInBounds_toArray, List.set_cons_zero, List.set_cons_succ]
      refine wpAnyH_ready (rs := [10]) (by kernel_rfl) (by simp) ?_
      refine AllReadyH.cons (o := _) rfl (fun K hK => ?_) AllReadyH.nil
      refine step_allocB rfl rfl ?_
      show K (Act.put _ (some 4) _) _
      simp only [Act.put, List.setIfInBounds_toArray, List.set_cons_zero, List.set_cons_succ]
      have hb0 : Below Z.heap.size Z (Z.alloc (.cells (bv zer).toArray 101)) := (Below.refl _ _).alloc (Nat.le_refl _) _
      have hS0 := (⟨(HD2.out.below hb0).c1, range_belW hHeld.2.1 hb0, (HD2.out.below hb0).ms⟩ : _ ∧ _ ∧ _)
      refine hK.out _ _ hS0 (fun hHeld1 => ?_)
      clear hK K
      have hHeld0 := hHeld
      clear hHeld
      have hHeld := hHeld1
      clear hHeld1
      refine wpAnyH_ready (rs := [11]) (by kernel_rfl) (by simp) ?_
      refine AllReadyH.cons (o := _) rfl (fun K hK => ?_) AllReadyH.nil
      refine step_storeB rfl _ _ rfl zer c zer_len HCL.out rfl rfl ?_
      show K (Act.put _ none _) _
      simp only [Act.put]
      have hb1 : Below Z.heap.size Z (Z.alloc (.cells (bv c).toArray 101)) := (Below.refl _ _).alloc (Nat.le_refl _) _
      have hS1 := (⟨(HD2.out.below hb1).c1, range_belW hHeld0.2.1 hb1, (HD2.out.below hb1).ms⟩ : _ ∧ _ ∧ _)
      refine hK.out _ _ hS1 (fun hHeld1 => ?_)
      clear hK K hHeld
      have hHeld := hHeld1
      clear hHeld1
      clear hb0 hS0 hS1 hHeld0
      refine wpAnyH_take (i := 12) (oi := _) (v := .bool q) rfl (by kernel_rfl) (by kernel_rfl) (by kernel_rfl) (fun _ _ _ h => h) (Or.inl ⟨by rfl, by intro w hSw; go_simp⟩) hHeld ?_
      change wpAnyH _ _ _ _ _ _ _ (Act.put _ (some 5) _) _
      simp only [Act.put, List.setIfInBounds_toArray, List.set_cons_zero, List.set_cons_succ]
      refine wpAnyH_done (by kernel_rfl) ?_ _
      have HD3 := hide (HD2.out.below hb1)
      have HBA3 := hide (HBA2.out.call hb1)
      have HG3 := hide hHeld.2.1
      have HG4 : Hid ((Z.alloc (.cells (bv c).toArray 101)).rangeAt Z.heap.size 0 (bv c)) := hide (range_newW Z _ _)
      generalize Z.alloc (.cells (bv c).toArray 101) = Y at HD3 HBA3 HG3 HG4 hHeld ⊢
      generalize Z.heap.size = G2 at HG4 ⊢
      clear hb1 HD2 HBA2
      clear hHeld
      cases q
      · go_upto_region 6 with (fail)
        refine wp_region_held_drew (S := fun W => W.cell? ⟨d, 2, none⟩ = some (.map (some bT)) ∧ W.rangeAt G 0 (wcl ⟨xa, xf, xb⟩) ∧ W.rangeAt G2 0 (bv c)) (by kernel_rfl) ⟨HD3.out.drew.c2, HG3.out, HG4.out⟩ (fun hHeld => ?_)
        have HD4 := hide HD3.out.drew
        have HBA4 := hide (HBA3.out.call (Below.refl _ _).drew)
        generalize Y.drew = U at HD4 HBA4 hHeld ⊢
        clear HD3 HBA3 HG3 HG4
        refine wpAnyH_take (i := 0) (oi := _) (v := .pointer (some ⟨d, 0, none⟩)) rfl (by kernel_rfl) (by kernel_rfl) (by kernel_rfl) (fun _ _ _ h => h) (Or.inl ⟨by rfl, by intro w hSw; go_simp⟩) hHeld ?_
        change wpAnyH _ _ _ _ _ _ _ (Act.put _ (some 33) _) _
        simp only [Act.put, List.setIfInBounds_toArray, List.set_cons_zero, List.set_cons_succ]
        refine wpAnyH_take (i := 1) (oi := _) (v := .pointer (some ⟨d, 0, none⟩)) rfl (by kernel_rfl) (by kernel_rfl) (by kernel_rfl) (fun _ _ _ h => h) (Or.inl ⟨by rfl, by intro w hSw; go_simp⟩) hHeld ?_
        change wpAnyH _ _ _ _ _ _ _ (Act.put _ (some 34) _) _
        simp only [Act.put, List.setIfInBounds_toArray, List.set_cons_zero, List.set_cons_succ]
        refine wpAnyH_take (i := 2) (oi := _) (v := .pointer (some ⟨d, 2, none⟩)) rfl (by kernel_rfl) (by kernel_rfl) (by kernel_rfl) (fun _ _ _ h => h) (Or.inl ⟨by rfl, by intro w hSw; go_simp⟩) hHeld ?_
        change wpAnyH _ _ _ _ _ _ _ (Act.put _ (some 35) _) _
        simp only [Act.put, List.setIfInBounds_toArray, List.set_cons_zero, List.set_cons_succ]
        refine wpAnyH_take (i := 3) (oi := _) (v := .map (some bT)) rfl (by kernel_rfl) (by kernel_rfl) (by kernel_rfl) (fun _ _ _ h => h) (Or.inl ⟨by rfl, by intro w hSw; have h1 := hSw.1; go_simp⟩) hHeld ?_
        change wpAnyH _ _ _ _ _ _ _ (Act.put _ (some 36) _) _
        simp only [Act.put, List.setIfInBounds_toArray, List.set_cons_zero, List.set_cons_succ]
        refine wpAnyH_take (i := 4) (oi := _) (v := .pointer (some ⟨G, 0, none⟩)) rfl (by kernel_rfl) (by kernel_rfl) (by kernel_rfl) (fun _ _ _ h => h) (Or.inl ⟨by rfl, by intro w hSw; go_simp⟩) hHeld ?_
        change wpAnyH _ _ _ _ _ _ _ (Act.put _ (some 37) _) _
        simp only [Act.put, List.setIfInBounds_toArray, List.set_cons_zero, List.set_cons_succ]
        refine wpAnyH_take (i := 5) (oi := _) (v := .int .i64 xa) rfl (by kernel_rfl) (by kernel_rfl) (by kernel_rfl) (fun _ _ _ h => h) (Or.inl ⟨by rfl, by intro w hSw; have h1 := hSw.2.1 0 _ rfl; simp only [Nat.zero_add] at h1; go_simp⟩) hHeld ?_
        change wpAnyH _ _ _ _ _ _ _ (Act.put _ (some 38) _) _
        simp only [Act.put, List.setIfInBounds_toArray, List.set_cons_zero, List.set_cons_succ]
        refine wpAnyH_ready (rs := [6]) (by kernel_rfl) (by simp) ?_
        refine AllReadyH.cons (o := _) rfl (fun K hK => ?_) AllReadyH.nil
        refine step_delM rfl _ _ rfl _ _ _ rfl rfl HD4.out.mt HN.out ?_
        intro Z1 hm5 hg5
        have HD5 := hide (HD4.out.putT hg5 hm5)
        have HBA5 := hide (HBA4.out.grown hg5 (fun i _ e => by cases e; rfl))
        show K (Act.put _ none _) _
        simp only [Act.put]
        refine hK.out _ _ ⟨HD5.out.c2, range_far hHeld.2.1 hg5 (range_map hHeld.2.1 HD4.out.mt (by rw [wcl_len (show Blk (Wr.by_ _) from HB.out)]; decide)), range_far hHeld.2.2 hg5 (range_map hHeld.2.2 HD4.out.mt (by rw [bv_len, HCL.out]; decide))⟩ (fun hHeld1 => ?_)
        clear hK K hHeld
        have hHeld := hHeld1
        clear hHeld1
        clear hHeld
        refine wpAnyH_done (by kernel_rfl) ?_ _
        rw [show delM xa tk0 = (lo.take (k + 1)).foldl (stF s.cs) tk from (HT.out.trans (stF_none HQ.out)).symm] at HD5
        go_wp2
        exact ⟨⟨k + 1, by omega, by go_num, HD5.out, HBA5.out⟩, by simp [iv]; omega⟩
      · go_upto_region 5 with (fail)
        refine wp_region_held_drew (S := fun W => W.cell? ⟨d, 2, none⟩ = some (.map (some bT)) ∧ W.rangeAt G 0 (wcl ⟨xa, xf, xb⟩) ∧ W.rangeAt G2 0 (bv c)) (by kernel_rfl) ⟨HD3.out.drew.c2, HG3.out, HG4.out⟩ (fun hHeld => ?_)
        have HD4 := hide HD3.out.drew
        have HBA4 := hide (HBA3.out.call (Below.refl _ _).drew)
        generalize Y.drew = U at HD4 HBA4 hHeld ⊢
        clear HD3 HBA3 HG3 HG4
        refine wpAnyH_take (i := 0) (oi := _) (v := .pointer (some ⟨d, 0, none⟩)) rfl (by kernel_rfl) (by kernel_rfl) (by kernel_rfl) (fun _ _ _ h => h) (Or.inl ⟨by rfl, by intro w hSw; go_simp⟩) hHeld ?_
        change wpAnyH _ _ _ _ _ _ _ (Act.put _ (some 26) _) _
        simp only [Act.put, List.setIfInBounds_toArray, List.set_cons_zero, List.set_cons_succ]
        refine wpAnyH_take (i := 1) (oi := _) (v := .pointer (some ⟨d, 0, none⟩)) rfl (by kernel_rfl) (by kernel_rfl) (by kernel_rfl) (fun _ _ _ h => h) (Or.inl ⟨by rfl, by intro w hSw; go_simp⟩) hHeld ?_
        change wpAnyH _ _ _ _ _ _ _ (Act.put _ (some 27) _) _
        simp only [Act.put, List.setIfInBounds_toArray, List.set_cons_zero, List.set_cons_succ]
        refine wpAnyH_take (i := 2) (oi := _) (v := .pointer (some ⟨d, 2, none⟩)) rfl (by kernel_rfl) (by kernel_rfl) (by kernel_rfl) (fun _ _ _ h => h) (Or.inl ⟨by rfl, by intro w hSw; go_simp⟩) hHeld ?_
        change wpAnyH _ _ _ _ _ _ _ (Act.put _ (some 28) _) _
        simp only [Act.put, List.setIfInBounds_toArray, List.set_cons_zero, List.set_cons_succ]
        refine wpAnyH_take (i := 3) (oi := _) (v := .map (some bT)) rfl (by kernel_rfl) (by kernel_rfl) (by kernel_rfl) (fun _ _ _ h => h) (Or.inl ⟨by rfl, by intro w hSw; have h1 := hSw.1; go_simp⟩) hHeld ?_
        change wpAnyH _ _ _ _ _ _ _ (Act.put _ (some 29) _) _
        simp only [Act.put, List.setIfInBounds_toArray, List.set_cons_zero, List.set_cons_succ]
        refine wpAnyH_take (i := 4) (oi := _) (v := .pointer (some ⟨G, 0, none⟩)) rfl (by kernel_rfl) (by kernel_rfl) (by kernel_rfl) (fun _ _ _ h => h) (Or.inl ⟨by rfl, by intro w hSw; go_simp⟩) hHeld ?_
        change wpAnyH _ _ _ _ _ _ _ (Act.put _ (some 30) _) _
        simp only [Act.put, List.setIfInBounds_toArray, List.set_cons_zero, List.set_cons_succ]
        refine wpAnyH_take (i := 5) (oi := _) (v := .int .i64 xa) rfl (by kernel_rfl) (by kernel_rfl) (by kernel_rfl) (fun _ _ _ h => h) (Or.inl ⟨by rfl, by intro w hSw; have h1 := hSw.2.1 0 _ rfl; simp only [Nat.zero_add] at h1; go_simp⟩) hHeld ?_
        change wpAnyH _ _ _ _ _ _ _ (Act.put _ (some 31) _) _
        simp only [Act.put, List.setIfInBounds_toArray, List.set_cons_zero, List.set_cons_succ]
        refine wpAnyH_take (i := 6) (oi := _) (v := _) rfl (by kernel_rfl) (by kernel_rfl) (by kernel_rfl) (fun _ _ _ h => h) (yieldsIf_load_mid (by rfl) _ _ rfl _ _ rfl _ _ (fun W hW => hW.2.2) Tryz.underlying101 rfl (by rw [infoBl, bv_len, HCL.out])) hHeld ?_
        change wpAnyH _ _ _ _ _ _ _ (Act.put _ (some 32) _) _
        simp only [Act.put, List.setIfInBounds_toArray, List.set_cons_zero, List.set_cons_succ]
        refine wpAnyH_ready (rs := [7]) (by kernel_rfl) (by simp) ?_
        refine AllReadyH.cons (o := _) rfl (fun K hK => ?_) AllReadyH.nil
        refine step_putM rfl _ _ _ rfl _ _ _ _ rfl rfl rfl HD4.out.mt HAK.out HNK.out HN.out ?_
        intro Z1 hm5 hg5
        have HD5 := hide (HD4.out.putT hg5 hm5)
        have HBA5 := hide (HBA4.out.grown hg5 (fun i _ e => by cases e; rfl))
        show K (Act.put _ none _) _
        simp only [Act.put]
        refine hK.out _ _ ⟨HD5.out.c2, range_far hHeld.2.1 hg5 (range_map hHeld.2.1 HD4.out.mt (by rw [wcl_len (show Blk (Wr.by_ _) from HB.out)]; decide)), range_far hHeld.2.2 hg5 (range_map hHeld.2.2 HD4.out.mt (by rw [bv_len, HCL.out]; decide))⟩ (fun hHeld1 => ?_)
        clear hK K hHeld
        have hHeld := hHeld1
        clear hHeld1
        clear hHeld
        refine wpAnyH_done (by kernel_rfl) ?_ _
        rw [show insM xa c tk0 = (lo.take (k + 1)).foldl (stF s.cs) tk from (HT.out.trans (stF_some HC.out HQ.out)).symm] at HD5
        go_wp2
        exact ⟨⟨k + 1, by omega, by go_num, HD5.out, HBA5.out⟩, by simp [iv]; omega⟩
    · have HE : Hid (lo.take k = lo) := hide (List.take_of_length_le (by omega))
      have HD0 : Hid (Dk wr d bS bT (.slice ao lo.length cap) s (lo.foldl (stF s.cs) tk) lo) := hide (by rw [HE.out] at hd; exact hd)
      have HX0 : Hid (Dx d bS bT (.slice ao lo.length cap) w wr (.slice ao lo.length cap)) := hide ⟨(Ba.refl _ _).trans hba (fun i _ e => by rw [e]; exact .inr (.inr (.inl rfl))), fun _ e => .inl e⟩
      have j3 := HD0.out.c3
      have f3 := HD0.out.fz 3
      clear hd hba
      go_wp2
      exact bodyPost_end (v := .tuple #[]) (by simp [results, Tryz.results51]) rfl ⟨rfl, HD0.out.putL (grown_refl _ _) (Lo.nil _) (.inr (fun k e => by cases e)), HX0.out.turnL (grown_refl _ _) (.inr (fun k e => by cases e))⟩
set_option maxRecDepth 100000 in
theorem bsync_any (w : World) (h : Dk w d bS bT u s s.tk s.lo) (hO : s.Ok) (hn : s.cs.length + s.lo.length + s.lo.length < 100000) :
    Calls Tryz.prog 27 #[.pointer (some ⟨d, 0, none⟩)] w fun e w' => e = .returned (.tuple #[]) ∧ Dk w' d bS bT (.slice none 0 0) ⟨s.room, syn s.cs s.lo, []⟩ (syn s.cs s.lo) [] ∧ Dx d bS bT u w w' (.slice none 0 0) := by
  have HH := hide h
  have HO := hide hO
  have j3 := h.c3
  have hlw : ∀ x ∈ s.lo, Num x.at_ ∧ Blk x.by_ := fun x hx => ⟨(hO.lb x hx).1, (hO.lb x hx).2.1⟩
  have HLW := hide hlw
  clear h hO hlw
  go_enter Tryz.func27, Tryz.ntmps27
  obtain ⟨ao, cap, hu⟩ := HH.out.ro.form
  subst hu
  go_wp2_with (first
    | (go_at_call 49; refine (bdo_any _ s.lo _ HH.out HO.out.asc HH.out.ro.sw HLW.out (by omega)).mono ?_; rintro e w1 ⟨rfl, hd1, hb1⟩; have HD1 := hide hd1; have HB1 := hide hb1; clear hd1 hb1 j3)
    | (go_at_call 51; refine (bforget_any _ HD1.out (asc_tkO HO.out.asc _) (syn_all HO.out.cb HLW.out) HLW.out (by have := tkO_len HO.out.asc (l := s.lo); show (tkO s.cs s.lo).length + _ < _; omega)).mono ?_; rintro e w2 ⟨rfl, hd2, hx2⟩; have HD2 := hide hd2; have HX2 := hide hx2; clear hd2 hx2))
  refine bodyPost_end (v := .tuple #[]) (by simp [results, Tryz.results27]) rfl ⟨rfl, ?_, ?_⟩
  · have := HD2.out
    rw [show s.lo.foldl (stF (syn s.cs s.lo)) s.tk = syn s.cs s.lo from sync_fgt HO.out.asc] at this
    exact ⟨this.c0, this.c1, this.c2, this.c3, this.fz, this.ms, this.mt, this.ro, this.ne, this.du⟩
  · exact (⟨(Ba.refl _ _).trans HB1.out (fun i _ e => by rw [e]; exact .inr (.inl rfl)), fun _ e => .inl e⟩ : Dx d bS bT _ w w1 _).trans HX2.out
end
end Go.Proofs.YtoamghncncalgaaGreatDoor
