/-
  WRITES ARE DONE, AND FORGOTTEN (block.do, forget, Sync): what the mathematics says. Conditions: fewer than a hundred thousand blocks and writes.
-/
import Derived.Test.YtiedbchlgcgdeaaBlkWr
namespace Go.Proofs.Ytiedbchlgcgdeaa
open Go.RowKit

def iv : Value → Int
  | .int _ q => q
  | _ => 0
/-- The slice v holds these writes. -/
def Sw (W : World) (v : Value) (l : List Wr) : Prop := ∃ ao cap, v = .slice ao l.length cap ∧ (0 < l.length → ∃ g o, ao = some ⟨g, o, none⟩ ∧ W.rangeAt g o (wcs l))
theorem Lo.sw {W : World} {u : Value} {lo : List Wr} (h : Lo W u lo) : Sw W u lo := by
  obtain ⟨ao, cap, rfl⟩ := h.form
  refine ⟨ao, cap, rfl, fun h0 => ?_⟩
  obtain ⟨g, e, _, _, hr⟩ := h.rg h0
  exact ⟨g, 0, e, hr⟩
theorem range_ba {p : Nat → Prop} {W W' : World} {g o : Nat} {cs : List Value} (h : W.rangeAt g o cs) (hb : Ba p W W') (hp : ¬ p g) : W'.rangeAt g o cs := fun j v hv =>
  (hb.cell (cell_block (h j v hv)) hp _).trans (h j v hv)
theorem range_map {W : World} {g o b : Nat} {cs : List Value} {l : Cs} (h : W.rangeAt g o cs) (hm : Mp W b l) (hl : 0 < cs.length) : ¬ g = b := fun e => by
  have h0 := h 0 _ (List.getElem?_eq_getElem hl)
  have := hm.noCell (o + 0)
  rw [← e, h0] at this
  cases this
theorem take_step {α : Type} {l : List α} {k : Nat} (h : k < l.length) : l.take (k + 1) = l.take k ++ [l[k]] := List.take_succ_eq_append_getElem h
theorem stT_len {t : Cs} (h : Asc t) (w : Wr) : (stT t w).length ≤ t.length + 1 := by
  unfold stT
  split
  · split
    · rw [ins_len _ _ h]; split <;> omega
    · omega
  · rw [ins_len _ _ h]; split <;> omega
theorem stS_len {t : Cs} (h : Asc t) (w : Wr) : (stS t w).length ≤ t.length + 1 := by
  unfold stS
  split
  · have : (delM w.at_ t).length ≤ t.length := List.length_filter_le _ _
    omega
  · rw [ins_len _ _ h]; split <;> omega
theorem stF_len {c t : Cs} (h : Asc t) (w : Wr) : (stF c t w).length ≤ t.length + 1 := by
  unfold stF
  split
  · rw [ins_len _ _ h]; split <;> omega
  · have : (delM w.at_ t).length ≤ t.length := List.length_filter_le _ _
    omega
theorem syn_len : ∀ {l : List Wr} {t : Cs}, Asc t → (syn t l).length ≤ t.length + l.length
  | [], _, _ => Nat.le_refl _
  | w :: r, t, h => by
    have h1 := syn_len (l := r) (asc_stS h w)
    have h2 := stS_len h w
    show (syn (stS t w) r).length ≤ t.length + (r.length + 1)
    omega
theorem tkO_len : ∀ {l : List Wr} {t : Cs}, Asc t → (tkO t l).length ≤ t.length + l.length
  | [], _, _ => Nat.le_refl _
  | w :: r, t, h => by
    have h1 := tkO_len (l := r) (asc_stT h w)
    have h2 := stT_len h w
    show (tkO (stT t w) r).length ≤ t.length + (r.length + 1)
    omega
theorem fgt_len {c : Cs} : ∀ {l : List Wr} {t : Cs}, Asc t → (l.foldl (stF c) t).length ≤ t.length + l.length
  | [], _, _ => Nat.le_refl _
  | w :: r, t, h => by
    have h1 := fgt_len (c := c) (l := r) (asc_stF c h w)
    have h2 := stF_len (c := c) h w
    show (r.foldl (stF c) (stF c t w)).length ≤ t.length + (r.length + 1)
    omega
section
variable {d bS bT : Nat} {u : Value} {s : Dst} {tk : Cs} {lo : List Wr}
set_option maxRecDepth 100000 in
set_option maxHeartbeats 8000000 in
theorem bdo_any (v : Value) (l : List Wr) (w : World) (h : Dk w d bS bT u s tk lo) (hA : Asc s.cs) (hv : Sw w v l) (hl : ∀ x ∈ l, Num x.at_ ∧ Blk x.by_) (hn : s.cs.length + l.length < 100000) :
    Calls Try.prog 27 #[.pointer (some ⟨d, 0, none⟩), v] w fun e w' => e = .returned (.tuple #[]) ∧ Dk w' d bS bT u { s with cs := syn s.cs l } tk lo ∧ Ba (fun k => k = bS) w w' := by
  obtain ⟨ao, cap, rfl, hr⟩ := hv
  have HH := hide h
  have HAS := hide hA
  have HR := hide hr
  have HL := hide hl
  clear h hA hr hl
  go_enter Try.func27, Try.ntmps27
  go_wp2
  go_loopw [8] (fun i W => ∃ k : Nat, k ≤ l.length ∧ i = .int .i64 k ∧ Dk W d bS bT u { s with cs := syn s.cs (l.take k) } tk lo ∧ Ba (fun k => k = bS) w W) (fun i _ => l.length - (iv i).toNat)
  case atStart => exact ⟨0, Nat.zero_le _, rfl, HH.out, Ba.refl _ _⟩
  case round =>
    obtain ⟨k, hk, rfl, hd, hba⟩ := hrel
    by_cases hlt : k < l.length
    · obtain ⟨g, o, rfl, hrg⟩ := HR.out (by omega)
      have HB : Hid (Blk l[k].by_) := hide (HL.out _ (List.getElem_mem hlt)).2
      have HN : Hid (Num l[k].at_) := hide (HL.out _ (List.getElem_mem hlt)).1
      have hr0 : wr.rangeAt g o (wcs l) := range_ba hrg hba (range_map hrg HH.out.ms (by rw [wcs_len (fun x hx => (HL.out x hx).2)]; omega))
      have HE := hide (range_wr (fun x hx => (HL.out x hx).2) hr0 hlt)
      have HT : Hid (syn s.cs (l.take (k + 1)) = stS (syn s.cs (l.take k)) l[k]) := hide (by rw [take_step hlt, syn_snoc])
      have HAK : Hid (Asc (syn s.cs (l.take k))) := hide (asc_syn HAS.out _)
      have HNK : Hid ((syn s.cs (l.take k)).length < 100000) := hide (by have := syn_len HAS.out (l := l.take k); rw [List.length_take] at this; omega)
      have HD0 := hide hd
      have HBA0 := hide hba
      generalize l[k] = x at HB HN HE HT
      generalize syn s.cs (l.take k) = cs0 at HD0 HAK HNK HT
      clear hd hba hr0 hrg
      obtain ⟨xa, xf, xb⟩ := x
      go_upto_region 3 with (first | (refine wpList_load_mid rfl _ _ rfl _ _ rfl _ _ HE.out Try.underlying70 rfl (by rw [infoWr, wcl_len HB.out]) ?_) | (refine wpList_allocW _ rfl rfl ?_) | (refine wpList_storeW _ rfl _ _ rfl wz ⟨xa, xf, xb⟩ zer_len HB.out.1 rfl rfl ?_))
      have hbl : Below wr.heap.size wr (wr.alloc (.cells (wcl ⟨xa, xf, xb⟩).toArray 70)) := (Below.refl _ _).alloc (Nat.le_refl _) _
      have HD1 := hide (HD0.out.below hbl)
      have HBA1 := hide (HBA0.out.call hbl)
      have HG : Hid ((wr.alloc (.cells (wcl ⟨xa, xf, xb⟩).toArray 70)).rangeAt wr.heap.size 0 (wcl ⟨xa, xf, xb⟩)) := hide (range_newW wr _ _)
      generalize wr.alloc (.cells (wcl ⟨xa, xf, xb⟩).toArray 70) = V at HD1 HBA1 HG ⊢
      generalize wr.heap.size = G at HG ⊢
      clear hbl HD0 HBA0 HE
      have g1 := HG.out 1 _ rfl
      simp only [Nat.zero_add] at g1
      have HX : Hid (∀ y, stS cs0 ⟨xa, xf, xb⟩ = y → syn s.cs (l.take (k + 1)) = y) := hide (fun y e => HT.out.trans e)
      clear HT
      cases xf
      · go_upto_region 5 with (fail)
        refine wp_region_held_drew (S := fun W => W.cell? ⟨d, 1, none⟩ = some (.map (some bS)) ∧ W.rangeAt G 0 (wcl ⟨xa, false, xb⟩)) (by kernel_rfl) ⟨HD1.out.drew.c1, HG.out⟩ (fun hHeld => ?_)
        have HD2 := hide HD1.out.drew
        have HBA2 := hide (HBA1.out.call (Below.refl _ _).drew)
        generalize V.drew = Z at HD2 HBA2 hHeld ⊢
        clear HD1 HBA1 HG g1
        refine wpAnyH_take (i := 0) (oi := _) (v := .pointer (some ⟨d, 0, none⟩)) rfl (by kernel_rfl) (by kernel_rfl) (by kernel_rfl) (fun _ _ _ h => h) (Or.inl ⟨by rfl, by intro w hSw; go_simp⟩) hHeld ?_
        change wpAnyH _ _ _ _ _ _ _ (Act.put _ (some 20) _) _
        simp only [Act.put, List.setIfInBounds_toArray, List.set_cons_zero, List.set_cons_succ]
        refine wpAnyH_take (i := 1) (oi := _) (v := .pointer (some ⟨d, 0, none⟩)) rfl (by kernel_rfl) (by kernel_rfl) (by kernel_rfl) (fun _ _ _ h => h) (Or.inl ⟨by rfl, by intro w hSw; go_simp⟩) hHeld ?_
        change wpAnyH _ _ _ _ _ _ _ (Act.put _ (some 21) _) _
        simp only [Act.put, List.setIfInBounds_toArray, List.set_cons_zero, List.set_cons_succ]
        refine wpAnyH_take (i := 2) (oi := _) (v := .pointer (some ⟨d, 1, none⟩)) rfl (by kernel_rfl) (by kernel_rfl) (by kernel_rfl) (fun _ _ _ h => h) (Or.inl ⟨by rfl, by intro w hSw; go_simp⟩) hHeld ?_
        change wpAnyH _ _ _ _ _ _ _ (Act.put _ (some 22) _) _
        simp only [Act.put, List.setIfInBounds_toArray, List.set_cons_zero, List.set_cons_succ]
        refine wpAnyH_take (i := 3) (oi := _) (v := .map (some bS)) rfl (by kernel_rfl) (by kernel_rfl) (by kernel_rfl) (fun _ _ _ h => h) (Or.inl ⟨by rfl, by intro w hSw; have h1 := hSw.1; go_simp⟩) hHeld ?_
        change wpAnyH _ _ _ _ _ _ _ (Act.put _ (some 23) _) _
        simp only [Act.put, List.setIfInBounds_toArray, List.set_cons_zero, List.set_cons_succ]
        refine wpAnyH_take (i := 4) (oi := _) (v := .pointer (some ⟨G, 0, none⟩)) rfl (by kernel_rfl) (by kernel_rfl) (by kernel_rfl) (fun _ _ _ h => h) (Or.inl ⟨by rfl, by intro w hSw; go_simp⟩) hHeld ?_
        change wpAnyH _ _ _ _ _ _ _ (Act.put _ (some 24) _) _
        simp only [Act.put, List.setIfInBounds_toArray, List.set_cons_zero, List.set_cons_succ]
        refine wpAnyH_take (i := 5) (oi := _) (v := .int .i64 xa) rfl (by kernel_rfl) (by kernel_rfl) (by kernel_rfl) (fun _ _ _ h => h) (Or.inl ⟨by rfl, by intro w hSw; have h1 := hSw.2 0 _ rfl; simp only [Nat.zero_add] at h1; go_simp⟩) hHeld ?_
        change wpAnyH _ _ _ _ _ _ _ (Act.put _ (some 25) _) _
        simp only [Act.put, List.setIfInBounds_toArray, List.set_cons_zero, List.set_cons_succ]
        refine wpAnyH_take (i := 6) (oi := _) (v := .pointer (some ⟨G, 2, none⟩)) rfl (by kernel_rfl) (by kernel_rfl) (by kernel_rfl) (fun _ _ _ h => h) (Or.inl ⟨by rfl, by intro w hSw; go_simp⟩) hHeld ?_
        change wpAnyH _ _ _ _ _ _ _ (Act.put _ (some 26) _) _
        simp only [Act.put, List.setIfInBounds_toArray, List.set_cons_zero, List.set_cons_succ]
        refine wpAnyH_take (i := 7) (oi := _) (v := _) rfl (by kernel_rfl) (by kernel_rfl) (by kernel_rfl) (fun _ _ _ h => h) (yieldsIf_load_mid (by rfl) _ _ rfl _ _ rfl _ _ (fun W hW => range_tail hW.2) Try.underlying68 rfl (by rw [infoBl, bv_len, HB.out.1])) hHeld ?_
        change wpAnyH _ _ _ _ _ _ _ (Act.put _ (some 27) _) _
        simp only [Act.put, List.setIfInBounds_toArray, List.set_cons_zero, List.set_cons_succ]
        refine wpAnyH_ready (rs := [8]) (by kernel_rfl) (by simp) ?_
        refine AllReadyH.cons (o := _) rfl (fun K hK => ?_) AllReadyH.nil
        refine step_putM rfl _ _ _ rfl _ _ _ _ rfl rfl rfl HD2.out.ms HAK.out HNK.out HN.out ?_
        intro Z1 hm3 hg3
        have HD3 := hide (HD2.out.putS hg3 hm3)
        have HBA3 := hide (HBA2.out.grown hg3 (fun i _ e => by cases e; rfl))
        show K (Act.put _ none _) _
        simp only [Act.put]
        refine hK.out _ _ ⟨HD3.out.c1, range_far hHeld.2 hg3 (range_map hHeld.2 HD2.out.ms (by rw [wcl_len (show Blk (Wr.by_ _) from HB.out)]; decide))⟩ (fun hHeld1 => ?_)
        clear hK K hHeld
        have hHeld := hHeld1
        clear hHeld1
        clear hHeld
        refine wpAnyH_done (by kernel_rfl) ?_ _
        rw [show insM xa xb cs0 = syn s.cs (l.take (k + 1)) from (HX.out _ rfl).symm] at HD3
        go_wp2
        exact ⟨⟨k + 1, by omega, by go_num, HD3.out, HBA3.out⟩, by simp [iv]; omega⟩
      · go_upto_region 4 with (fail)
        refine wp_region_held_drew (S := fun W => W.cell? ⟨d, 1, none⟩ = some (.map (some bS)) ∧ W.rangeAt G 0 (wcl ⟨xa, true, xb⟩)) (by kernel_rfl) ⟨HD1.out.drew.c1, HG.out⟩ (fun hHeld => ?_)
        have HD2 := hide HD1.out.drew
        have HBA2 := hide (HBA1.out.call (Below.refl _ _).drew)
        generalize V.drew = Z at HD2 HBA2 hHeld ⊢
        clear HD1 HBA1 HG g1
        refine wpAnyH_take (i := 0) (oi := _) (v := .pointer (some ⟨d, 0, none⟩)) rfl (by kernel_rfl) (by kernel_rfl) (by kernel_rfl) (fun _ _ _ h => h) (Or.inl ⟨by rfl, by intro w hSw; go_simp⟩) hHeld ?_
        change wpAnyH _ _ _ _ _ _ _ (Act.put _ (some 14) _) _
        simp only [Act.put, List.setIfInBounds_toArray, List.set_cons_zero, List.set_cons_succ]
        refine wpAnyH_take (i := 1) (oi := _) (v := .pointer (some ⟨d, 0, none⟩)) rfl (by kernel_rfl) (by kernel_rfl) (by kernel_rfl) (fun _ _ _ h => h) (Or.inl ⟨by rfl, by intro w hSw; go_simp⟩) hHeld ?_
        change wpAnyH _ _ _ _ _ _ _ (Act.put _ (some 15) _) _
        simp only [Act.put, List.setIfInBounds_toArray, List.set_cons_zero, List.set_cons_succ]
        refine wpAnyH_take (i := 2) (oi := _) (v := .pointer (some ⟨d, 1, none⟩)) rfl (by kernel_rfl) (by kernel_rfl) (by kernel_rfl) (fun _ _ _ h => h) (Or.inl ⟨by rfl, by intro w hSw; go_simp⟩) hHeld ?_
        change wpAnyH _ _ _ _ _ _ _ (Act.put _ (some 16) _) _
        simp only [Act.put, List.setIfInBounds_toArray, List.set_cons_zero, List.set_cons_succ]
        refine wpAnyH_take (i := 3) (oi := _) (v := .map (some bS)) rfl (by kernel_rfl) (by kernel_rfl) (by kernel_rfl) (fun _ _ _ h => h) (Or.inl ⟨by rfl, by intro w hSw; have h1 := hSw.1; go_simp⟩) hHeld ?_
        change wpAnyH _ _ _ _ _ _ _ (Act.put _ (some 17) _) _
        simp only [Act.put, List.setIfInBounds_toArray, List.set_cons_zero, List.set_cons_succ]
        refine wpAnyH_take (i := 4) (oi := _) (v := .pointer (some ⟨G, 0, none⟩)) rfl (by kernel_rfl) (by kernel_rfl) (by kernel_rfl) (fun _ _ _ h => h) (Or.inl ⟨by rfl, by intro w hSw; go_simp⟩) hHeld ?_
        change wpAnyH _ _ _ _ _ _ _ (Act.put _ (some 18) _) _
        simp only [Act.put, List.setIfInBounds_toArray, List.set_cons_zero, List.set_cons_succ]
        refine wpAnyH_take (i := 5) (oi := _) (v := .int .i64 xa) rfl (by kernel_rfl) (by kernel_rfl) (by kernel_rfl) (fun _ _ _ h => h) (Or.inl ⟨by rfl, by intro w hSw; have h1 := hSw.2 0 _ rfl; simp only [Nat.zero_add] at h1; go_simp⟩) hHeld ?_
        change wpAnyH _ _ _ _ _ _ _ (Act.put _ (some 19) _) _
        simp only [Act.put, List.setIfInBounds_toArray, List.set_cons_zero, List.set_cons_succ]
        refine wpAnyH_ready (rs := [6]) (by kernel_rfl) (by simp) ?_
        refine AllReadyH.cons (o := _) rfl (fun K hK => ?_) AllReadyH.nil
        refine step_delM rfl _ _ rfl _ _ _ rfl rfl HD2.out.ms HN.out ?_
        intro Z1 hm3 hg3
        have HD3 := hide (HD2.out.putS hg3 hm3)
        have HBA3 := hide (HBA2.out.grown hg3 (fun i _ e => by cases e; rfl))
        show K (Act.put _ none _) _
        simp only [Act.put]
        refine hK.out _ _ ⟨HD3.out.c1, range_far hHeld.2 hg3 (range_map hHeld.2 HD2.out.ms (by rw [wcl_len (show Blk (Wr.by_ _) from HB.out)]; decide))⟩ (fun hHeld1 => ?_)
        clear hK K hHeld
        have hHeld := hHeld1
        clear hHeld1
        clear hHeld
        refine wpAnyH_done (by kernel_rfl) ?_ _
        rw [show delM xa cs0 = syn s.cs (l.take (k + 1)) from (HX.out _ rfl).symm] at HD3
        go_wp2
        exact ⟨⟨k + 1, by omega, by go_num, HD3.out, HBA3.out⟩, by simp [iv]; omega⟩
    · have HD0 := hide hd
      have HBA0 := hide hba
      clear hd hba
      have HE : Hid (l.take k = l) := hide (List.take_of_length_le (by omega))
      go_wp2
      rw [HE.out] at HD0
      exact bodyPost_end (v := .tuple #[]) (by simp [results, Try.results27]) rfl ⟨rfl, HD0.out, HBA0.out⟩
end
end Go.Proofs.Ytiedbchlgcgdeaa
