/-
  A BATCH AS BYTES, BY THE DOCUMENT (castellanref06.Bytes, Put): what the mathematics says. Conditions: the records' cells hold them; the batch may be.
  BatchPuts' WALK: any batch as bytes, or what is wrong with it (with castellanref06.Put). Conditions: the records' cells hold them; errors.errorType is laid.
-/
import Derived.Test.YtgbcjmpnkejpeaaGreatDoorJBatBy
import Derived.Deep.RegionHeld3
import Derived.Test.YtgbcjmpnkejpeaaGreatDoorJBatWk
import Derived.Test.YtgbcjmpnkejpeaaGreatDoorJBatWr
import Derived.Test.YtgbcjmpnkejpeaaGreatDoorJBatSma2
import Derived.Test.YtgbcjmpnkejpeaaGreatDoorJWnuma3
namespace Go.Proofs.YtgbcjmpnkejpeaaGreatDoor
open Go.RowKit

theorem Ow.sld {B : Nat} {W : World} {v : Value} {l : List Int} (h : Ow B W v l) : Sld 0 B bc W v l := by
  obtain ⟨cur, h1, h2⟩ := h
  have := h1.owns
  rw [h2] at this
  exact sld_of_owns (e := 5) 0 (by simpa [bv_eq] using this)
theorem rint_ow (B : Nat) (k : Int) (w : World) (hB : B ≤ w.heap.size) (hk : k ≤ 9223372036854775807) : Calls Tryz.prog 108 #[.int .i64 k] w fun e w' => ∃ v, e = .returned v ∧ Ow B w' v (intL k) ∧ Below w.heap.size w w' := by
  refine (refInt_owns k w hk).mono ?_
  rintro e w' ⟨v, rfl, ho, hb⟩
  obtain ⟨cur, h1, h2⟩ := Rw.of (owns_mono ho hB)
  exact ⟨v, rfl, ⟨cur, h1, h2⟩, hb⟩
set_option maxRecDepth 100000 in
set_option maxHeartbeats 16000000 in
theorem rbbytes_go {ok : Nat → Prop} (t bs : Int) (b o cap : Nat) (ps : List Rp) (w : World) (hrg : w.rangeAt b o (rcs ps)) (hrw : ∀ p ∈ ps, RwP ok w p) (hc : (bw ⟨t, bs, rcl ps⟩).c = 0) :
    Calls Tryz.prog 68 #[.agg #[.int .i64 t, .int .i64 bs, .slice (some ⟨b, o, none⟩) ps.length cap]] w fun e w' => ∃ v, e = .returned v ∧ Sld 0 (w.heap.size + 1) bc w' v (bytL ⟨t, bs, rcl ps⟩) ∧ Below w.heap.size w w' := by
  obtain ⟨h1, h2, h3, h4⟩ := bw_ok hc
  simp only at h1 h2 h3 h4
  rw [rcl_len] at h3
  have hhl := headL_len ⟨t, bs, rcl ps⟩
  have htot := putsL_len (rcl ps) h4
  rw [rcl_len] at htot
  have HH : Hid (headL ⟨t, bs, rcl ps⟩ = intL t ++ (intL bs ++ intL ps.length)) := hide (by unfold headL; simp only [rcl_len])
  have HBL : Hid (bytL ⟨t, bs, rcl ps⟩ = headL ⟨t, bs, rcl ps⟩ ++ putsL (rcl ps)) := hide rfl
  generalize bytL ⟨t, bs, rcl ps⟩ = Bs at *
  generalize headL ⟨t, bs, rcl ps⟩ = Hd at *
  have HR := hide hrg
  have HW := hide hrw
  have H4 := hide h4
  have hn64 : ps.length ≤ 64 := h3.2
  have ht : t ≤ 9223372036854775807 := by omega
  have hbs : bs ≤ 9223372036854775807 := by omega
  have HB : Hid (Below w.heap.size w (w.alloc (.cells #[.int .i64 t, .int .i64 bs, .slice (some ⟨b, o, none⟩) ps.length cap] 48))) := hide ((Below.refl _ _).alloc (Nat.le_refl _) _)
  have hsz : (w.alloc (.cells #[.int .i64 t, .int .i64 bs, .slice (some ⟨b, o, none⟩) ps.length cap] 48)).heap.size = w.heap.size + 1 := by simp
  have HCL : Hid (∀ W, Below (w.heap.size + 1) (w.alloc (.cells #[.int .i64 t, .int .i64 bs, .slice (some ⟨b, o, none⟩) ps.length cap] 48)) W → W.cell? ⟨w.heap.size, 0, none⟩ = some (.int .i64 t) ∧ W.cell? ⟨w.heap.size, 1, none⟩ = some (.int .i64 bs) ∧ W.cell? ⟨w.heap.size, 2, none⟩ = some (.slice (some ⟨b, o, none⟩) ps.length cap)) := hide (fun W h => by
    have hq : ∀ i, W.cell? ⟨w.heap.size, i, none⟩ = _ := fun i => h.cell (p := ⟨w.heap.size, i, none⟩) (by show w.heap.size < _; omega)
    exact ⟨by rw [hq]; simp, by rw [hq]; simp, by rw [hq]; simp⟩)
  have HSZ := hide hsz
  have l1 := intL_le t
  have l2 := intL_le bs
  have l3 := intL_le ps.length
  clear hrg hrw hc h1 h2 h3 h4 hsz
  have hap : w.heap.size ≤ w.heap.size + 1 := Nat.le_succ _
  go_enter Tryz.func68, Tryz.ntmps68
  go_upto_region 1 with fail
  generalize w.alloc (.cells #[.int .i64 t, .int .i64 bs, .slice (some ⟨b, o, none⟩) ps.length cap] 48) = Y at HB HCL HSZ ⊢
  have hzY : w.heap.size + 1 ≤ Y.heap.size := by rw [HSZ.out]; exact Nat.le_refl _
  obtain ⟨i0, i1, i2⟩ := HCL.out Y (Below.refl _ _)
  have HI := hide (rint_ow (w.heap.size + 1) t Y hzY ht)
  go_upto_region 2 with (first | (go_at_call 108; refine HI.out.mono ?_; rintro e W1 ⟨v1, rfl, ho1, hb1⟩))
  have HO1 := hide ho1
  have HB1 := hide (hb1.mono hzY)
  have hz1 : w.heap.size + 1 ≤ W1.heap.size := Nat.le_trans hzY hb1.size
  clear ho1 hb1 HI i0 i1 i2
  obtain ⟨i0, i1, i2⟩ := HCL.out W1 HB1.out
  have HI := hide (refInt_sl bs W1 hbs)
  go_upto_region 3 with (first | (go_at_call 108; refine HI.out.mono ?_; rintro e W2 ⟨v2, rfl, hs2, hb2⟩; have HS2 := hide hs2; have HO2 := hide (HO1.out.below hb2); have HB2 := hide (HB1.out.trans (hb2.mono hz1)); have hz2 := Nat.le_trans hz1 hb2.size; clear hs2 hb2) | (at_builtin; refine wpList_append_ow rfl _ _ rfl (w.heap.size + 1) v1 (intL t) rfl HO2.out hz2 v2 (intL bs) rfl HS2.out (by omega) ?_; intro W3 v3 ho3 hb3; have HO3 := hide ho3; have HB3 := hide (HB2.out.trans hb3); have hz3 := Nat.le_trans hz2 hb3.size; clear ho3 hb3))
  clear HO1 HO2 HB1 HB2 HS2 HI i0 i1 i2
  obtain ⟨i0, i1, i2⟩ := HCL.out W3 HB3.out
  have HI := hide (refInt_sl (ps.length : Int) W3 (by omega))
  go_upto_region 4 with (first | (go_at_call 108; refine HI.out.mono ?_; rintro e W4 ⟨v4, rfl, hs4, hb4⟩; have HS4 := hide hs4; have HO4 := hide (HO3.out.below hb4); have HB4 := hide (HB3.out.trans (hb4.mono hz3)); have hz4 := Nat.le_trans hz3 hb4.size; clear hs4 hb4) | (at_builtin; refine wpList_append_ow rfl _ _ rfl (w.heap.size + 1) v3 (intL t ++ intL bs) rfl HO4.out hz4 v4 (intL (ps.length : Int)) rfl HS4.out (by rw [List.length_append]; omega) ?_; intro W5 v5 ho5 hb5; have HO5 := hide ho5; have HB5 := hide (HB4.out.trans hb5); clear ho5 hb5))
  rw [List.append_assoc, ← HH.out] at HO5
  clear HO3 HO4 HB3 HB4 HS4 HI i0 i1 i2
  go_wp2_with fail
  go_loopw [3, 4] (fun y i wr => ∃ j : Nat, j ≤ ps.length ∧ i = .int .i64 (j : Int) ∧ Ow (w.heap.size + 1) wr y (Hd ++ putsL ((rcl ps).take j)) ∧ Below (w.heap.size + 1) Y wr) (fun _ i _ => ps.length - (intOf i).toNat)
  case atStart => exact ⟨0, Nat.zero_le _, rfl, by simpa [putsL] using HO5.out, HB5.out⟩
  case round =>
    obtain ⟨j, hj, rfl, ho, hb⟩ := hrel
    have HO := hide ho
    have HBR := hide hb
    clear ho hb HO5 HB5
    have hzr : w.heap.size + 1 ≤ wr.heap.size := Nat.le_trans hzY HBR.out.size
    obtain ⟨i0, i1, i2⟩ := HCL.out wr HBR.out
    by_cases hlt : j < ps.length
    · have hltI : (j : Int) < (ps.length : Int) := by omega
      have hlr : j < (rcl ps).length := by rw [rcl_len]; exact hlt
      have hpj : (rcl ps)[j] = ps[j].1 := by simp [rcl]
      have HSN := hide (putsL_snoc (rcl ps) j hlr)
      rw [hpj] at HSN
      have hok : (chk ps[j].1).2.2 = 0 := H4.out _ (List.mem_map.2 ⟨ps[j], List.getElem_mem hlt, rfl⟩)
      have HE := hide (range_old (range_at HR.out hlt) HB.out HBR.out hap)
      have HP := hide ((HW.out _ (List.getElem_mem hlt)).old HB.out HBR.out hap)
      have hlen : (Hd ++ putsL ((rcl ps).take j)).length ≤ 700000 := by
        have := putsL_take_le (rcl ps) j
        rw [List.length_append]
        omega
      have hpl := put_len hok
      generalize ps[j] = p at *
      clear hpj
      have HC := hide (rbytes_any p.1 _ wr HP.out.is hok)
      go_wp2_with (first | (refine wpList_load_mid rfl _ _ rfl _ _ rfl _ _ HE.out Tryz.underlying35 rfl (by kernel_rfl) ?_) | (go_at_call 109; refine HC.out.mono ?_; rintro e W6 ⟨v6, rfl, hs6, hb6⟩; have HS6 := hide hs6; have HO6 := hide (HO.out.below hb6); have HB6 := hide (HBR.out.trans (hb6.mono hzr)); have hz6 := Nat.le_trans hzr hb6.size; clear hs6 hb6) | (at_builtin; refine wpList_append_ow rfl _ _ rfl (w.heap.size + 1) u3 (Hd ++ putsL ((rcl ps).take j)) rfl HO6.out hz6 v6 (putL p.1) rfl HS6.out (by omega) ?_; intro W7 v7 ho7 hb7; have HO7 := hide ho7; have HB7 := hide (HB6.out.trans hb7); clear ho7 hb7))
      rw [List.append_assoc, ← HSN.out] at HO7
      go_roundw
      case rel => exact ⟨j + 1, by omega, by go_num, HO7.out, HB7.out⟩
      case measure => simp [intOf]; omega
    · obtain rfl : j = ps.length := by omega
      have HOF : Hid (Ow (w.heap.size + 1) wr u3 Bs) := hide (by have := HO.out; rwa [← rcl_len, List.take_length, ← HBL.out] at this)
      have HBF : Hid (Below w.heap.size w wr) := hide (HB.out.trans (HBR.out.mono hap))
      clear HO hlt HR HW H4 HCL HH HBL hhl htot
      go_wp2_with fail
      go_ret
      exact ⟨_, rfl, HOF.out.sld, HBF.out⟩
theorem rbbytes_any {okb ok : Nat → Prop} (x : Bt) (v : Value) (w : World) (hv : IsB okb ok w v x) (hc : (bw x).c = 0) : Calls Tryz.prog 68 #[v] w fun e w' => ∃ ao cap, e = .returned (.slice ao (bytL x).length cap) ∧ Sld 0 (w.heap.size + 1) bc w' (.slice ao (bytL x).length cap) (bytL x) ∧ Below w.heap.size w w' := by
  obtain ⟨u, ps, rfl, h2, h3⟩ := hv
  obtain ⟨t, b, rs⟩ := x
  simp only at h3
  subst h3
  obtain ⟨ao, cap, rfl⟩ := h2.form
  obtain ⟨_, _, hn, _⟩ := bw_ok hc
  simp only [rcl_len] at hn
  obtain ⟨g, o, rfl, hr⟩ := h2.rg (by omega)
  refine (rbbytes_go t b g o cap ps w hr h2.2 hc).mono ?_
  rintro e w' ⟨v, rfl, hs, hb⟩
  obtain ⟨a, c, rfl⟩ := hs.sl.form
  exact ⟨a, c, rfl, hs, hb⟩
end Go.Proofs.YtgbcjmpnkejpeaaGreatDoor
namespace Go.Proofs.YtgbcjmpnkejpeaaGreatDoor
open Go.RowKit

/-- What is wrong with a batch that is to be written, by the document. -/
def bwP (x : Bt) : Bw := if (bw x).c = 0 then (if (bytL x).length ≤ 16384 then ⟨⟨#[]⟩, 0, 0, -1, 0⟩ else ⟨⟨#[98, 97, 116, 99, 104]⟩, (bytL x).length, 6, -1, 0⟩) else bw x
/-- Its bytes, if nothing is. -/
def byP (x : Bt) : List Int := if (bwP x).c = 0 then bytL x else []
set_option maxRecDepth 100000 in
set_option maxHeartbeats 32000000 in
theorem rbput_go (t bs : Int) (ao : Option Addr) (n cap : Nat) (op : ByteArray) (pt c r : Int) (L : List Int) (w : World)
    (HC : Hid (∀ W, Below w.heap.size w W → Calls Tryz.prog 22 #[.agg #[.int .i64 t, .int .i64 bs, .slice ao n cap]] W fun e w' => e = .returned (.agg #[.string op, .int .i64 pt, .int .i64 c, .int .i64 r]) ∧ Below W.heap.size W w'))
    (HB : Hid (c = 0 → ∀ W, Below w.heap.size w W → Calls Tryz.prog 68 #[.agg #[.int .i64 t, .int .i64 bs, .slice ao n cap]] W fun e w' => ∃ a2 c2, e = .returned (.slice a2 L.length c2) ∧ Sld 0 (W.heap.size + 1) bc w' (.slice a2 L.length c2) L ∧ Below W.heap.size W w')) :
    Calls Tryz.prog 28 #[.agg #[.int .i64 t, .int .i64 bs, .slice ao n cap]] w fun e w' => ∃ y o2 p2 c2 r2, e = .returned (.tuple #[y, .agg #[.string o2, .int .i64 p2, .int .i64 c2, .int .i64 r2]]) ∧ Sl bc w' y (if c = 0 then (if L.length ≤ 16384 then L else []) else []) ∧ (o2, p2, c2, r2) = (if c = 0 then (if L.length ≤ 16384 then (⟨#[]⟩, 0, 0, -1) else (⟨#[98, 97, 116, 99, 104]⟩, (L.length : Int), 6, -1)) else (op, pt, c, r)) ∧ Below w.heap.size w w' := by
  obtain ⟨hb0, ht0, hr0⟩ := box_four w (.int .i64 t) (.int .i64 bs) (.slice ao n cap) (Y := ((w.alloc (.cells #[.int .i64 t, .int .i64 bs, .slice ao n cap] 48)).alloc (.cells #[.string ⟨#[]⟩, .int .i64 0, .int .i64 0, .int .i64 0] 53))) rfl
  have HB0 := hide hb0
  have HT := hide ht0
  have HR4 := hide hr0
  clear hb0 ht0 hr0
  go_enter Tryz.func28, Tryz.ntmps28
  go_upto_region 1 with fail
  generalize ((w.alloc (.cells #[.int .i64 t, .int .i64 bs, .slice ao n cap] 48)).alloc (.cells #[.string ⟨#[]⟩, .int .i64 0, .int .i64 0, .int .i64 0] 53)) = Y at HB0 HT HR4 ⊢
  obtain ⟨i0, i1, i2⟩ := HT.out Y (Below.refl _ _)
  go_upto_region 2 with (first | (go_at_call 22; refine (HC.out Y HB0.out).mono ?_; rintro e V1 ⟨rfl, hb1⟩))
  clear i0 i1 i2
  obtain ⟨V, hV⟩ : ∃ V, V = V1.alloc (.cells #[.string op, .int .i64 pt, .int .i64 c, .int .i64 r] 53) := ⟨_, rfl⟩
  have hbV : Below Y.heap.size Y V := by rw [hV]; exact hb1.alloc hb1.size _
  have d0 : V.cell? ⟨V1.heap.size, 0, none⟩ = some (.string op) := by rw [hV]; simp
  have d1 : V.cell? ⟨V1.heap.size, 1, none⟩ = some (.int .i64 pt) := by rw [hV]; simp
  have d2 : V.cell? ⟨V1.heap.size, 2, none⟩ = some (.int .i64 c) := by rw [hV]; simp
  have d3 : V.cell? ⟨V1.heap.size, 3, none⟩ = some (.int .i64 r) := by rw [hV]; simp
  show Code.wp _ _ _ _ _
  rw [← hV]
  have HBV := hide hbV
  have HBw := hide (HB0.out.trans (hbV.mono HB0.out.size))
  have hz : w.heap.size + 1 < V1.heap.size := by
    obtain ⟨q, _⟩ := HR4.out Y (Below.refl _ _)
    exact Nat.lt_of_lt_of_le (cell_block q) hb1.size
  clear hV hbV hb1
  generalize V1.heap.size = D at *
  obtain ⟨r0, r1, r2, r3, rf⟩ := HR4.out V HBV.out
  by_cases hc : c = 0
  case neg =>
    have hcb : (c != 0) = true := by simp [hc]
    have rf0 := rf 0
    have rf1 := rf 1
    have rf2 := rf 2
    have rf3 := rf 3
    clear rf
    go_upto_region 3 with fail
    go_region
    all_goals go_wp2_with fail
    all_goals exact bodyPost_ret (v := .tuple #[.slice none 0 0, .agg #[.string op, .int .i64 pt, .int .i64 c, .int .i64 r]]) (by simp [results, Tryz.results28, go_sem, r0, r1, r2, r3]) rfl ⟨_, op, pt, c, r, rfl, Sl.nil _ _ _ _, ⟨rfl, rfl, rfl, rfl⟩, ((((HBw.out.drew.setCell (by exact Nat.le_succ _) _).setCell (by exact Nat.le_succ _) _).setCell (by exact Nat.le_succ _) _).setCell (by exact Nat.le_succ _) _)⟩
  subst hc
  have HBB := hide (HB.out rfl V HBw.out)
  obtain ⟨i0, i1, i2⟩ := HT.out V HBV.out
  clear rf r0 r1 r2 r3 d0 d1 d3
  go_upto_region 5 with (first | (go_at_call 68; refine HBB.out.mono ?_; rintro e V3 ⟨a3, c3, rfl, hs3, hb3⟩))
  have hzV : w.heap.size + 1 < V.heap.size := cell_block (HR4.out V HBV.out).1
  have HS3 := hide hs3
  have HB3 := hide (HBV.out.trans (hb3.mono HBV.out.size))
  have HBW3 := hide (HBw.out.trans (hb3.mono HBw.out.size))
  clear hs3 hb3 i0 i1 i2 d2
  obtain ⟨r0, r1, r2, r3, rf⟩ := HR4.out V3 HB3.out
  have rf0 := rf 0
  have rf1 := rf 1
  have rf2 := rf 2
  have rf3 := rf 3
  clear rf
  by_cases hm : L.length ≤ 16384
  · have hmI : ¬ (16384 : Int) < (L.length : Int) := by omega
    go_wp2_with fail
    exact bodyPost_ret (v := .tuple #[.slice a3 L.length c3, .agg #[.string ⟨#[]⟩, .int .i64 0, .int .i64 0, .int .i64 (-1)]]) (by simp [results, Tryz.results28, go_sem, r0, r1, r2, r3]) rfl ⟨_, ⟨#[]⟩, 0, 0, -1, rfl, by
      rcases HS3.out with h | ⟨g, o, cap', e1, e2, e3, e4⟩
      · exact .inl h
      · exact .inr ⟨g, o, cap', e1, e2, fun i hi => by
          iterate 4 rw [World.cell?_setCell_other _ _ _ _ (fun e => by have := congrArg Addr.block e; simp at this; omega)]
          exact e4 i hi⟩, ⟨rfl, rfl, rfl, rfl⟩, (((HBW3.out.setCell (by exact Nat.le_succ _) _).setCell (by exact Nat.le_succ _) _).setCell (by exact Nat.le_succ _) _).setCell (by exact Nat.le_succ _) _⟩
  · have hmI : (16384 : Int) < (L.length : Int) := by omega
    go_wp2_with fail
    exact bodyPost_ret (v := .tuple #[.slice none 0 0, .agg #[.string ⟨#[98, 97, 116, 99, 104]⟩, .int .i64 L.length, .int .i64 6, .int .i64 (-1)]]) (by simp [results, Tryz.results28, go_sem, r0, r1, r2, r3]) rfl ⟨_, ⟨#[98, 97, 116, 99, 104]⟩, L.length, 6, -1, rfl, Sl.nil _ _ _ _, ⟨rfl, rfl, rfl, rfl⟩, (((HBW3.out.setCell (by exact Nat.le_succ _) _).setCell (by exact Nat.le_succ _) _).setCell (by exact Nat.le_succ _) _).setCell (by exact Nat.le_succ _) _⟩
theorem rbput_any {okb ok : Nat → Prop} (x : Bt) (v : Value) (w : World) (hv : IsB okb ok w v x) (htx : ∀ r ∈ x.rs, TxR r) : Calls Tryz.prog 28 #[v] w fun e w' => ∃ y, e = .returned (.tuple #[y, wrB (bwP x)]) ∧ Sl bc w' y (byP x) ∧ Below w.heap.size w w' := by
  have hck := fun W (h : Below w.heap.size w W) => rbcheck_any x v W (hv.below h) htx
  have hby := fun (hc : (bw x).c = 0) W (h : Below w.heap.size w W) => rbbytes_any x v W (hv.below h) hc
  obtain ⟨u, ps, rfl, h2, _⟩ := hv
  obtain ⟨ao, cap, rfl⟩ := h2.form
  refine (rbput_go x.t x.b ao ps.length cap (bw x).op (bw x).pt (bw x).c (bw x).r (bytL x) w (hide hck) (hide hby)).mono ?_
  rintro e w' ⟨y, o2, p2, c2, r2, rfl, h3, h4, h5⟩
  unfold byP bwP wrB
  by_cases hc : (bw x).c = 0
  · rw [if_pos hc] at h3 h4 ⊢
    by_cases hm : (bytL x).length ≤ 16384
    · rw [if_pos hm] at h3 h4 ⊢
      simp only [Prod.mk.injEq] at h4
      obtain ⟨rfl, rfl, rfl, rfl⟩ := h4
      exact ⟨y, rfl, by rw [if_pos rfl]; exact h3, h5⟩
    · rw [if_neg hm] at h3 h4 ⊢
      simp only [Prod.mk.injEq] at h4
      obtain ⟨rfl, rfl, rfl, rfl⟩ := h4
      exact ⟨y, rfl, by rw [if_neg (show ¬ (6 : Int) = 0 by decide)]; exact h3, h5⟩
  · rw [if_neg hc] at h3 h4 ⊢
    simp only [Prod.mk.injEq] at h4
    obtain ⟨rfl, rfl, rfl, rfl⟩ := h4
    exact ⟨y, rfl, by rw [if_neg hc]; exact h3, h5⟩
/-- The program's Put, in the same words. -/
theorem bput_same {okb ok : Nat → Prop} (x : Bt) (v : Value) (w : World) (hv : IsB okb ok w v x) (htx : ∀ r ∈ x.rs, TxR r) : Calls Tryz.prog 27 #[v] w fun e w' => ∃ y, e = .returned (.tuple #[y, erB (bwP x)]) ∧ Sl bc w' y (byP x) ∧ Below w.heap.size w w' := by
  refine (bput_any x v w hv htx).mono ?_
  rintro e w' ⟨h1, h2⟩
  unfold byP bwP
  by_cases hc : (bw x).c = 0
  · rw [if_pos hc] at h1 ⊢
    by_cases hm : (bytL x).length ≤ 16384
    · rw [if_pos hm] at h1 ⊢
      obtain ⟨y, rfl, ho⟩ := h1
      exact ⟨y, rfl, by rw [if_pos rfl]; exact ho.sl, h2⟩
    · rw [if_neg hm] at h1 ⊢
      exact ⟨_, h1, by rw [if_neg (show ¬ (6 : Int) = 0 by decide)]; exact Sl.nil _ _ _ _, h2⟩
  · rw [if_neg hc] at h1 ⊢
    exact ⟨_, h1, by rw [if_neg hc]; exact Sl.nil _ _ _ _, h2⟩
theorem byP_len (x : Bt) : (byP x).length ≤ 16384 := by
  unfold byP bwP
  by_cases hc : (bw x).c = 0
  · rw [if_pos hc]
    by_cases hm : (bytL x).length ≤ 16384
    · rw [if_pos hm, if_pos rfl]; exact hm
    · rw [if_neg hm, if_neg (show ¬ (6 : Int) = 0 by decide)]; simp
  · rw [if_neg hc, if_neg hc]; simp
theorem bwP_wrong (x : Bt) (w : World) (hg : Hnd w) : Calls Tryz.prog 20 #[erB (bwP x), wrB (bwP x)] w fun e w' => e = .returned (.bool true) ∧ Below w.heap.size w w' := by
  by_cases hc : (bw x).c = 0
  · have e : bwP x = if (bytL x).length ≤ 16384 then ⟨⟨#[]⟩, 0, 0, -1, 0⟩ else ⟨⟨#[98, 97, 116, 99, 104]⟩, (bytL x).length, 6, -1, 0⟩ := if_pos hc
    rw [e]
    split
    · exact bwrong_nil _ _ _ w
    · exact bwrong_ft _ _ _ _ w (by show (-1 : Int) < 0; decide) hg
  · rw [show bwP x = bw x from if_neg hc]
    exact bwrong_any x w hg
set_option maxRecDepth 100000 in
set_option maxHeartbeats 32000000 in
theorem bputs_go {ok : Nat → Prop} (t bs : Int) (ao : Option Addr) (cap : Nat) (ps : List Rp) (w : World) (hv : Rl (fun _ => True) ok w (.slice ao ps.length cap) ps) (hg : Hnd w) :
    Calls Tryz.prog 5 #[.agg #[.int .i64 t, .int .i64 bs, .slice ao ps.length cap]] w fun e w' => e = .returned (.bool true) ∧ Below w.heap.size w w' := by
  have HV := hide hv
  have HG := hide hg
  have HB0 : Hid (Below w.heap.size w (w.alloc (.cells #[.int .i64 t, .int .i64 bs, .slice ao ps.length cap] 48))) := hide ((Below.refl _ _).alloc (Nat.le_refl _) _)
  have HT : Hid (∀ V, Below (w.alloc (.cells #[.int .i64 t, .int .i64 bs, .slice ao ps.length cap] 48)).heap.size (w.alloc (.cells #[.int .i64 t, .int .i64 bs, .slice ao ps.length cap] 48)) V → V.cell? ⟨w.heap.size, 0, none⟩ = some (.int .i64 t) ∧ V.cell? ⟨w.heap.size, 1, none⟩ = some (.int .i64 bs) ∧ V.cell? ⟨w.heap.size, 2, none⟩ = some (.slice ao ps.length cap)) := hide (three_new w _ _ _)
  have HSH := hide (fun W (h : Below w.heap.size w W) => bshort_any (.slice ao ps.length cap) ps W (HV.out.below h))
  have HWK := hide (fun W (h : Below w.heap.size w W) => bworks_any W (HG.out.below h))
  clear hv hg
  cases hs : shL (rcl ps) with
  | false =>
    rw [hs] at HSH
    go_enter Tryz.func5, Tryz.ntmps5
    go_wp2_with (first | (go_at_call 18; refine (HSH.out _ HB0.out).mono ?_; rintro e V1 ⟨rfl, hb1⟩; have HB1 := hide (HB0.out.trans (hb1.mono HB0.out.size)); clear hb1) | (go_at_call 19; refine (HWK.out _ HB1.out).mono ?_; rintro e V2 ⟨rfl, hb2⟩; have HB2 := hide (HB1.out.trans (hb2.mono HB1.out.size)); clear hb2))
    go_ret
    exact ⟨rfl, HB2.out⟩
  | true =>
    rw [hs] at HSH
    have htx : ∀ r ∈ (Bt.mk t bs (rcl ps)).rs, TxR r := fun r hr => sh_tx ((shL_is hs).2 r hr)
    have HIA : Hid (∀ W, Below w.heap.size w W → IsB (fun _ => True) ok W (.agg #[.int .i64 t, .int .i64 bs, .slice ao ps.length cap]) ⟨t, bs, rcl ps⟩) := hide (fun W h => ⟨_, ps, rfl, HV.out.below h, rfl⟩)
    have HP := hide (fun W (h : Below w.heap.size w W) => bput_same ⟨t, bs, rcl ps⟩ _ W (HIA.out W h) htx)
    have HQ := hide (fun W (h : Below w.heap.size w W) => rbput_any ⟨t, bs, rcl ps⟩ _ W (HIA.out W h) htx)
    have HWR := hide (fun W (h : Below w.heap.size w W) => bwP_wrong ⟨t, bs, rcl ps⟩ W (HG.out.below h))
    have hln := byP_len ⟨t, bs, rcl ps⟩
    generalize byP ⟨t, bs, rcl ps⟩ = L at *
    generalize hE : erB (bwP ⟨t, bs, rcl ps⟩) = E at *
    unfold wrB at HQ HWR
    generalize bwP ⟨t, bs, rcl ps⟩ = bb at *
    obtain ⟨bo, bp, bc', br, bi⟩ := bb
    simp only at HQ HWR
    clear hE hs htx HIA
    go_enter Tryz.func5, Tryz.ntmps5
    go_upto_region 1 with fail
    generalize w.alloc (.cells #[.int .i64 t, .int .i64 bs, .slice ao ps.length cap] 48) = Y0 at HB0 HT ⊢
    obtain ⟨i0, i1, i2⟩ := HT.out Y0 (Below.refl _ _)
    go_upto_region 3 with (first | (go_at_call 18; refine (HSH.out _ HB0.out).mono ?_; rintro e V1 ⟨rfl, hb1⟩; have HB1 := hide (HB0.out.trans (hb1.mono HB0.out.size)); have HX1 := hide hb1; clear hb1))
    clear i0 i1 i2
    obtain ⟨i0, i1, i2⟩ := HT.out V1 HX1.out
    go_upto_region 4 with (first | (go_at_call 27; refine (HP.out V1 HB1.out).mono ?_; rintro e V2 ⟨y2, rfl, hs2, hb2⟩))
    have HB2 := hide (HB1.out.trans (hb2.mono HB1.out.size))
    have HX2 := hide (HX1.out.trans (hb2.mono HX1.out.size))
    have HS2 := hide hs2
    clear i0 i1 i2 hb2 hs2
    obtain ⟨i0, i1, i2⟩ := HT.out V2 HX2.out
    go_upto_region 5 with (first | (go_at_call 28; refine (HQ.out V2 HB2.out).mono ?_; rintro e V3 ⟨y3, rfl, hs3, hb3⟩))
    obtain ⟨V, hV⟩ : ∃ V, V = V3.alloc (.cells #[.string bo, .int .i64 bp, .int .i64 bc', .int .i64 br] 53) := ⟨_, rfl⟩
    have hbV : Below V3.heap.size V3 V := by rw [hV]; exact (Below.refl _ _).alloc (Nat.le_refl _) _
    have HTV : Hid (∀ W, Below V.heap.size V W → W.cell? ⟨V3.heap.size, 0, none⟩ = some (.string bo) ∧ W.cell? ⟨V3.heap.size, 1, none⟩ = some (.int .i64 bp) ∧ W.cell? ⟨V3.heap.size, 2, none⟩ = some (.int .i64 bc') ∧ W.cell? ⟨V3.heap.size, 3, none⟩ = some (.int .i64 br)) := hide (fun W h => by
      have hc : ∀ i, W.cell? ⟨V3.heap.size, i, none⟩ = _ := fun i => h.cell (p := ⟨V3.heap.size, i, none⟩) (by rw [hV]; simp)
      exact ⟨by rw [hc, hV]; simp, by rw [hc, hV]; simp, by rw [hc, hV]; simp, by rw [hc, hV]; simp⟩)
    show Code.wp _ _ _ _ _
    rw [← hV]
    have HB3 := hide ((HB2.out.trans (hb3.mono HB2.out.size)).trans (hbV.mono (Nat.le_trans HB2.out.size hb3.size)))
    have HSM := hide (same_bytes y2 y3 L V ((HS2.out.below hb3).below hbV) (hs3.below hbV) (by omega))
    clear hV hbV hb3 hs3 i0 i1 i2 HS2 HP HQ HSH
    generalize V3.heap.size = D at *
    go_wp2_with (first | (go_at_call 29; refine HSM.out.mono ?_; rintro e V5 ⟨rfl, hb5⟩; have HB5 := hide (HB3.out.trans (hb5.mono HB3.out.size)); obtain ⟨d0, d1, d2, d3⟩ := HTV.out V5 hb5; clear hb5) | (go_at_call 20; refine (HWR.out V5 HB5.out).mono ?_; rintro e V6 ⟨rfl, hb6⟩; have HB6 := hide (HB5.out.trans (hb6.mono HB5.out.size)); clear hb6) | (go_at_call 19; refine (HWK.out _ HB6.out).mono ?_; rintro e V7 ⟨rfl, hb7⟩; have HB7 := hide (HB6.out.trans (hb7.mono HB6.out.size)); clear hb7))
    go_ret
    exact ⟨rfl, HB7.out⟩
/-- BatchPuts answers true. -/
theorem bputs_law {okb ok : Nat → Prop} (x : Bt) (v : Value) (w : World) (hv : IsB okb ok w v x) (hg : Hnd w) : Calls Tryz.prog 5 #[v] w fun e w' => e = .returned (.bool true) ∧ Below w.heap.size w w' := by
  obtain ⟨t, b, rs⟩ := x
  obtain ⟨a1, ps, rfl, h2, h3⟩ := hv
  simp only at h3
  subst h3
  obtain ⟨ao, cap, rfl⟩ := h2.form
  exact bputs_go t b ao cap ps w (h2.imp (okb' := fun _ => True) (ok' := ok) (fun _ _ _ => trivial) (fun _ _ q => q) (fun _ _ _ _ => rfl)) hg
end Go.Proofs.YtgbcjmpnkejpeaaGreatDoor
