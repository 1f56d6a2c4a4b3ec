/-
  A BATCH AS BYTES (batch.Put): what the mathematics says. Conditions: the records' cells hold them, their texts are not too long.
-/
import Derived.Test.YtoioddnlkbjljaaGreatDoorJKBatCka2
import Derived.Test.YtoioddnlkbjljaaGreatDoorJKWputda6
namespace Go.Proofs.YtoioddnlkbjljaaGreatDoor
open Go.RowKit

theorem wint_ow (B : Nat) (u : Value) (l0 : List Int) (k : Int) (w : World) (hu : Ow B w u l0) (hl0 : l0.length ≤ 900000) (hB : B ≤ w.heap.size) (hk : k ≤ 9223372036854775807) :
    Calls Tryz.prog 57 #[u, .int .i64 k] w fun e w' => ∃ v', e = .returned v' ∧ Ow B w' v' (l0 ++ intL k) ∧ Below B w w' := by
  obtain ⟨cur, h1, h2⟩ := hu
  refine (wint_any B u l0.length cur k w h1 hB hl0 hk).mono ?_
  rintro e w' ⟨v', cur', rfl, hp⟩
  exact ⟨v', rfl, Ow.put h2 hp, hp.below⟩
theorem Ow.form {B : Nat} {W : World} {v : Value} {l : List Int} (h : Ow B W v l) : ∃ ao cap, v = .slice ao l.length cap := h.sl.form
theorem range_old {B : Nat} {w Y W : World} {b o : Nat} {cs : List Value} (h : w.rangeAt b o cs) (hY : Below w.heap.size w Y) (hW : Below B Y W) (hB : w.heap.size ≤ B) : W.rangeAt b o cs := range_imp h (fun i hl => (hW.cell (p := ⟨b, i, none⟩) (by exact Nat.lt_of_lt_of_le hl hB)).trans (hY.cell (p := ⟨b, i, none⟩) hl))
theorem RwP.old {ok : Nat → Prop} {B : Nat} {w Y W : World} {p : Rp} (h : RwP ok w p) (hY : Below w.heap.size w Y) (hW : Below B Y W) (hB : w.heap.size ≤ B) : RwP (fun b => b < B) W p := h.imp (fun b hl _ => by omega) (fun b i hl _ => (hW.cell (p := ⟨b, i, none⟩) (by exact Nat.lt_of_lt_of_le hl hB)).trans (hY.cell (p := ⟨b, i, none⟩) hl))
set_option maxRecDepth 100000 in
set_option maxHeartbeats 16000000 in
theorem bput_bad (t bs : Int) (ao : Option Addr) (n cap : Nat) (F : TypeId) (U : Value) (w : World) (HC : Hid (∀ W, Below w.heap.size w W → Calls Tryz.prog 89 #[.agg #[.int .i64 t, .int .i64 bs, .slice ao n cap]] W fun e w' => e = .returned (.iface F U) ∧ Below W.heap.size W w')) :
    Calls Tryz.prog 61 #[.agg #[.int .i64 t, .int .i64 bs, .slice ao n cap]] w fun e w' => e = .returned (.tuple #[.slice none 0 0, .iface F U]) ∧ Below w.heap.size w w' := by
  have hb : Below w.heap.size w (w.alloc (.cells #[.int .i64 t, .int .i64 bs, .slice ao n cap] 52)) := (Below.refl _ _).alloc (Nat.le_refl _) _
  have HC2 := hide (HC.out _ hb)
  have HB := hide hb
  clear HC hb
  go_enter Tryz.func61, Tryz.ntmps61
  go_wp2_with (first | (go_at_call 89; refine HC2.out.mono ?_; rintro e w1 ⟨rfl, hb1⟩; have HB1 := hide (HB.out.trans (hb1.mono HB.out.size)); clear hb1))
  exact bodyPost_ret (v := .tuple #[.slice none 0 0, .iface F U]) (by simp [results, Tryz.results61, go_sem]) rfl ⟨rfl, HB1.out⟩
set_option maxRecDepth 100000 in
set_option maxHeartbeats 32000000 in
theorem bput_ok {ok : Nat → Prop} (t bs : Int) (ao : Option Addr) (cap : Nat) (ps : List Rp) (w : World) (hv : Rl (fun _ => True) ok w (.slice ao ps.length cap) ps) (htx : ∀ p ∈ ps, TxR p.1) (hc : (bw ⟨t, bs, rcl ps⟩).c = 0) :
    Calls Tryz.prog 61 #[.agg #[.int .i64 t, .int .i64 bs, .slice ao ps.length cap]] w fun e w' => (if (bytL ⟨t, bs, rcl ps⟩).length ≤ 16384 then ∃ y, e = .returned (.tuple #[y, .nilIface]) ∧ Ow (w.heap.size + 1) w' y (bytL ⟨t, bs, rcl ps⟩) else e = .returned (.tuple #[.slice none 0 0, ft ⟨#[98, 97, 116, 99, 104]⟩ (bytL ⟨t, bs, rcl ps⟩).length 6])) ∧ Below w.heap.size w w' := by
  obtain ⟨h1, h2, h3, h4⟩ := bw_ok hc
  simp only at h1 h2 h3 h4
  rw [rcl_len] at h3
  obtain ⟨b, o, rfl, hrg⟩ := hv.rg (by omega)
  have HC := hide (fun W (h : Below w.heap.size w W) => bcheck_go (ok := ok) t bs (some ⟨b, o, none⟩) cap ps W (fun _ => ⟨b, o, rfl, range_bel hrg h⟩) (fun p hp => (hv.2 p hp).below h) htx)
  rw [show erB (bw ⟨t, bs, rcl ps⟩) = .nilIface from if_pos hc] at HC
  have hhl := headL_len ⟨t, bs, rcl ps⟩
  have htot := putsL_len (rcl ps) h4
  rw [rcl_len] at htot
  have HH : Hid (headL ⟨t, bs, rcl ps⟩ = intL t ++ (intL bs ++ intL ps.length)) := hide (by unfold headL; simp only [rcl_len])
  have HBL : Hid (bytL ⟨t, bs, rcl ps⟩ = headL ⟨t, bs, rcl ps⟩ ++ putsL (rcl ps)) := hide rfl
  generalize bytL ⟨t, bs, rcl ps⟩ = Bs at *
  generalize headL ⟨t, bs, rcl ps⟩ = Hd at *
  have HR := hide hrg
  have HW := hide hv.2
  have H4 := hide h4
  have hn1 : 1 ≤ ps.length := h3.1
  have hn64 : ps.length ≤ 64 := h3.2
  have ht : t ≤ 9223372036854775807 := by omega
  have hbs : bs ≤ 9223372036854775807 := by omega
  have hb : Below w.heap.size w (w.alloc (.cells #[.int .i64 t, .int .i64 bs, .slice (some ⟨b, o, none⟩) ps.length cap] 52)) := (Below.refl _ _).alloc (Nat.le_refl _) _
  have HB := hide hb
  have hsz : (w.alloc (.cells #[.int .i64 t, .int .i64 bs, .slice (some ⟨b, o, none⟩) ps.length cap] 52)).heap.size = w.heap.size + 1 := by simp
  have hcell : ∀ W, Below (w.heap.size + 1) (w.alloc (.cells #[.int .i64 t, .int .i64 bs, .slice (some ⟨b, o, none⟩) ps.length cap] 52)) W → W.cell? ⟨w.heap.size, 0, none⟩ = some (.int .i64 t) ∧ W.cell? ⟨w.heap.size, 1, none⟩ = some (.int .i64 bs) ∧ W.cell? ⟨w.heap.size, 2, none⟩ = some (.slice (some ⟨b, o, none⟩) ps.length cap) := fun W h => by
    have hq : ∀ i, W.cell? ⟨w.heap.size, i, none⟩ = _ := fun i => h.cell (p := ⟨w.heap.size, i, none⟩) (by show w.heap.size < _; omega)
    exact ⟨by rw [hq]; simp, by rw [hq]; simp, by rw [hq]; simp⟩
  have HCL := hide hcell
  have HSZ := hide hsz
  clear hv htx hc h1 h2 h3 h4 hrg hb hcell hsz
  have hap : w.heap.size ≤ w.heap.size + 1 := Nat.le_succ _
  go_enter Tryz.func61, Tryz.ntmps61
  go_upto_region 1 with fail
  generalize w.alloc (.cells #[.int .i64 t, .int .i64 bs, .slice (some ⟨b, o, none⟩) ps.length cap] 52) = Y at HB HCL HSZ ⊢
  obtain ⟨i0, i1, i2⟩ := HCL.out Y (Below.refl _ _)
  go_upto_region 2 with (first | (go_at_call 89; refine (HC.out _ HB.out).mono ?_; rintro e W1 ⟨rfl, hb1⟩; have HB1 : Hid (Below (w.heap.size + 1) Y W1) := hide (hb1.mono (by rw [HSZ.out]; exact Nat.le_refl _)); clear hb1))
  clear i0 i1 i2 HC
  have hz1 : w.heap.size + 1 ≤ W1.heap.size := by have := HB1.out.size; rw [HSZ.out] at this; exact this
  obtain ⟨i0, i1, i2⟩ := HCL.out W1 HB1.out
  have HI := hide (wint_ow (w.heap.size + 1) (.slice none 0 0) [] t W1 (ow_nil _ _) (by decide) hz1 ht)
  rw [List.nil_append] at HI
  go_upto_region 5 with (first | (go_at_call 57; refine HI.out.mono ?_; rintro e W2 ⟨v2, rfl, ho2, hb2⟩))
  have HO2 := hide ho2
  have HB2 := hide (HB1.out.trans hb2)
  have hz2 : w.heap.size + 1 ≤ W2.heap.size := Nat.le_trans hz1 hb2.size
  clear ho2 hb2 HB1 HI i0 i1 i2
  obtain ⟨i0, i1, i2⟩ := HCL.out W2 HB2.out
  have l1 := intL_le t
  have HI := hide (wint_ow (w.heap.size + 1) v2 (intL t) bs W2 HO2.out (by omega) hz2 hbs)
  go_upto_region 6 with (first | (go_at_call 57; refine HI.out.mono ?_; rintro e W3 ⟨v3, rfl, ho3, hb3⟩))
  have HO3 := hide ho3
  have HB3 := hide (HB2.out.trans hb3)
  have hz3 : w.heap.size + 1 ≤ W3.heap.size := Nat.le_trans hz2 hb3.size
  clear ho3 hb3 HB2 HO2 HI i0 i1 i2
  clear hz2 hz1
  obtain ⟨i0, i1, i2⟩ := HCL.out W3 HB3.out
  have l2 := intL_le bs
  have HI := hide (wint_ow (w.heap.size + 1) v3 (intL t ++ intL bs) ps.length W3 HO3.out (by rw [List.length_append]; omega) hz3 (by omega))
  rw [List.append_assoc, ← HH.out] at HI
  go_upto_region 7 with (first | (go_at_call 57; refine HI.out.mono ?_; rintro e W4 ⟨v4, rfl, ho4, hb4⟩))
  have HO4 := hide ho4
  have HB4 := hide (HB3.out.trans hb4)
  clear ho4 hb4 HB3 HO3 HI i0 i1 i2 hz3
  obtain ⟨i0, i1, i2⟩ := HCL.out W4 HB4.out
  go_wp2_with fail
  clear i0 i1 i2
  go_loopw [5, 28] (fun y i wr => ∃ j : Nat, j ≤ ps.length ∧ i = .int .i64 (j : Int) ∧ Ow (w.heap.size + 1) wr y (Hd ++ putsL ((rcl ps).take j)) ∧ Below (w.heap.size + 1) Y wr) (fun _ i _ => ps.length - (intOf i).toNat)
  case atStart => exact ⟨0, Nat.zero_le _, rfl, by simpa [putsL] using HO4.out, HB4.out⟩
  case round =>
    obtain ⟨j, hj, rfl, ho, hb⟩ := hrel
    have HO := hide ho
    have HBR := hide hb
    clear ho hb HO4 HB4
    have hzr : w.heap.size + 1 ≤ wr.heap.size := by have := HBR.out.size; rw [HSZ.out] at this; exact this
    by_cases hlt : j < ps.length
    · have hltI : (j : Int) < (ps.length : Int) := by omega
      have hlr : j < (rcl ps).length := by rw [rcl_len]; exact hlt
      have hpj : (rcl ps)[j] = ps[j].1 := by simp [rcl]
      have HSN := hide (putsL_snoc (rcl ps) j hlr)
      rw [hpj] at HSN
      have hok : (chk ps[j].1).2.2 = 0 := H4.out _ (List.mem_map.2 ⟨ps[j], List.getElem_mem hlt, rfl⟩)
      have HE := hide (range_old (range_at HR.out hlt) HB.out HBR.out hap)
      have HP := hide ((HW.out _ (List.getElem_mem hlt)).old HB.out HBR.out hap)
      have HTN := hide (there_new wr)
      have hlen : (Hd ++ putsL ((rcl ps).take j)).length ≤ 700000 := by
        have := putsL_take_le (rcl ps) j
        rw [List.length_append]
        omega
      generalize ps[j] = p at *
      clear hpj
      go_upto_region 10 with (first | (refine wpList_load_mid rfl _ _ rfl _ _ rfl _ _ HE.out Tryz.underlying55 rfl (by kernel_rfl) ?_) | (refine wpList_store_mid rfl _ _ _ rfl wr.heap.size 0 (cel p).toArray rfl rfl HTN.out (by kernel_rfl) (cel_all _) ?_))
      obtain ⟨V, hV⟩ : ∃ V, V = (wr.alloc (.cells #[.int .i64 0, .int .i64 0, .int .i64 0, .int .i64 0, .int .i64 0, .int .i64 0, .int .i64 0, .int .i64 0, .int .i64 0, .bool false, .string ⟨#[]⟩, .string ⟨#[]⟩, .string ⟨#[]⟩, .string ⟨#[]⟩, .slice none 0 0, .slice none 0 0, .slice none 0 0, .slice none 0 0] 55)).setCells wr.heap.size 0 (cel p) := ⟨_, rfl⟩
      obtain ⟨hbV, hrV, _⟩ := laidP wr p hV
      rw [← hV]
      have HRV := hide hrV
      have HBV := hide (HBR.out.trans (hbV.mono hzr))
      have HOK := hide (cput_ok (w.heap.size + 1) u5 (Hd ++ putsL ((rcl ps).take j)) p.1 _ V (HO.out.below hbV) hlen (Nat.le_trans hzr hbV.size) (HP.out.below hbV).is hok)
      rw [List.append_assoc, ← HSN.out] at HOK
      clear hV hrV hbV HTN HE HP HO HSN
      go_wp2_with (first | (refine wpList_load_mid rfl _ _ rfl _ _ rfl _ _ HRV.out Tryz.underlying55 rfl (by kernel_rfl) ?_) | (go_at_call 95; refine HOK.out.mono ?_; rintro e W5 ⟨v5, rfl, ho5, hg5⟩; have HO5 := hide ho5; have HB5 := hide (HBV.out.trans hg5.below); clear ho5 hg5))
      go_roundw
      case rel => exact ⟨j + 1, by omega, by go_num, HO5.out, HB5.out⟩
      case measure => simp [intOf]; omega
    · obtain rfl : j = ps.length := by omega
      have HOF : Hid (Ow (w.heap.size + 1) wr u5 Bs) := hide (by have := HO.out; rwa [← rcl_len, List.take_length, ← HBL.out] at this)
      have HBF : Hid (Below w.heap.size w wr) := hide (HB.out.trans (HBR.out.mono hap))
      clear HO hlt HBR HR HW H4 HCL HH HBL hhl htot
      obtain ⟨a5, c5, e5⟩ := HOF.out.form
      subst e5
      by_cases hm : Bs.length ≤ 16384
      · have hmI : ¬ (16384 : Int) < (Bs.length : Int) := by omega
        go_wp2_with fail
        exact bodyPost_ret (v := .tuple #[.slice a5 Bs.length c5, .nilIface]) (by simp [results, Tryz.results61, go_sem]) rfl ⟨⟨_, rfl, HOF.out⟩, HBF.out⟩
      · have hmI : (16384 : Int) < (Bs.length : Int) := by omega
        go_wp2_with (first | (go_at_call 23; refine (new_any _ _ _ _).mono ?_; rintro e w9 ⟨rfl, hw9⟩; rw [hw9]; clear hw9 w9))
        exact bodyPost_ret (v := .tuple #[.slice none 0 0, ft ⟨#[98, 97, 116, 99, 104]⟩ Bs.length 6]) (by simp [results, Tryz.results61, go_sem, ft]) rfl ⟨rfl, HBF.out⟩
/-- What a call of Put leaves. -/
def PutP (x : Bt) (w : World) (e : Ending) (w' : World) : Prop :=
  (if (bw x).c = 0 then (if (bytL x).length ≤ 16384 then ∃ y, e = .returned (.tuple #[y, .nilIface]) ∧ Ow (w.heap.size + 1) w' y (bytL x) else e = .returned (.tuple #[.slice none 0 0, ft ⟨#[98, 97, 116, 99, 104]⟩ (bytL x).length 6])) else e = .returned (.tuple #[.slice none 0 0, erB (bw x)])) ∧ Below w.heap.size w w'
theorem bput_any {okb ok : Nat → Prop} (x : Bt) (v : Value) (w : World) (hv : IsB okb ok w v x) (htx : ∀ r ∈ x.rs, TxR r) : Calls Tryz.prog 61 #[v] w (PutP x w) := by
  have hck := fun W (h : Below w.heap.size w W) => bcheck_any x v W (hv.below h) htx
  obtain ⟨t, b, rs⟩ := x
  obtain ⟨u, ps, rfl, h2, h3⟩ := hv
  simp only at h3 htx
  subst h3
  obtain ⟨ao, cap, rfl⟩ := h2.form
  by_cases hc : (bw ⟨t, b, rcl ps⟩).c = 0
  · refine (bput_ok t b ao cap ps w (h2.imp (fun _ _ _ => trivial) (fun _ _ q => q) (fun _ _ _ _ => rfl)) (fun p hp => htx p.1 (List.mem_map.2 ⟨p, hp, rfl⟩)) hc).mono ?_
    rintro e w' h
    unfold PutP
    rw [if_pos hc]
    exact h
  · obtain ⟨F, U, e⟩ : ∃ F U, erB (bw ⟨t, b, rcl ps⟩) = .iface F U := by
      unfold erB
      rw [if_neg hc]
      split
      · exact ⟨_, _, rfl⟩
      · exact ⟨_, _, rfl⟩
    simp only [e] at hck
    refine (bput_bad t b ao ps.length cap F U w (hide hck)).mono ?_
    rintro e' w' ⟨rfl, h⟩
    unfold PutP
    rw [if_neg hc, e]
    exact ⟨rfl, h⟩
end Go.Proofs.YtoioddnlkbjljaaGreatDoor
