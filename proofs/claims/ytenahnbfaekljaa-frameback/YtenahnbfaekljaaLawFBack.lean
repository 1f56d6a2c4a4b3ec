/-
  FrameBack: frames that are written are told again as what they were, and nothing is left; cut short the first ones are told, those that are whole. Condition: the frames' cells hold them.
-/
import Derived.Test.YtenahnbfaekljaaFworks
namespace Go.Proofs.Ytenahnbfaekljaa
open Go.RowKit

theorem allL_byt {fs : List (Int × List Int)} (h : ∀ f ∈ fs, Ok f) (hb : ∀ f ∈ fs, Byt f.2) : Byt (allL fs) := by
  intro x hx
  obtain ⟨f, hf, hx'⟩ := List.mem_flatMap.1 hx
  have := h f hf
  exact frameL_byt this.1 (by have := this.2.1; omega) (hb f hf) x hx'
theorem fr_to (a : Addr) (L cap n : Nat) (h : n ≤ cap) (W : World) : (Instr.slice 22 (.slice (some a) L cap) none (some (.int .i64 (n : Int))) none).run Try.prog W = .ok (.slice (some a) n cap) W := by
  have h1 : (n : Int) ≤ (cap : Int) := by omega
  simp [Instr.slice, go_sem, h1]
theorem fr_to_any (v : Value) (fs : List (Int × List Int)) (n : Nat) (w : World) (hv : Fl w v fs) (hn : n ≤ fs.length) :
    ∃ u, (∀ W, (Instr.slice 22 v none (some (.int .i64 (n : Int))) none).run Try.prog W = .ok u W) ∧ ∀ W, Fl W v fs → Fl W u (fs.take n) := by
  by_cases h0 : 0 < fs.length
  · rcases hv with ⟨_, _, rfl, _⟩ | ⟨b, o, cap, rfl, hc, _⟩
    · simp at h0
    refine ⟨_, fr_to _ fs.length cap n (by omega), fun W hW => ?_⟩
    rcases hW with ⟨_, _, rfl, _⟩ | ⟨b', o', cap', h1, h2, h3⟩
    · simp at h0
    cases h1
    have hl : (fs.take n).length = n := by rw [List.length_take]; omega
    refine .inr ⟨b, o, cap, by rw [hl], by omega, fun i hi => ?_⟩
    rw [List.getElem_take]
    exact h3 i (by omega)
  · obtain rfl : fs = [] := List.length_eq_zero_iff.1 (by omega)
    obtain rfl : n = 0 := by simpa using hn
    obtain ⟨ao, cap, rfl⟩ := hv.form
    refine ⟨.slice ao 0 cap, fun W => ?_, fun W _ => .inl ⟨_, _, rfl, rfl⟩⟩
    simp [Instr.slice, go_sem]
theorem mod_k (c : Int) (M : Nat) : ∃ q : Nat, c % ((M : Int) + 1) = (q : Int) ∧ q ≤ M := by
  have h3 := Int.emod_nonneg c (show (M : Int) + 1 ≠ 0 by omega)
  have h4 := Int.emod_lt_of_pos c (show 0 < (M : Int) + 1 by omega)
  exact ⟨(c % ((M : Int) + 1)).toNat, by omega, by omega⟩
set_option maxRecDepth 100000 in
set_option maxHeartbeats 8000000 in
theorem back_law (v : Value) (fs : List (Int × List Int)) (c : Int) (w : World) (hv : Fl w v fs) (hn : fs.length ≤ 9223372036854775807) (hl : ∀ f ∈ fs, f.2.length ≤ 1152921504606846976) (hby : ∀ f ∈ fs, Byt f.2) (hc0 : 0 ≤ c ∧ c ≤ 65535) :
    Calls Try.prog 3 #[v, .int .u16 c] w fun e w' => e = .returned (.bool true) ∧ Below w.heap.size w w' := by
  have HLI := hide (light_any v fs w hv hn hl)
  have HW := hide (fun W => works_any W)
  have HV := hide hv
  have HY := hide hby
  obtain ⟨ao, cap, hvf⟩ := hv.form
  obtain ⟨hc0, hc1⟩ := hc0
  subst hvf
  clear hv hl hby
  go_enter Try.func3, Try.ntmps3
  go_wp2_with fail
  refine HLI.out.mono ?_
  rintro e w1 ⟨⟨r, rfl, hr⟩, rfl⟩
  cases r with
  | false =>
    clear hr
    go_wp2_with (first | (go_at_call 6; refine (HW.out _).mono ?_; rintro e w6 ⟨rfl, hb6⟩))
    go_ret
    exact ⟨rfl, hb6⟩
  | true =>
    obtain ⟨hf60, htot⟩ := hr rfl
    have hlen := allL_len_le fs
    have hA : (allL fs).length ≤ 5000 := by omega
    have HA := hide (all_any _ fs w1 HV.out (by omega) (fun f hf => ⟨by have := tot_mem hf; omega, HY.out f hf⟩) (by omega))
    have HBL : Hid (∀ f ∈ fs, f.2.length ≤ 40000) := hide (fun f hf => by have := tot_mem hf; omega)
    clear hr hlen htot
    go_wp2_with fail
    refine HA.out.mono ?_
    rintro e w2 ⟨h, hb2⟩
    rcases h with ⟨hok, y, rfl, ho⟩ | ⟨_, t, z, rfl⟩
    case inr =>
      have HB2 := hide hb2
      clear hb2
      go_wp2_with (first | (go_at_call 6; refine (HW.out _).mono ?_; rintro e w6 ⟨rfl, hb6⟩; have HB6 := hide (bt HB2.out hb6); clear hb6))
      go_ret
      exact ⟨rfl, HB6.out⟩
    have HSY := hide (show Sl bc w2 y (allL fs) from sl_of_owns ho)
    have HOK := hide hok
    have HBY := hide (allL_byt hok HY.out)
    have HB2 := hide hb2
    have HST := hide (strm_new w2)
    have hba : Below w2.heap.size w2 (w2.alloc (.cells #[.slice none 0 0, .int .i64 0, .nilIface] 33)) := (Below.refl _ _).alloc (Nat.le_refl _) _
    have HBA := hide hba
    have HF1 := hide (feed_core w2.heap.size w2.heap.size _ y [] (allL fs) (allL fs) 0 _ HST.out (by simp) (HSY.out.below hba) rfl HBY.out hA (by omega))
    clear ho hok hb2 hba HA
    obtain ⟨yo, yc, hyf⟩ := HSY.out.form
    subst hyf
    go_wp2_with fail
    refine HF1.out.mono ?_
    rintro e w3 ⟨y1, k1, ps1, v1, rfl, hi1, hz1, ho1, hb1, hs1, _, hx1, _⟩
    obtain rfl : k1 = fs.length := its_end HOK.out hi1 hz1
    have hit := end_all HOK.out
    have hnx : (nextS ((allL fs).drop (allL fs).length)).c = 0 := by rw [List.drop_length]; rfl
    rw [hit] at hb1 hs1
    simp only at hb1 hs1
    rw [leftS_none hnx, errS_none hnx, List.drop_length] at hs1
    have hfl1 : Fl w3 y1 fs := fl_of_owns ho1 hb1
    obtain ⟨vo1, vc1, hv1⟩ := hs1.form
    subst hv1
    have hlo3 : Below w2.heap.size w2 w3 := HBA.out.trans (strm_low HST.out hx1)
    have HLO3 := hide hlo3
    have HB3 := hide (HB2.out.trans (hlo3.mono HB2.out.size))
    have HSM := hide (fsame_any (.slice ao fs.length cap) y1 fs w3 (HV.out.below HB3.out) hfl1 (by omega) HBL.out)
    have HR3 : Hid (Rd w3 w2.heap.size (.slice vo1 0 vc1) ((0 + (allL fs).length : Nat) : Int) .nilIface) := hide hs1.1
    clear hi1 hz1 ho1 hb1 hs1 hx1 hit hnx hfl1 hlo3 HF1 HST
    go_wp2_with fail
    refine HSM.out.mono ?_
    rintro e w4 ⟨rfl, hb4⟩
    have HR4 := hide (HR3.out.below hb4)
    have HLO4 := hide (HLO3.out.trans (hb4.mono HLO3.out.size))
    have HB4 := hide (HB2.out.trans (HLO4.out.mono HB2.out.size))
    clear hb4 HSM HR3 HLO3
    -- the second stream
    obtain ⟨q, hq, hqM⟩ := mod_k c (allL fs).length
    obtain ⟨u2, hsl2, hu2⟩ := slice_to_any _ (allL fs) q w2 HSY.out hqM
    have HST5 := hide (strm_new w4)
    have hba5 : Below w4.heap.size w4 (w4.alloc (.cells #[.slice none 0 0, .int .i64 0, .nilIface] 33)) := (Below.refl _ _).alloc (Nat.le_refl _) _
    have hlo5 := HLO4.out.trans (hba5.mono HLO4.out.size)
    have HBA5 := hide hba5
    have HF2 := hide (feed_core w4.heap.size w4.heap.size _ u2 [] ((allL fs).take q) ((allL fs).take q) 0 _ HST5.out (by simp) (hu2 _ (HSY.out.below hlo5)) rfl (fun x hx => HBY.out x (List.mem_of_mem_take hx)) (by rw [List.length_take]; omega) (by omega))
    clear hu2 hba5 hlo5
    go_wp2_with (first
      | (go_at_call 10; refine (serr_any _ _ _ _ _ HR4.out).mono ?_; rintro e w8 ⟨rfl, rfl⟩)
      | (go_at_call 11; refine (sleft_any _ _ _ _ _ _ _ HR4.out).mono ?_; rintro e w9 ⟨rfl, rfl⟩))
    refine HF2.out.mono ?_
    rintro e w6 ⟨y2, K, ps2, v2, rfl, hi2, hz2, ho2, hb2', hs2, _, hx2, _⟩
    obtain ⟨hK, he, hcc⟩ := it_cut HOK.out (n := q) hi2 hz2
    have hn0 : K = 0 → (it ((allL fs).take q) K).2 = 0 := by rintro rfl; rfl
    have hnl := it_le ((allL fs).take q) K
    rw [List.length_take, Nat.min_eq_left hqM] at hnl
    rw [he] at hb2'
    rw [leftS_none hcc, errS_none hcc] at hs2
    obtain ⟨vo2, vc2, hv2⟩ := hs2.form
    rw [List.length_drop, List.length_take, Nat.min_eq_left hqM] at hv2
    obtain ⟨D, hD⟩ : ∃ D, D = q - (it ((allL fs).take q) K).2 := ⟨_, rfl⟩
    rw [← hD] at hv2
    subst hv2
    have hKD : K = 0 → D = q := fun e => by rw [hD, hn0 e]; omega
    have hfl2 : Fl w6 y2 (fs.take K) := fl_of_owns (by rw [List.length_take, Nat.min_eq_left hK]; exact ho2) hb2'
    obtain ⟨ao2, cap2, hy2⟩ := hfl2.form
    rw [List.length_take, Nat.min_eq_left hK] at hy2
    subst hy2
    have hlo6 := HBA5.out.trans (strm_low HST5.out hx2)
    have HB6 := hide (HB4.out.trans (hlo6.mono HB4.out.size))
    obtain ⟨u3, hsl3, hu3⟩ := fr_to_any _ fs K w1 HV.out hK
    have HSM := hide (fsame_any (.slice ao2 K cap2) u3 (fs.take K) w6 hfl2 (hu3 w6 (HV.out.below HB6.out)) (by rw [List.length_take]; omega) (fun f hf => HBL.out f (List.mem_of_mem_take hf)))
    have HR6 : Hid (Rd w6 _ (.slice vo2 D vc2) _ .nilIface) := hide hs2.1
    have hKI : (K : Int) ≤ (fs.length : Int) := by omega
    have hq' : c.tmod ((allL fs).length + 1) = (q : Int) := by rw [Int.tmod_eq_emod_of_nonneg hc0]; exact hq
    clear hi2 hz2 ho2 hb2' hs2 hx2 hcc he hn0 hnl hD hfl2 hlo6 hu3 HF2 HST5
    by_cases ha : K = fs.length
    · subst ha
      clear hKD hKI
      go_wp2_with (first
        | (go_at_call 10; refine (serr_any _ _ _ _ _ HR6.out).mono ?_; rintro e w8 ⟨rfl, rfl⟩)
        | (go_at_call 9; refine (HSM.out).mono ?_; rintro e w10 ⟨rfl, hb10⟩; have HR10 := hide (HR6.out.below hb10); have HB10 := hide (HB6.out.trans (hb10.mono HB6.out.size)); clear hb10)
        | (go_at_call 11; refine (sleft_any _ _ _ _ _ _ _ HR10.out).mono ?_; rintro e w11 ⟨rfl, rfl⟩)
        | (go_at_call 6; refine (HW.out _).mono ?_; rintro e w12 ⟨rfl, hb12⟩; have HB12 := hide (HB10.out.trans (hb12.mono HB10.out.size)); clear hb12))
      go_ret
      exact ⟨rfl, HB12.out⟩
    have ha' : ¬ (K : Int) = (fs.length : Int) := by omega
    clear ha
    by_cases hb : 0 < D
    · have hb' : (0 : Int) < (D : Int) := by omega
      clear hKD hb
      go_wp2_with (first
        | (go_at_call 10; refine (serr_any _ _ _ _ _ HR6.out).mono ?_; rintro e w8 ⟨rfl, rfl⟩)
        | (go_at_call 9; refine (HSM.out).mono ?_; rintro e w10 ⟨rfl, hb10⟩; have HR10 := hide (HR6.out.below hb10); have HB10 := hide (HB6.out.trans (hb10.mono HB6.out.size)); clear hb10)
        | (go_at_call 11; refine (sleft_any _ _ _ _ _ _ _ HR10.out).mono ?_; rintro e w11 ⟨rfl, rfl⟩)
        | (go_at_call 6; refine (HW.out _).mono ?_; rintro e w12 ⟨rfl, hb12⟩; have HB12 := hide (HB10.out.trans (hb12.mono HB10.out.size)); clear hb12))
      go_ret
      exact ⟨rfl, HB12.out⟩
    have hb' : ¬ (0 : Int) < (D : Int) := by omega
    by_cases hc : q = 0
    · subst hc
      clear hKD
      go_wp2_with (first
        | (go_at_call 10; refine (serr_any _ _ _ _ _ HR6.out).mono ?_; rintro e w8 ⟨rfl, rfl⟩)
        | (go_at_call 9; refine (HSM.out).mono ?_; rintro e w10 ⟨rfl, hb10⟩; have HR10 := hide (HR6.out.below hb10); have HB10 := hide (HB6.out.trans (hb10.mono HB6.out.size)); clear hb10)
        | (go_at_call 11; refine (sleft_any _ _ _ _ _ _ _ HR10.out).mono ?_; rintro e w11 ⟨rfl, rfl⟩)
        | (go_at_call 6; refine (HW.out _).mono ?_; rintro e w12 ⟨rfl, hb12⟩; have HB12 := hide (HB10.out.trans (hb12.mono HB10.out.size)); clear hb12))
      go_ret
      exact ⟨rfl, HB12.out⟩
    · have hc' : ¬ (q : Int) = 0 := by omega
      have hd' : (0 : Int) < (K : Int) := by
        rcases Nat.eq_zero_or_pos K with e | e
        · have := hKD e; omega
        · omega
      clear hKD hc hb
      go_wp2_with (first
        | (go_at_call 10; refine (serr_any _ _ _ _ _ HR6.out).mono ?_; rintro e w8 ⟨rfl, rfl⟩)
        | (go_at_call 9; refine (HSM.out).mono ?_; rintro e w10 ⟨rfl, hb10⟩; have HR10 := hide (HR6.out.below hb10); have HB10 := hide (HB6.out.trans (hb10.mono HB6.out.size)); clear hb10)
        | (go_at_call 11; refine (sleft_any _ _ _ _ _ _ _ HR10.out).mono ?_; rintro e w11 ⟨rfl, rfl⟩)
        | (go_at_call 6; refine (HW.out _).mono ?_; rintro e w12 ⟨rfl, hb12⟩; have HB12 := hide (HB10.out.trans (hb12.mono HB10.out.size)); clear hb12))
      go_ret
      exact ⟨rfl, HB12.out⟩
end Go.Proofs.Ytenahnbfaekljaa
