/-
  BatchSplits' WALK: any records as batches of so many are what the document says. Conditions: the records' cells hold them, their rows lie in memory that was there; errors.errorType is laid.
-/
import Derived.Test.YtgbcjmpnkejpeaaGreatDoorJBatSq
import Derived.Test.YtgbcjmpnkejpeaaGreatDoorJBatAl
import Derived.Test.YtgbcjmpnkejpeaaGreatDoorJBatSma2
import Derived.Test.YtgbcjmpnkejpeaaGreatDoorJBatWk
namespace Go.Proofs.YtgbcjmpnkejpeaaGreatDoor
open Go.RowKit

theorem shs_ln {r : Rc} (h : shB r = true) : LnR r := by
  unfold shB at h
  simp only [decide_eq_true_eq] at h
  exact ⟨by omega, by omega, by omega, by omega⟩
theorem split_len {qs : List Bq} {t b : Int} {m k : Nat} {rs : List Rc} (h : bts qs = splitK t b m k rs) : qs.length = k := by
  have := congrArg List.length h
  simpa [bts, splitK] using this
theorem split_get {qs : List Bq} {t b : Int} {m k : Nat} {rs : List Rc} (h : bts qs = splitK t b m k rs) (j : Nat) (hj : j < qs.length) : btq qs[j] = ⟨t, b + (j : Int), chunk m j rs⟩ := by
  have hk := split_len h
  have e1 : (bts qs)[j]? = some (btq qs[j]) := by simp [bts, hj]
  have e2 : (splitK t b m k rs)[j]? = some ⟨t, b + (j : Int), chunk m j rs⟩ := by
    unfold splitK
    rw [List.getElem?_map, List.getElem?_range (by omega)]
    rfl
  rw [h, e2] at e1
  exact (Option.some.inj e1).symm
theorem chunk_len {α : Type} (m j : Nat) (l : List α) : (chunk m j l).length = min m (l.length - j * m) := by
  unfold chunk
  rw [List.length_take, List.length_drop]
theorem k_uniq {m k k2 L : Nat} (h1 : k * m < L + m) (h2 : L ≤ k * m) (h3 : k2 * m < L + m) (h4 : L ≤ k2 * m) : k = k2 := by
  have key : ∀ a c : Nat, a * m < L + m → L ≤ a * m → c * m < L + m → L ≤ c * m → ¬ a < c := fun a c _ g2 g3 _ hac => by
    have := Nat.mul_le_mul_right m hac
    rw [Nat.succ_mul] at this
    omega
  have e1 := key k k2 h1 h2 h3 h4
  have e2 := key k2 k h3 h4 h1 h2
  omega
theorem k_le {m k L : Nat} (hm : 1 ≤ m) (h1 : k * m < L + m) : k ≤ L := by
  rcases Nat.lt_or_ge L k with h | h
  · have e1 := Nat.mul_le_mul_right m h
    rw [Nat.succ_mul] at e1
    have e2 : L * 1 ≤ L * m := Nat.mul_le_mul_left L hm
    omega
  · exact h
theorem split_eq {qs qs2 : List Bq} {t b most : Int} {k k2 L : Nat} {rs : List Rc} (h : bts qs = splitK t b most.toNat k rs) (h2 : bts qs2 = splitK t b most.toNat k2 rs) (hk : if 1 ≤ most then k * most.toNat < L + most.toNat ∧ L ≤ k * most.toNat else k = 0) (hk2 : if 1 ≤ most then k2 * most.toNat < L + most.toNat ∧ L ≤ k2 * most.toNat else k2 = 0) : bts qs = bts qs2 := by
  have e : k = k2 := by
    by_cases hm : 1 ≤ most
    · rw [if_pos hm] at hk hk2
      exact k_uniq hk.1 hk.2 hk2.1 hk2.2
    · rw [if_neg hm] at hk hk2
      rw [hk, hk2]
  rw [h, h2, e]
/-- What the j-th of k batches is about. -/
theorem batch_j {m k L j : Nat} (h1 : k * m < L + m) (hj : j < k) : j * m < L ∧ min ((j + 1) * m) L = min (j * m) L + min m (L - j * m) := by
  have e := Nat.mul_le_mul_right m (show j + 1 ≤ k from hj)
  rw [Nat.succ_mul] at e ⊢
  omega
set_option maxRecDepth 100000 in
set_option maxHeartbeats 4000000 in
theorem bsplits_long {okb ok : Nat → Prop} (t n most : Int) (u : Value) (ps : List Rp) (w : World) (hv : Rl okb ok w u ps) (hg : Hnd w) (hs : shL (rcl ps) = false) : Calls Tryz.prog 8 #[.int .i64 t, .int .u32 n, .int .i64 most, u] w fun e w' => e = .returned (.bool true) ∧ Below w.heap.size w w' := by
  have HSH := hide (bshort_any u ps w hv)
  have HWK := hide (fun W (h : Below w.heap.size w W) => bworks_any W (hg.below h))
  rw [hs] at HSH
  clear hv hg hs
  go_enter Tryz.func8, Tryz.ntmps8
  go_wp2_with (first | (go_at_call 18; refine HSH.out.mono ?_; rintro e V1 ⟨rfl, hb1⟩; have HB1 := hide hb1; clear hb1) | (go_at_call 19; refine (HWK.out V1 HB1.out).mono ?_; rintro e V2 ⟨rfl, hb2⟩; have HB2 := hide (HB1.out.trans (hb2.mono HB1.out.size)); clear hb2))
  go_ret
  exact ⟨rfl, HB2.out⟩
set_option maxRecDepth 100000 in
set_option maxHeartbeats 32000000 in
theorem bsplits_go {okb : Nat → Prop} (t n most : Int) (u : Value) (ps : List Rp) (w : World) (hn : 0 ≤ n ∧ n ≤ 4294967295) (hmo : most ≤ 9223372036854775807) (hv : Rl okb (fun k => k < w.heap.size) w u ps) (hg : Hnd w) (hs : shL (rcl ps) = true) : Calls Tryz.prog 8 #[.int .i64 t, .int .u32 n, .int .i64 most, u] w fun e w' => e = .returned (.bool true) ∧ Below w.heap.size w w' := by
  obtain ⟨ao, cap, hu⟩ := hv.form
  subst hu
  have hnw : IntKind.i64.wrap n = n := by rw [IntKind.wrap_i64]; omega
  have HSH := hide (bshort_any _ ps w hv)
  have HWK := hide (fun W (h : Below w.heap.size w W) => bworks_any W (hg.below h))
  have hl80 : ps.length ≤ 80 := by have := (shL_is hs).1; rwa [rcl_len] at this
  have HLN : Hid (∀ r ∈ rcl ps, LnR r) := hide (fun r hr => shs_ln ((shL_is hs).2 r hr))
  have HSP := hide (fun W (h : Below w.heap.size w W) => split_any t n most (.slice ao ps.length cap) ps W hmo (by omega) (by omega) (hv.below h) (by omega) (fun p hp => HLN.out p.1 (List.mem_map.2 ⟨p, hp, rfl⟩)))
  have HRS := hide (fun W (h : Below w.heap.size w W) => rsplit_any t n most (.slice ao ps.length cap) ps W hmo (by omega) (by omega) ((hv.below h).imp (fun _ _ q => q) (fun _ _ q => Nat.lt_of_lt_of_le q h.size) (fun _ _ _ _ => rfl)) (by omega))
  rw [hs] at HSH
  clear hv hg hs
  go_enter Tryz.func8, Tryz.ntmps8
  go_upto_region 3 with (first | (go_at_call 18; refine HSH.out.mono ?_; rintro e V1 ⟨rfl, hb1⟩; have HB1 := hide hb1; clear hb1))
  go_upto_region 4 with (first | (go_at_call 36; refine (HSP.out V1 HB1.out).mono ?_; rintro e V2 ⟨y, qs, k, rfl, hy, hq, hk, hb2⟩; have HY := hide hy; have HQ := hide hq; have HK := hide hk; have HB2 := hide (HB1.out.trans (hb2.mono HB1.out.size)); clear hy hq hk hb2))
  have hqk : qs.length = k := split_len HQ.out
  have hk80 : k ≤ 80 := by
    have := HK.out
    split at this
    · have := k_le (by omega) this.1
      omega
    · omega
  have HQL : Hid (∀ x ∈ bts qs, x.rs.length ≤ 100000 ∧ ∀ r ∈ x.rs, LnR r) := hide (fun x hx => by
    rw [HQ.out] at hx
    unfold splitK at hx
    obtain ⟨i, _, rfl⟩ := List.mem_map.1 hx
    refine ⟨?_, fun r hr => HLN.out r (List.mem_of_mem_drop (List.mem_of_mem_take hr))⟩
    show (chunk _ i (rcl ps)).length ≤ _
    rw [chunk_len, rcl_len]
    omega)
  go_upto_region 6 with (first | (go_at_call 38; refine (HRS.out V2 HB2.out).mono ?_; rintro e V3 ⟨y2, qs2, k2, rfl, hy2, hq2, hk2, hb3⟩; have HY3 := hide (HY.out.below hb3); have HB3 := hide (HB2.out.trans (hb3.mono HB2.out.size)); have HEQ : Hid (bts qs = bts qs2) := hide (split_eq HQ.out hq2 HK.out hk2); have HAL := hide (all_any y y2 qs qs2 V3 HY3.out hy2 (by omega) HQL.out HEQ.out); clear hy2 hq2 hk2 hb3 HEQ) | (go_at_call 37; refine HAL.out.mono ?_; rintro e V4 ⟨rfl, hb4⟩; have HY4 := hide (HY3.out.below hb4); have HB4 := hide (HB3.out.trans (hb4.mono HB3.out.size)); clear hb4))
  subst hqk
  obtain ⟨ay, cy, hy⟩ := HY4.out.form
  subst hy
  clear HSH HSP HRS HAL HQL HLN HB1 HB2 HB3 HY HY3 V1 V2 V3
  go_wp2_with fail
  go_loopw [10, 11] (fun nv i wr => ∃ j : Nat, j ≤ qs.length ∧ i = .int .i64 (j : Int) ∧ nv = .int .i64 ((min (j * most.toNat) ps.length : Nat) : Int) ∧ Below V4.heap.size V4 wr) (fun _ i _ => qs.length - (intOf i).toNat)
  case atStart => exact ⟨0, Nat.zero_le _, rfl, by simp, Below.refl _ _⟩
  case round =>
    obtain ⟨j, hj, rfl, rfl, hb⟩ := hrel
    have HB := hide hb
    clear hb
    by_cases hlt : j < qs.length
    · have hltI : (j : Int) < (qs.length : Int) := by omega
      have hm : 1 ≤ most := by
        have := HK.out
        by_cases h : 1 ≤ most
        · exact h
        · rw [if_neg h] at this; omega
      have hk := HK.out
      rw [if_pos hm] at hk
      obtain ⟨hb1, hb2⟩ := batch_j hk.1 hlt
      have hg := split_get HQ.out j hlt
      rcases HY4.out.1 with ⟨_, _, e, _⟩ | ⟨b, o, cap', e, _, _, h4⟩
      · subst e; simp at hlt
      cases e
      have hr := range_bel (brange_at h4 hlt) HB.out
      have c1 : wr.cell? ⟨b, o + j * 3 + 1, none⟩ = some (.int .i64 qs[j].b) := hr 1 _ rfl
      have c2 : wr.cell? ⟨b, o + j * 3 + 2, none⟩ = some qs[j].u := hr 2 _ rfl
      obtain ⟨a2, c3, hu2⟩ := (HY4.out.2 qs[j] (List.getElem_mem hlt)).form
      have hqb : qs[j].b = n + (j : Int) := congrArg Bt.b hg
      have hql : qs[j].ps.length = min most.toNat (ps.length - j * most.toNat) := by
        have e1 : (rcl qs[j].ps).length = (chunk most.toNat j (rcl ps)).length := congrArg (fun x => x.rs.length) hg
        rw [rcl_len, chunk_len, rcl_len] at e1
        exact e1
      rw [hqb] at c1
      rw [hu2] at c2
      rw [← hql] at hb2
      have hN1 : 1 ≤ qs[j].ps.length := by omega
      have hN2 : (qs[j].ps.length : Int) ≤ most := by omega
      have hA : min (j * most.toNat) ps.length + qs[j].ps.length ≤ 80 := by omega
      have HNX := hide hb2
      generalize qs[j].ps.length = Q at *
      have hQ0 : ¬ (Q : Int) = 0 := by omega
      have hQm : ¬ most < (Q : Int) := by omega
      generalize min (j * most.toNat) ps.length = A at *
      clear hg hr hql hb2 hb1 hk hqb hu2 h4 hN1 hN2
      go_wp2_with fail
      go_roundw
      case rel => exact ⟨j + 1, by omega, by go_num, by rw [HNX.out]; go_num, HB.out⟩
      case measure => simp [intOf]; omega
    · obtain rfl : j = qs.length := by omega
      have HBF := hide (HB4.out.trans (HB.out.mono HB4.out.size))
      clear hlt
      by_cases hm : most < 1
      · go_wp2_with (first | (go_at_call 19; refine (HWK.out wr HBF.out).mono ?_; rintro e V5 ⟨rfl, hb5⟩; have HB5 := hide (HBF.out.trans (hb5.mono HBF.out.size)); clear hb5))
        go_ret
        exact ⟨rfl, HB5.out⟩
      · have hk := HK.out
        rw [if_pos (by omega)] at hk
        have hA : min (qs.length * most.toNat) ps.length = ps.length := by omega
        rw [hA]
        clear hk hA
        go_wp2_with (first | (go_at_call 19; refine (HWK.out wr HBF.out).mono ?_; rintro e V5 ⟨rfl, hb5⟩; have HB5 := hide (HBF.out.trans (hb5.mono HBF.out.size)); clear hb5))
        go_ret
        exact ⟨rfl, HB5.out⟩
/-- BatchSplits answers true. -/
theorem bsplits_law {okb : Nat → Prop} (t n most : Int) (u : Value) (ps : List Rp) (w : World) (hn : 0 ≤ n ∧ n ≤ 4294967295) (hmo : -9223372036854775808 ≤ most ∧ most ≤ 9223372036854775807) (hv : Rl okb (fun k => k < w.heap.size) w u ps) (hg : Hnd w) : Calls Tryz.prog 8 #[.int .i64 t, .int .u32 n, .int .i64 most, u] w fun e w' => e = .returned (.bool true) ∧ Below w.heap.size w w' := by
  by_cases hs : shL (rcl ps) = true
  · exact bsplits_go t n most u ps w hn hmo.2 hv hg hs
  · exact bsplits_long t n most u ps w hv hg (by simpa using hs)
end Go.Proofs.YtgbcjmpnkejpeaaGreatDoor
