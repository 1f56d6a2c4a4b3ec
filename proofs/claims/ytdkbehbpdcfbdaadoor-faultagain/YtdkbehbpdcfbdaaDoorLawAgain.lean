/-
  FaultAgain, WALKED: at every two chains it answers true, and turns nothing that was there. Conditions: errors.errorType holds the handle of the type error, and the chains' cells hold their steps.
-/
import Derived.Test.YtdkbehbpdcfbdaaDoorBoth
namespace Go.Proofs.YtdkbehbpdcfbdaaDoor
open Go.RowKit Go.Extern.Stop Go.Stop Go.Extern

theorem keep_two {vc vd : Value} {kc kd : Int} {lc ld : List (ByteArray × Int)} {w W W' : World} {n : Nat} (hb : Below W.heap.size W W') (h : W.cell? ⟨n, 0, none⟩ = some vc ∧ W.cell? ⟨n, 1, none⟩ = some (.int .i64 kc) ∧ W.cell? ⟨n + 1, 0, none⟩ = some vd ∧ W.cell? ⟨n + 1, 1, none⟩ = some (.int .i64 kd) ∧ Hnd W ∧ (Stp W vc lc ∧ Stp W vd ld) ∧ Below n w W ∧ n ≤ W.heap.size) :
    W'.cell? ⟨n, 0, none⟩ = some vc ∧ W'.cell? ⟨n, 1, none⟩ = some (.int .i64 kc) ∧ W'.cell? ⟨n + 1, 0, none⟩ = some vd ∧ W'.cell? ⟨n + 1, 1, none⟩ = some (.int .i64 kd) ∧ Hnd W' ∧ (Stp W' vc lc ∧ Stp W' vd ld) ∧ Below n w W' ∧ n ≤ W'.heap.size := by
  obtain ⟨h1, h2, h3, h4, h5, ⟨h6, h7⟩, h8, h9⟩ := h
  refine ⟨?_, ?_, ?_, ?_, h5.below hb, ⟨h6.below hb, h7.below hb⟩, h8.trans (hb.mono h9), Nat.le_trans h9 hb.size⟩
  · rw [hb.cell (p := ⟨n, 0, none⟩) (block_of_cell h1)]; exact h1
  · rw [hb.cell (p := ⟨n, 1, none⟩) (block_of_cell h2)]; exact h2
  · rw [hb.cell (p := ⟨n + 1, 0, none⟩) (block_of_cell h3)]; exact h3
  · rw [hb.cell (p := ⟨n + 1, 1, none⟩) (block_of_cell h4)]; exact h4
theorem hnd_two {vc vd : Value} {kc kd : Int} {lc ld : List (ByteArray × Int)} {w W : World} {n : Nat} (h : W.cell? ⟨n, 0, none⟩ = some vc ∧ W.cell? ⟨n, 1, none⟩ = some (.int .i64 kc) ∧ W.cell? ⟨n + 1, 0, none⟩ = some vd ∧ W.cell? ⟨n + 1, 1, none⟩ = some (.int .i64 kd) ∧ Hnd W ∧ (Stp W vc lc ∧ Stp W vd ld) ∧ Below n w W ∧ n ≤ W.heap.size) : Hnd W := h.2.2.2.2.1
theorem stp_two {vc vd : Value} {kc kd : Int} {lc ld : List (ByteArray × Int)} {w W : World} {n : Nat} (h : W.cell? ⟨n, 0, none⟩ = some vc ∧ W.cell? ⟨n, 1, none⟩ = some (.int .i64 kc) ∧ W.cell? ⟨n + 1, 0, none⟩ = some vd ∧ W.cell? ⟨n + 1, 1, none⟩ = some (.int .i64 kd) ∧ Hnd W ∧ (Stp W vc lc ∧ Stp W vd ld) ∧ Below n w W ∧ n ≤ W.heap.size) : Stp W vc lc := h.2.2.2.2.2.1.1
theorem stq_two {vc vd : Value} {kc kd : Int} {lc ld : List (ByteArray × Int)} {w W : World} {n : Nat} (h : W.cell? ⟨n, 0, none⟩ = some vc ∧ W.cell? ⟨n, 1, none⟩ = some (.int .i64 kc) ∧ W.cell? ⟨n + 1, 0, none⟩ = some vd ∧ W.cell? ⟨n + 1, 1, none⟩ = some (.int .i64 kd) ∧ Hnd W ∧ (Stp W vc lc ∧ Stp W vd ld) ∧ Below n w W ∧ n ≤ W.heap.size) : Stp W vd ld := h.2.2.2.2.2.1.2
theorem bel_two {vc vd : Value} {kc kd : Int} {lc ld : List (ByteArray × Int)} {w W : World} {n : Nat} (h : W.cell? ⟨n, 0, none⟩ = some vc ∧ W.cell? ⟨n, 1, none⟩ = some (.int .i64 kc) ∧ W.cell? ⟨n + 1, 0, none⟩ = some vd ∧ W.cell? ⟨n + 1, 1, none⟩ = some (.int .i64 kd) ∧ Hnd W ∧ (Stp W vc lc ∧ Stp W vd ld) ∧ Below n w W ∧ n ≤ W.heap.size) : Below n w W := h.2.2.2.2.2.2.1

set_option maxHeartbeats 4000000 in
/-- One of them is not light. -/
theorem again_far (vc vd : Value) (kc kd : Int) (lc ld : List (ByteArray × Int)) (la lb : Bool) (w : World) (hg : Hnd w) (hc : Stp w vc lc) (hd : Stp w vd ld)
    (H1 : Hid (∀ W, Calls Tryd.prog 7 #[.agg #[vc, .int .i64 kc]] W fun e w' => e = .returned (.bool la) ∧ Below W.heap.size W w'))
    (H2 : Hid (∀ W, Calls Tryd.prog 7 #[.agg #[vd, .int .i64 kd]] W fun e w' => e = .returned (.bool lb) ∧ Below W.heap.size W w')) (hno : la = true → lb = false) :
    Calls Tryd.prog 4 #[.agg #[vc, .int .i64 kc], .agg #[vd, .int .i64 kd]] w fun e w' => e = .returned (.bool true) ∧ Below w.heap.size w w' := by
  have HG := hide hg
  have HC := hide hc
  have HD := hide hd
  clear hg hc hd
  go_enter Tryd.func4, Tryd.ntmps4
  go_wp2_with fail
  have hB : Below w.heap.size w ((w.alloc (.cells #[vc, .int .i64 kc] 24)).alloc (.cells #[vd, .int .i64 kd] 24)) := ((Below.refl _ _).alloc (Nat.le_refl _) _).alloc (by simp) _
  have k0 : ((w.alloc (.cells #[vc, .int .i64 kc] 24)).alloc (.cells #[vd, .int .i64 kd] 24)).cell? ⟨w.heap.size, 0, none⟩ = some vc ∧ ((w.alloc (.cells #[vc, .int .i64 kc] 24)).alloc (.cells #[vd, .int .i64 kd] 24)).cell? ⟨w.heap.size, 1, none⟩ = some (.int .i64 kc) ∧ ((w.alloc (.cells #[vc, .int .i64 kc] 24)).alloc (.cells #[vd, .int .i64 kd] 24)).cell? ⟨w.heap.size + 1, 0, none⟩ = some vd ∧ ((w.alloc (.cells #[vc, .int .i64 kc] 24)).alloc (.cells #[vd, .int .i64 kd] 24)).cell? ⟨w.heap.size + 1, 1, none⟩ = some (.int .i64 kd) ∧ Hnd ((w.alloc (.cells #[vc, .int .i64 kc] 24)).alloc (.cells #[vd, .int .i64 kd] 24)) ∧ (Stp ((w.alloc (.cells #[vc, .int .i64 kc] 24)).alloc (.cells #[vd, .int .i64 kd] 24)) vc lc ∧ Stp ((w.alloc (.cells #[vc, .int .i64 kc] 24)).alloc (.cells #[vd, .int .i64 kd] 24)) vd ld) ∧ Below w.heap.size w ((w.alloc (.cells #[vc, .int .i64 kc] 24)).alloc (.cells #[vd, .int .i64 kd] 24)) ∧ w.heap.size ≤ ((w.alloc (.cells #[vc, .int .i64 kc] 24)).alloc (.cells #[vd, .int .i64 kd] 24)).heap.size :=
    ⟨by simp, by simp, by simp, by simp, HG.out.below hB, ⟨HC.out.below hB, HD.out.below hB⟩, hB, by simp; omega⟩
  clear hB
  refine (H1.out _).mono ?_
  rintro e w1 ⟨rfl, hb1⟩
  have k1 := keep_two hb1 k0
  clear k0 hb1
  have c0 := k1.2.2.1
  have c1 := k1.2.2.2.1
  have K1 := hide k1
  clear k1
  rcases la with _ | _
  · go_wp2_with fail
    refine (works_any _ (hnd_two K1.out)).mono ?_
    rintro e w2 ⟨rfl, hb2⟩
    go_wp2
    go_ret
    exact ⟨rfl, bel_two (keep_two hb2 K1.out)⟩
  · obtain rfl : lb = false := hno rfl
    go_wp2_with fail
    refine (H2.out _).mono ?_
    rintro e w2 ⟨rfl, hb2⟩
    have K2 := hide (keep_two hb2 K1.out)
    clear K1 hb2 c0 c1
    go_wp2_with fail
    refine (works_any _ (hnd_two K2.out)).mono ?_
    rintro e w3 ⟨rfl, hb3⟩
    go_wp2
    go_ret
    exact ⟨rfl, bel_two (keep_two hb3 K2.out)⟩

set_option maxRecDepth 100000 in
set_option maxHeartbeats 16000000 in
/-- Both are light: the walk, the answers of the callees handed in. -/
theorem again_near (vc vd : Value) (kc kd kb : Int) (lc ld l1 l2 : List (ByteArray × Int)) (Ec Ed Ea : Addr → Value) (Eb : Addr → Addr → Value) (w : World) (hg : Hnd w) (hc : Stp w vc lc) (hd : Stp w vd ld)
    (H1 : Hid (∀ W, Calls Tryd.prog 7 #[.agg #[vc, .int .i64 kc]] W fun e w' => e = .returned (.bool true) ∧ Below W.heap.size W w'))
    (H2 : Hid (∀ W, Calls Tryd.prog 7 #[.agg #[vd, .int .i64 kd]] W fun e w' => e = .returned (.bool true) ∧ Below W.heap.size W w'))
    (HMc : Hid (∀ W, Stp W vc lc → Calls Tryd.prog 9 #[.agg #[vc, .int .i64 kc]] W fun e w' => (∃ p, e = .returned (Ec p)) ∧ Below W.heap.size W w'))
    (HMd : Hid (∀ W, Stp W vd ld → Calls Tryd.prog 9 #[.agg #[vd, .int .i64 kd]] W fun e w' => (∃ p, e = .returned (Ed p)) ∧ Below W.heap.size W w'))
    (HAg : Hid (∀ p W, Hnd W → Calls Tryd.prog 15 #[Ec p] W fun e w' => e = .returned (Ea p) ∧ Below W.heap.size W w'))
    (HRa : Hid (∀ W, Stp W vc lc → Calls Tryd.prog 16 #[.agg #[vc, .int .i64 kc]] W fun e w' => ∃ v', e = .returned (.agg #[v', .int .i64 kc]) ∧ Stp w' v' l1 ∧ Below W.heap.size W w'))
    (HS1 : Hid (∀ p v' W, Hnd W → Stp W v' l1 → Calls Tryd.prog 10 #[Ea p, .agg #[v', .int .i64 kc]] W fun e w' => e = .returned (.bool true) ∧ Below W.heap.size W w'))
    (HBo : Hid (∀ p q W, Hnd W → Calls Tryd.prog 17 #[Ec p, Ed q] W fun e w' => e = .returned (Eb p q) ∧ Below W.heap.size W w'))
    (HRb : Hid (∀ W, Stp W vc lc → Stp W vd ld → Calls Tryd.prog 18 #[.agg #[vc, .int .i64 kc], .agg #[vd, .int .i64 kd]] W fun e w' => ∃ v', e = .returned (.agg #[v', .int .i64 kb]) ∧ Stp w' v' l2 ∧ Below W.heap.size W w'))
    (HS2 : Hid (∀ p q v' W, Hnd W → Stp W v' l2 → Calls Tryd.prog 10 #[Eb p q, .agg #[v', .int .i64 kb]] W fun e w' => e = .returned (.bool true) ∧ Below W.heap.size W w')) :
    Calls Tryd.prog 4 #[.agg #[vc, .int .i64 kc], .agg #[vd, .int .i64 kd]] w fun e w' => e = .returned (.bool true) ∧ Below w.heap.size w w' := by
  have hlt := size_of_handle hg
  have HG := hide hg
  have HC := hide hc
  have HD := hide hd
  clear hg hc hd
  go_enter Tryd.func4, Tryd.ntmps4
  go_wp2_with fail
  have hB : Below w.heap.size w ((w.alloc (.cells #[vc, .int .i64 kc] 24)).alloc (.cells #[vd, .int .i64 kd] 24)) := ((Below.refl _ _).alloc (Nat.le_refl _) _).alloc (by simp) _
  have k0 : ((w.alloc (.cells #[vc, .int .i64 kc] 24)).alloc (.cells #[vd, .int .i64 kd] 24)).cell? ⟨w.heap.size, 0, none⟩ = some vc ∧ ((w.alloc (.cells #[vc, .int .i64 kc] 24)).alloc (.cells #[vd, .int .i64 kd] 24)).cell? ⟨w.heap.size, 1, none⟩ = some (.int .i64 kc) ∧ ((w.alloc (.cells #[vc, .int .i64 kc] 24)).alloc (.cells #[vd, .int .i64 kd] 24)).cell? ⟨w.heap.size + 1, 0, none⟩ = some vd ∧ ((w.alloc (.cells #[vc, .int .i64 kc] 24)).alloc (.cells #[vd, .int .i64 kd] 24)).cell? ⟨w.heap.size + 1, 1, none⟩ = some (.int .i64 kd) ∧ Hnd ((w.alloc (.cells #[vc, .int .i64 kc] 24)).alloc (.cells #[vd, .int .i64 kd] 24)) ∧ (Stp ((w.alloc (.cells #[vc, .int .i64 kc] 24)).alloc (.cells #[vd, .int .i64 kd] 24)) vc lc ∧ Stp ((w.alloc (.cells #[vc, .int .i64 kc] 24)).alloc (.cells #[vd, .int .i64 kd] 24)) vd ld) ∧ Below w.heap.size w ((w.alloc (.cells #[vc, .int .i64 kc] 24)).alloc (.cells #[vd, .int .i64 kd] 24)) ∧ w.heap.size ≤ ((w.alloc (.cells #[vc, .int .i64 kc] 24)).alloc (.cells #[vd, .int .i64 kd] 24)).heap.size :=
    ⟨by simp, by simp, by simp, by simp, HG.out.below hB, ⟨HC.out.below hB, HD.out.below hB⟩, hB, by simp; omega⟩
  clear hB
  refine (H1.out _).mono ?_
  rintro e w1 ⟨rfl, hb1⟩
  have k1 := keep_two hb1 k0
  clear k0 hb1
  have c0 := k1.2.2.1
  have c1 := k1.2.2.2.1
  have K1 := hide k1
  clear k1
  go_wp2_with fail
  refine (H2.out _).mono ?_
  rintro e w2 ⟨rfl, hb2⟩
  have K2 := hide (keep_two hb2 K1.out)
  clear K1 hb2 c0 c1 H1 H2 HG HC HD
  go_wp2_with fail
  go_region_held3 (fun W => W.cell? ⟨w.heap.size, 0, none⟩ = some vc ∧ W.cell? ⟨w.heap.size, 1, none⟩ = some (.int .i64 kc) ∧ W.cell? ⟨w.heap.size + 1, 0, none⟩ = some vd ∧ W.cell? ⟨w.heap.size + 1, 1, none⟩ = some (.int .i64 kd) ∧ Hnd W ∧ (Stp W vc lc ∧ Stp W vd ld) ∧ Below w.heap.size w W ∧ w.heap.size ≤ W.heap.size)
    (first | exact keep_two (by assumption) (by assumption) | exact keep_two (Below.refl _ _).drew K2.out)
    (first
      | (go_at_call_of 9 (Value.agg #[vc, Value.int IntKind.i64 kc]); refine (HMc.out _ ?_).mono ?_; exact stp_two (vc := vc) (vd := vd) (kc := kc) (kd := kd) (lc := lc) (ld := ld) (w := w) (n := w.heap.size) (by assumption); rintro e w' ⟨⟨p1, rfl⟩, hb3⟩)
      | (go_at_call_of 9 (Value.agg #[vd, Value.int IntKind.i64 kd]); refine (HMd.out _ ?_).mono ?_; exact stq_two (vc := vc) (vd := vd) (kc := kc) (kd := kd) (lc := lc) (ld := ld) (w := w) (n := w.heap.size) (by assumption); rintro e w' ⟨⟨p2, rfl⟩, hb4⟩)
      | (go_at_call 15; refine (HAg.out _ _ ?_).mono ?_; exact hnd_two (vc := vc) (vd := vd) (kc := kc) (kd := kd) (lc := lc) (ld := ld) (w := w) (n := w.heap.size) (by assumption); rintro e w' ⟨rfl, hb5⟩)
      | (go_at_call 16; refine (HRa.out _ ?_).mono ?_; exact stp_two (vc := vc) (vd := vd) (kc := kc) (kd := kd) (lc := lc) (ld := ld) (w := w) (n := w.heap.size) (by assumption); rintro e w' ⟨v1, rfl, hs1, hb6⟩)
      | (go_at_call_of 10 v1; refine (HS1.out _ _ _ ?_ hs1).mono ?_; exact hnd_two (vc := vc) (vd := vd) (kc := kc) (kd := kd) (lc := lc) (ld := ld) (w := w) (n := w.heap.size) (by assumption); rintro e w' ⟨rfl, hb7⟩)
      | (go_at_call 17; refine (HBo.out _ _ _ ?_).mono ?_; exact hnd_two (vc := vc) (vd := vd) (kc := kc) (kd := kd) (lc := lc) (ld := ld) (w := w) (n := w.heap.size) (by assumption); rintro e w' ⟨rfl, hb8⟩)
      | (go_at_call 18; refine (HRb.out _ ?_ ?_).mono ?_; exact stp_two (vc := vc) (vd := vd) (kc := kc) (kd := kd) (lc := lc) (ld := ld) (w := w) (n := w.heap.size) (by assumption); exact stq_two (vc := vc) (vd := vd) (kc := kc) (kd := kd) (lc := lc) (ld := ld) (w := w) (n := w.heap.size) (by assumption); rintro e w' ⟨v2, rfl, hs2, hb9⟩)
      | (go_at_call_of 10 v2; refine (HS2.out _ _ _ _ ?_ hs2).mono ?_; exact hnd_two (vc := vc) (vd := vd) (kc := kc) (kd := kd) (lc := lc) (ld := ld) (w := w) (n := w.heap.size) (by assumption); rintro e w' ⟨rfl, hb10⟩)
      | (go_at_call 8; refine (works_any _ ?_).mono ?_; exact hnd_two (vc := vc) (vd := vd) (kc := kc) (kd := kd) (lc := lc) (ld := ld) (w := w) (n := w.heap.size) (by assumption); rintro e w' ⟨rfl, hb11⟩))
  go_wp2
  go_ret
  exact ⟨rfl, bel_two (vc := vc) (vd := vd) (kc := kc) (kd := kd) (lc := lc) (ld := ld) (w := w) (n := w.heap.size) (by assumption)⟩

theorem ag_none (l : List (ByteArray × Int)) (k : Int) (p : Addr) : agV (mkV l k p) = none ↔ k = 0 := by
  rw [← mk_none l k p]
  rcases mkV l k p with _ | ⟨m, c, q⟩ <;> simp [agV]
theorem ag_of (l : List (ByteArray × Int)) (k : Int) (p : Addr) : ofV (agV (mkV l k p)) = ofC k := by
  rw [← mk_of l k p]
  rcases mkV l k p with _ | ⟨m, _ | c, q⟩ <;> rfl
theorem ag_st (l : List (ByteArray × Int)) (k : Int) (p : Addr) : stV (agV (mkV l k p)) = stC (agC l k) k := by
  have h := mk_st l k p
  have h2 : stV (agV (mkV l k p)) = (stV (mkV l k p)).tail := by
    rcases mkV l k p with _ | ⟨m, c, q⟩ <;> rfl
  rw [h2, h]
  unfold stC agC
  by_cases hk : k = 0 <;> simp [hk]
theorem bo_facts (la : List (ByteArray × Int)) (ka : Int) (p : Addr) (lb : List (ByteArray × Int)) (kb : Int) (q : Addr) :
    (boV (mkV la ka p) (mkV lb kb q) = none ↔ (boC la ka lb kb).2 = 0) ∧ ofV (boV (mkV la ka p) (mkV lb kb q)) = ofC (boC la ka lb kb).2 ∧ stV (boV (mkV la ka p) (mkV lb kb q)) = stC (boC la ka lb kb).1 (boC la ka lb kb).2 := by
  by_cases h0 : ka = 0
  · have e1 : mkV la ka p = none := (mk_none la ka p).2 h0
    have e2 : boC la ka lb kb = (lb, kb) := by simp [boC, h0]
    have e3 : boV none (mkV lb kb q) = mkV lb kb q := rfl
    rw [e1, e2, e3]
    exact ⟨mk_none lb kb q, mk_of lb kb q, mk_st lb kb q⟩
  · obtain ⟨c, hc⟩ : ∃ c, mkV la ka p = some (la, c, p) := by
      unfold mkV
      rw [if_neg h0]
      by_cases h2 : ka < 0
      · rw [if_pos h2]; exact ⟨_, rfl⟩
      · rw [if_neg h2]; exact ⟨_, rfl⟩
    by_cases h1 : kb = 0
    · have e1 : mkV lb kb q = none := (mk_none lb kb q).2 h1
      have e2 : boC la ka lb kb = (la, ka) := by simp [boC, h0, h1]
      have e3 : boV (mkV la ka p) none = mkV la ka p := by rw [hc]; rfl
      rw [e1, e2, e3]
      exact ⟨mk_none la ka p, mk_of la ka p, mk_st la ka p⟩
    · have hy := mk_of lb kb q
      obtain ⟨d, hd⟩ : ∃ d, mkV lb kb q = some (lb, d, q) := by
        unfold mkV
        rw [if_neg h1]
        by_cases h2 : kb < 0
        · rw [if_pos h2]; exact ⟨_, rfl⟩
        · rw [if_neg h2]; exact ⟨_, rfl⟩
      have e2 : boC la ka lb kb = ((⟨#[98, 111, 116, 104]⟩, ofC kb) :: la, ka) := by simp [boC, h0, h1]
      have e3 : boV (mkV la ka p) (mkV lb kb q) = some ((⟨#[98, 111, 116, 104]⟩, ofC kb) :: la, c, p) := by
        rw [hd] at hy
        rw [hc, hd, ← hy]
        rfl
      have hx := mk_of la ka p
      rw [hc] at hx
      rw [e2, e3]
      refine ⟨⟨fun h => (by cases h), fun h => absurd h h0⟩, ?_, ?_⟩
      · rw [← hx]
        cases c <;> rfl
      · simp [stV, stC, h0]

theorem again_law (vc vd : Value) (lc ld : List (ByteArray × Int)) (kc kd : Int) (w : World) (hg : Hnd w) (hc : Stp w vc lc) (hd : Stp w vd ld) :
    Calls Tryd.prog 4 #[.agg #[vc, .int .i64 kc], .agg #[vd, .int .i64 kd]] w fun e w' => e = .returned (.bool true) ∧ Below w.heap.size w w' := by
  have light : ∀ (v : Value) (l : List (ByteArray × Int)) (k : Int), Stp w v l → ∀ W, Calls Tryd.prog 7 #[.agg #[v, .int .i64 k]] W fun e w' => e = .returned (.bool (decide (l.length ≤ 60))) ∧ Below W.heap.size W w' := by
    intro v l k hv W
    obtain ⟨ao, cap, rfl⟩ := hv.form
    by_cases h : l.length ≤ 60
    · rw [decide_eq_true h]; exact light_yes ao l.length cap k W h
    · rw [decide_eq_false h]; exact light_no ao l.length cap k W (by omega)
  by_cases hl : lc.length ≤ 60 ∧ ld.length ≤ 60
  · obtain ⟨h1, h2⟩ := hl
    have L1 := light vc lc kc hc
    have L2 := light vd ld kd hd
    rw [decide_eq_true h1] at L1
    rw [decide_eq_true h2] at L2
    refine again_near vc vd kc kd (boC lc kc ld kd).2 lc ld (agC lc kc) (boC lc kc ld kd).1 (fun p => ev (mkV lc kc p)) (fun q => ev (mkV ld kd q)) (fun p => ev (agV (mkV lc kc p))) (fun p q => ev (boV (mkV lc kc p) (mkV ld kd q))) w hg hc hd
      L1 L2 (fun W hW => made_any vc lc kc W hW (by omega)) (fun W hW => made_any vd ld kd W hW (by omega)) (fun p W hW => again_ev (mkV lc kc p) W hW) (fun W hW => refAgain_any vc lc kc W hW (by omega)) ?_
      (fun p q W hW => both_ev (mkV lc kc p) (mkV ld kd q) W hW) (fun W hW hX => refBoth_any vc vd lc ld kc kd W hW hX (by omega)) ?_
    · intro p v' W hW hS
      refine same_ev (agV (mkV lc kc p)) v' (agC lc kc) kc W hW hS ?_ (ag_none lc kc p) (ag_of lc kc p) (ag_st lc kc p)
      unfold agC
      split
      · omega
      · simp; omega
    · intro p q v' W hW hS
      have hf := bo_facts lc kc p ld kd q
      refine same_ev (boV (mkV lc kc p) (mkV ld kd q)) v' (boC lc kc ld kd).1 (boC lc kc ld kd).2 W hW hS ?_ hf.1 hf.2.1 hf.2.2
      unfold boC
      split
      · simp only; omega
      · split
        · simp only; omega
        · simp only [List.length_cons]; omega
  · refine again_far vc vd kc kd lc ld (decide (lc.length ≤ 60)) (decide (ld.length ≤ 60)) w hg hc hd (light vc lc kc hc) (light vd ld kd hd) ?_
    intro h
    have h' := of_decide_eq_true h
    exact decide_eq_false fun h2 => hl ⟨h', h2⟩
end Go.Proofs.YtdkbehbpdcfbdaaDoor
