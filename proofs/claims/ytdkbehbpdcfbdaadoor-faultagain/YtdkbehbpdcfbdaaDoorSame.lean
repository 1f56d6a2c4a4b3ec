/-
  THE LAW's OWN 'same': an error is such a chain. Conditions: errors.errorType holds the handle of the type error, the chain's cells hold its steps, no more than a thousand of them, and the error is that chain.
-/
import Derived.Test.YtdkbehbpdcfbdaaDoorMade
import Derived.Deep.RegionHeld3
namespace Go.Proofs.YtdkbehbpdcfbdaaDoor
open Go.RowKit Go.Extern.Stop Go.Stop Go.Extern

/-- Where, by the document, at every chain. -/
theorem refWhere_any (v : Value) (l : List (ByteArray × Int)) (k : Int) (w : World) (hv : Stp w v l) (hl : l.length ≤ 1000) :
    Calls Tryd.prog 26 #[.agg #[v, .int .i64 k]] w fun e w' => e = .returned (.tuple #[.int .i64 (atV (stC l k)), .bool (inV (stC l k))]) ∧ Below w.heap.size w w' := by
  by_cases h : l = [] ∨ k = 0
  · obtain ⟨ao, cap, rfl⟩ := hv.form
    have e1 : stC l k = [] := by
      rcases h with rfl | rfl
      · simp [stC]
      · simp [stC]
    rw [e1]
    exact refWhere_none ao l.length cap k w (by omega) (by rcases h with rfl | h <;> simp [*])
  · have h1 : l ≠ [] := fun e => h (.inl e)
    have h2 : k ≠ 0 := fun e => h (.inr e)
    have e1 : stC l k = l := if_neg h2
    rw [e1]
    rcases l with _ | ⟨s, l⟩
    · exact absurd rfl h1
    · exact refWhere_some v (s :: l) k w hv hl h1 h2

/-- What stays behind every call that makes memory and turns nothing old. -/
theorem keep_same {v : Value} {k : Int} {l : List (ByteArray × Int)} {w W W' : World} {n : Nat} (hb : Below W.heap.size W W')
    (h : W.cell? ⟨n, 0, none⟩ = some v ∧ W.cell? ⟨n, 1, none⟩ = some (.int .i64 k) ∧ Hnd W ∧ Stp W v l ∧ Below n w W ∧ n ≤ W.heap.size) :
    W'.cell? ⟨n, 0, none⟩ = some v ∧ W'.cell? ⟨n, 1, none⟩ = some (.int .i64 k) ∧ Hnd W' ∧ Stp W' v l ∧ Below n w W' ∧ n ≤ W'.heap.size := by
  obtain ⟨h1, h2, h3, h4, h5, h6⟩ := h
  refine ⟨?_, ?_, h3.below hb, h4.below hb, h5.trans (hb.mono h6), Nat.le_trans h6 hb.size⟩
  · rw [hb.cell (p := ⟨n, 0, none⟩) (block_of_cell h1)]; exact h1
  · rw [hb.cell (p := ⟨n, 1, none⟩) (block_of_cell h2)]; exact h2

theorem hnd_of {v : Value} {k : Int} {l : List (ByteArray × Int)} {w W : World} {n : Nat} (h : W.cell? ⟨n, 0, none⟩ = some v ∧ W.cell? ⟨n, 1, none⟩ = some (.int .i64 k) ∧ Hnd W ∧ Stp W v l ∧ Below n w W ∧ n ≤ W.heap.size) : Hnd W := h.2.2.1
theorem stp_of {v : Value} {k : Int} {l : List (ByteArray × Int)} {w W : World} {n : Nat} (h : W.cell? ⟨n, 0, none⟩ = some v ∧ W.cell? ⟨n, 1, none⟩ = some (.int .i64 k) ∧ Hnd W ∧ Stp W v l ∧ Below n w W ∧ n ≤ W.heap.size) : Stp W v l := h.2.2.2.1

theorem below_of {v : Value} {k : Int} {l : List (ByteArray × Int)} {w W : World} {n : Nat} (h : W.cell? ⟨n, 0, none⟩ = some v ∧ W.cell? ⟨n, 1, none⟩ = some (.int .i64 k) ∧ Hnd W ∧ Stp W v l ∧ Below n w W ∧ n ≤ W.heap.size) : Below n w W := h.2.2.2.2.1

set_option maxRecDepth 100000 in
set_option maxHeartbeats 8000000 in
theorem same_some (x : Option (List (ByteArray × Int) × Option Int × Addr)) (ty : TypeId) (y v : Value) (l : List (ByteArray × Int)) (k : Int) (w : World) (hg : Hnd w) (hv : Stp w v l) (hl : l.length ≤ 1000)
    (hx : ev x = .iface ty y) (hk : (k == 0) = false) (hof : ofV x = ofC k) (hst : stV x = stC l k) :
    Calls Tryd.prog 10 #[.iface ty y, .agg #[v, .int .i64 k]] w fun e w' => e = .returned (.bool true) ∧ Below w.heap.size w w' := by
  have HL : Hid ((stV x).length ≤ 1000) := by
    rw [hst]; unfold stC; split
    · exact Nat.zero_le _
    · exact hl
  have HWh := hide fun W hW => where_ev x W hW
  have HOf := hide fun W hW => of_ev x W hW
  have HPa := hide fun W hW => path_ev x W hW HL.out
  have HRw := hide fun W hW => refWhere_any v l k W hW hl
  have HRo := hide fun W => refOf_any v k W
  have HRp := hide fun W hW => refPath_any v l k W hW hl
  rw [hx] at HWh HOf HPa
  rw [hst] at HWh HPa HL
  rw [hof] at HOf
  have HLm : Hid (((stC l k).map (·.1)).length ≤ 1000) := by have := HL.out; simpa [Hid] using this
  have hlt := size_of_handle hg
  have HG := hide hg
  have HV := hide hv
  clear hg hv hx hof hst HL hl
  generalize atV (stC l k) = A at *
  generalize inV (stC l k) = B at *
  generalize ofC k = K at *
  generalize stC l k = ll at *
  go_enter Tryd.func10, Tryd.ntmps10
  go_wp2_with fail
  have k0 := keep_same (v := v) (k := k) (l := l) (w := w) (W := w.alloc (.cells #[v, .int .i64 k] 24)) (n := w.heap.size) (Below.refl _ _) ⟨by simp, by simp, HG.out.below ((Below.refl _ _).alloc (Nat.le_refl _) _), HV.out.below ((Below.refl _ _).alloc (Nat.le_refl _) _), (Below.refl _ _).alloc (Nat.le_refl _) _, by simp⟩
  refine (HWh.out _ k0.2.2.1).mono ?_
  rintro e w1 ⟨rfl, hb1⟩
  have k1 := keep_same hb1 k0
  clear k0 hb1
  have c0 := k1.1
  have c1 := k1.2.1
  have K1 := hide k1
  clear k1
  go_wp2_with fail
  refine (HRw.out _ K1.out.2.2.2.1).mono ?_
  rintro e w2 ⟨rfl, hb2⟩
  have k2 := keep_same hb2 K1.out
  clear K1 hb2 c0 c1
  have c0 := k2.1
  have c1 := k2.2.1
  have K2 := hide k2
  clear k2
  go_wp2_with fail
  go_region_held3 (fun W => W.cell? ⟨w.heap.size, 0, none⟩ = some v ∧ W.cell? ⟨w.heap.size, 1, none⟩ = some (.int .i64 k) ∧ Hnd W ∧ Stp W v l ∧ Below w.heap.size w W ∧ w.heap.size ≤ W.heap.size)
    (first | exact keep_same (by assumption) (by assumption) | exact keep_same (Below.refl _ _).drew K2.out)
    (first
      | (go_at_call 22; refine (HOf.out _ ?_).mono ?_; exact hnd_of (v := v) (k := k) (l := l) (w := w) (n := w.heap.size) (by assumption); rintro e w' ⟨rfl, hb3⟩)
      | (go_at_call 27; refine (HRo.out _).mono ?_; rintro e w' ⟨rfl, hb4⟩)
      | (go_at_call 21; refine (HPa.out _ ?_).mono ?_; exact hnd_of (v := v) (k := k) (l := l) (w := w) (n := w.heap.size) (by assumption); rintro e w' ⟨v1, rfl, hown1, hb5⟩; have hs1 := strs_of_owns hown1)
      | (go_at_call 28; refine (HRp.out _ ?_).mono ?_; exact stp_of (v := v) (k := k) (l := l) (w := w) (n := w.heap.size) (by assumption); rintro e w' ⟨v2, rfl, hown2, hb6⟩; have hs2 := strs_of_owns hown2; have hs3 := hs1.below hb6)
      | (go_at_call 23; refine (texts_same v1 v2 (ll.map (·.1)) _ hs3 hs2 HLm.out).mono ?_; rintro e w' ⟨rfl, hb7⟩))
  go_wp2
  go_ret
  exact ⟨rfl, below_of (v := v) (k := k) (l := l) (by assumption)⟩
set_option maxRecDepth 100000 in
set_option maxHeartbeats 8000000 in
theorem same_nil (x : Option (List (ByteArray × Int) × Option Int × Addr)) (v : Value) (l : List (ByteArray × Int)) (w : World) (hg : Hnd w) (hv : Stp w v l) (hl : l.length ≤ 1000)
    (hx : ev x = .nilIface) (hof : ofV x = ofC 0) (hst : stV x = stC l 0) :
    Calls Tryd.prog 10 #[.nilIface, .agg #[v, .int .i64 0]] w fun e w' => e = .returned (.bool true) ∧ Below w.heap.size w w' := by
  have HL : Hid ((stV x).length ≤ 1000) := by
    rw [hst]; unfold stC; split
    · exact Nat.zero_le _
    · exact hl
  have HWh := hide fun W hW => where_ev x W hW
  have HOf := hide fun W hW => of_ev x W hW
  have HPa := hide fun W hW => path_ev x W hW HL.out
  have HRw := hide fun W hW => refWhere_any v l 0 W hW hl
  have HRo := hide fun W => refOf_any v 0 W
  have HRp := hide fun W hW => refPath_any v l 0 W hW hl
  rw [hx] at HWh HOf HPa
  rw [hst] at HWh HPa HL
  rw [hof] at HOf
  have HLm : Hid (((stC l 0).map (·.1)).length ≤ 1000) := by have := HL.out; simpa [Hid] using this
  have hlt := size_of_handle hg
  have HG := hide hg
  have HV := hide hv
  clear hg hv hx hof hst HL hl
  generalize atV (stC l 0) = A at *
  generalize inV (stC l 0) = B at *
  generalize ofC 0 = K at *
  generalize stC l 0 = ll at *
  go_enter Tryd.func10, Tryd.ntmps10
  go_wp2_with fail
  have k0 := keep_same (v := v) (k := 0) (l := l) (w := w) (W := w.alloc (.cells #[v, .int .i64 0] 24)) (n := w.heap.size) (Below.refl _ _) ⟨by simp, by simp, HG.out.below ((Below.refl _ _).alloc (Nat.le_refl _) _), HV.out.below ((Below.refl _ _).alloc (Nat.le_refl _) _), (Below.refl _ _).alloc (Nat.le_refl _) _, by simp⟩
  refine (HWh.out _ k0.2.2.1).mono ?_
  rintro e w1 ⟨rfl, hb1⟩
  have k1 := keep_same hb1 k0
  clear k0 hb1
  have c0 := k1.1
  have c1 := k1.2.1
  have K1 := hide k1
  clear k1
  go_wp2_with fail
  refine (HRw.out _ K1.out.2.2.2.1).mono ?_
  rintro e w2 ⟨rfl, hb2⟩
  have k2 := keep_same hb2 K1.out
  clear K1 hb2 c0 c1
  have c0 := k2.1
  have c1 := k2.2.1
  have K2 := hide k2
  clear k2
  go_wp2_with fail
  go_region_held3 (fun W => W.cell? ⟨w.heap.size, 0, none⟩ = some v ∧ W.cell? ⟨w.heap.size, 1, none⟩ = some (.int .i64 0) ∧ Hnd W ∧ Stp W v l ∧ Below w.heap.size w W ∧ w.heap.size ≤ W.heap.size)
    (first | exact keep_same (by assumption) (by assumption) | exact keep_same (Below.refl _ _).drew K2.out)
    (first
      | (go_at_call 22; refine (HOf.out _ ?_).mono ?_; exact hnd_of (v := v) (k := 0) (l := l) (w := w) (n := w.heap.size) (by assumption); rintro e w' ⟨rfl, hb3⟩)
      | (go_at_call 27; refine (HRo.out _).mono ?_; rintro e w' ⟨rfl, hb4⟩)
      | (go_at_call 21; refine (HPa.out _ ?_).mono ?_; exact hnd_of (v := v) (k := 0) (l := l) (w := w) (n := w.heap.size) (by assumption); rintro e w' ⟨v1, rfl, hown1, hb5⟩; have hs1 := strs_of_owns hown1)
      | (go_at_call 28; refine (HRp.out _ ?_).mono ?_; exact stp_of (v := v) (k := 0) (l := l) (w := w) (n := w.heap.size) (by assumption); rintro e w' ⟨v2, rfl, hown2, hb6⟩; have hs2 := strs_of_owns hown2; have hs3 := hs1.below hb6)
      | (go_at_call 23; refine (texts_same v1 v2 (ll.map (·.1)) _ hs3 hs2 HLm.out).mono ?_; rintro e w' ⟨rfl, hb7⟩))
  go_wp2
  go_ret
  exact ⟨rfl, below_of (v := v) (k := 0) (l := l) (by assumption)⟩

/-- An error that a chain makes is that chain. -/
theorem same_ev (x : Option (List (ByteArray × Int) × Option Int × Addr)) (v : Value) (l : List (ByteArray × Int)) (k : Int) (w : World) (hg : Hnd w) (hv : Stp w v l) (hl : l.length ≤ 1000)
    (hx : x = none ↔ k = 0) (hof : ofV x = ofC k) (hst : stV x = stC l k) :
    Calls Tryd.prog 10 #[ev x, .agg #[v, .int .i64 k]] w fun e w' => e = .returned (.bool true) ∧ Below w.heap.size w w' := by
  rcases x with _ | ⟨m, c, p⟩
  · obtain rfl : k = 0 := hx.1 rfl
    exact same_nil none v l w hg hv hl rfl hof hst
  · have hk : k ≠ 0 := fun e => by have := hx.2 e; cases this
    obtain ⟨ty, y, hy⟩ := chn_form m c p
    have hy' : ev (some (m, c, p)) = .iface ty y := hy
    rw [hy']
    exact same_some (some (m, c, p)) ty y v l k w hg hv hl hy' (by rw [beq_eq_false_iff_ne]; exact hk) hof hst

theorem mk_none (l : List (ByteArray × Int)) (k : Int) (p : Addr) : mkV l k p = none ↔ k = 0 := by
  unfold mkV
  by_cases h : k = 0
  · simp [h]
  · by_cases h2 : k < 0 <;> simp [h, h2]
theorem mk_of (l : List (ByteArray × Int)) (k : Int) (p : Addr) : ofV (mkV l k p) = ofC k := by
  unfold mkV ofC
  by_cases h : k = 0
  · subst h; simp [ofV]
  · by_cases h2 : k < 0 <;> simp [h, h2, ofV]
theorem mk_st (l : List (ByteArray × Int)) (k : Int) (p : Addr) : stV (mkV l k p) = stC l k := by
  unfold mkV stC
  by_cases h : k = 0
  · simp [h, stV]
  · by_cases h2 : k < 0 <;> simp [h, h2, stV]
theorem mk_is (l : List (ByteArray × Int)) (k : Int) (p : Addr) (q : Int) : isV (mkV l k p) q = isC k q := by
  unfold mkV isC
  by_cases h : k = 0
  · subst h; simp [isV]
  · by_cases h2 : k < 0
    · simp [h, h2, isV, isB, show ¬ 0 < k by omega]
    · simp [h, h2, isV, isB, show 0 < k by omega]
end Go.Proofs.YtdkbehbpdcfbdaaDoor
