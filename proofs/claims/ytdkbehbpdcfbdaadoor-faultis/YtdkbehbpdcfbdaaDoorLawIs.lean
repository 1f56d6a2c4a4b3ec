/-
  FaultIs, WALKED: at every chain and every two codes it answers true, and turns nothing that was there. Conditions: errors.errorType holds the handle of the type error, and the chain's cells hold its steps.
-/
import Derived.Test.YtdkbehbpdcfbdaaDoorWorks
namespace Go.Proofs.YtdkbehbpdcfbdaaDoor
open Go.RowKit Go.Extern.Stop Go.Stop Go.Extern

set_option maxHeartbeats 4000000 in
theorem is_far (ao : Option Addr) (n cap : Nat) (k a b : Int) (w : World) (hg : Hnd w) (hn : 60 < n) :
    Calls Tryd.prog 6 #[.agg #[.slice ao n cap, .int .i64 k], .int .i64 a, .int .i64 b] w fun e w' => e = .returned (.bool true) ∧ Below w.heap.size w w' := by
  have HG := hide hg
  have H1 := hide fun W => light_no ao n cap k W hn
  clear hg hn
  generalize (.slice ao n cap : Value) = v at *
  go_enter Tryd.func6, Tryd.ntmps6
  go_wp2_with fail
  refine (H1.out _).mono ?_
  rintro e w1 ⟨rfl, b1⟩
  have b0 : Below w.heap.size w w1 := ((Below.refl _ _).alloc (Nat.le_refl _) _).trans (b1.mono (by simp))
  clear b1
  go_wp2_with fail
  refine (works_any _ (HG.out.below b0)).mono ?_
  rintro e w2 ⟨rfl, b2⟩
  go_wp2
  go_ret
  exact ⟨rfl, bt b0 b2⟩

set_option maxRecDepth 100000 in
set_option maxHeartbeats 8000000 in
/-- The walk, the answers of the callees handed in. The letters ra and rb: is the error a, is it b; K: what it is. -/
theorem is_near (v : Value) (Ev : Addr → Value) (l : List (ByteArray × Int)) (k a b K : Int) (ra rb ne ps : Bool) (w : World) (hg : Hnd w) (hv : Stp w v l)
    (H1 : Hid (∀ W, Calls Tryd.prog 7 #[.agg #[v, .int .i64 k]] W fun e w' => e = .returned (.bool true) ∧ Below W.heap.size W w'))
    (H2 : Hid (∀ W, Stp W v l → Calls Tryd.prog 9 #[.agg #[v, .int .i64 k]] W fun e w' => (∃ p, e = .returned (Ev p)) ∧ Below W.heap.size W w'))
    (H3 : Hid (∀ p W, Calls Tryd.prog 11 #[Ev p, .int .i64 a] W fun e w' => e = .returned (.bool ra) ∧ Below W.heap.size W w'))
    (H4 : Hid (∀ p W, Calls Tryd.prog 11 #[Ev p, .int .i64 b] W fun e w' => e = .returned (.bool rb) ∧ Below W.heap.size W w'))
    (H5 : Hid (∀ p W, Hnd W → Calls Tryd.prog 22 #[Ev p] W fun e w' => e = .returned (.int .i64 K) ∧ Below W.heap.size W w'))
    (hne : (a != b) = ne) (hps : decide (0 < k) = ps) (hK : ps = true → (K == a) = ra) (hno : ps = false → ra = false) (hab : ne = true → ra = true → rb = false) :
    Calls Tryd.prog 6 #[.agg #[v, .int .i64 k], .int .i64 a, .int .i64 b] w fun e w' => e = .returned (.bool true) ∧ Below w.heap.size w w' := by
  have hlt := size_of_handle hg
  have HG := hide hg
  have HV := hide hv
  clear hg hv
  go_enter Tryd.func6, Tryd.ntmps6
  go_wp2_with fail
  have k0 := keep_same (v := v) (k := k) (l := l) (w := w) (W := w.alloc (.cells #[v, .int .i64 k] 24)) (n := w.heap.size) (Below.refl _ _) ⟨by simp, by simp, HG.out.below ((Below.refl _ _).alloc (Nat.le_refl _) _), HV.out.below ((Below.refl _ _).alloc (Nat.le_refl _) _), (Below.refl _ _).alloc (Nat.le_refl _) _, by simp⟩
  refine (H1.out _).mono ?_
  rintro e w1 ⟨rfl, hb1⟩
  have k1 := keep_same hb1 k0
  clear k0 hb1
  have c0 := k1.1
  have c1 := k1.2.1
  have K1 := hide k1
  clear k1
  go_wp2_with fail
  refine (H2.out _ K1.out.2.2.2.1).mono ?_
  rintro e w2 ⟨⟨p, rfl⟩, hb2⟩
  have k2 := keep_same hb2 K1.out
  clear K1 hb2 c0 c1
  have c0 := k2.1
  have c1 := k2.2.1
  have K2 := hide k2
  clear k2
  have H3 := hide (H3.out p)
  have H4 := hide (H4.out p)
  have H5 := hide (H5.out p)
  generalize Ev p = E at *
  clear H1 H2 HG HV
  rcases ne with _ | _
  · rcases ps with _ | _
    · obtain rfl : ra = false := hno rfl
      clear hK hno hab
      go_wp2_with fail
      first
        | (go_region_with (first
              | (go_at_call 11; refine (H3.out _).mono ?_; rintro e w' ⟨rfl, hb5⟩; have k5 := keep_same hb5 (keep_same (Below.refl _ _).drew K2.out); have c5 := k5.2.1; have K5 := hide k5; clear k5)
              | (go_at_call 8; refine (works_any _ K5.out.2.2.1).mono ?_; rintro e w' ⟨rfl, hb7⟩)))
        | fail
      all_goals go_wp2
      all_goals go_ret
      all_goals exact ⟨rfl, below_of (v := v) (k := k) (l := l) (keep_same hb7 K5.out)⟩
    · have hKa := hK rfl
      clear hK hno hab
      rcases ra with _ | _
      · skip
        go_wp2_with fail
        go_region_held3 (fun W => W.cell? ⟨w.heap.size, 0, none⟩ = some v ∧ W.cell? ⟨w.heap.size, 1, none⟩ = some (.int .i64 k) ∧ Hnd W ∧ Stp W v l ∧ Below w.heap.size w W ∧ w.heap.size ≤ W.heap.size)
          (first | assumption | exact keep_same (by assumption) (by assumption) | exact keep_same (Below.refl _ _).drew K2.out)
          (first
            | (go_at_call 11; refine (H3.out _).mono ?_; rintro e w' ⟨rfl, hb5⟩)
            | (go_at_call 22; refine (H5.out _ ?_).mono ?_; exact hnd_of (v := v) (k := k) (l := l) (w := w) (n := w.heap.size) (by assumption); rintro e w' ⟨rfl, hb6⟩)
            | (go_at_call 8; refine (works_any _ ?_).mono ?_; exact hnd_of (v := v) (k := k) (l := l) (w := w) (n := w.heap.size) (by assumption); rintro e w' ⟨rfl, hb7⟩))
        go_wp2
        go_ret
        exact ⟨rfl, below_of (v := v) (k := k) (l := l) (by assumption)⟩
      · skip
        go_wp2_with fail
        go_region_held3 (fun W => W.cell? ⟨w.heap.size, 0, none⟩ = some v ∧ W.cell? ⟨w.heap.size, 1, none⟩ = some (.int .i64 k) ∧ Hnd W ∧ Stp W v l ∧ Below w.heap.size w W ∧ w.heap.size ≤ W.heap.size)
          (first | assumption | exact keep_same (by assumption) (by assumption) | exact keep_same (Below.refl _ _).drew K2.out)
          (first
            | (go_at_call 11; refine (H3.out _).mono ?_; rintro e w' ⟨rfl, hb5⟩)
            | (go_at_call 22; refine (H5.out _ ?_).mono ?_; exact hnd_of (v := v) (k := k) (l := l) (w := w) (n := w.heap.size) (by assumption); rintro e w' ⟨rfl, hb6⟩)
            | (go_at_call 8; refine (works_any _ ?_).mono ?_; exact hnd_of (v := v) (k := k) (l := l) (w := w) (n := w.heap.size) (by assumption); rintro e w' ⟨rfl, hb7⟩))
        go_wp2
        go_ret
        exact ⟨rfl, below_of (v := v) (k := k) (l := l) (by assumption)⟩
  · rcases ps with _ | _
    · obtain rfl : ra = false := hno rfl
      clear hK hno hab
      go_wp2_with fail
      refine (H3.out _).mono ?_
      rintro e w3 ⟨rfl, hb3⟩
      have k3 := keep_same hb3 K2.out
      clear K2 hb3 c0 c1
      have c0 := k3.1
      have c1 := k3.2.1
      have K3 := hide k3
      clear k3
      go_wp2_with fail
      first
        | (go_region_with (first
              | (go_at_call 11; refine (H3.out _).mono ?_; rintro e w' ⟨rfl, hb5⟩; have k5 := keep_same hb5 (keep_same (Below.refl _ _).drew K3.out); have c5 := k5.2.1; have K5 := hide k5; clear k5)
              | (go_at_call 8; refine (works_any _ K5.out.2.2.1).mono ?_; rintro e w' ⟨rfl, hb7⟩)))
        | fail
      all_goals go_wp2
      all_goals go_ret
      all_goals exact ⟨rfl, below_of (v := v) (k := k) (l := l) (keep_same hb7 K5.out)⟩
    · have hKa := hK rfl
      rcases ra with _ | _
      · clear hK hno hab
        go_wp2_with fail
        refine (H3.out _).mono ?_
        rintro e w3 ⟨rfl, hb3⟩
        have k3 := keep_same hb3 K2.out
        clear K2 hb3 c0 c1
        have c0 := k3.1
        have c1 := k3.2.1
        have K3 := hide k3
        clear k3
        go_wp2_with fail
        go_region_held3 (fun W => W.cell? ⟨w.heap.size, 0, none⟩ = some v ∧ W.cell? ⟨w.heap.size, 1, none⟩ = some (.int .i64 k) ∧ Hnd W ∧ Stp W v l ∧ Below w.heap.size w W ∧ w.heap.size ≤ W.heap.size)
          (first | assumption | exact keep_same (by assumption) (by assumption) | exact keep_same (Below.refl _ _).drew K3.out)
          (first
            | (go_at_call 11; refine (H3.out _).mono ?_; rintro e w' ⟨rfl, hb5⟩)
            | (go_at_call 22; refine (H5.out _ ?_).mono ?_; exact hnd_of (v := v) (k := k) (l := l) (w := w) (n := w.heap.size) (by assumption); rintro e w' ⟨rfl, hb6⟩)
            | (go_at_call 8; refine (works_any _ ?_).mono ?_; exact hnd_of (v := v) (k := k) (l := l) (w := w) (n := w.heap.size) (by assumption); rintro e w' ⟨rfl, hb7⟩))
        go_wp2
        go_ret
        exact ⟨rfl, below_of (v := v) (k := k) (l := l) (by assumption)⟩
      · have hab' := hab rfl rfl
        clear hK hno hab
        subst hab'
        go_wp2_with fail
        refine (H3.out _).mono ?_
        rintro e w3 ⟨rfl, hb3⟩
        have k3 := keep_same hb3 K2.out
        clear K2 hb3 c0 c1
        have c0 := k3.1
        have c1 := k3.2.1
        have K3 := hide k3
        clear k3
        go_wp2_with fail
        refine (H4.out _).mono ?_
        rintro e w4 ⟨rfl, hb4⟩
        have k4 := keep_same hb4 K3.out
        clear K3 hb4 c0 c1
        have c0 := k4.1
        have c1 := k4.2.1
        have K4 := hide k4
        clear k4
        go_wp2_with fail
        go_region_held3 (fun W => W.cell? ⟨w.heap.size, 0, none⟩ = some v ∧ W.cell? ⟨w.heap.size, 1, none⟩ = some (.int .i64 k) ∧ Hnd W ∧ Stp W v l ∧ Below w.heap.size w W ∧ w.heap.size ≤ W.heap.size)
          (first | assumption | exact keep_same (by assumption) (by assumption) | exact keep_same (Below.refl _ _).drew K4.out)
          (first
            | (go_at_call 11; refine (H3.out _).mono ?_; rintro e w' ⟨rfl, hb5⟩)
            | (go_at_call 22; refine (H5.out _ ?_).mono ?_; exact hnd_of (v := v) (k := k) (l := l) (w := w) (n := w.heap.size) (by assumption); rintro e w' ⟨rfl, hb6⟩)
            | (go_at_call 8; refine (works_any _ ?_).mono ?_; exact hnd_of (v := v) (k := k) (l := l) (w := w) (n := w.heap.size) (by assumption); rintro e w' ⟨rfl, hb7⟩))
        go_wp2
        go_ret
        exact ⟨rfl, below_of (v := v) (k := k) (l := l) (by assumption)⟩

theorem is_law (v : Value) (l : List (ByteArray × Int)) (k a b : Int) (w : World) (hg : Hnd w) (hv : Stp w v l) :
    Calls Tryd.prog 6 #[.agg #[v, .int .i64 k], .int .i64 a, .int .i64 b] w fun e w' => e = .returned (.bool true) ∧ Below w.heap.size w w' := by
  by_cases hn : l.length ≤ 60
  · refine is_near v (fun p => ev (mkV l k p)) l k a b (ofC k) (isC k a) (isC k b) (a != b) (decide (0 < k)) w hg hv ?_ ?_ ?_ ?_ ?_ rfl rfl ?_ ?_ ?_
    · obtain ⟨ao, cap, rfl⟩ := hv.form
      exact fun W => light_yes ao l.length cap k W hn
    · exact fun W hW => made_any v l k W hW (by omega)
    · intro p W
      have := is_ev (mkV l k p) a W
      rwa [mk_is] at this
    · intro p W
      have := is_ev (mkV l k p) b W
      rwa [mk_is] at this
    · intro p W hW
      have := of_ev (mkV l k p) W hW
      rwa [mk_of] at this
    · intro h
      have h' : 0 < k := of_decide_eq_true h
      simp [isC, ofC, h', show ¬ k < 0 by omega]
    · intro h
      simp [isC, h]
    · intro h1 h2
      simp only [isC, Bool.and_eq_true, beq_iff_eq] at h2
      rw [bne_iff_ne] at h1
      have h3 : ¬ k = b := fun e => h1 (by rw [← h2.2, e])
      simp [isC, h3]
  · obtain ⟨ao, cap, rfl⟩ := hv.form
    exact is_far ao l.length cap k a b w hg (by omega)
end Go.Proofs.YtdkbehbpdcfbdaaDoor
