/-
  FaultTells, WALKED: at every chain, every name and every code it answers true, and turns nothing that was there. Conditions: errors.errorType holds the handle of the type error, and the chain's cells hold its steps.
-/
import Derived.Test.YtdkbehbpdcfbdaaDoorWorks
namespace Go.Proofs.YtdkbehbpdcfbdaaDoor
open Go.RowKit Go.Extern.Stop Go.Stop Go.Extern

set_option maxHeartbeats 4000000 in
theorem tells_far (ao : Option Addr) (n cap : Nat) (k : Int) (s : ByteArray) (q : Int) (w : World) (hg : Hnd w) (hn : 60 < n) :
    Calls Tryd.prog 3 #[.agg #[.slice ao n cap, .int .i64 k], .string s, .int .i64 q] w fun e w' => e = .returned (.bool true) ∧ Below w.heap.size w w' := by
  have HG := hide hg
  have H1 := hide fun W => light_no ao n cap k W hn
  clear hg hn
  generalize (.slice ao n cap : Value) = v at *
  go_enter Tryd.func3, Tryd.ntmps3
  go_wp2_with fail
  refine (H1.out _).mono ?_
  rintro e w1 ⟨rfl, b1⟩
  have b0 : Below w.heap.size w w1 := ((Below.refl _ _).alloc (Nat.le_refl _) _).trans (b1.mono (by simp))
  clear b1
  go_wp2_with fail
  refine (works_any _ (HG.out.below b0)).mono ?_
  rintro e w2 ⟨rfl, b2⟩
  go_wp2
  go_ret
  exact ⟨rfl, bt b0 b2⟩

set_option maxRecDepth 100000 in
set_option maxHeartbeats 8000000 in
/-- The walk, the answers of the callees handed in. -/
theorem tells_near (v : Value) (Ev : Addr → Value) (l : List (ByteArray × Int)) (k : Int) (s : ByteArray) (q : Int) (R U : Bool) (w : World) (hg : Hnd w) (hv : Stp w v l)
    (H1 : Hid (∀ W, Calls Tryd.prog 7 #[.agg #[v, .int .i64 k]] W fun e w' => e = .returned (.bool true) ∧ Below W.heap.size W w'))
    (H2 : Hid (∀ W, Stp W v l → Calls Tryd.prog 9 #[.agg #[v, .int .i64 k]] W fun e w' => (∃ p, e = .returned (Ev p)) ∧ Below W.heap.size W w'))
    (H3 : Hid (∀ p W, Hnd W → Stp W v l → Calls Tryd.prog 10 #[Ev p, .agg #[v, .int .i64 k]] W fun e w' => e = .returned (.bool true) ∧ Below W.heap.size W w'))
    (H4 : Hid (∀ p W, Calls Tryd.prog 11 #[Ev p, .int .i64 q] W fun e w' => e = .returned (.bool R) ∧ Below W.heap.size W w'))
    (H5 : Hid (∀ W, Calls Tryd.prog 12 #[.agg #[v, .int .i64 k], .int .i64 q] W fun e w' => e = .returned (.bool R) ∧ Below W.heap.size W w'))
    (H6 : Hid (∀ p W, Hnd W → Calls Tryd.prog 13 #[Ev p, .string s] W fun e w' => e = .returned (.bool U) ∧ Below W.heap.size W w'))
    (H7 : Hid (∀ W, Stp W v l → Calls Tryd.prog 14 #[.agg #[v, .int .i64 k], .string s] W fun e w' => e = .returned (.bool U) ∧ Below W.heap.size W w')) :
    Calls Tryd.prog 3 #[.agg #[v, .int .i64 k], .string s, .int .i64 q] w fun e w' => e = .returned (.bool true) ∧ Below w.heap.size w w' := by
  have hlt := size_of_handle hg
  have HG := hide hg
  have HV := hide hv
  clear hg hv
  go_enter Tryd.func3, Tryd.ntmps3
  go_wp2_with fail
  have k0 := keep_same (v := v) (k := k) (l := l) (w := w) (W := w.alloc (.cells #[v, .int .i64 k] 24)) (n := w.heap.size) (Below.refl _ _) ⟨by simp, by simp, HG.out.below ((Below.refl _ _).alloc (Nat.le_refl _) _), HV.out.below ((Below.refl _ _).alloc (Nat.le_refl _) _), (Below.refl _ _).alloc (Nat.le_refl _) _, by simp⟩
  refine (H1.out _).mono ?_
  rintro e w1 ⟨rfl, hb1⟩
  have k1 := keep_same hb1 k0
  clear k0 hb1
  have c0 := k1.1
  have c1 := k1.2.1
  have K1 := hide k1
  clear k1
  go_wp2_with fail
  refine (H2.out _ K1.out.2.2.2.1).mono ?_
  rintro e w2 ⟨⟨p, rfl⟩, hb2⟩
  have k2 := keep_same hb2 K1.out
  clear K1 hb2 c0 c1
  have c0 := k2.1
  have c1 := k2.2.1
  have K2 := hide k2
  clear k2
  have H3 := hide (H3.out p)
  have H4 := hide (H4.out p)
  have H6 := hide (H6.out p)
  generalize Ev p = E at *
  clear H1 H2 HG HV
  go_wp2_with fail
  go_region_held3 (fun W => W.cell? ⟨w.heap.size, 0, none⟩ = some v ∧ W.cell? ⟨w.heap.size, 1, none⟩ = some (.int .i64 k) ∧ Hnd W ∧ Stp W v l ∧ Below w.heap.size w W ∧ w.heap.size ≤ W.heap.size)
    (first | exact keep_same (by assumption) (by assumption) | exact keep_same (Below.refl _ _).drew K2.out)
    (first
      | (go_at_call 10; refine (H3.out _ ?_ ?_).mono ?_; exact hnd_of (v := v) (k := k) (l := l) (w := w) (n := w.heap.size) (by assumption); exact stp_of (v := v) (k := k) (l := l) (w := w) (n := w.heap.size) (by assumption); rintro e w' ⟨rfl, hb3⟩)
      | (go_at_call 11; refine (H4.out _).mono ?_; rintro e w' ⟨rfl, hb4⟩)
      | (go_at_call 12; refine (H5.out _).mono ?_; rintro e w' ⟨rfl, hb5⟩)
      | (go_at_call 13; refine (H6.out _ ?_).mono ?_; exact hnd_of (v := v) (k := k) (l := l) (w := w) (n := w.heap.size) (by assumption); rintro e w' ⟨rfl, hb6⟩)
      | (go_at_call 14; refine (H7.out _ ?_).mono ?_; exact stp_of (v := v) (k := k) (l := l) (w := w) (n := w.heap.size) (by assumption); rintro e w' ⟨rfl, hb7⟩)
      | (go_at_call 8; refine (works_any _ ?_).mono ?_; exact hnd_of (v := v) (k := k) (l := l) (w := w) (n := w.heap.size) (by assumption); rintro e w' ⟨rfl, hb8⟩))
  go_wp2
  go_ret
  exact ⟨rfl, below_of (v := v) (k := k) (l := l) (by assumption)⟩

theorem st_len (l : List (ByteArray × Int)) (k : Int) (h : l.length ≤ 1000) : (stC l k).length ≤ 1000 := by
  unfold stC; split
  · exact Nat.zero_le _
  · exact h

theorem tells_law (v : Value) (l : List (ByteArray × Int)) (k : Int) (s : ByteArray) (q : Int) (w : World) (hg : Hnd w) (hv : Stp w v l) :
    Calls Tryd.prog 3 #[.agg #[v, .int .i64 k], .string s, .int .i64 q] w fun e w' => e = .returned (.bool true) ∧ Below w.heap.size w w' := by
  by_cases hn : l.length ≤ 60
  · refine tells_near v (fun p => ev (mkV l k p)) l k s q (isC k q) (hasB ((stC l k).map (·.1)) s) w hg hv ?_ ?_ ?_ ?_ ?_ ?_ ?_
    · obtain ⟨ao, cap, rfl⟩ := hv.form
      exact fun W => light_yes ao l.length cap k W hn
    · exact fun W hW => made_any v l k W hW (by omega)
    · exact fun p W hW hS => same_ev (mkV l k p) v l k W hW hS (by omega) (mk_none l k p) (mk_of l k p) (mk_st l k p)
    · intro p W
      have := is_ev (mkV l k p) q W
      rwa [mk_is] at this
    · exact fun W => refIs_any v k q W
    · intro p W hW
      have := under_ev (mkV l k p) s W hW (by rw [mk_st]; exact st_len l k (by omega))
      rwa [mk_st] at this
    · exact fun W hW => refUnder_any v l k s W hW (by omega)
  · obtain ⟨ao, cap, rfl⟩ := hv.form
    exact tells_far ao l.length cap k s q w hg (by omega)
end Go.Proofs.YtdkbehbpdcfbdaaDoor
