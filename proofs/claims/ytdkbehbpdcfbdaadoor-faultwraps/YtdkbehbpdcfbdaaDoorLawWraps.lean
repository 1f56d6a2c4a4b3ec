/-
  FaultWraps, WALKED: at every chain, every name and every place it answers true, and turns nothing that was there. Conditions: errors.errorType holds the handle of the type error, and the chain's cells hold its steps.
-/
import Derived.Test.YtdkbehbpdcfbdaaDoorWorks
namespace Go.Proofs.YtdkbehbpdcfbdaaDoor
open Go.RowKit Go.Extern.Stop Go.Stop Go.Extern

set_option maxHeartbeats 4000000 in
theorem wraps_far (ao : Option Addr) (n cap : Nat) (k : Int) (s : ByteArray) (q : Int) (w : World) (hg : Hnd w) (hn : 60 < n) :
    Calls Tryd.prog 5 #[.agg #[.slice ao n cap, .int .i64 k], .string s, .int .i64 q] w fun e w' => e = .returned (.bool true) ∧ Below w.heap.size w w' := by
  have HG := hide hg
  have H1 := hide fun W => light_no ao n cap k W hn
  clear hg hn
  generalize (.slice ao n cap : Value) = v at *
  go_enter Tryd.func5, Tryd.ntmps5
  go_wp2_with fail
  refine (H1.out _).mono ?_
  rintro e w1 ⟨rfl, b1⟩
  have b0 : Below w.heap.size w w1 := ((Below.refl _ _).alloc (Nat.le_refl _) _).trans (b1.mono (by simp))
  clear b1
  go_wp2_with fail
  refine (works_any _ (HG.out.below b0)).mono ?_
  rintro e w2 ⟨rfl, b2⟩
  go_wp2
  go_ret
  exact ⟨rfl, bt b0 b2⟩

set_option maxHeartbeats 4000000 in
/-- About nothing it is nothing. -/
theorem wraps_nil (v : Value) (l : List (ByteArray × Int)) (s : ByteArray) (q : Int) (w : World) (hg : Hnd w) (hv : Stp w v l)
    (H1 : Hid (∀ W, Calls Tryd.prog 7 #[.agg #[v, .int .i64 0]] W fun e w' => e = .returned (.bool true) ∧ Below W.heap.size W w'))
    (H2 : Hid (∀ W, Stp W v l → Calls Tryd.prog 9 #[.agg #[v, .int .i64 0]] W fun e w' => (∃ p, e = .returned (ev (mkV l 0 p))) ∧ Below W.heap.size W w')) :
    Calls Tryd.prog 5 #[.agg #[v, .int .i64 0], .string s, .int .i64 q] w fun e w' => e = .returned (.bool true) ∧ Below w.heap.size w w' := by
  have HG := hide hg
  have HV := hide hv
  clear hg hv
  go_enter Tryd.func5, Tryd.ntmps5
  go_wp2_with fail
  have k0 := keep_same (v := v) (k := 0) (l := l) (w := w) (W := w.alloc (.cells #[v, .int .i64 0] 24)) (n := w.heap.size) (Below.refl _ _) ⟨by simp, by simp, HG.out.below ((Below.refl _ _).alloc (Nat.le_refl _) _), HV.out.below ((Below.refl _ _).alloc (Nat.le_refl _) _), (Below.refl _ _).alloc (Nat.le_refl _) _, by simp⟩
  refine (H1.out _).mono ?_
  rintro e w1 ⟨rfl, hb1⟩
  have k1 := keep_same hb1 k0
  clear k0 hb1
  have c0 := k1.1
  have c1 := k1.2.1
  have K1 := hide k1
  clear k1
  go_wp2_with fail
  refine (H2.out _ K1.out.2.2.2.1).mono ?_
  rintro e w2 ⟨⟨p, rfl⟩, hb2⟩
  have k2 := keep_same hb2 K1.out
  clear K1 hb2 c0 c1 H1 H2 HG HV
  have K2 := hide k2
  clear k2
  have e0 : ev (mkV l 0 p) = .nilIface := rfl
  rw [e0]
  clear e0
  go_wp2_with fail
  refine (wrap_nil _ _ _).mono ?_
  rintro e w3 ⟨rfl, rfl⟩
  go_wp2_with fail
  refine (works_any _ (hnd_of K2.out)).mono ?_
  rintro e w4 ⟨rfl, hb4⟩
  go_wp2
  go_ret
  exact ⟨rfl, below_of (keep_same hb4 K2.out)⟩

theorem slice_tail (g n cap : Nat) (hn : n + 1 ≤ cap) (W : World) : (Instr.slice 45 (.slice (some ⟨g, 0, none⟩) (n + 1) cap) (some (.int .i64 1)) none none).run Tryd.prog W
    = .ok (.slice (if cap = 1 then some ⟨g, 0, none⟩ else some ⟨g, 1, none⟩) n (cap - 1)) W := by
  have h1 : (1 : Int) ≤ (n : Int) + 1 := by omega
  have h2 : (n : Int) + 1 ≤ (cap : Int) := by omega
  simp [Instr.slice, go_sem]
  intro h
  omega
theorem wrap_one (n : Nat) (hn : n ≤ 1000) : IntKind.i64.wrap ((n : Int) + 1) = ((n + 1 : Nat) : Int) := by
  rw [IntKind.wrap_i64]
  omega

/-- What stays behind every call: besides, the first text of one list, and that the others are those of another. -/
theorem keep_wraps {v t u : Value} {k : Int} {l : List (ByteArray × Int)} {ss : List ByteArray} {s : ByteArray} {w W W' : World} {n g : Nat} (hb : Below W.heap.size W W')
    (h : W.cell? ⟨n, 0, none⟩ = some v ∧ W.cell? ⟨n, 1, none⟩ = some (.int .i64 k) ∧ W.cell? ⟨g, 0, none⟩ = some (.string s) ∧ (Strs W t ss ∧ Strs W u ss) ∧ Hnd W ∧ Stp W v l ∧ Below n w W ∧ n ≤ W.heap.size) :
    W'.cell? ⟨n, 0, none⟩ = some v ∧ W'.cell? ⟨n, 1, none⟩ = some (.int .i64 k) ∧ W'.cell? ⟨g, 0, none⟩ = some (.string s) ∧ (Strs W' t ss ∧ Strs W' u ss) ∧ Hnd W' ∧ Stp W' v l ∧ Below n w W' ∧ n ≤ W'.heap.size := by
  obtain ⟨h1, h2, h3, ⟨h4, h5⟩, h6⟩ := h
  have K := keep_same (l := l) (w := w) hb ⟨h1, h2, h6⟩
  refine ⟨K.1, K.2.1, ?_, ⟨h4.below hb, h5.below hb⟩, K.2.2⟩
  rw [hb.cell (p := ⟨g, 0, none⟩) (block_of_cell h3)]; exact h3

theorem hnd_w {v t u : Value} {k : Int} {l : List (ByteArray × Int)} {ss : List ByteArray} {s : ByteArray} {w W : World} {n g : Nat} (h : (W.cell? ⟨n, 0, none⟩ = some v ∧ W.cell? ⟨n, 1, none⟩ = some (.int .i64 k) ∧ W.cell? ⟨g, 0, none⟩ = some (.string s) ∧ (Strs W t ss ∧ Strs W u ss) ∧ Hnd W ∧ Stp W v l ∧ Below n w W ∧ n ≤ W.heap.size)) : Hnd W := h.2.2.2.2.1
theorem stp_w {v t u : Value} {k : Int} {l : List (ByteArray × Int)} {ss : List ByteArray} {s : ByteArray} {w W : World} {n g : Nat} (h : (W.cell? ⟨n, 0, none⟩ = some v ∧ W.cell? ⟨n, 1, none⟩ = some (.int .i64 k) ∧ W.cell? ⟨g, 0, none⟩ = some (.string s) ∧ (Strs W t ss ∧ Strs W u ss) ∧ Hnd W ∧ Stp W v l ∧ Below n w W ∧ n ≤ W.heap.size)) : Stp W v l := h.2.2.2.2.2.1
theorem bel_w {v t u : Value} {k : Int} {l : List (ByteArray × Int)} {ss : List ByteArray} {s : ByteArray} {w W : World} {n g : Nat} (h : (W.cell? ⟨n, 0, none⟩ = some v ∧ W.cell? ⟨n, 1, none⟩ = some (.int .i64 k) ∧ W.cell? ⟨g, 0, none⟩ = some (.string s) ∧ (Strs W t ss ∧ Strs W u ss) ∧ Hnd W ∧ Stp W v l ∧ Below n w W ∧ n ≤ W.heap.size)) : Below n w W := h.2.2.2.2.2.2.1
theorem str_w {v t u : Value} {k : Int} {l : List (ByteArray × Int)} {ss : List ByteArray} {s : ByteArray} {w W : World} {n g : Nat} (h : (W.cell? ⟨n, 0, none⟩ = some v ∧ W.cell? ⟨n, 1, none⟩ = some (.int .i64 k) ∧ W.cell? ⟨g, 0, none⟩ = some (.string s) ∧ (Strs W t ss ∧ Strs W u ss) ∧ Hnd W ∧ Stp W v l ∧ Below n w W ∧ n ≤ W.heap.size)) : Strs W t ss := h.2.2.2.1.1
theorem stu_w {v t u : Value} {k : Int} {l : List (ByteArray × Int)} {ss : List ByteArray} {s : ByteArray} {w W : World} {n g : Nat} (h : (W.cell? ⟨n, 0, none⟩ = some v ∧ W.cell? ⟨n, 1, none⟩ = some (.int .i64 k) ∧ W.cell? ⟨g, 0, none⟩ = some (.string s) ∧ (Strs W t ss ∧ Strs W u ss) ∧ Hnd W ∧ Stp W v l ∧ Below n w W ∧ n ≤ W.heap.size)) : Strs W u ss := h.2.2.2.1.2

set_option maxRecDepth 100000 in
set_option maxHeartbeats 16000000 in
/-- The walk, the answers of the callees handed in. -/
theorem wraps_near (v : Value) (Ev Ew : Addr → Value) (ty : Addr → TypeId) (y : Addr → Value) (l : List (ByteArray × Int)) (k : Int) (s : ByteArray) (q K : Int) (n m : Nat) (ss : List ByteArray) (w : World) (hg : Hnd w) (hv : Stp w v l) (_hm : (0 : Int) < (m : Int)) (hm0 : 0 < m)
    (hadd : IntKind.i64.wrap ((n : Int) + 1) = (m : Int))
    (HSS : Hid (ss.length ≤ 1000))
    (H1 : Hid (∀ W, Calls Tryd.prog 7 #[.agg #[v, .int .i64 k]] W fun e w' => e = .returned (.bool true) ∧ Below W.heap.size W w'))
    (H2 : Hid (∀ W, Stp W v l → Calls Tryd.prog 9 #[.agg #[v, .int .i64 k]] W fun e w' => (∃ p, e = .returned (Ev p)) ∧ Below W.heap.size W w'))
    (HE : Hid (∀ p, Ev p = .iface (ty p) (y p)))
    (H19 : Hid (∀ p W, Calls Tryd.prog 19 #[.string s, .int .i64 q, Ev p] W fun e w' => e = .returned (Ew p) ∧ w' = W))
    (H20 : Hid (∀ p W, Hnd W → Calls Tryd.prog 20 #[Ew p] W fun e w' => e = .returned (.tuple #[.int .i64 q, .bool true]) ∧ Below W.heap.size W w'))
    (H21 : Hid (∀ p W, Hnd W → Calls Tryd.prog 21 #[Ew p] W fun e w' => ∃ g cap t, e = .returned (.slice (some ⟨g, 0, none⟩) m cap) ∧ (∀ W, (Instr.slice 45 (.slice (some ⟨g, 0, none⟩) m cap) (some (.int .i64 1)) none none).run Tryd.prog W = .ok t W) ∧ w'.cell? ⟨g, 0, none⟩ = some (.string s) ∧
      Strs w' t ss ∧ Below W.heap.size W w'))
    (H21' : Hid (∀ p W, Hnd W → Calls Tryd.prog 21 #[Ev p] W fun e w' => ∃ ao cap, e = .returned (.slice ao n cap) ∧ Strs w' (.slice ao n cap) ss ∧ Below W.heap.size W w'))
    (H22 : Hid (∀ p W, Hnd W → Calls Tryd.prog 22 #[Ew p] W fun e w' => e = .returned (.int .i64 K) ∧ Below W.heap.size W w'))
    (H22' : Hid (∀ p W, Hnd W → Calls Tryd.prog 22 #[Ev p] W fun e w' => e = .returned (.int .i64 K) ∧ Below W.heap.size W w'))
    (H15 : Hid (∀ p W, Hnd W → Calls Tryd.prog 15 #[Ew p] W fun e w' => e = .returned (Ev p) ∧ Below W.heap.size W w'))
    (H10 : Hid (∀ p W, Hnd W → Stp W v l → Calls Tryd.prog 10 #[Ev p, .agg #[v, .int .i64 k]] W fun e w' => e = .returned (.bool true) ∧ Below W.heap.size W w')) :
    Calls Tryd.prog 5 #[.agg #[v, .int .i64 k], .string s, .int .i64 q] w fun e w' => e = .returned (.bool true) ∧ Below w.heap.size w w' := by
  have hlt := size_of_handle hg
  have HG := hide hg
  have HV := hide hv
  clear hg hv
  go_enter Tryd.func5, Tryd.ntmps5
  go_wp2_with fail
  have k0 := keep_same (v := v) (k := k) (l := l) (w := w) (W := w.alloc (.cells #[v, .int .i64 k] 24)) (n := w.heap.size) (Below.refl _ _) ⟨by simp, by simp, HG.out.below ((Below.refl _ _).alloc (Nat.le_refl _) _), HV.out.below ((Below.refl _ _).alloc (Nat.le_refl _) _), (Below.refl _ _).alloc (Nat.le_refl _) _, by simp⟩
  refine (H1.out _).mono ?_
  rintro e w1 ⟨rfl, hb1⟩
  have k1 := keep_same hb1 k0
  clear k0 hb1
  have c0 := k1.1
  have c1 := k1.2.1
  have K1 := hide k1
  clear k1
  go_wp2_with fail
  refine (H2.out _ K1.out.2.2.2.1).mono ?_
  rintro e w2 ⟨⟨p, rfl⟩, hb2⟩
  have k2 := keep_same hb2 K1.out
  clear K1 hb2 c0 c1
  have K2 := hide k2
  clear k2
  have A19 := H19.out p
  have A20 := H20.out p
  have A21 := H21.out p
  have A21' := H21'.out p
  have A22 := H22.out p
  have A22' := H22'.out p
  have A15 := H15.out p
  have A10 := H10.out p
  have AE := HE.out p
  clear H1 H2 HG HV H19 H20 H21 H21' H22 H22' H15 H10 HE
  rw [AE] at A19 A21' A22' A15 A10 ⊢
  clear AE
  generalize Ew p = E' at *
  generalize ty p = tp at *
  generalize y p = yp at *
  have H19 := hide A19
  have H20 := hide A20
  have H21 := hide A21
  have H21' := hide A21'
  have H22 := hide A22
  have H22' := hide A22'
  have H15 := hide A15
  have H10 := hide A10
  clear A19 A20 A21 A21' A22 A22' A15 A10
  go_wp2_with fail
  refine (H19.out _).mono ?_
  rintro e w3 ⟨rfl, rfl⟩
  go_wp2_with fail
  refine (H20.out _ (hnd_of K2.out)).mono ?_
  rintro e w3 ⟨rfl, hb3⟩
  have k3 := keep_same hb3 K2.out
  have K3 := hide k3
  clear K2 hb3 k3
  go_wp2_with fail
  refine (H21.out _ (hnd_of K3.out)).mono ?_
  rintro e w4 ⟨g, cap, t, rfl, hsl, hg0, hs0, hb4⟩
  have k4 := keep_same hb4 K3.out
  have HG0 := hide hg0
  have HS0 := hide hs0
  have K4 := hide k4
  clear K3 hb4 k4 hg0 hs0
  go_wp2_with fail
  refine (H21'.out _ (hnd_of K4.out)).mono ?_
  rintro e w5 ⟨ao, cap', rfl, hs1, hb5⟩
  have k5 := keep_same hb5 K4.out
  have hg5 : w5.cell? ⟨g, 0, none⟩ = some (.string s) := by rw [hb5.cell (p := ⟨g, 0, none⟩) (block_of_cell HG0.out)]; exact HG0.out
  have KK := hide (show w5.cell? ⟨w.heap.size, 0, none⟩ = some v ∧ w5.cell? ⟨w.heap.size, 1, none⟩ = some (.int .i64 k) ∧ w5.cell? ⟨g, 0, none⟩ = some (.string s) ∧
      (Strs w5 t ss ∧ Strs w5 (.slice ao n cap') ss) ∧ Hnd w5 ∧ Stp w5 v l ∧ Below w.heap.size w w5 ∧ w.heap.size ≤ w5.heap.size from
    ⟨k5.1, k5.2.1, hg5, ⟨HS0.out.below hb5, hs1⟩, k5.2.2⟩)
  clear K4 hb5 k5 hs1 hg5 HG0 HS0 H19 H20 H21 H21'
  go_wp2_with fail
  go_region_held3 (fun W => W.cell? ⟨w.heap.size, 0, none⟩ = some v ∧ W.cell? ⟨w.heap.size, 1, none⟩ = some (.int .i64 k) ∧ W.cell? ⟨g, 0, none⟩ = some (.string s) ∧ (Strs W (t) ss ∧ Strs W (.slice ao n cap') ss) ∧ Hnd W ∧ Stp W v l ∧ Below w.heap.size w W ∧ w.heap.size ≤ W.heap.size)
    (first | exact keep_wraps (by assumption) (by assumption) | exact keep_wraps (Below.refl _ _).drew KK.out)
    (first
      | (go_at_call_of 22 E'; refine (H22.out _ ?_).mono ?_; exact hnd_w (v := v) (k := k) (l := l) (w := w) (n := w.heap.size) (g := g) (s := s) (ss := ss) (t := t) (u := .slice ao n cap') (by assumption); rintro e w' ⟨rfl, hb6⟩)
      | (go_at_call_of 22 (Value.iface tp yp); refine (H22'.out _ ?_).mono ?_; exact hnd_w (v := v) (k := k) (l := l) (w := w) (n := w.heap.size) (g := g) (s := s) (ss := ss) (t := t) (u := .slice ao n cap') (by assumption); rintro e w' ⟨rfl, hb7⟩)
      | (go_at_call 23; refine (texts_same _ _ ss _ ?_ ?_ HSS.out).mono ?_; exact str_w (v := v) (k := k) (l := l) (w := w) (n := w.heap.size) (g := g) (s := s) (ss := ss) (t := t) (u := .slice ao n cap') (by assumption); exact stu_w (v := v) (k := k) (l := l) (w := w) (n := w.heap.size) (g := g) (s := s) (ss := ss) (t := t) (u := .slice ao n cap') (by assumption); rintro e w' ⟨rfl, hb8⟩)
      | (go_at_call 15; refine (H15.out _ ?_).mono ?_; exact hnd_w (v := v) (k := k) (l := l) (w := w) (n := w.heap.size) (g := g) (s := s) (ss := ss) (t := t) (u := .slice ao n cap') (by assumption); rintro e w' ⟨rfl, hb9⟩)
      | (go_at_call 10; refine (H10.out _ ?_ ?_).mono ?_; exact hnd_w (v := v) (k := k) (l := l) (w := w) (n := w.heap.size) (g := g) (s := s) (ss := ss) (t := t) (u := .slice ao n cap') (by assumption); exact stp_w (v := v) (k := k) (l := l) (w := w) (n := w.heap.size) (g := g) (s := s) (ss := ss) (t := t) (u := .slice ao n cap') (by assumption); rintro e w' ⟨rfl, hb10⟩)
      | (go_at_call 8; refine (works_any _ ?_).mono ?_; exact hnd_w (v := v) (k := k) (l := l) (w := w) (n := w.heap.size) (g := g) (s := s) (ss := ss) (t := t) (u := .slice ao n cap') (by assumption); rintro e w' ⟨rfl, hb11⟩))
  go_wp2
  go_ret
  exact ⟨rfl, bel_w (v := v) (k := k) (l := l) (w := w) (n := w.heap.size) (g := g) (s := s) (ss := ss) (t := t) (u := .slice ao n cap') (by assumption)⟩

theorem owns_cons {w : World} {base : Nat} {v : Value} {s : ByteArray} {q : Int} {ll : List (ByteArray × Int)} (h : w.ownsRow base 9 1 v (ll.length + 1) (sv ((s, q) :: ll))) :
    ∃ g cap, v = .slice (some ⟨g, 0, none⟩) (ll.length + 1) cap ∧ ll.length + 1 ≤ cap ∧ w.cell? ⟨g, 0, none⟩ = some (.string s) ∧
      Strs w (.slice (if cap = 1 then some ⟨g, 0, none⟩ else some ⟨g, 1, none⟩) ll.length (cap - 1)) (ll.map (·.1)) := by
  have hS := strs_of_owns (l := (s, q) :: ll) h
  rcases hS with ⟨_, _, e, _⟩ | ⟨b, o, cap, rfl, hc, hcell⟩
  · cases e
  · rcases h.2 with ⟨e, _⟩ | ⟨g, cap', cur, e, _⟩
    · cases e
    · obtain ⟨rfl, rfl⟩ : b = g ∧ o = 0 := by
        simp only [Value.slice.injEq, Option.some.injEq, Addr.mk.injEq] at e
        exact ⟨e.1.1, e.1.2.1⟩
      have hc' : ll.length + 1 ≤ cap := by simpa using hc
      refine ⟨b, cap, by simp, hc', by simpa using hcell 0 (by simp), ?_⟩
      by_cases hcap : cap = 1
      · have hl : ll = [] := List.length_eq_zero_iff.1 (by omega)
        subst hl
        exact .inl ⟨_, _, rfl, rfl⟩
      · rw [if_neg hcap]
        refine .inr ⟨b, 1, cap - 1, by simp, by simp; omega, fun i hi => ?_⟩
        have hi' : i < ll.length := by simpa using hi
        have := hcell (i + 1) (by simpa using hi')
        rw [show 1 + i = 0 + (i + 1) by omega, this]
        simp

/-- An error, wrapped once more. -/
def wrV (x : Option (List (ByteArray × Int) × Option Int × Addr)) (s : ByteArray) (q : Int) : Option (List (ByteArray × Int) × Option Int × Addr) := match x with
  | none => none
  | some (l, c, p) => some ((s, q) :: l, c, p)

theorem wraps_law (v : Value) (l : List (ByteArray × Int)) (k : Int) (s : ByteArray) (q : Int) (w : World) (hg : Hnd w) (hv : Stp w v l) :
    Calls Tryd.prog 5 #[.agg #[v, .int .i64 k], .string s, .int .i64 q] w fun e w' => e = .returned (.bool true) ∧ Below w.heap.size w w' := by
  by_cases hn : l.length ≤ 60
  · have hlight : ∀ W, Calls Tryd.prog 7 #[.agg #[v, .int .i64 k]] W fun e w' => e = .returned (.bool true) ∧ Below W.heap.size W w' := by
      obtain ⟨ao, cap, rfl⟩ := hv.form
      exact fun W => light_yes ao l.length cap k W hn
    have hmade : ∀ W, Stp W v l → Calls Tryd.prog 9 #[.agg #[v, .int .i64 k]] W fun e w' => (∃ p, e = .returned (ev (mkV l k p))) ∧ Below W.heap.size W w' := fun W hW => made_any v l k W hW (by omega)
    by_cases hk : k = 0
    · subst hk
      exact wraps_nil v l s q w hg hv hlight hmade
    · have hst : stC l k = l := if_neg hk
      have hform : ∀ p, ∃ c, mkV l k p = some (l, c, p) := by
        intro p
        unfold mkV
        rw [if_neg hk]
        by_cases h2 : k < 0
        · rw [if_pos h2]; exact ⟨_, rfl⟩
        · rw [if_neg h2]; exact ⟨_, rfl⟩
      have hE : ∀ p, ∃ z : TypeId × Value, ev (mkV l k p) = .iface z.1 z.2 := by
        intro p
        obtain ⟨c, hc⟩ := hform p
        obtain ⟨ty, y, hy⟩ := chn_form l c p
        rw [hc]
        exact ⟨(ty, y), hy⟩
      have hW1 : ∀ p, ev (wrV (mkV l k p) s q) = .iface 60 (.agg #[.string s, .int .i64 q, ev (mkV l k p)]) := by
        intro p
        obtain ⟨c, hc⟩ := hform p
        rw [hc]; rfl
      have hW2 : ∀ p, ofV (wrV (mkV l k p) s q) = ofC k := by
        intro p
        rw [← mk_of l k p]
        obtain ⟨c, hc⟩ := hform p
        rw [hc]
        cases c <;> rfl
      have hW3 : ∀ p, stV (wrV (mkV l k p) s q) = (s, q) :: l := by
        intro p
        obtain ⟨c, hc⟩ := hform p
        rw [hc]; rfl
      have hW4 : ∀ p, agV (wrV (mkV l k p) s q) = mkV l k p := by
        intro p
        obtain ⟨c, hc⟩ := hform p
        rw [hc]; rfl
      refine wraps_near v (fun p => ev (mkV l k p)) (fun p => ev (wrV (mkV l k p) s q)) (fun p => (Classical.choose (hE p)).1) (fun p => (Classical.choose (hE p)).2) l k s q (ofC k) l.length (l.length + 1) (l.map (·.1)) w hg hv
        (by omega) (by omega) (wrap_one l.length (by omega)) (by simp only [Hid, List.length_map]; omega) hlight hmade (fun p => Classical.choose_spec (hE p)) ?_ ?_ ?_ ?_ ?_ ?_ ?_ ?_
      · intro p W
        have hp := Classical.choose_spec (hE p)
        show Calls Tryd.prog 19 #[.string s, .int .i64 q, ev (mkV l k p)] W _
        rw [hW1 p, hp]
        exact wrap_some s q _ _ W
      · intro p W hW
        have := where_ev (wrV (mkV l k p) s q) W hW
        rw [hW3 p] at this
        exact this
      · intro p W hW
        have := path_ev (wrV (mkV l k p) s q) W hW (by rw [hW3 p]; simp; omega)
        rw [hW3 p] at this
        refine this.mono ?_
        rintro e w' ⟨u, rfl, hown, hb⟩
        obtain ⟨g, cap, rfl, hcap, h0, hs⟩ := owns_cons hown
        exact ⟨g, cap, _, rfl, fun W => slice_tail g l.length cap hcap W, h0, hs, hb⟩
      · intro p W hW
        have := path_ev (mkV l k p) W hW (by rw [mk_st, hst]; omega)
        rw [mk_st, hst] at this
        refine this.mono ?_
        rintro e w' ⟨u, rfl, hown, hb⟩
        have hS := strs_of_owns hown
        rcases hown.2 with ⟨rfl, h0⟩ | ⟨g, cap, cur, rfl, _⟩
        · exact ⟨none, 0, by rw [h0], by rw [h0]; exact hS, hb⟩
        · exact ⟨_, _, rfl, hS, hb⟩
      · intro p W hW
        have := of_ev (wrV (mkV l k p) s q) W hW
        rwa [hW2 p] at this
      · intro p W hW
        have := of_ev (mkV l k p) W hW
        rwa [mk_of] at this
      · intro p W hW
        have := again_ev (wrV (mkV l k p) s q) W hW
        rwa [hW4 p] at this
      · exact fun p W hW hS => same_ev (mkV l k p) v l k W hW hS (by omega) (mk_none l k p) (mk_of l k p) (mk_st l k p)
  · obtain ⟨ao, cap, rfl⟩ := hv.form
    exact wraps_far ao l.length cap k s q w hg (by omega)
end Go.Proofs.YtdkbehbpdcfbdaaDoor
