/-
  THE DOCUMENT's FRAMES AS BYTES (castellanref04.Put). Conditions: the body's cells hold it, no more than four thousand bytes.
  THE FRAME THAT BYTES BEGIN WITH (castellanref04.Next). Conditions: the bytes' cells hold them, no more than two thousand.
  THE FRAME THAT BYTES BEGIN WITH (castellanref04.Next), as one function of the bytes. Conditions: the bytes' cells hold them, no more than two thousand.
-/
import Derived.Test.YtenahnbfaekljaaDoorFrM
import Derived.Test.YtenahnbfaekljaaDoorMH
import Derived.Test.YtenahnbfaekljaaDoorML
namespace Go.Proofs.YtenahnbfaekljaaDoor
open Go.RowKit

set_option maxRecDepth 100000 in
set_option maxHeartbeats 4000000 in
theorem fput_kind (K : Int) (ao : Option Addr) (L cap : Nat) (w : World) (h : K < 0 ∨ (¬ K < 0 ∧ 63 < K)) :
    Calls Tryd.prog 9 #[.agg #[.int .i64 K, .slice ao L cap]] w fun e w' => e = .returned (.tuple #[.slice none 0 0, .int .i64 5, .int .i64 K]) ∧ Below w.heap.size w w' := by
  rcases h with h | ⟨h, h2⟩
  all_goals
    go_enter Tryd.func9, Tryd.ntmps9
    go_wp2
    go_region
    go_wp2
    exact bodyPost_ret (v := .tuple #[.slice none 0 0, .int .i64 5, .int .i64 K]) (by simp [results, Tryd.results9, go_sem]) rfl ⟨rfl, ((Below.refl _ _).alloc (Nat.le_refl _) _).drew⟩
set_option maxRecDepth 100000 in
set_option maxHeartbeats 4000000 in
theorem fput_ok (K : Int) (v : Value) (l : List Int) (w : World) (hv : Sl bc w v l) (hl : l.length ≤ 4000) (hby : Byt l) (h0 : ¬ K < 0) (h1 : ¬ 63 < K) :
    Calls Tryd.prog 9 #[.agg #[.int .i64 K, v]] w fun e w' => ∃ v', e = .returned (.tuple #[v', .int .i64 0, .int .i64 0]) ∧ Sl bc w' v' (frameL K l) ∧ Below w.heap.size w w' := by
  have HV := hide hv
  have HY := hide hby
  have h8 := intL_le l.length
  obtain ⟨ao, cap, rfl⟩ := hv.form
  clear hv hby
  have hlim : ¬ 16384 < (l.length : Int) := by omega
  have hb0 : Below w.heap.size w ((w.alloc (.cells #[.int .i64 K, .slice ao l.length cap] 24)).alloc (.cells #[.int .u8 197, .int .u8 K] 5)) := ((Below.refl _ _).alloc (Nat.le_refl _) _).alloc (by simp) _
  have hrw : Rw (w.heap.size + 1) ((w.alloc (.cells #[.int .i64 K, .slice ao l.length cap] 24)).alloc (.cells #[.int .u8 197, .int .u8 K] 5)) (.slice (some ⟨w.heap.size + 1, 0, none⟩) 2 2) 2 (bv [197, K]) := by
    have := rw_new (w.alloc (.cells #[.int .i64 K, .slice ao l.length cap] 24)) [197, K] (by simp [maxLen])
    simpa [bv] using this
  have HB0 := hide hb0
  have HRW := hide hrw
  have hsz : ((w.alloc (.cells #[.int .i64 K, .slice ao l.length cap] 24)).alloc (.cells #[.int .u8 197, .int .u8 K] 5)).heap.size = w.heap.size + 2 := by simp
  have HZ := hide hsz
  clear hb0 hrw hsz
  go_enter Tryd.func9, Tryd.ntmps9
  go_wp2_with fail
  refine (refText_any _ l _ (HV.out.below HB0.out) hl).mono ?_
  rintro e w1 ⟨z, rfl, hz, hb1⟩
  have hzs : Sl bc w1 z (intL l.length ++ l) := sl_of_owns (base := _) (e := 5) (by simpa [bv_eq] using hz)
  have HZS := hide hzs
  have HRW1 := hide (HRW.out.below hb1)
  have HB1 := hide (HB0.out.trans (hb1.mono (by rw [HZ.out]; omega)))
  have hs1 : w.heap.size + 2 ≤ w1.heap.size := by have := hb1.size; rw [HZ.out] at this; exact this
  clear hz hzs hb1 HRW
  go_wp2_with (first | (at_builtin; refine wpList_append_sl _ rfl _ _ rfl (w.heap.size + 1) _ 2 (bv [197, K]) rfl HRW1.out (by omega) _ (intL l.length ++ l) rfl HZS.out (by simp; omega) ?_))
  intro w2 v2 cur2 hp2
  have hS : Sl bc w2 v2 (frameB K l) := by
    have h1 := hp2.rw.owns
    rw [hp2.tk] at h1
    refine sl_of_owns (base := w.heap.size + 1) (e := 5) ?_
    have e1 : (frameB K l).map bc = List.take 2 (bv [197, K]) ++ bv (intL l.length ++ l) := by simp [frameB, bv_eq]
    have e2 : (frameB K l).length = 2 + (intL l.length ++ l).length := by simp [frameB]; omega
    rw [e1, e2]
    simpa using h1
  have HB2 := hide (HB1.out.trans (hp2.below.mono (show w.heap.size ≤ w.heap.size + 1 by omega)))
  have HP := hide (refPut_any v2 (frameB K l) w2 hS (by simp [frameB]; omega) (frameB_byt (by omega) (by omega) HY.out))
  clear hp2 hS
  go_wp2_with fail
  refine (HP.out).mono ?_
  rintro e w3 ⟨v3, rfl, hown, hb3⟩
  have hs3 : Sl bc w3 v3 (frameL K l) := sl_of_owns (base := w2.heap.size) (e := 5) hown
  have HS3 := hide hs3
  have HB3 := hide (HB2.out.trans (hb3.mono HB2.out.size))
  clear hown hb3 hs3
  go_wp2_with fail
  exact bodyPost_ret (v := .tuple #[v3, .int .i64 0, .int .i64 0]) (by simp [results, Tryd.results9, go_sem]) rfl ⟨_, rfl, HS3.out, HB3.out⟩
end Go.Proofs.YtenahnbfaekljaaDoor
namespace Go.Proofs.YtenahnbfaekljaaDoor
open Go.RowKit

/-- What is found, as a value. -/
def fdv (K : Int) (b : Value) (size c : Int) (op : ByteArray) (at' : Int) : Value := .agg #[.int .i64 K, b, .int .i64 size, .int .i64 c, .string op, .int .i64 at']
def fd0 : Value := fdv 0 (.slice none 0 0) 0 0 ⟨#[]⟩ 0
set_option maxRecDepth 100000 in
set_option maxHeartbeats 4000000 in
theorem next_none (ao : Option Addr) (cap : Nat) (w : World) : Calls Tryd.prog 14 #[.slice ao 0 cap] w fun e w' => e = .returned fd0 ∧ Below w.heap.size w w' := by
  unfold fd0 fdv
  go_enter Tryd.func14, Tryd.ntmps14
  go_wp2
  exact bodyPost_ret (v := .agg #[.int .i64 0, .slice none 0 0, .int .i64 0, .int .i64 0, .string ⟨#[]⟩, .int .i64 0]) (by simp [results, Tryd.results14, go_sem]) rfl ⟨rfl, (Below.refl _ _).alloc (Nat.le_refl _) _⟩
set_option maxRecDepth 100000 in
set_option maxHeartbeats 4000000 in
theorem next_sign (b o L cap : Nat) (x : Int) (w : World) (hL : 0 < L) (hx : (x != 197) = true) (c0 : w.cell? ⟨b, o, none⟩ = some (.int .u8 x)) : Calls Tryd.prog 14 #[.slice (some ⟨b, o, none⟩) L cap] w fun e w' => e = .returned (fdv 0 (.slice none 0 0) 0 5 ⟨#[115, 105, 103, 110]⟩ 0) ∧ Below w.heap.size w w' := by
  have hbl := cell_block c0
  have hL' : 0 < (L : Int) := by omega
  unfold fdv
  go_enter Tryd.func14, Tryd.ntmps14
  go_wp2
  exact bodyPost_ret (v := .agg #[.int .i64 0, .slice none 0 0, .int .i64 0, .int .i64 5, .string ⟨#[115, 105, 103, 110]⟩, .int .i64 0]) (by simp [results, Tryd.results14, go_sem]) rfl ⟨rfl, (Below.refl _ _).alloc (Nat.le_refl _) _⟩
set_option maxRecDepth 100000 in
set_option maxHeartbeats 4000000 in
theorem next_one (b o cap : Nat) (w : World) (c0 : w.cell? ⟨b, o, none⟩ = some (.int .u8 197)) : Calls Tryd.prog 14 #[.slice (some ⟨b, o, none⟩) 1 cap] w fun e w' => e = .returned fd0 ∧ Below w.heap.size w w' := by
  have hbl := cell_block c0
  unfold fd0 fdv
  go_enter Tryd.func14, Tryd.ntmps14
  go_wp2
  exact bodyPost_ret (v := .agg #[.int .i64 0, .slice none 0 0, .int .i64 0, .int .i64 0, .string ⟨#[]⟩, .int .i64 0]) (by simp [results, Tryd.results14, go_sem]) rfl ⟨rfl, (Below.refl _ _).alloc (Nat.le_refl _) _⟩
set_option maxRecDepth 100000 in
set_option maxHeartbeats 4000000 in
theorem next_kind (b o L cap : Nat) (x : Int) (w : World) (hL : 1 < L) (hx : 63 < x) (c0 : w.cell? ⟨b, o, none⟩ = some (.int .u8 197)) (c1 : w.cell? ⟨b, o + 1, none⟩ = some (.int .u8 x)) : Calls Tryd.prog 14 #[.slice (some ⟨b, o, none⟩) L cap] w fun e w' => e = .returned (fdv 0 (.slice none 0 0) 0 5 ⟨#[107, 105, 110, 100]⟩ 1) ∧ Below w.heap.size w w' := by
  have hbl := cell_block c0
  have hL' : 1 < (L : Int) := by omega
  have hL0 : 0 < (L : Int) := by omega
  unfold fdv
  go_enter Tryd.func14, Tryd.ntmps14
  go_wp2
  exact bodyPost_ret (v := .agg #[.int .i64 0, .slice none 0 0, .int .i64 0, .int .i64 5, .string ⟨#[107, 105, 110, 100]⟩, .int .i64 1]) (by simp [results, Tryd.results14, go_sem]) rfl ⟨rfl, (Below.refl _ _).alloc (Nat.le_refl _) _⟩
set_option maxRecDepth 100000 in
set_option maxHeartbeats 4000000 in
theorem next_two (b o cap : Nat) (x : Int) (w : World) (hx : ¬ 63 < x) (c0 : w.cell? ⟨b, o, none⟩ = some (.int .u8 197)) (c1 : w.cell? ⟨b, o + 1, none⟩ = some (.int .u8 x)) : Calls Tryd.prog 14 #[.slice (some ⟨b, o, none⟩) 2 cap] w fun e w' => e = .returned fd0 ∧ Below w.heap.size w w' := by
  have hbl := cell_block c0
  unfold fd0 fdv
  go_enter Tryd.func14, Tryd.ntmps14
  go_wp2
  exact bodyPost_ret (v := .agg #[.int .i64 0, .slice none 0 0, .int .i64 0, .int .i64 0, .string ⟨#[]⟩, .int .i64 0]) (by simp [results, Tryd.results14, go_sem]) rfl ⟨rfl, (Below.refl _ _).alloc (Nat.le_refl _) _⟩
theorem set6 {u : World} {n : Nat} {x0 x1 x2 x3 x4 x5 y0 y1 y2 y3 y4 y5 : Value} (h0 : u.cell? ⟨n, 0, none⟩ = some y0) (h1 : u.cell? ⟨n, 1, none⟩ = some y1) (h2 : u.cell? ⟨n, 2, none⟩ = some y2) (h3 : u.cell? ⟨n, 3, none⟩ = some y3) (h4 : u.cell? ⟨n, 4, none⟩ = some y4) (h5 : u.cell? ⟨n, 5, none⟩ = some y5) :
    ∀ W, W = ((((((u.setCell ⟨n, 0, none⟩ x0).setCell ⟨n, 1, none⟩ x1).setCell ⟨n, 2, none⟩ x2).setCell ⟨n, 3, none⟩ x3).setCell ⟨n, 4, none⟩ x4).setCell ⟨n, 5, none⟩ x5) →
    W.cell? ⟨n, 0, none⟩ = some x0 ∧ W.cell? ⟨n, 1, none⟩ = some x1 ∧ W.cell? ⟨n, 2, none⟩ = some x2 ∧ W.cell? ⟨n, 3, none⟩ = some x3 ∧ W.cell? ⟨n, 4, none⟩ = some x4 ∧ W.cell? ⟨n, 5, none⟩ = some x5 := by
  rintro W rfl
  have o : ∀ (v : World) (i j : Nat) (s : Value), ¬ i = j → (v.setCell ⟨n, i, none⟩ s).cell? ⟨n, j, none⟩ = v.cell? ⟨n, j, none⟩ := fun v i j s h => World.cell?_setCell_other _ _ _ _ (fun q => h (congrArg Addr.off q))
  refine ⟨?_, ?_, ?_, ?_, ?_, ?_⟩
  · rw [o _ _ _ _ (by decide), o _ _ _ _ (by decide), o _ _ _ _ (by decide), o _ _ _ _ (by decide), o _ _ _ _ (by decide)]
    exact World.cell?_setCell_same _ _ _ h0
  · rw [o _ _ _ _ (by decide), o _ _ _ _ (by decide), o _ _ _ _ (by decide), o _ _ _ _ (by decide)]
    exact World.cell?_setCell_same _ _ _ (u := y1) (by rw [o _ _ _ _ (by decide)]; exact h1)
  · rw [o _ _ _ _ (by decide), o _ _ _ _ (by decide), o _ _ _ _ (by decide)]
    exact World.cell?_setCell_same _ _ _ (u := y2) (by rw [o _ _ _ _ (by decide), o _ _ _ _ (by decide)]; exact h2)
  · rw [o _ _ _ _ (by decide), o _ _ _ _ (by decide)]
    exact World.cell?_setCell_same _ _ _ (u := y3) (by rw [o _ _ _ _ (by decide), o _ _ _ _ (by decide), o _ _ _ _ (by decide)]; exact h3)
  · rw [o _ _ _ _ (by decide)]
    exact World.cell?_setCell_same _ _ _ (u := y4) (by rw [o _ _ _ _ (by decide), o _ _ _ _ (by decide), o _ _ _ _ (by decide), o _ _ _ _ (by decide)]; exact h4)
  · exact World.cell?_setCell_same _ _ _ (u := y5) (by rw [o _ _ _ _ (by decide), o _ _ _ _ (by decide), o _ _ _ _ (by decide), o _ _ _ _ (by decide), o _ _ _ _ (by decide)]; exact h5)
/-- The six cells of what is found, as they begin. -/
structure Fd6 (W : World) (n : Nat) : Prop where
  c : W.cell? ⟨n, 0, none⟩ = some (.int .i64 0) ∧ W.cell? ⟨n, 1, none⟩ = some (.slice none 0 0) ∧ W.cell? ⟨n, 2, none⟩ = some (.int .i64 0) ∧ W.cell? ⟨n, 3, none⟩ = some (.int .i64 0) ∧ W.cell? ⟨n, 4, none⟩ = some (.string ⟨#[]⟩) ∧ W.cell? ⟨n, 5, none⟩ = some (.int .i64 0)
  fz : ∀ i, W.frozen? ⟨n, i, none⟩ = false
theorem Fd6.below {W W' : World} {n : Nat} (h : Fd6 W n) (hb : Below W.heap.size W W') : Fd6 W' n := by
  obtain ⟨⟨h0, h1, h2, h3, h4, h5⟩, hf⟩ := h
  have hl : n < W.heap.size := cell_block h0
  exact ⟨⟨(hb.cell (p := ⟨n, 0, none⟩) hl).trans h0, (hb.cell (p := ⟨n, 1, none⟩) hl).trans h1, (hb.cell (p := ⟨n, 2, none⟩) hl).trans h2, (hb.cell (p := ⟨n, 3, none⟩) hl).trans h3, (hb.cell (p := ⟨n, 4, none⟩) hl).trans h4, (hb.cell (p := ⟨n, 5, none⟩) hl).trans h5⟩, fun i => (hb.frozen (p := ⟨n, i, none⟩) hl).trans (hf i)⟩
set_option maxRecDepth 100000 in
set_option maxHeartbeats 4000000 in
theorem next_more (b o L cap : Nat) (x A C WH nn : Int) (OP : ByteArray) (w : World) (hL : 3 ≤ L) (hc : L ≤ cap) (hl : L ≤ 2000) (hx : ¬ 63 < x) (c0 : w.cell? ⟨b, o, none⟩ = some (.int .u8 197)) (c1 : w.cell? ⟨b, o + 1, none⟩ = some (.int .u8 x))
    (HC : Hid (∀ W, Below w.heap.size w W → Calls Tryd.prog 33 #[.slice (some ⟨b, o + 2, none⟩) (L - 2) (cap - 2), .agg #[.int .i64 0, .int .i64 0, .string ⟨#[]⟩, .int .i64 0], .agg #[.int .i64 1, .int .i64 16384, .int .i64 0]] W fun e w' => e = .returned (.tuple #[.agg #[.int .i64 A, .int .i64 C, .string OP, .int .i64 WH], .agg #[.int .u64 nn, .bool false, .slice none 0 0, .slice none 0 0]]) ∧ Below W.heap.size W w')) (hC : (C == 3) = true) :
    Calls Tryd.prog 14 #[.slice (some ⟨b, o, none⟩) L cap] w fun e w' => e = .returned (fdv 0 (.slice none 0 0) 0 0 ⟨#[]⟩ 0) ∧ Below w.heap.size w w' := by
  have hbl := cell_block c0
  have hL' : ¬ (L : Int) < 3 := by omega
  have hL1 : 1 < (L : Int) := by omega
  have hL0 : 0 < (L : Int) := by omega
  have hcl : ¬ cap = 2 := by omega
  have hb1 : Below w.heap.size w (w.alloc (.cells #[.int .i64 0, .slice none 0 0, .int .i64 0, .int .i64 0, .string ⟨#[]⟩, .int .i64 0] 43)) := (Below.refl _ _).alloc (Nat.le_refl _) _
  have HB1 := hide hb1
  clear hb1
  unfold fdv
  go_enter Tryd.func14, Tryd.ntmps14
  go_wp2_with fail
  refine (HC.out _ HB1.out).mono ?_
  rintro e w2 ⟨rfl, hb2⟩
  have hn : w.heap.size < w2.heap.size := by have := hb2.size; simp at this; omega
  have q : ∀ i, w2.cell? ⟨w.heap.size, i, none⟩ = (w.alloc (.cells #[.int .i64 0, .slice none 0 0, .int .i64 0, .int .i64 0, .string ⟨#[]⟩, .int .i64 0] 43)).cell? ⟨w.heap.size, i, none⟩ := fun i => hb2.cell (p := ⟨w.heap.size, i, none⟩) (by simp)
  have fz : ∀ i, w2.frozen? ⟨w.heap.size, i, none⟩ = false := fun i => (hb2.frozen (p := ⟨w.heap.size, i, none⟩) (by simp)).trans (World.frozen?_alloc_at _ _ _ _ rfl)
  have q0 : w2.cell? ⟨w.heap.size, 0, none⟩ = some (.int .i64 0) := by rw [q]; simp
  have q1 : w2.cell? ⟨w.heap.size, 1, none⟩ = some (.slice none 0 0) := by rw [q]; simp
  have q2 : w2.cell? ⟨w.heap.size, 2, none⟩ = some (.int .i64 0) := by rw [q]; simp
  have q3 : w2.cell? ⟨w.heap.size, 3, none⟩ = some (.int .i64 0) := by rw [q]; simp
  have q4 : w2.cell? ⟨w.heap.size, 4, none⟩ = some (.string ⟨#[]⟩) := by rw [q]; simp
  have q5 : w2.cell? ⟨w.heap.size, 5, none⟩ = some (.int .i64 0) := by rw [q]; simp
  have f0 := fz 0
  have f1 := fz 1
  have f2 := fz 2
  have f3 := fz 3
  have f4 := fz 4
  have f5 := fz 5
  have HFZ := hide fz
  have HB2 := hide (HB1.out.trans (hb2.mono (by simp)))
  clear q fz hb2
  go_wp2
  have T := set6 (x0 := .int .i64 0) (x1 := .slice none 0 0) (x2 := .int .i64 0) (x3 := .int .i64 0) (x4 := .string ⟨#[]⟩) (x5 := .int .i64 0) q0 q1 q2 q3 q4 q5
  have hBf := ((((((HB2.out.setCell (p := ⟨w.heap.size, 0, none⟩) (Nat.le_refl _) (.int .i64 0)).setCell (p := ⟨w.heap.size, 1, none⟩) (Nat.le_refl _) (.slice none 0 0)).setCell (p := ⟨w.heap.size, 2, none⟩) (Nat.le_refl _) (.int .i64 0)).setCell (p := ⟨w.heap.size, 3, none⟩) (Nat.le_refl _) (.int .i64 0)).setCell (p := ⟨w.heap.size, 4, none⟩) (Nat.le_refl _) (.string ⟨#[]⟩)).setCell (p := ⟨w.heap.size, 5, none⟩) (Nat.le_refl _) (.int .i64 0))
  obtain ⟨WF, hWF⟩ : ∃ WF, WF = ((((((w2.setCell ⟨w.heap.size, 0, none⟩ (.int .i64 0)).setCell ⟨w.heap.size, 1, none⟩ (.slice none 0 0)).setCell ⟨w.heap.size, 2, none⟩ (.int .i64 0)).setCell ⟨w.heap.size, 3, none⟩ (.int .i64 0)).setCell ⟨w.heap.size, 4, none⟩ (.string ⟨#[]⟩)).setCell ⟨w.heap.size, 5, none⟩ (.int .i64 0)) := ⟨_, rfl⟩
  obtain ⟨t0, t1, t2, t3, t4, t5⟩ := T WF hWF
  rw [← hWF] at hBf ⊢
  have z : w.heap.size < WF.heap.size := cell_block t0
  exact bodyPost_ret (v := .agg #[.int .i64 0, .slice none 0 0, .int .i64 0, .int .i64 0, .string ⟨#[]⟩, .int .i64 0]) (by simp [results, Tryd.results14, go_sem, t0, t1, t2, t3, t4, t5, z]) rfl ⟨rfl, (hBf.alloc hBf.size _).alloc (by simp; omega) _⟩
set_option maxRecDepth 100000 in
set_option maxHeartbeats 4000000 in
theorem next_length (b o L cap : Nat) (x A C WH nn : Int) (OP : ByteArray) (w : World) (hL : 3 ≤ L) (hc : L ≤ cap) (hl : L ≤ 2000) (hx : ¬ 63 < x) (c0 : w.cell? ⟨b, o, none⟩ = some (.int .u8 197)) (c1 : w.cell? ⟨b, o + 1, none⟩ = some (.int .u8 x))
    (HC : Hid (∀ W, Below w.heap.size w W → Calls Tryd.prog 33 #[.slice (some ⟨b, o + 2, none⟩) (L - 2) (cap - 2), .agg #[.int .i64 0, .int .i64 0, .string ⟨#[]⟩, .int .i64 0], .agg #[.int .i64 1, .int .i64 16384, .int .i64 0]] W fun e w' => e = .returned (.tuple #[.agg #[.int .i64 A, .int .i64 C, .string OP, .int .i64 WH], .agg #[.int .u64 nn, .bool false, .slice none 0 0, .slice none 0 0]]) ∧ Below W.heap.size W w')) (hC : (C == 3) = false) (hC2 : (C != 0) = true) :
    Calls Tryd.prog 14 #[.slice (some ⟨b, o, none⟩) L cap] w fun e w' => e = .returned (fdv 0 (.slice none 0 0) 0 C ⟨#[108, 101, 110, 103, 116, 104]⟩ 2) ∧ Below w.heap.size w w' := by
  have hbl := cell_block c0
  have hL' : ¬ (L : Int) < 3 := by omega
  have hL1 : 1 < (L : Int) := by omega
  have hL0 : 0 < (L : Int) := by omega
  have hcl : ¬ cap = 2 := by omega
  have hb1 : Below w.heap.size w (w.alloc (.cells #[.int .i64 0, .slice none 0 0, .int .i64 0, .int .i64 0, .string ⟨#[]⟩, .int .i64 0] 43)) := (Below.refl _ _).alloc (Nat.le_refl _) _
  have HB1 := hide hb1
  clear hb1
  unfold fdv
  go_enter Tryd.func14, Tryd.ntmps14
  go_wp2_with fail
  refine (HC.out _ HB1.out).mono ?_
  rintro e w2 ⟨rfl, hb2⟩
  have hn : w.heap.size < w2.heap.size := by have := hb2.size; simp at this; omega
  have q : ∀ i, w2.cell? ⟨w.heap.size, i, none⟩ = (w.alloc (.cells #[.int .i64 0, .slice none 0 0, .int .i64 0, .int .i64 0, .string ⟨#[]⟩, .int .i64 0] 43)).cell? ⟨w.heap.size, i, none⟩ := fun i => hb2.cell (p := ⟨w.heap.size, i, none⟩) (by simp)
  have fz : ∀ i, w2.frozen? ⟨w.heap.size, i, none⟩ = false := fun i => (hb2.frozen (p := ⟨w.heap.size, i, none⟩) (by simp)).trans (World.frozen?_alloc_at _ _ _ _ rfl)
  have q0 : w2.cell? ⟨w.heap.size, 0, none⟩ = some (.int .i64 0) := by rw [q]; simp
  have q1 : w2.cell? ⟨w.heap.size, 1, none⟩ = some (.slice none 0 0) := by rw [q]; simp
  have q2 : w2.cell? ⟨w.heap.size, 2, none⟩ = some (.int .i64 0) := by rw [q]; simp
  have q3 : w2.cell? ⟨w.heap.size, 3, none⟩ = some (.int .i64 0) := by rw [q]; simp
  have q4 : w2.cell? ⟨w.heap.size, 4, none⟩ = some (.string ⟨#[]⟩) := by rw [q]; simp
  have q5 : w2.cell? ⟨w.heap.size, 5, none⟩ = some (.int .i64 0) := by rw [q]; simp
  have f0 := fz 0
  have f1 := fz 1
  have f2 := fz 2
  have f3 := fz 3
  have f4 := fz 4
  have f5 := fz 5
  have HFZ := hide fz
  have HB2 := hide (HB1.out.trans (hb2.mono (by simp)))
  clear q fz hb2
  go_wp2
  have T := set6 (x0 := .int .i64 0) (x1 := .slice none 0 0) (x2 := .int .i64 0) (x3 := .int .i64 C) (x4 := .string ⟨#[108, 101, 110, 103, 116, 104]⟩) (x5 := .int .i64 2) q0 q1 q2 q3 q4 q5
  have hBf := ((((((HB2.out.setCell (p := ⟨w.heap.size, 0, none⟩) (Nat.le_refl _) (.int .i64 0)).setCell (p := ⟨w.heap.size, 1, none⟩) (Nat.le_refl _) (.slice none 0 0)).setCell (p := ⟨w.heap.size, 2, none⟩) (Nat.le_refl _) (.int .i64 0)).setCell (p := ⟨w.heap.size, 3, none⟩) (Nat.le_refl _) (.int .i64 C)).setCell (p := ⟨w.heap.size, 4, none⟩) (Nat.le_refl _) (.string ⟨#[108, 101, 110, 103, 116, 104]⟩)).setCell (p := ⟨w.heap.size, 5, none⟩) (Nat.le_refl _) (.int .i64 2))
  obtain ⟨WF, hWF⟩ : ∃ WF, WF = ((((((w2.setCell ⟨w.heap.size, 0, none⟩ (.int .i64 0)).setCell ⟨w.heap.size, 1, none⟩ (.slice none 0 0)).setCell ⟨w.heap.size, 2, none⟩ (.int .i64 0)).setCell ⟨w.heap.size, 3, none⟩ (.int .i64 C)).setCell ⟨w.heap.size, 4, none⟩ (.string ⟨#[108, 101, 110, 103, 116, 104]⟩)).setCell ⟨w.heap.size, 5, none⟩ (.int .i64 2)) := ⟨_, rfl⟩
  obtain ⟨t0, t1, t2, t3, t4, t5⟩ := T WF hWF
  rw [← hWF] at hBf ⊢
  have z : w.heap.size < WF.heap.size := cell_block t0
  exact bodyPost_ret (v := .agg #[.int .i64 0, .slice none 0 0, .int .i64 0, .int .i64 C, .string ⟨#[108, 101, 110, 103, 116, 104]⟩, .int .i64 2]) (by simp [results, Tryd.results14, go_sem, t0, t1, t2, t3, t4, t5, z]) rfl ⟨rfl, (hBf.alloc hBf.size _).alloc (by simp; omega) _⟩
set_option maxRecDepth 100000 in
set_option maxHeartbeats 4000000 in
theorem next_wait (b o L cap : Nat) (x WH : Int) (k m : Nat) (OP : ByteArray) (w : World) (hL : 3 ≤ L) (hc : L ≤ cap) (hl : L ≤ 2000) (hx : ¬ 63 < x) (c0 : w.cell? ⟨b, o, none⟩ = some (.int .u8 197)) (c1 : w.cell? ⟨b, o + 1, none⟩ = some (.int .u8 x))
    (HC : Hid (∀ W, Below w.heap.size w W → Calls Tryd.prog 33 #[.slice (some ⟨b, o + 2, none⟩) (L - 2) (cap - 2), .agg #[.int .i64 0, .int .i64 0, .string ⟨#[]⟩, .int .i64 0], .agg #[.int .i64 1, .int .i64 16384, .int .i64 0]] W fun e w' => e = .returned (.tuple #[.agg #[.int .i64 (k : Int), .int .i64 0, .string OP, .int .i64 WH], .agg #[.int .u64 (m : Int), .bool false, .slice none 0 0, .slice none 0 0]]) ∧ Below W.heap.size W w')) (hk : k ≤ 8) (hm : m ≤ 16384) (hE : L < 2 + k + m + 4) :
    Calls Tryd.prog 14 #[.slice (some ⟨b, o, none⟩) L cap] w fun e w' => e = .returned (fdv 0 (.slice none 0 0) 0 0 ⟨#[]⟩ 0) ∧ Below w.heap.size w w' := by
  have hbl := cell_block c0
  have hL' : ¬ (L : Int) < 3 := by omega
  have hL1 : 1 < (L : Int) := by omega
  have hL0 : 0 < (L : Int) := by omega
  have hcl : ¬ cap = 2 := by omega
  have hb1 : Below w.heap.size w (w.alloc (.cells #[.int .i64 0, .slice none 0 0, .int .i64 0, .int .i64 0, .string ⟨#[]⟩, .int .i64 0] 43)) := (Below.refl _ _).alloc (Nat.le_refl _) _
  have HB1 := hide hb1
  clear hb1
  unfold fdv
  go_enter Tryd.func14, Tryd.ntmps14
  go_wp2_with fail
  refine (HC.out _ HB1.out).mono ?_
  rintro e w2 ⟨rfl, hb2⟩
  have hn : w.heap.size < w2.heap.size := by have := hb2.size; simp at this; omega
  have q : ∀ i, w2.cell? ⟨w.heap.size, i, none⟩ = (w.alloc (.cells #[.int .i64 0, .slice none 0 0, .int .i64 0, .int .i64 0, .string ⟨#[]⟩, .int .i64 0] 43)).cell? ⟨w.heap.size, i, none⟩ := fun i => hb2.cell (p := ⟨w.heap.size, i, none⟩) (by simp)
  have fz : ∀ i, w2.frozen? ⟨w.heap.size, i, none⟩ = false := fun i => (hb2.frozen (p := ⟨w.heap.size, i, none⟩) (by simp)).trans (World.frozen?_alloc_at _ _ _ _ rfl)
  have q0 : w2.cell? ⟨w.heap.size, 0, none⟩ = some (.int .i64 0) := by rw [q]; simp
  have q1 : w2.cell? ⟨w.heap.size, 1, none⟩ = some (.slice none 0 0) := by rw [q]; simp
  have q2 : w2.cell? ⟨w.heap.size, 2, none⟩ = some (.int .i64 0) := by rw [q]; simp
  have q3 : w2.cell? ⟨w.heap.size, 3, none⟩ = some (.int .i64 0) := by rw [q]; simp
  have q4 : w2.cell? ⟨w.heap.size, 4, none⟩ = some (.string ⟨#[]⟩) := by rw [q]; simp
  have q5 : w2.cell? ⟨w.heap.size, 5, none⟩ = some (.int .i64 0) := by rw [q]; simp
  have f0 := fz 0
  have f1 := fz 1
  have f2 := fz 2
  have f3 := fz 3
  have f4 := fz 4
  have f5 := fz 5
  have HFZ := hide fz
  have HB2 := hide (HB1.out.trans (hb2.mono (by simp)))
  clear q fz hb2
  have hE' : (L : Int) < 2 + (k : Int) + (m : Int) + 4 := by omega
  go_wp2
  have T := set6 (x0 := .int .i64 0) (x1 := .slice none 0 0) (x2 := .int .i64 0) (x3 := .int .i64 0) (x4 := .string ⟨#[]⟩) (x5 := .int .i64 0) q0 q1 q2 q3 q4 q5
  have hBf := ((((((HB2.out.setCell (p := ⟨w.heap.size, 0, none⟩) (Nat.le_refl _) (.int .i64 0)).setCell (p := ⟨w.heap.size, 1, none⟩) (Nat.le_refl _) (.slice none 0 0)).setCell (p := ⟨w.heap.size, 2, none⟩) (Nat.le_refl _) (.int .i64 0)).setCell (p := ⟨w.heap.size, 3, none⟩) (Nat.le_refl _) (.int .i64 0)).setCell (p := ⟨w.heap.size, 4, none⟩) (Nat.le_refl _) (.string ⟨#[]⟩)).setCell (p := ⟨w.heap.size, 5, none⟩) (Nat.le_refl _) (.int .i64 0))
  obtain ⟨WF, hWF⟩ : ∃ WF, WF = ((((((w2.setCell ⟨w.heap.size, 0, none⟩ (.int .i64 0)).setCell ⟨w.heap.size, 1, none⟩ (.slice none 0 0)).setCell ⟨w.heap.size, 2, none⟩ (.int .i64 0)).setCell ⟨w.heap.size, 3, none⟩ (.int .i64 0)).setCell ⟨w.heap.size, 4, none⟩ (.string ⟨#[]⟩)).setCell ⟨w.heap.size, 5, none⟩ (.int .i64 0)) := ⟨_, rfl⟩
  obtain ⟨t0, t1, t2, t3, t4, t5⟩ := T WF hWF
  rw [← hWF] at hBf ⊢
  have z : w.heap.size < WF.heap.size := cell_block t0
  exact bodyPost_ret (v := .agg #[.int .i64 0, .slice none 0 0, .int .i64 0, .int .i64 0, .string ⟨#[]⟩, .int .i64 0]) (by simp [results, Tryd.results14, go_sem, t0, t1, t2, t3, t4, t5, z]) rfl ⟨rfl, (hBf.alloc hBf.size _).alloc (by simp; omega) _⟩
set_option maxRecDepth 100000 in
set_option maxHeartbeats 4000000 in
theorem next_sum (b o L cap : Nat) (x WH : Int) (k m : Nat) (OP : ByteArray) (w : World) (hL : 3 ≤ L) (hc : L ≤ cap) (hl : L ≤ 2000) (hx : ¬ 63 < x) (c0 : w.cell? ⟨b, o, none⟩ = some (.int .u8 197)) (c1 : w.cell? ⟨b, o + 1, none⟩ = some (.int .u8 x))
    (HC : Hid (∀ W, Below w.heap.size w W → Calls Tryd.prog 33 #[.slice (some ⟨b, o + 2, none⟩) (L - 2) (cap - 2), .agg #[.int .i64 0, .int .i64 0, .string ⟨#[]⟩, .int .i64 0], .agg #[.int .i64 1, .int .i64 16384, .int .i64 0]] W fun e w' => e = .returned (.tuple #[.agg #[.int .i64 (k : Int), .int .i64 0, .string OP, .int .i64 WH], .agg #[.int .u64 (m : Int), .bool false, .slice none 0 0, .slice none 0 0]]) ∧ Below W.heap.size W w')) (hk : k ≤ 8) (hm : m ≤ 16384) (E F : Nat) (hE : (2 : Int) + (k : Int) + (m : Int) = (E : Int)) (hF : (E : Int) + 4 = (F : Int)) (hFL : F ≤ L) (X : List Int)
    (H10 : Hid (∀ W, Below w.heap.size w W → Calls Tryd.prog 28 #[.slice (some ⟨b, o, none⟩) E cap] W fun e w' => ∃ v, e = .returned v ∧ Sl bc w' v X ∧ Below W.heap.size W w'))
    (H9 : Hid (∀ W v, Below w.heap.size w W → Sl bc W v X → Calls Tryd.prog 12 #[v, .slice (some ⟨b, o, none⟩) F cap] W fun e w' => e = .returned (.bool false) ∧ Below W.heap.size W w')) :
    Calls Tryd.prog 14 #[.slice (some ⟨b, o, none⟩) L cap] w fun e w' => e = .returned (fdv 0 (.slice none 0 0) 0 4 ⟨#[115, 117, 109]⟩ (E : Int)) ∧ Below w.heap.size w w' := by
  have hbl := cell_block c0
  have hL' : ¬ (L : Int) < 3 := by omega
  have hL1 : 1 < (L : Int) := by omega
  have hL0 : 0 < (L : Int) := by omega
  have hcl : ¬ cap = 2 := by omega
  have hb1 : Below w.heap.size w (w.alloc (.cells #[.int .i64 0, .slice none 0 0, .int .i64 0, .int .i64 0, .string ⟨#[]⟩, .int .i64 0] 43)) := (Below.refl _ _).alloc (Nat.le_refl _) _
  have HB1 := hide hb1
  clear hb1
  unfold fdv
  go_enter Tryd.func14, Tryd.ntmps14
  go_wp2_with fail
  refine (HC.out _ HB1.out).mono ?_
  rintro e w2 ⟨rfl, hb2⟩
  have hn : w.heap.size < w2.heap.size := by have := hb2.size; simp at this; omega
  have q : ∀ i, w2.cell? ⟨w.heap.size, i, none⟩ = (w.alloc (.cells #[.int .i64 0, .slice none 0 0, .int .i64 0, .int .i64 0, .string ⟨#[]⟩, .int .i64 0] 43)).cell? ⟨w.heap.size, i, none⟩ := fun i => hb2.cell (p := ⟨w.heap.size, i, none⟩) (by simp)
  have fz : ∀ i, w2.frozen? ⟨w.heap.size, i, none⟩ = false := fun i => (hb2.frozen (p := ⟨w.heap.size, i, none⟩) (by simp)).trans (World.frozen?_alloc_at _ _ _ _ rfl)
  have q0 : w2.cell? ⟨w.heap.size, 0, none⟩ = some (.int .i64 0) := by rw [q]; simp
  have q1 : w2.cell? ⟨w.heap.size, 1, none⟩ = some (.slice none 0 0) := by rw [q]; simp
  have q2 : w2.cell? ⟨w.heap.size, 2, none⟩ = some (.int .i64 0) := by rw [q]; simp
  have q3 : w2.cell? ⟨w.heap.size, 3, none⟩ = some (.int .i64 0) := by rw [q]; simp
  have q4 : w2.cell? ⟨w.heap.size, 4, none⟩ = some (.string ⟨#[]⟩) := by rw [q]; simp
  have q5 : w2.cell? ⟨w.heap.size, 5, none⟩ = some (.int .i64 0) := by rw [q]; simp
  have f0 := fz 0
  have f1 := fz 1
  have f2 := fz 2
  have f3 := fz 3
  have f4 := fz 4
  have f5 := fz 5
  have HFZ := hide fz
  have HB2 := hide (HB1.out.trans (hb2.mono (by simp)))
  clear q fz hb2
  have hE' : ¬ (L : Int) < (F : Int) := by omega
  have hWr : IntKind.i64.wrap ((E : Int) + 4) = (F : Int) := by rw [IntKind.wrap_i64]; omega
  have hEc : (E : Int) ≤ (cap : Int) := by omega
  have hFc : (F : Int) ≤ (cap : Int) := by omega
  have hEc2 : E ≤ cap := by omega
  have hFc2 : F ≤ cap := by omega
  have hEe : ((E : Int) + 4) = (F : Int) := hF
  have HEe := hide hEe
  clear hF hEe
  go_wp2_with fail
  have K0 : Fd6 ((w2.alloc (.cells #[.int .i64 (k : Int), .int .i64 0, .string OP, .int .i64 WH] 76)).alloc (.cells #[.int .u64 (m : Int), .bool false, .slice none 0 0, .slice none 0 0] 80)) w.heap.size := (Fd6.mk ⟨q0, q1, q2, q3, q4, q5⟩ (fun i => HFZ.out i)).below (((Below.refl _ _).alloc (Nat.le_refl _) _).alloc (by simp) _)
  have HK := hide K0
  have HB3 := hide ((HB2.out.alloc HB2.out.size (.cells #[.int .i64 (k : Int), .int .i64 0, .string OP, .int .i64 WH] 76)).alloc (by have := HB2.out.size; simp; omega) (.cells #[.int .u64 (m : Int), .bool false, .slice none 0 0, .slice none 0 0] 80))
  clear K0 q0 q1 q2 q3 q4 q5 f0 f1 f2 f3 f4 f5
  generalize (w2.alloc (.cells #[.int .i64 (k : Int), .int .i64 0, .string OP, .int .i64 WH] 76)).alloc (.cells #[.int .u64 (m : Int), .bool false, .slice none 0 0, .slice none 0 0] 80) = w3 at *
  have HF : Hid (∀ W, Below w3.heap.size w3 W → True) := hide (fun _ _ => trivial)
  have HS0 := hide (hs_drew (F := fun _ => True) HF.out (Nat.le_refl _))
  go_region_held3 (fun W => True ∧ Below w3.heap.size w3 W ∧ w3.heap.size ≤ W.heap.size)
    (first | with_reducible assumption | with_reducible exact hs_call (F := fun _ => True) HF.out (by assumption) (by assumption) | with_reducible exact HS0.out)
    (first
      | (go_at_call 28; refine (H10.out _ ?_).mono ?_; exact HB3.out.trans (Below.mono (And.left (And.right (by assumption))) HB3.out.size); rintro e w' ⟨vx, rfl, hsx, hb⟩)
      | (go_at_call 12; refine (H9.out _ _ ?_ hsx).mono ?_; exact HB3.out.trans (Below.mono (And.left (And.right (by assumption))) HB3.out.size); rintro e w' ⟨rfl, hb⟩))
  have hfin : Below w3.heap.size w3 w' := And.left (And.right (by assumption))
  obtain ⟨⟨q0, q1, q2, q3, q4, q5⟩, fz⟩ := HK.out.below hfin
  have f0 := fz 0
  have f1 := fz 1
  have f2 := fz 2
  have f3 := fz 3
  have f4 := fz 4
  have f5 := fz 5
  have HBF := hide (HB3.out.trans (hfin.mono HB3.out.size))
  clear hfin fz
  go_wp2
  have T := set6 (x0 := .int .i64 0) (x1 := .slice none 0 0) (x2 := .int .i64 0) (x3 := .int .i64 4) (x4 := .string ⟨#[115, 117, 109]⟩) (x5 := .int .i64 (E : Int)) q0 q1 q2 q3 q4 q5
  have hBf := ((((((HBF.out.setCell (p := ⟨w.heap.size, 0, none⟩) (Nat.le_refl _) (.int .i64 0)).setCell (p := ⟨w.heap.size, 1, none⟩) (Nat.le_refl _) (.slice none 0 0)).setCell (p := ⟨w.heap.size, 2, none⟩) (Nat.le_refl _) (.int .i64 0)).setCell (p := ⟨w.heap.size, 3, none⟩) (Nat.le_refl _) (.int .i64 4)).setCell (p := ⟨w.heap.size, 4, none⟩) (Nat.le_refl _) (.string ⟨#[115, 117, 109]⟩)).setCell (p := ⟨w.heap.size, 5, none⟩) (Nat.le_refl _) (.int .i64 (E : Int)))
  obtain ⟨WF, hWF⟩ : ∃ WF, WF = ((((((w'.setCell ⟨w.heap.size, 0, none⟩ (.int .i64 0)).setCell ⟨w.heap.size, 1, none⟩ (.slice none 0 0)).setCell ⟨w.heap.size, 2, none⟩ (.int .i64 0)).setCell ⟨w.heap.size, 3, none⟩ (.int .i64 4)).setCell ⟨w.heap.size, 4, none⟩ (.string ⟨#[115, 117, 109]⟩)).setCell ⟨w.heap.size, 5, none⟩ (.int .i64 (E : Int))) := ⟨_, rfl⟩
  obtain ⟨t0, t1, t2, t3, t4, t5⟩ := T WF hWF
  rw [← hWF] at hBf ⊢
  exact bodyPost_ret (v := .agg #[.int .i64 0, .slice none 0 0, .int .i64 0, .int .i64 4, .string ⟨#[115, 117, 109]⟩, .int .i64 (E : Int)]) (by simp [results, Tryd.results14, go_sem, t0, t1, t2, t3, t4, t5]) rfl ⟨rfl, hBf⟩
set_option maxRecDepth 100000 in
set_option maxHeartbeats 4000000 in
theorem next_ok (b o L cap : Nat) (x WH : Int) (k m : Nat) (OP : ByteArray) (w : World) (hL : 3 ≤ L) (hc : L ≤ cap) (hl : L ≤ 2000) (hx : ¬ 63 < x) (c0 : w.cell? ⟨b, o, none⟩ = some (.int .u8 197)) (c1 : w.cell? ⟨b, o + 1, none⟩ = some (.int .u8 x))
    (HC : Hid (∀ W, Below w.heap.size w W → Calls Tryd.prog 33 #[.slice (some ⟨b, o + 2, none⟩) (L - 2) (cap - 2), .agg #[.int .i64 0, .int .i64 0, .string ⟨#[]⟩, .int .i64 0], .agg #[.int .i64 1, .int .i64 16384, .int .i64 0]] W fun e w' => e = .returned (.tuple #[.agg #[.int .i64 (k : Int), .int .i64 0, .string OP, .int .i64 WH], .agg #[.int .u64 (m : Int), .bool false, .slice none 0 0, .slice none 0 0]]) ∧ Below W.heap.size W w')) (hk : k ≤ 8) (hm : m ≤ 16384) (hx0 : 0 ≤ x) (E F G : Nat) (hG : (2 : Int) + (k : Int) = (G : Int)) (hE : (G : Int) + (m : Int) = (E : Int)) (hF : (E : Int) + 4 = (F : Int)) (hFL : F ≤ L) (X : List Int)
    (H10 : Hid (∀ W, Below w.heap.size w W → Calls Tryd.prog 28 #[.slice (some ⟨b, o, none⟩) E cap] W fun e w' => ∃ v, e = .returned v ∧ Sl bc w' v X ∧ Below W.heap.size W w'))
    (H9 : Hid (∀ W v, Below w.heap.size w W → Sl bc W v X → Calls Tryd.prog 12 #[v, .slice (some ⟨b, o, none⟩) F cap] W fun e w' => e = .returned (.bool true) ∧ Below W.heap.size W w')) :
    Calls Tryd.prog 14 #[.slice (some ⟨b, o, none⟩) L cap] w fun e w' => e = .returned (fdv x (.slice (some ⟨b, o + G, none⟩) (E - G) (cap - G)) (F : Int) 0 ⟨#[]⟩ 0) ∧ Below w.heap.size w w' := by
  have hbl := cell_block c0
  have hL' : ¬ (L : Int) < 3 := by omega
  have hL1 : 1 < (L : Int) := by omega
  have hL0 : 0 < (L : Int) := by omega
  have hcl : ¬ cap = 2 := by omega
  have hb1 : Below w.heap.size w (w.alloc (.cells #[.int .i64 0, .slice none 0 0, .int .i64 0, .int .i64 0, .string ⟨#[]⟩, .int .i64 0] 43)) := (Below.refl _ _).alloc (Nat.le_refl _) _
  have HB1 := hide hb1
  clear hb1
  unfold fdv
  go_enter Tryd.func14, Tryd.ntmps14
  go_wp2_with fail
  refine (HC.out _ HB1.out).mono ?_
  rintro e w2 ⟨rfl, hb2⟩
  have hn : w.heap.size < w2.heap.size := by have := hb2.size; simp at this; omega
  have q : ∀ i, w2.cell? ⟨w.heap.size, i, none⟩ = (w.alloc (.cells #[.int .i64 0, .slice none 0 0, .int .i64 0, .int .i64 0, .string ⟨#[]⟩, .int .i64 0] 43)).cell? ⟨w.heap.size, i, none⟩ := fun i => hb2.cell (p := ⟨w.heap.size, i, none⟩) (by simp)
  have fz : ∀ i, w2.frozen? ⟨w.heap.size, i, none⟩ = false := fun i => (hb2.frozen (p := ⟨w.heap.size, i, none⟩) (by simp)).trans (World.frozen?_alloc_at _ _ _ _ rfl)
  have q0 : w2.cell? ⟨w.heap.size, 0, none⟩ = some (.int .i64 0) := by rw [q]; simp
  have q1 : w2.cell? ⟨w.heap.size, 1, none⟩ = some (.slice none 0 0) := by rw [q]; simp
  have q2 : w2.cell? ⟨w.heap.size, 2, none⟩ = some (.int .i64 0) := by rw [q]; simp
  have q3 : w2.cell? ⟨w.heap.size, 3, none⟩ = some (.int .i64 0) := by rw [q]; simp
  have q4 : w2.cell? ⟨w.heap.size, 4, none⟩ = some (.string ⟨#[]⟩) := by rw [q]; simp
  have q5 : w2.cell? ⟨w.heap.size, 5, none⟩ = some (.int .i64 0) := by rw [q]; simp
  have f0 := fz 0
  have f1 := fz 1
  have f2 := fz 2
  have f3 := fz 3
  have f4 := fz 4
  have f5 := fz 5
  have HFZ := hide fz
  have HB2 := hide (HB1.out.trans (hb2.mono (by simp)))
  clear q fz hb2
  have hE' : ¬ (L : Int) < (F : Int) := by omega
  have hWr : IntKind.i64.wrap ((E : Int) + 4) = (F : Int) := by rw [IntKind.wrap_i64]; omega
  have hGc : (G : Int) ≤ (cap : Int) := by omega
  have hGE : (G : Int) ≤ (E : Int) := by omega
  have hGc2 : G ≤ cap := by omega
  have hGE2 : G ≤ E := by omega
  have hGn : ¬ cap = G := by omega
  have hEc : (E : Int) ≤ (cap : Int) := by omega
  have hFc : (F : Int) ≤ (cap : Int) := by omega
  have hEc2 : E ≤ cap := by omega
  have hFc2 : F ≤ cap := by omega
  have hEe : ((E : Int) + 4) = (F : Int) := hF
  have HEe := hide hEe
  clear hF hEe
  go_wp2_with fail
  have K0 : Fd6 ((w2.alloc (.cells #[.int .i64 (k : Int), .int .i64 0, .string OP, .int .i64 WH] 76)).alloc (.cells #[.int .u64 (m : Int), .bool false, .slice none 0 0, .slice none 0 0] 80)) w.heap.size := (Fd6.mk ⟨q0, q1, q2, q3, q4, q5⟩ (fun i => HFZ.out i)).below (((Below.refl _ _).alloc (Nat.le_refl _) _).alloc (by simp) _)
  have HK := hide K0
  have HB3 := hide ((HB2.out.alloc HB2.out.size (.cells #[.int .i64 (k : Int), .int .i64 0, .string OP, .int .i64 WH] 76)).alloc (by have := HB2.out.size; simp; omega) (.cells #[.int .u64 (m : Int), .bool false, .slice none 0 0, .slice none 0 0] 80))
  clear K0 q0 q1 q2 q3 q4 q5 f0 f1 f2 f3 f4 f5
  generalize (w2.alloc (.cells #[.int .i64 (k : Int), .int .i64 0, .string OP, .int .i64 WH] 76)).alloc (.cells #[.int .u64 (m : Int), .bool false, .slice none 0 0, .slice none 0 0] 80) = w3 at *
  have HF : Hid (∀ W, Below w3.heap.size w3 W → True) := hide (fun _ _ => trivial)
  have HS0 := hide (hs_drew (F := fun _ => True) HF.out (Nat.le_refl _))
  go_region_held3 (fun W => True ∧ Below w3.heap.size w3 W ∧ w3.heap.size ≤ W.heap.size)
    (first | with_reducible assumption | with_reducible exact hs_call (F := fun _ => True) HF.out (by assumption) (by assumption) | with_reducible exact HS0.out)
    (first
      | (go_at_call 28; refine (H10.out _ ?_).mono ?_; exact HB3.out.trans (Below.mono (And.left (And.right (by assumption))) HB3.out.size); rintro e w' ⟨vx, rfl, hsx, hb⟩)
      | (go_at_call 12; refine (H9.out _ _ ?_ hsx).mono ?_; exact HB3.out.trans (Below.mono (And.left (And.right (by assumption))) HB3.out.size); rintro e w' ⟨rfl, hb⟩))
  have hfin : Below w3.heap.size w3 w' := And.left (And.right (by assumption))
  obtain ⟨⟨q0, q1, q2, q3, q4, q5⟩, fz⟩ := HK.out.below hfin
  have f0 := fz 0
  have f1 := fz 1
  have f2 := fz 2
  have f3 := fz 3
  have f4 := fz 4
  have f5 := fz 5
  have HBF := hide (HB3.out.trans (hfin.mono HB3.out.size))
  have hc1 : w'.cell? ⟨b, o + 1, none⟩ = some (.int .u8 x) := (HBF.out.cell (p := ⟨b, o + 1, none⟩) hbl).trans c1
  clear hfin fz
  go_wp2
  go_region
  go_wp2
  have T := set6 (x0 := .int .i64 x) (x1 := .slice (some ⟨b, o + G, none⟩) (E - G) (cap - G)) (x2 := .int .i64 (F : Int)) (x3 := .int .i64 0) (x4 := .string ⟨#[]⟩) (x5 := .int .i64 0) q0 q1 q2 q3 q4 q5
  have hBf := ((((((HBF.out.setCell (p := ⟨w.heap.size, 0, none⟩) (Nat.le_refl _) (.int .i64 x)).setCell (p := ⟨w.heap.size, 1, none⟩) (Nat.le_refl _) (.slice (some ⟨b, o + G, none⟩) (E - G) (cap - G))).setCell (p := ⟨w.heap.size, 2, none⟩) (Nat.le_refl _) (.int .i64 (F : Int))).setCell (p := ⟨w.heap.size, 3, none⟩) (Nat.le_refl _) (.int .i64 0)).setCell (p := ⟨w.heap.size, 4, none⟩) (Nat.le_refl _) (.string ⟨#[]⟩)).setCell (p := ⟨w.heap.size, 5, none⟩) (Nat.le_refl _) (.int .i64 0))
  obtain ⟨WF, hWF⟩ : ∃ WF, WF = ((((((w'.setCell ⟨w.heap.size, 0, none⟩ (.int .i64 x)).setCell ⟨w.heap.size, 1, none⟩ (.slice (some ⟨b, o + G, none⟩) (E - G) (cap - G))).setCell ⟨w.heap.size, 2, none⟩ (.int .i64 (F : Int))).setCell ⟨w.heap.size, 3, none⟩ (.int .i64 0)).setCell ⟨w.heap.size, 4, none⟩ (.string ⟨#[]⟩)).setCell ⟨w.heap.size, 5, none⟩ (.int .i64 0)) := ⟨_, rfl⟩
  obtain ⟨t0, t1, t2, t3, t4, t5⟩ := T WF hWF
  rw [← hWF] at hBf ⊢
  exact bodyPost_ret (v := .agg #[.int .i64 x, .slice (some ⟨b, o + G, none⟩) (E - G) (cap - G), .int .i64 (F : Int), .int .i64 0, .string ⟨#[]⟩, .int .i64 0]) (by simp [results, Tryd.results14, go_sem, t0, t1, t2, t3, t4, t5]) rfl ⟨rfl, hBf.drew⟩
end Go.Proofs.YtenahnbfaekljaaDoor
namespace Go.Proofs.YtenahnbfaekljaaDoor
open Go.RowKit

theorem next_full (v : Value) (l : List Int) (w : World) (hv : Sl bc w v l) (hl : l.length ≤ 2000) (hby : Byt l) :
    Calls Tryd.prog 14 #[v] w fun e w' => ∃ u, e = .returned (fdv (nextS l).K u (nextS l).size (nextS l).c (nextS l).op (nextS l).wh) ∧ Sl bc w' u (nextS l).body ∧ Below w.heap.size w w' ∧ ∀ b o k c, u = .slice (some ⟨b, o, none⟩) k c → ∃ o' k' c', v = .slice (some ⟨b, o', none⟩) k' c' := by
  unfold nextS
  by_cases h0 : l.length = 0
  · rw [if_pos h0]
    obtain ⟨ao, cap, rfl⟩ := hv.form
    rw [h0]
    refine (next_none ao cap w).mono ?_
    rintro e w' ⟨rfl, hb⟩
    exact ⟨.slice none 0 0, rfl, Sl.nil _ _ _ _, hb, fun _ _ _ _ h => by cases h⟩
  rw [if_neg h0]
  rcases hv with ⟨ao, cap, rfl, rfl⟩ | ⟨b, o, cap, rfl, hc, h3⟩
  · exact absurd rfl h0
  have g0 : l.getD 0 0 = l[0] := by simp [List.getD, show 0 < l.length by omega]
  have c0 := h3 0 (by omega)
  rw [← g0, Nat.add_zero] at c0
  by_cases h1 : l.getD 0 0 ≠ 197
  · rw [if_pos h1]
    refine (next_sign b o l.length cap _ w (by omega) (by simpa using h1) c0).mono ?_
    rintro e w' ⟨rfl, hb⟩
    exact ⟨.slice none 0 0, rfl, Sl.nil _ _ _ _, hb, fun _ _ _ _ h => by cases h⟩
  rw [if_neg h1]
  have h1' : l.getD 0 0 = 197 := by omega
  rw [h1'] at c0
  by_cases h2 : l.length = 1
  · rw [if_pos h2, h2]
    refine (next_one b o cap w c0).mono ?_
    rintro e w' ⟨rfl, hb⟩
    exact ⟨.slice none 0 0, rfl, Sl.nil _ _ _ _, hb, fun _ _ _ _ h => by cases h⟩
  rw [if_neg h2]
  have g1 : l.getD 1 0 = l[1] := by simp [List.getD, show 1 < l.length by omega]
  have c1 := h3 1 (by omega)
  rw [← g1] at c1
  have hx0 : 0 ≤ l.getD 1 0 := by rw [g1]; exact (hby _ (List.getElem_mem _)).1
  by_cases h4 : 63 < l.getD 1 0
  · rw [if_pos h4]
    refine (next_kind b o l.length cap _ w (by omega) h4 c0 c1).mono ?_
    rintro e w' ⟨rfl, hb⟩
    exact ⟨.slice none 0 0, rfl, Sl.nil _ _ _ _, hb, fun _ _ _ _ h => by cases h⟩
  rw [if_neg h4]
  by_cases h5 : l.length = 2
  · rw [if_pos h5, h5]
    refine (next_two b o cap _ w h4 c0 c1).mono ?_
    rintro e w' ⟨rfl, hb⟩
    exact ⟨.slice none 0 0, rfl, Sl.nil _ _ _ _, hb, fun _ _ _ _ h => by cases h⟩
  rw [if_neg h5]
  generalize l.getD 1 0 = x at *
  have hd : (l.drop 2).length = l.length - 2 := List.length_drop
  have hsl : Sl bc w (.slice (some ⟨b, o + 2, none⟩) (l.length - 2) (cap - 2)) (l.drop 2) := by
    refine .inr ⟨b, o + 2, cap - 2, by rw [hd], by rw [hd]; omega, fun i hi => ?_⟩
    rw [hd] at hi
    have := h3 (2 + i) (by omega)
    rw [← Nat.add_assoc] at this
    rw [this, List.getElem_drop]
  have hbd := fun y hy => hby y (List.mem_of_mem_drop (i := 2) hy)
  have h14 := fun W (h : Sl bc W (.slice (some ⟨b, o + 2, none⟩) (l.length - 2) (cap - 2)) (l.drop 2)) => num_next _ (l.drop 2) 0 0 16384 ⟨#[]⟩ W h (by omega) hbd
  have h15 := fun W => above_any 16384 W (by decide)
  rw [show abv 16384 = 16384 from rfl] at h15
  rw [List.drop_zero] at h14
  rcases hq : numS (l.drop 2) 16384 with ⟨c, k, n⟩
  rw [hq] at h14
  simp only [stN] at h14
  have hrc : ∃ A C OP WH, (if c = 0 then stv (0 + k : Nat) 0 ⟨#[]⟩ 0 else stv (0 : Nat) c ⟨#[110, 117, 109]⟩ (0 : Nat)) = .agg #[.int .i64 A, .int .i64 C, .string OP, .int .i64 WH] ∧ C = c ∧ (c = 0 → A = (k : Int)) := by
    by_cases hc0 : c = 0
    · rw [if_pos hc0]; exact ⟨_, _, _, _, rfl, hc0.symm, fun _ => by simp⟩
    · rw [if_neg hc0]; exact ⟨_, _, _, _, rfl, rfl, fun h => absurd h hc0⟩
  obtain ⟨A, C, OP, WH, hX, rfl, hAk⟩ := hrc
  simp only [hX] at h14
  unfold stv at h14
  have HC := fun W (h : Below w.heap.size w W) => read_num1 _ (l.drop 2) 0 0 16384 16384 0 A C WH n ⟨#[]⟩ OP W (hsl.below h) (hide h15) (hide h14)
  unfold nextT
  simp only
  by_cases hc3 : C = 3
  · rw [if_pos hc3]
    refine (next_more b o l.length cap x A C WH n OP w (by omega) hc hl h4 c0 c1 (hide HC) (by simpa using hc3)).mono ?_
    rintro e w' ⟨rfl, hb⟩
    exact ⟨.slice none 0 0, rfl, Sl.nil _ _ _ _, hb, fun _ _ _ _ h => by cases h⟩
  rw [if_neg hc3]
  by_cases hc0 : C ≠ 0
  · rw [if_pos hc0]
    refine (next_length b o l.length cap x A C WH n OP w (by omega) hc hl h4 c0 c1 (hide HC) (by simpa using hc3) (by simpa using hc0)).mono ?_
    rintro e w' ⟨rfl, hb⟩
    exact ⟨.slice none 0 0, rfl, Sl.nil _ _ _ _, hb, fun _ _ _ _ h => by cases h⟩
  rw [if_neg hc0]
  obtain rfl : C = 0 := by omega
  obtain rfl := hAk rfl
  obtain ⟨_, hkn, n0, _, nm, hkl⟩ := numS_once hbd hq
  have hk8 : k ≤ 8 := by rw [hkn]; exact numL_le n
  obtain ⟨m, rfl⟩ := Int.eq_ofNat_of_zero_le n0
  simp only [Int.toNat_natCast]
  by_cases hw : l.length < 2 + k + m + 4
  · rw [if_pos hw]
    refine (next_wait b o l.length cap x WH k m OP w (by omega) hc hl h4 c0 c1 (hide HC) hk8 (by omega) hw).mono ?_
    rintro e w' ⟨rfl, hb⟩
    exact ⟨.slice none 0 0, rfl, Sl.nil _ _ _ _, hb, fun _ _ _ _ h => by cases h⟩
  rw [if_neg hw]
  have tk : ∀ j, j ≤ l.length → (l.take j).length = j := fun j hj => by rw [List.length_take]; omega
  have hs : ∀ j W, j ≤ l.length → Below w.heap.size w W → Sl bc W (.slice (some ⟨b, o, none⟩) j cap) (l.take j) := fun j W hj hb => by
    refine Sl.below (w := w) ?_ hb
    refine .inr ⟨b, o, cap, by rw [tk j hj], by rw [tk j hj]; omega, fun i hi => ?_⟩
    rw [tk j hj] at hi
    rw [List.getElem_take]
    exact h3 i (by omega)
  have hbt : ∀ j, Byt (l.take j) := fun j y hy => hby y (List.mem_of_mem_take hy)
  have H10 : ∀ W, Below w.heap.size w W → Calls Tryd.prog 28 #[.slice (some ⟨b, o, none⟩) (2 + k + m) cap] W fun e w' => ∃ v, e = .returned v ∧ Sl bc w' v (l.take (2 + k + m) ++ le4 (crcL (l.take (2 + k + m)))) ∧ Below W.heap.size W w' := fun W hb => by
    refine (refPut_any _ (l.take (2 + k + m)) W (hs _ W (by omega) hb) (by rw [tk _ (by omega)]; omega) (hbt _)).mono ?_
    rintro e w' ⟨v', rfl, hown, hb'⟩
    exact ⟨v', rfl, sl_of_owns (base := W.heap.size) (e := 5) hown, hb'⟩
  have H9 := fun W v (hb : Below w.heap.size w W) (h : Sl bc W v (l.take (2 + k + m) ++ le4 (crcL (l.take (2 + k + m))))) => same_any v (.slice (some ⟨b, o, none⟩) (2 + k + m + 4) cap) _ (l.take (2 + k + m + 4)) W h (hs _ W (by omega) hb) (by rw [List.length_append, tk _ (by omega)]; simp [le4]; omega)
  by_cases he : l.take (2 + k + m) ++ le4 (crcL (l.take (2 + k + m))) = l.take (2 + k + m + 4)
  · rw [if_pos he]
    simp only [decide_eq_true he] at H9
    refine (next_ok b o l.length cap x WH k m OP w (by omega) hc hl h4 c0 c1 (hide HC) hk8 (by omega) hx0 (2 + k + m) (2 + k + m + 4) (2 + k) (by simp) (by simp) (by simp) (by omega) _ (hide H10) (hide H9)).mono ?_
    rintro e w' ⟨rfl, hb⟩
    refine ⟨_, rfl, ?_, hb, fun _ _ _ _ h => by cases h; exact ⟨_, _, _, rfl⟩⟩
    have hlen : ((l.drop (2 + k)).take m).length = m := by rw [List.length_take, List.length_drop]; omega
    rw [show 2 + k + m - (2 + k) = m by omega]
    refine .inr ⟨b, o + (2 + k), cap - (2 + k), by rw [hlen], by rw [hlen]; omega, fun i hi => ?_⟩
    rw [hlen] at hi
    have h9 := h3 (2 + k + i) (by omega)
    rw [← Nat.add_assoc o] at h9
    rw [hb.cell (p := ⟨b, o + (2 + k) + i, none⟩) (cell_block h9), h9]
    simp [List.getElem_take, List.getElem_drop]
  · rw [if_neg he]
    simp only [decide_eq_false he] at H9
    refine (next_sum b o l.length cap x WH k m OP w (by omega) hc hl h4 c0 c1 (hide HC) hk8 (by omega) (2 + k + m) (2 + k + m + 4) (by simp) (by simp) (by omega) _ (hide H10) (hide H9)).mono ?_
    rintro e w' ⟨rfl, hb⟩
    exact ⟨.slice none 0 0, rfl, Sl.nil _ _ _ _, hb, fun _ _ _ _ h => by cases h⟩
theorem next_any (v : Value) (l : List Int) (w : World) (hv : Sl bc w v l) (hl : l.length ≤ 2000) (hby : Byt l) :
    Calls Tryd.prog 14 #[v] w fun e w' => ∃ u, e = .returned (fdv (nextS l).K u (nextS l).size (nextS l).c (nextS l).op (nextS l).wh) ∧ Sl bc w' u (nextS l).body ∧ Below w.heap.size w w' := by
  refine (next_full v l w hv hl hby).mono ?_
  rintro e w' ⟨u, h1, h2, h3, _⟩
  exact ⟨u, h1, h2, h3⟩
end Go.Proofs.YtenahnbfaekljaaDoor
