/-
  THE FRAME THAT BYTES BEGIN WITH (castellanref04.Next). Conditions: the bytes' cells hold them, no more than two thousand.
-/
import Derived.Test.YtenahnbfaekljaaDoorRefFp
import Derived.Test.YtenahnbfaekljaaDoorRefAsk
namespace Go.Proofs.YtenahnbfaekljaaDoor
open Go.RowKit

/-- What is found, as a value. -/
def fdv (K : Int) (b : Value) (size c : Int) (op : ByteArray) (at' : Int) : Value := .agg #[.int .i64 K, b, .int .i64 size, .int .i64 c, .string op, .int .i64 at']
def fd0 : Value := fdv 0 (.slice none 0 0) 0 0 ⟨#[]⟩ 0
set_option maxRecDepth 100000 in
set_option maxHeartbeats 4000000 in
theorem next_none (ao : Option Addr) (cap : Nat) (w : World) : Calls Tryd.prog 14 #[.slice ao 0 cap] w fun e w' => e = .returned fd0 ∧ Below w.heap.size w w' := by
  unfold fd0 fdv
  go_enter Tryd.func14, Tryd.ntmps14
  go_wp2
  exact bodyPost_ret (v := .agg #[.int .i64 0, .slice none 0 0, .int .i64 0, .int .i64 0, .string ⟨#[]⟩, .int .i64 0]) (by simp [results, Tryd.results14, go_sem]) rfl ⟨rfl, (Below.refl _ _).alloc (Nat.le_refl _) _⟩
set_option maxRecDepth 100000 in
set_option maxHeartbeats 4000000 in
theorem next_sign (b o L cap : Nat) (x : Int) (w : World) (hL : 0 < L) (hx : (x != 197) = true) (c0 : w.cell? ⟨b, o, none⟩ = some (.int .u8 x)) : Calls Tryd.prog 14 #[.slice (some ⟨b, o, none⟩) L cap] w fun e w' => e = .returned (fdv 0 (.slice none 0 0) 0 5 ⟨#[115, 105, 103, 110]⟩ 0) ∧ Below w.heap.size w w' := by
  have hbl := cell_block c0
  have hL' : 0 < (L : Int) := by omega
  unfold fdv
  go_enter Tryd.func14, Tryd.ntmps14
  go_wp2
  exact bodyPost_ret (v := .agg #[.int .i64 0, .slice none 0 0, .int .i64 0, .int .i64 5, .string ⟨#[115, 105, 103, 110]⟩, .int .i64 0]) (by simp [results, Tryd.results14, go_sem]) rfl ⟨rfl, (Below.refl _ _).alloc (Nat.le_refl _) _⟩
set_option maxRecDepth 100000 in
set_option maxHeartbeats 4000000 in
theorem next_one (b o cap : Nat) (w : World) (c0 : w.cell? ⟨b, o, none⟩ = some (.int .u8 197)) : Calls Tryd.prog 14 #[.slice (some ⟨b, o, none⟩) 1 cap] w fun e w' => e = .returned fd0 ∧ Below w.heap.size w w' := by
  have hbl := cell_block c0
  unfold fd0 fdv
  go_enter Tryd.func14, Tryd.ntmps14
  go_wp2
  exact bodyPost_ret (v := .agg #[.int .i64 0, .slice none 0 0, .int .i64 0, .int .i64 0, .string ⟨#[]⟩, .int .i64 0]) (by simp [results, Tryd.results14, go_sem]) rfl ⟨rfl, (Below.refl _ _).alloc (Nat.le_refl _) _⟩
set_option maxRecDepth 100000 in
set_option maxHeartbeats 4000000 in
theorem next_kind (b o L cap : Nat) (x : Int) (w : World) (hL : 1 < L) (hx : 63 < x) (c0 : w.cell? ⟨b, o, none⟩ = some (.int .u8 197)) (c1 : w.cell? ⟨b, o + 1, none⟩ = some (.int .u8 x)) : Calls Tryd.prog 14 #[.slice (some ⟨b, o, none⟩) L cap] w fun e w' => e = .returned (fdv 0 (.slice none 0 0) 0 5 ⟨#[107, 105, 110, 100]⟩ 1) ∧ Below w.heap.size w w' := by
  have hbl := cell_block c0
  have hL' : 1 < (L : Int) := by omega
  have hL0 : 0 < (L : Int) := by omega
  unfold fdv
  go_enter Tryd.func14, Tryd.ntmps14
  go_wp2
  exact bodyPost_ret (v := .agg #[.int .i64 0, .slice none 0 0, .int .i64 0, .int .i64 5, .string ⟨#[107, 105, 110, 100]⟩, .int .i64 1]) (by simp [results, Tryd.results14, go_sem]) rfl ⟨rfl, (Below.refl _ _).alloc (Nat.le_refl _) _⟩
set_option maxRecDepth 100000 in
set_option maxHeartbeats 4000000 in
theorem next_two (b o cap : Nat) (x : Int) (w : World) (hx : ¬ 63 < x) (c0 : w.cell? ⟨b, o, none⟩ = some (.int .u8 197)) (c1 : w.cell? ⟨b, o + 1, none⟩ = some (.int .u8 x)) : Calls Tryd.prog 14 #[.slice (some ⟨b, o, none⟩) 2 cap] w fun e w' => e = .returned fd0 ∧ Below w.heap.size w w' := by
  have hbl := cell_block c0
  unfold fd0 fdv
  go_enter Tryd.func14, Tryd.ntmps14
  go_wp2
  exact bodyPost_ret (v := .agg #[.int .i64 0, .slice none 0 0, .int .i64 0, .int .i64 0, .string ⟨#[]⟩, .int .i64 0]) (by simp [results, Tryd.results14, go_sem]) rfl ⟨rfl, (Below.refl _ _).alloc (Nat.le_refl _) _⟩
theorem set6 {u : World} {n : Nat} {x0 x1 x2 x3 x4 x5 y0 y1 y2 y3 y4 y5 : Value} (h0 : u.cell? ⟨n, 0, none⟩ = some y0) (h1 : u.cell? ⟨n, 1, none⟩ = some y1) (h2 : u.cell? ⟨n, 2, none⟩ = some y2) (h3 : u.cell? ⟨n, 3, none⟩ = some y3) (h4 : u.cell? ⟨n, 4, none⟩ = some y4) (h5 : u.cell? ⟨n, 5, none⟩ = some y5) :
    ∀ W, W = ((((((u.setCell ⟨n, 0, none⟩ x0).setCell ⟨n, 1, none⟩ x1).setCell ⟨n, 2, none⟩ x2).setCell ⟨n, 3, none⟩ x3).setCell ⟨n, 4, none⟩ x4).setCell ⟨n, 5, none⟩ x5) →
    W.cell? ⟨n, 0, none⟩ = some x0 ∧ W.cell? ⟨n, 1, none⟩ = some x1 ∧ W.cell? ⟨n, 2, none⟩ = some x2 ∧ W.cell? ⟨n, 3, none⟩ = some x3 ∧ W.cell? ⟨n, 4, none⟩ = some x4 ∧ W.cell? ⟨n, 5, none⟩ = some x5 := by
  rintro W rfl
  have o : ∀ (v : World) (i j : Nat) (s : Value), ¬ i = j → (v.setCell ⟨n, i, none⟩ s).cell? ⟨n, j, none⟩ = v.cell? ⟨n, j, none⟩ := fun v i j s h => World.cell?_setCell_other _ _ _ _ (fun q => h (congrArg Addr.off q))
  refine ⟨?_, ?_, ?_, ?_, ?_, ?_⟩
  · rw [o _ _ _ _ (by decide), o _ _ _ _ (by decide), o _ _ _ _ (by decide), o _ _ _ _ (by decide), o _ _ _ _ (by decide)]
    exact World.cell?_setCell_same _ _ _ h0
  · rw [o _ _ _ _ (by decide), o _ _ _ _ (by decide), o _ _ _ _ (by decide), o _ _ _ _ (by decide)]
    exact World.cell?_setCell_same _ _ _ (u := y1) (by rw [o _ _ _ _ (by decide)]; exact h1)
  · rw [o _ _ _ _ (by decide), o _ _ _ _ (by decide), o _ _ _ _ (by decide)]
    exact World.cell?_setCell_same _ _ _ (u := y2) (by rw [o _ _ _ _ (by decide), o _ _ _ _ (by decide)]; exact h2)
  · rw [o _ _ _ _ (by decide), o _ _ _ _ (by decide)]
    exact World.cell?_setCell_same _ _ _ (u := y3) (by rw [o _ _ _ _ (by decide), o _ _ _ _ (by decide), o _ _ _ _ (by decide)]; exact h3)
  · rw [o _ _ _ _ (by decide)]
    exact World.cell?_setCell_same _ _ _ (u := y4) (by rw [o _ _ _ _ (by decide), o _ _ _ _ (by decide), o _ _ _ _ (by decide), o _ _ _ _ (by decide)]; exact h4)
  · exact World.cell?_setCell_same _ _ _ (u := y5) (by rw [o _ _ _ _ (by decide), o _ _ _ _ (by decide), o _ _ _ _ (by decide), o _ _ _ _ (by decide), o _ _ _ _ (by decide)]; exact h5)
/-- The six cells of what is found, as they begin. -/
structure Fd6 (W : World) (n : Nat) : Prop where
  c : W.cell? ⟨n, 0, none⟩ = some (.int .i64 0) ∧ W.cell? ⟨n, 1, none⟩ = some (.slice none 0 0) ∧ W.cell? ⟨n, 2, none⟩ = some (.int .i64 0) ∧ W.cell? ⟨n, 3, none⟩ = some (.int .i64 0) ∧ W.cell? ⟨n, 4, none⟩ = some (.string ⟨#[]⟩) ∧ W.cell? ⟨n, 5, none⟩ = some (.int .i64 0)
  fz : ∀ i, W.frozen? ⟨n, i, none⟩ = false
theorem Fd6.below {W W' : World} {n : Nat} (h : Fd6 W n) (hb : Below W.heap.size W W') : Fd6 W' n := by
  obtain ⟨⟨h0, h1, h2, h3, h4, h5⟩, hf⟩ := h
  have hl : n < W.heap.size := cell_block h0
  exact ⟨⟨(hb.cell (p := ⟨n, 0, none⟩) hl).trans h0, (hb.cell (p := ⟨n, 1, none⟩) hl).trans h1, (hb.cell (p := ⟨n, 2, none⟩) hl).trans h2, (hb.cell (p := ⟨n, 3, none⟩) hl).trans h3, (hb.cell (p := ⟨n, 4, none⟩) hl).trans h4, (hb.cell (p := ⟨n, 5, none⟩) hl).trans h5⟩, fun i => (hb.frozen (p := ⟨n, i, none⟩) hl).trans (hf i)⟩
set_option maxRecDepth 100000 in
set_option maxHeartbeats 4000000 in
theorem next_more (b o L cap : Nat) (x A C WH nn : Int) (OP : ByteArray) (w : World) (hL : 3 ≤ L) (hc : L ≤ cap) (hl : L ≤ 2000) (hx : ¬ 63 < x) (c0 : w.cell? ⟨b, o, none⟩ = some (.int .u8 197)) (c1 : w.cell? ⟨b, o + 1, none⟩ = some (.int .u8 x))
    (HC : Hid (∀ W, Below w.heap.size w W → Calls Tryd.prog 33 #[.slice (some ⟨b, o + 2, none⟩) (L - 2) (cap - 2), .agg #[.int .i64 0, .int .i64 0, .string ⟨#[]⟩, .int .i64 0], .agg #[.int .i64 1, .int .i64 16384, .int .i64 0]] W fun e w' => e = .returned (.tuple #[.agg #[.int .i64 A, .int .i64 C, .string OP, .int .i64 WH], .agg #[.int .u64 nn, .bool false, .slice none 0 0, .slice none 0 0]]) ∧ Below W.heap.size W w')) (hC : (C == 3) = true) :
    Calls Tryd.prog 14 #[.slice (some ⟨b, o, none⟩) L cap] w fun e w' => e = .returned (fdv 0 (.slice none 0 0) 0 0 ⟨#[]⟩ 0) ∧ Below w.heap.size w w' := by
  have hbl := cell_block c0
  have hL' : ¬ (L : Int) < 3 := by omega
  have hL1 : 1 < (L : Int) := by omega
  have hL0 : 0 < (L : Int) := by omega
  have hcl : ¬ cap = 2 := by omega
  have hb1 : Below w.heap.size w (w.alloc (.cells #[.int .i64 0, .slice none 0 0, .int .i64 0, .int .i64 0, .string ⟨#[]⟩, .int .i64 0] 43)) := (Below.refl _ _).alloc (Nat.le_refl _) _
  have HB1 := hide hb1
  clear hb1
  unfold fdv
  go_enter Tryd.func14, Tryd.ntmps14
  go_wp2_with fail
  refine (HC.out _ HB1.out).mono ?_
  rintro e w2 ⟨rfl, hb2⟩
  have hn : w.heap.size < w2.heap.size := by have := hb2.size; simp at this; omega
  have q : ∀ i, w2.cell? ⟨w.heap.size, i, none⟩ = (w.alloc (.cells #[.int .i64 0, .slice none 0 0, .int .i64 0, .int .i64 0, .string ⟨#[]⟩, .int .i64 0] 43)).cell? ⟨w.heap.size, i, none⟩ := fun i => hb2.cell (p := ⟨w.heap.size, i, none⟩) (by simp)
  have fz : ∀ i, w2.frozen? ⟨w.heap.size, i, none⟩ = false := fun i => (hb2.frozen (p := ⟨w.heap.size, i, none⟩) (by simp)).trans (World.frozen?_alloc_at _ _ _ _ rfl)
  have q0 : w2.cell? ⟨w.heap.size, 0, none⟩ = some (.int .i64 0) := by rw [q]; simp
  have q1 : w2.cell? ⟨w.heap.size, 1, none⟩ = some (.slice none 0 0) := by rw [q]; simp
  have q2 : w2.cell? ⟨w.heap.size, 2, none⟩ = some (.int .i64 0) := by rw [q]; simp
  have q3 : w2.cell? ⟨w.heap.size, 3, none⟩ = some (.int .i64 0) := by rw [q]; simp
  have q4 : w2.cell? ⟨w.heap.size, 4, none⟩ = some (.string ⟨#[]⟩) := by rw [q]; simp
  have q5 : w2.cell? ⟨w.heap.size, 5, none⟩ = some (.int .i64 0) := by rw [q]; simp
  have f0 := fz 0
  have f1 := fz 1
  have f2 := fz 2
  have f3 := fz 3
  have f4 := fz 4
  have f5 := fz 5
  have HFZ := hide fz
  have HB2 := hide (HB1.out.trans (hb2.mono (by simp)))
  clear q fz hb2
  go_wp2
  have T := set6 (x0 := .int .i64 0) (x1 := .slice none 0 0) (x2 := .int .i64 0) (x3 := .int .i64 0) (x4 := .string ⟨#[]⟩) (x5 := .int .i64 0) q0 q1 q2 q3 q4 q5
  have hBf := ((((((HB2.out.setCell (p := ⟨w.heap.size, 0, none⟩) (Nat.le_refl _) (.int .i64 0)).setCell (p := ⟨w.heap.size, 1, none⟩) (Nat.le_refl _) (.slice none 0 0)).setCell (p := ⟨w.heap.size, 2, none⟩) (Nat.le_refl _) (.int .i64 0)).setCell (p := ⟨w.heap.size, 3, none⟩) (Nat.le_refl _) (.int .i64 0)).setCell (p := ⟨w.heap.size, 4, none⟩) (Nat.le_refl _) (.string ⟨#[]⟩)).setCell (p := ⟨w.heap.size, 5, none⟩) (Nat.le_refl _) (.int .i64 0))
  obtain ⟨WF, hWF⟩ : ∃ WF, WF = ((((((w2.setCell ⟨w.heap.size, 0, none⟩ (.int .i64 0)).setCell ⟨w.heap.size, 1, none⟩ (.slice none 0 0)).setCell ⟨w.heap.size, 2, none⟩ (.int .i64 0)).setCell ⟨w.heap.size, 3, none⟩ (.int .i64 0)).setCell ⟨w.heap.size, 4, none⟩ (.string ⟨#[]⟩)).setCell ⟨w.heap.size, 5, none⟩ (.int .i64 0)) := ⟨_, rfl⟩
  obtain ⟨t0, t1, t2, t3, t4, t5⟩ := T WF hWF
  rw [← hWF] at hBf ⊢
  have z : w.heap.size < WF.heap.size := cell_block t0
  exact bodyPost_ret (v := .agg #[.int .i64 0, .slice none 0 0, .int .i64 0, .int .i64 0, .string ⟨#[]⟩, .int .i64 0]) (by simp [results, Tryd.results14, go_sem, t0, t1, t2, t3, t4, t5, z]) rfl ⟨rfl, (hBf.alloc hBf.size _).alloc (by simp; omega) _⟩
set_option maxRecDepth 100000 in
set_option maxHeartbeats 4000000 in
theorem next_length (b o L cap : Nat) (x A C WH nn : Int) (OP : ByteArray) (w : World) (hL : 3 ≤ L) (hc : L ≤ cap) (hl : L ≤ 2000) (hx : ¬ 63 < x) (c0 : w.cell? ⟨b, o, none⟩ = some (.int .u8 197)) (c1 : w.cell? ⟨b, o + 1, none⟩ = some (.int .u8 x))
    (HC : Hid (∀ W, Below w.heap.size w W → Calls Tryd.prog 33 #[.slice (some ⟨b, o + 2, none⟩) (L - 2) (cap - 2), .agg #[.int .i64 0, .int .i64 0, .string ⟨#[]⟩, .int .i64 0], .agg #[.int .i64 1, .int .i64 16384, .int .i64 0]] W fun e w' => e = .returned (.tuple #[.agg #[.int .i64 A, .int .i64 C, .string OP, .int .i64 WH], .agg #[.int .u64 nn, .bool false, .slice none 0 0, .slice none 0 0]]) ∧ Below W.heap.size W w')) (hC : (C == 3) = false) (hC2 : (C != 0) = true) :
    Calls Tryd.prog 14 #[.slice (some ⟨b, o, none⟩) L cap] w fun e w' => e = .returned (fdv 0 (.slice none 0 0) 0 C ⟨#[108, 101, 110, 103, 116, 104]⟩ 2) ∧ Below w.heap.size w w' := by
  have hbl := cell_block c0
  have hL' : ¬ (L : Int) < 3 := by omega
  have hL1 : 1 < (L : Int) := by omega
  have hL0 : 0 < (L : Int) := by omega
  have hcl : ¬ cap = 2 := by omega
  have hb1 : Below w.heap.size w (w.alloc (.cells #[.int .i64 0, .slice none 0 0, .int .i64 0, .int .i64 0, .string ⟨#[]⟩, .int .i64 0] 43)) := (Below.refl _ _).alloc (Nat.le_refl _) _
  have HB1 := hide hb1
  clear hb1
  unfold fdv
  go_enter Tryd.func14, Tryd.ntmps14
  go_wp2_with fail
  refine (HC.out _ HB1.out).mono ?_
  rintro e w2 ⟨rfl, hb2⟩
  have hn : w.heap.size < w2.heap.size := by have := hb2.size; simp at this; omega
  have q : ∀ i, w2.cell? ⟨w.heap.size, i, none⟩ = (w.alloc (.cells #[.int .i64 0, .slice none 0 0, .int .i64 0, .int .i64 0, .string ⟨#[]⟩, .int .i64 0] 43)).cell? ⟨w.heap.size, i, none⟩ := fun i => hb2.cell (p := ⟨w.heap.size, i, none⟩) (by simp)
  have fz : ∀ i, w2.frozen? ⟨w.heap.size, i, none⟩ = false := fun i => (hb2.frozen (p := ⟨w.heap.size, i, none⟩) (by simp)).trans (World.frozen?_alloc_at _ _ _ _ rfl)
  have q0 : w2.cell? ⟨w.heap.size, 0, none⟩ = some (.int .i64 0) := by rw [q]; simp
  have q1 : w2.cell? ⟨w.heap.size, 1, none⟩ = some (.slice none 0 0) := by rw [q]; simp
  have q2 : w2.cell? ⟨w.heap.size, 2, none⟩ = some (.int .i64 0) := by rw [q]; simp
  have q3 : w2.cell? ⟨w.heap.size, 3, none⟩ = some (.int .i64 0) := by rw [q]; simp
  have q4 : w2.cell? ⟨w.heap.size, 4, none⟩ = some (.string ⟨#[]⟩) := by rw [q]; simp
  have q5 : w2.cell? ⟨w.heap.size, 5, none⟩ = some (.int .i64 0) := by rw [q]; simp
  have f0 := fz 0
  have f1 := fz 1
  have f2 := fz 2
  have f3 := fz 3
  have f4 := fz 4
  have f5 := fz 5
  have HFZ := hide fz
  have HB2 := hide (HB1.out.trans (hb2.mono (by simp)))
  clear q fz hb2
  go_wp2
  have T := set6 (x0 := .int .i64 0) (x1 := .slice none 0 0) (x2 := .int .i64 0) (x3 := .int .i64 C) (x4 := .string ⟨#[108, 101, 110, 103, 116, 104]⟩) (x5 := .int .i64 2) q0 q1 q2 q3 q4 q5
  have hBf := ((((((HB2.out.setCell (p := ⟨w.heap.size, 0, none⟩) (Nat.le_refl _) (.int .i64 0)).setCell (p := ⟨w.heap.size, 1, none⟩) (Nat.le_refl _) (.slice none 0 0)).setCell (p := ⟨w.heap.size, 2, none⟩) (Nat.le_refl _) (.int .i64 0)).setCell (p := ⟨w.heap.size, 3, none⟩) (Nat.le_refl _) (.int .i64 C)).setCell (p := ⟨w.heap.size, 4, none⟩) (Nat.le_refl _) (.string ⟨#[108, 101, 110, 103, 116, 104]⟩)).setCell (p := ⟨w.heap.size, 5, none⟩) (Nat.le_refl _) (.int .i64 2))
  obtain ⟨WF, hWF⟩ : ∃ WF, WF = ((((((w2.setCell ⟨w.heap.size, 0, none⟩ (.int .i64 0)).setCell ⟨w.heap.size, 1, none⟩ (.slice none 0 0)).setCell ⟨w.heap.size, 2, none⟩ (.int .i64 0)).setCell ⟨w.heap.size, 3, none⟩ (.int .i64 C)).setCell ⟨w.heap.size, 4, none⟩ (.string ⟨#[108, 101, 110, 103, 116, 104]⟩)).setCell ⟨w.heap.size, 5, none⟩ (.int .i64 2)) := ⟨_, rfl⟩
  obtain ⟨t0, t1, t2, t3, t4, t5⟩ := T WF hWF
  rw [← hWF] at hBf ⊢
  have z : w.heap.size < WF.heap.size := cell_block t0
  exact bodyPost_ret (v := .agg #[.int .i64 0, .slice none 0 0, .int .i64 0, .int .i64 C, .string ⟨#[108, 101, 110, 103, 116, 104]⟩, .int .i64 2]) (by simp [results, Tryd.results14, go_sem, t0, t1, t2, t3, t4, t5, z]) rfl ⟨rfl, (hBf.alloc hBf.size _).alloc (by simp; omega) _⟩
set_option maxRecDepth 100000 in
set_option maxHeartbeats 4000000 in
theorem next_wait (b o L cap : Nat) (x WH : Int) (k m : Nat) (OP : ByteArray) (w : World) (hL : 3 ≤ L) (hc : L ≤ cap) (hl : L ≤ 2000) (hx : ¬ 63 < x) (c0 : w.cell? ⟨b, o, none⟩ = some (.int .u8 197)) (c1 : w.cell? ⟨b, o + 1, none⟩ = some (.int .u8 x))
    (HC : Hid (∀ W, Below w.heap.size w W → Calls Tryd.prog 33 #[.slice (some ⟨b, o + 2, none⟩) (L - 2) (cap - 2), .agg #[.int .i64 0, .int .i64 0, .string ⟨#[]⟩, .int .i64 0], .agg #[.int .i64 1, .int .i64 16384, .int .i64 0]] W fun e w' => e = .returned (.tuple #[.agg #[.int .i64 (k : Int), .int .i64 0, .string OP, .int .i64 WH], .agg #[.int .u64 (m : Int), .bool false, .slice none 0 0, .slice none 0 0]]) ∧ Below W.heap.size W w')) (hk : k ≤ 8) (hm : m ≤ 16384) (hE : L < 2 + k + m + 4) :
    Calls Tryd.prog 14 #[.slice (some ⟨b, o, none⟩) L cap] w fun e w' => e = .returned (fdv 0 (.slice none 0 0) 0 0 ⟨#[]⟩ 0) ∧ Below w.heap.size w w' := by
  have hbl := cell_block c0
  have hL' : ¬ (L : Int) < 3 := by omega
  have hL1 : 1 < (L : Int) := by omega
  have hL0 : 0 < (L : Int) := by omega
  have hcl : ¬ cap = 2 := by omega
  have hb1 : Below w.heap.size w (w.alloc (.cells #[.int .i64 0, .slice none 0 0, .int .i64 0, .int .i64 0, .string ⟨#[]⟩, .int .i64 0] 43)) := (Below.refl _ _).alloc (Nat.le_refl _) _
  have HB1 := hide hb1
  clear hb1
  unfold fdv
  go_enter Tryd.func14, Tryd.ntmps14
  go_wp2_with fail
  refine (HC.out _ HB1.out).mono ?_
  rintro e w2 ⟨rfl, hb2⟩
  have hn : w.heap.size < w2.heap.size := by have := hb2.size; simp at this; omega
  have q : ∀ i, w2.cell? ⟨w.heap.size, i, none⟩ = (w.alloc (.cells #[.int .i64 0, .slice none 0 0, .int .i64 0, .int .i64 0, .string ⟨#[]⟩, .int .i64 0] 43)).cell? ⟨w.heap.size, i, none⟩ := fun i => hb2.cell (p := ⟨w.heap.size, i, none⟩) (by simp)
  have fz : ∀ i, w2.frozen? ⟨w.heap.size, i, none⟩ = false := fun i => (hb2.frozen (p := ⟨w.heap.size, i, none⟩) (by simp)).trans (World.frozen?_alloc_at _ _ _ _ rfl)
  have q0 : w2.cell? ⟨w.heap.size, 0, none⟩ = some (.int .i64 0) := by rw [q]; simp
  have q1 : w2.cell? ⟨w.heap.size, 1, none⟩ = some (.slice none 0 0) := by rw [q]; simp
  have q2 : w2.cell? ⟨w.heap.size, 2, none⟩ = some (.int .i64 0) := by rw [q]; simp
  have q3 : w2.cell? ⟨w.heap.size, 3, none⟩ = some (.int .i64 0) := by rw [q]; simp
  have q4 : w2.cell? ⟨w.heap.size, 4, none⟩ = some (.string ⟨#[]⟩) := by rw [q]; simp
  have q5 : w2.cell? ⟨w.heap.size, 5, none⟩ = some (.int .i64 0) := by rw [q]; simp
  have f0 := fz 0
  have f1 := fz 1
  have f2 := fz 2
  have f3 := fz 3
  have f4 := fz 4
  have f5 := fz 5
  have HFZ := hide fz
  have HB2 := hide (HB1.out.trans (hb2.mono (by simp)))
  clear q fz hb2
  have hE' : (L : Int) < 2 + (k : Int) + (m : Int) + 4 := by omega
  go_wp2
  have T := set6 (x0 := .int .i64 0) (x1 := .slice none 0 0) (x2 := .int .i64 0) (x3 := .int .i64 0) (x4 := .string ⟨#[]⟩) (x5 := .int .i64 0) q0 q1 q2 q3 q4 q5
  have hBf := ((((((HB2.out.setCell (p := ⟨w.heap.size, 0, none⟩) (Nat.le_refl _) (.int .i64 0)).setCell (p := ⟨w.heap.size, 1, none⟩) (Nat.le_refl _) (.slice none 0 0)).setCell (p := ⟨w.heap.size, 2, none⟩) (Nat.le_refl _) (.int .i64 0)).setCell (p := ⟨w.heap.size, 3, none⟩) (Nat.le_refl _) (.int .i64 0)).setCell (p := ⟨w.heap.size, 4, none⟩) (Nat.le_refl _) (.string ⟨#[]⟩)).setCell (p := ⟨w.heap.size, 5, none⟩) (Nat.le_refl _) (.int .i64 0))
  obtain ⟨WF, hWF⟩ : ∃ WF, WF = ((((((w2.setCell ⟨w.heap.size, 0, none⟩ (.int .i64 0)).setCell ⟨w.heap.size, 1, none⟩ (.slice none 0 0)).setCell ⟨w.heap.size, 2, none⟩ (.int .i64 0)).setCell ⟨w.heap.size, 3, none⟩ (.int .i64 0)).setCell ⟨w.heap.size, 4, none⟩ (.string ⟨#[]⟩)).setCell ⟨w.heap.size, 5, none⟩ (.int .i64 0)) := ⟨_, rfl⟩
  obtain ⟨t0, t1, t2, t3, t4, t5⟩ := T WF hWF
  rw [← hWF] at hBf ⊢
  have z : w.heap.size < WF.heap.size := cell_block t0
  exact bodyPost_ret (v := .agg #[.int .i64 0, .slice none 0 0, .int .i64 0, .int .i64 0, .string ⟨#[]⟩, .int .i64 0]) (by simp [results, Tryd.results14, go_sem, t0, t1, t2, t3, t4, t5, z]) rfl ⟨rfl, (hBf.alloc hBf.size _).alloc (by simp; omega) _⟩
set_option maxRecDepth 100000 in
set_option maxHeartbeats 4000000 in
theorem next_sum (b o L cap : Nat) (x WH : Int) (k m : Nat) (OP : ByteArray) (w : World) (hL : 3 ≤ L) (hc : L ≤ cap) (hl : L ≤ 2000) (hx : ¬ 63 < x) (c0 : w.cell? ⟨b, o, none⟩ = some (.int .u8 197)) (c1 : w.cell? ⟨b, o + 1, none⟩ = some (.int .u8 x))
    (HC : Hid (∀ W, Below w.heap.size w W → Calls Tryd.prog 33 #[.slice (some ⟨b, o + 2, none⟩) (L - 2) (cap - 2), .agg #[.int .i64 0, .int .i64 0, .string ⟨#[]⟩, .int .i64 0], .agg #[.int .i64 1, .int .i64 16384, .int .i64 0]] W fun e w' => e = .returned (.tuple #[.agg #[.int .i64 (k : Int), .int .i64 0, .string OP, .int .i64 WH], .agg #[.int .u64 (m : Int), .bool false, .slice none 0 0, .slice none 0 0]]) ∧ Below W.heap.size W w')) (hk : k ≤ 8) (hm : m ≤ 16384) (E F : Nat) (hE : (2 : Int) + (k : Int) + (m : Int) = (E : Int)) (hF : (E : Int) + 4 = (F : Int)) (hFL : F ≤ L) (X : List Int)
    (H10 : Hid (∀ W, Below w.heap.size w W → Calls Tryd.prog 28 #[.slice (some ⟨b, o, none⟩) E cap] W fun e w' => ∃ v, e = .returned v ∧ Sl bc w' v X ∧ Below W.heap.size W w'))
    (H9 : Hid (∀ W v, Below w.heap.size w W → Sl bc W v X → Calls Tryd.prog 12 #[v, .slice (some ⟨b, o, none⟩) F cap] W fun e w' => e = .returned (.bool false) ∧ Below W.heap.size W w')) :
    Calls Tryd.prog 14 #[.slice (some ⟨b, o, none⟩) L cap] w fun e w' => e = .returned (fdv 0 (.slice none 0 0) 0 4 ⟨#[115, 117, 109]⟩ (E : Int)) ∧ Below w.heap.size w w' := by
  have hbl := cell_block c0
  have hL' : ¬ (L : Int) < 3 := by omega
  have hL1 : 1 < (L : Int) := by omega
  have hL0 : 0 < (L : Int) := by omega
  have hcl : ¬ cap = 2 := by omega
  have hb1 : Below w.heap.size w (w.alloc (.cells #[.int .i64 0, .slice none 0 0, .int .i64 0, .int .i64 0, .string ⟨#[]⟩, .int .i64 0] 43)) := (Below.refl _ _).alloc (Nat.le_refl _) _
  have HB1 := hide hb1
  clear hb1
  unfold fdv
  go_enter Tryd.func14, Tryd.ntmps14
  go_wp2_with fail
  refine (HC.out _ HB1.out).mono ?_
  rintro e w2 ⟨rfl, hb2⟩
  have hn : w.heap.size < w2.heap.size := by have := hb2.size; simp at this; omega
  have q : ∀ i, w2.cell? ⟨w.heap.size, i, none⟩ = (w.alloc (.cells #[.int .i64 0, .slice none 0 0, .int .i64 0, .int .i64 0, .string ⟨#[]⟩, .int .i64 0] 43)).cell? ⟨w.heap.size, i, none⟩ := fun i => hb2.cell (p := ⟨w.heap.size, i, none⟩) (by simp)
  have fz : ∀ i, w2.frozen? ⟨w.heap.size, i, none⟩ = false := fun i => (hb2.frozen (p := ⟨w.heap.size, i, none⟩) (by simp)).trans (World.frozen?_alloc_at _ _ _ _ rfl)
  have q0 : w2.cell? ⟨w.heap.size, 0, none⟩ = some (.int .i64 0) := by rw [q]; simp
  have q1 : w2.cell? ⟨w.heap.size, 1, none⟩ = some (.slice none 0 0) := by rw [q]; simp
  have q2 : w2.cell? ⟨w.heap.size, 2, none⟩ = some (.int .i64 0) := by rw [q]; simp
  have q3 : w2.cell? ⟨w.heap.size, 3, none⟩ = some (.int .i64 0) := by rw [q]; simp
  have q4 : w2.cell? ⟨w.heap.size, 4, none⟩ = some (.string ⟨#[]⟩) := by rw [q]; simp
  have q5 : w2.cell? ⟨w.heap.size, 5, none⟩ = some (.int .i64 0) := by rw [q]; simp
  have f0 := fz 0
  have f1 := fz 1
  have f2 := fz 2
  have f3 := fz 3
  have f4 := fz 4
  have f5 := fz 5
  have HFZ := hide fz
  have HB2 := hide (HB1.out.trans (hb2.mono (by simp)))
  clear q fz hb2
  have hE' : ¬ (L : Int) < (F : Int) := by omega
  have hWr : IntKind.i64.wrap ((E : Int) + 4) = (F : Int) := by rw [IntKind.wrap_i64]; omega
  have hEc : (E : Int) ≤ (cap : Int) := by omega
  have hFc : (F : Int) ≤ (cap : Int) := by omega
  have hEc2 : E ≤ cap := by omega
  have hFc2 : F ≤ cap := by omega
  have hEe : ((E : Int) + 4) = (F : Int) := hF
  have HEe := hide hEe
  clear hF hEe
  go_wp2_with fail
  have K0 : Fd6 ((w2.alloc (.cells #[.int .i64 (k : Int), .int .i64 0, .string OP, .int .i64 WH] 76)).alloc (.cells #[.int .u64 (m : Int), .bool false, .slice none 0 0, .slice none 0 0] 80)) w.heap.size := (Fd6.mk ⟨q0, q1, q2, q3, q4, q5⟩ (fun i => HFZ.out i)).below (((Below.refl _ _).alloc (Nat.le_refl _) _).alloc (by simp) _)
  have HK := hide K0
  have HB3 := hide ((HB2.out.alloc HB2.out.size (.cells #[.int .i64 (k : Int), .int .i64 0, .string OP, .int .i64 WH] 76)).alloc (by have := HB2.out.size; simp; omega) (.cells #[.int .u64 (m : Int), .bool false, .slice none 0 0, .slice none 0 0] 80))
  clear K0 q0 q1 q2 q3 q4 q5 f0 f1 f2 f3 f4 f5
  generalize (w2.alloc (.cells #[.int .i64 (k : Int), .int .i64 0, .string OP, .int .i64 WH] 76)).alloc (.cells #[.int .u64 (m : Int), .bool false, .slice none 0 0, .slice none 0 0] 80) = w3 at *
  have HF : Hid (∀ W, Below w3.heap.size w3 W → True) := hide (fun _ _ => trivial)
  have HS0 := hide (hs_drew (F := fun _ => True) HF.out (Nat.le_refl _))
  go_region_held3 (fun W => True ∧ Below w3.heap.size w3 W ∧ w3.heap.size ≤ W.heap.size)
    (first | with_reducible assumption | with_reducible exact hs_call (F := fun _ => True) HF.out (by assumption) (by assumption) | with_reducible exact HS0.out)
    (first
      | (go_at_call 28; refine (H10.out _ ?_).mono ?_; exact HB3.out.trans (Below.mono (And.left (And.right (by assumption))) HB3.out.size); rintro e w' ⟨vx, rfl, hsx, hb⟩)
      | (go_at_call 12; refine (H9.out _ _ ?_ hsx).mono ?_; exact HB3.out.trans (Below.mono (And.left (And.right (by assumption))) HB3.out.size); rintro e w' ⟨rfl, hb⟩))
  have hfin : Below w3.heap.size w3 w' := And.left (And.right (by assumption))
  obtain ⟨⟨q0, q1, q2, q3, q4, q5⟩, fz⟩ := HK.out.below hfin
  have f0 := fz 0
  have f1 := fz 1
  have f2 := fz 2
  have f3 := fz 3
  have f4 := fz 4
  have f5 := fz 5
  have HBF := hide (HB3.out.trans (hfin.mono HB3.out.size))
  clear hfin fz
  go_wp2
  have T := set6 (x0 := .int .i64 0) (x1 := .slice none 0 0) (x2 := .int .i64 0) (x3 := .int .i64 4) (x4 := .string ⟨#[115, 117, 109]⟩) (x5 := .int .i64 (E : Int)) q0 q1 q2 q3 q4 q5
  have hBf := ((((((HBF.out.setCell (p := ⟨w.heap.size, 0, none⟩) (Nat.le_refl _) (.int .i64 0)).setCell (p := ⟨w.heap.size, 1, none⟩) (Nat.le_refl _) (.slice none 0 0)).setCell (p := ⟨w.heap.size, 2, none⟩) (Nat.le_refl _) (.int .i64 0)).setCell (p := ⟨w.heap.size, 3, none⟩) (Nat.le_refl _) (.int .i64 4)).setCell (p := ⟨w.heap.size, 4, none⟩) (Nat.le_refl _) (.string ⟨#[115, 117, 109]⟩)).setCell (p := ⟨w.heap.size, 5, none⟩) (Nat.le_refl _) (.int .i64 (E : Int)))
  obtain ⟨WF, hWF⟩ : ∃ WF, WF = ((((((w'.setCell ⟨w.heap.size, 0, none⟩ (.int .i64 0)).setCell ⟨w.heap.size, 1, none⟩ (.slice none 0 0)).setCell ⟨w.heap.size, 2, none⟩ (.int .i64 0)).setCell ⟨w.heap.size, 3, none⟩ (.int .i64 4)).setCell ⟨w.heap.size, 4, none⟩ (.string ⟨#[115, 117, 109]⟩)).setCell ⟨w.heap.size, 5, none⟩ (.int .i64 (E : Int))) := ⟨_, rfl⟩
  obtain ⟨t0, t1, t2, t3, t4, t5⟩ := T WF hWF
  rw [← hWF] at hBf ⊢
  exact bodyPost_ret (v := .agg #[.int .i64 0, .slice none 0 0, .int .i64 0, .int .i64 4, .string ⟨#[115, 117, 109]⟩, .int .i64 (E : Int)]) (by simp [results, Tryd.results14, go_sem, t0, t1, t2, t3, t4, t5]) rfl ⟨rfl, hBf⟩
set_option maxRecDepth 100000 in
set_option maxHeartbeats 4000000 in
theorem next_ok (b o L cap : Nat) (x WH : Int) (k m : Nat) (OP : ByteArray) (w : World) (hL : 3 ≤ L) (hc : L ≤ cap) (hl : L ≤ 2000) (hx : ¬ 63 < x) (c0 : w.cell? ⟨b, o, none⟩ = some (.int .u8 197)) (c1 : w.cell? ⟨b, o + 1, none⟩ = some (.int .u8 x))
    (HC : Hid (∀ W, Below w.heap.size w W → Calls Tryd.prog 33 #[.slice (some ⟨b, o + 2, none⟩) (L - 2) (cap - 2), .agg #[.int .i64 0, .int .i64 0, .string ⟨#[]⟩, .int .i64 0], .agg #[.int .i64 1, .int .i64 16384, .int .i64 0]] W fun e w' => e = .returned (.tuple #[.agg #[.int .i64 (k : Int), .int .i64 0, .string OP, .int .i64 WH], .agg #[.int .u64 (m : Int), .bool false, .slice none 0 0, .slice none 0 0]]) ∧ Below W.heap.size W w')) (hk : k ≤ 8) (hm : m ≤ 16384) (hx0 : 0 ≤ x) (E F G : Nat) (hG : (2 : Int) + (k : Int) = (G : Int)) (hE : (G : Int) + (m : Int) = (E : Int)) (hF : (E : Int) + 4 = (F : Int)) (hFL : F ≤ L) (X : List Int)
    (H10 : Hid (∀ W, Below w.heap.size w W → Calls Tryd.prog 28 #[.slice (some ⟨b, o, none⟩) E cap] W fun e w' => ∃ v, e = .returned v ∧ Sl bc w' v X ∧ Below W.heap.size W w'))
    (H9 : Hid (∀ W v, Below w.heap.size w W → Sl bc W v X → Calls Tryd.prog 12 #[v, .slice (some ⟨b, o, none⟩) F cap] W fun e w' => e = .returned (.bool true) ∧ Below W.heap.size W w')) :
    Calls Tryd.prog 14 #[.slice (some ⟨b, o, none⟩) L cap] w fun e w' => e = .returned (fdv x (.slice (some ⟨b, o + G, none⟩) (E - G) (cap - G)) (F : Int) 0 ⟨#[]⟩ 0) ∧ Below w.heap.size w w' := by
  have hbl := cell_block c0
  have hL' : ¬ (L : Int) < 3 := by omega
  have hL1 : 1 < (L : Int) := by omega
  have hL0 : 0 < (L : Int) := by omega
  have hcl : ¬ cap = 2 := by omega
  have hb1 : Below w.heap.size w (w.alloc (.cells #[.int .i64 0, .slice none 0 0, .int .i64 0, .int .i64 0, .string ⟨#[]⟩, .int .i64 0] 43)) := (Below.refl _ _).alloc (Nat.le_refl _) _
  have HB1 := hide hb1
  clear hb1
  unfold fdv
  go_enter Tryd.func14, Tryd.ntmps14
  go_wp2_with fail
  refine (HC.out _ HB1.out).mono ?_
  rintro e w2 ⟨rfl, hb2⟩
  have hn : w.heap.size < w2.heap.size := by have := hb2.size; simp at this; omega
  have q : ∀ i, w2.cell? ⟨w.heap.size, i, none⟩ = (w.alloc (.cells #[.int .i64 0, .slice none 0 0, .int .i64 0, .int .i64 0, .string ⟨#[]⟩, .int .i64 0] 43)).cell? ⟨w.heap.size, i, none⟩ := fun i => hb2.cell (p := ⟨w.heap.size, i, none⟩) (by simp)
  have fz : ∀ i, w2.frozen? ⟨w.heap.size, i, none⟩ = false := fun i => (hb2.frozen (p := ⟨w.heap.size, i, none⟩) (by simp)).trans (World.frozen?_alloc_at _ _ _ _ rfl)
  have q0 : w2.cell? ⟨w.heap.size, 0, none⟩ = some (.int .i64 0) := by rw [q]; simp
  have q1 : w2.cell? ⟨w.heap.size, 1, none⟩ = some (.slice none 0 0) := by rw [q]; simp
  have q2 : w2.cell? ⟨w.heap.size, 2, none⟩ = some (.int .i64 0) := by rw [q]; simp
  have q3 : w2.cell? ⟨w.heap.size, 3, none⟩ = some (.int .i64 0) := by rw [q]; simp
  have q4 : w2.cell? ⟨w.heap.size, 4, none⟩ = some (.string ⟨#[]⟩) := by rw [q]; simp
  have q5 : w2.cell? ⟨w.heap.size, 5, none⟩ = some (.int .i64 0) := by rw [q]; simp
  have f0 := fz 0
  have f1 := fz 1
  have f2 := fz 2
  have f3 := fz 3
  have f4 := fz 4
  have f5 := fz 5
  have HFZ := hide fz
  have HB2 := hide (HB1.out.trans (hb2.mono (by simp)))
  clear q fz hb2
  have hE' : ¬ (L : Int) < (F : Int) := by omega
  have hWr : IntKind.i64.wrap ((E : Int) + 4) = (F : Int) := by rw [IntKind.wrap_i64]; omega
  have hGc : (G : Int) ≤ (cap : Int) := by omega
  have hGE : (G : Int) ≤ (E : Int) := by omega
  have hGc2 : G ≤ cap := by omega
  have hGE2 : G ≤ E := by omega
  have hGn : ¬ cap = G := by omega
  have hEc : (E : Int) ≤ (cap : Int) := by omega
  have hFc : (F : Int) ≤ (cap : Int) := by omega
  have hEc2 : E ≤ cap := by omega
  have hFc2 : F ≤ cap := by omega
  have hEe : ((E : Int) + 4) = (F : Int) := hF
  have HEe := hide hEe
  clear hF hEe
  go_wp2_with fail
  have K0 : Fd6 ((w2.alloc (.cells #[.int .i64 (k : Int), .int .i64 0, .string OP, .int .i64 WH] 76)).alloc (.cells #[.int .u64 (m : Int), .bool false, .slice none 0 0, .slice none 0 0] 80)) w.heap.size := (Fd6.mk ⟨q0, q1, q2, q3, q4, q5⟩ (fun i => HFZ.out i)).below (((Below.refl _ _).alloc (Nat.le_refl _) _).alloc (by simp) _)
  have HK := hide K0
  have HB3 := hide ((HB2.out.alloc HB2.out.size (.cells #[.int .i64 (k : Int), .int .i64 0, .string OP, .int .i64 WH] 76)).alloc (by have := HB2.out.size; simp; omega) (.cells #[.int .u64 (m : Int), .bool false, .slice none 0 0, .slice none 0 0] 80))
  clear K0 q0 q1 q2 q3 q4 q5 f0 f1 f2 f3 f4 f5
  generalize (w2.alloc (.cells #[.int .i64 (k : Int), .int .i64 0, .string OP, .int .i64 WH] 76)).alloc (.cells #[.int .u64 (m : Int), .bool false, .slice none 0 0, .slice none 0 0] 80) = w3 at *
  have HF : Hid (∀ W, Below w3.heap.size w3 W → True) := hide (fun _ _ => trivial)
  have HS0 := hide (hs_drew (F := fun _ => True) HF.out (Nat.le_refl _))
  go_region_held3 (fun W => True ∧ Below w3.heap.size w3 W ∧ w3.heap.size ≤ W.heap.size)
    (first | with_reducible assumption | with_reducible exact hs_call (F := fun _ => True) HF.out (by assumption) (by assumption) | with_reducible exact HS0.out)
    (first
      | (go_at_call 28; refine (H10.out _ ?_).mono ?_; exact HB3.out.trans (Below.mono (And.left (And.right (by assumption))) HB3.out.size); rintro e w' ⟨vx, rfl, hsx, hb⟩)
      | (go_at_call 12; refine (H9.out _ _ ?_ hsx).mono ?_; exact HB3.out.trans (Below.mono (And.left (And.right (by assumption))) HB3.out.size); rintro e w' ⟨rfl, hb⟩))
  have hfin : Below w3.heap.size w3 w' := And.left (And.right (by assumption))
  obtain ⟨⟨q0, q1, q2, q3, q4, q5⟩, fz⟩ := HK.out.below hfin
  have f0 := fz 0
  have f1 := fz 1
  have f2 := fz 2
  have f3 := fz 3
  have f4 := fz 4
  have f5 := fz 5
  have HBF := hide (HB3.out.trans (hfin.mono HB3.out.size))
  have hc1 : w'.cell? ⟨b, o + 1, none⟩ = some (.int .u8 x) := (HBF.out.cell (p := ⟨b, o + 1, none⟩) hbl).trans c1
  clear hfin fz
  go_wp2
  go_region
  go_wp2
  have T := set6 (x0 := .int .i64 x) (x1 := .slice (some ⟨b, o + G, none⟩) (E - G) (cap - G)) (x2 := .int .i64 (F : Int)) (x3 := .int .i64 0) (x4 := .string ⟨#[]⟩) (x5 := .int .i64 0) q0 q1 q2 q3 q4 q5
  have hBf := ((((((HBF.out.setCell (p := ⟨w.heap.size, 0, none⟩) (Nat.le_refl _) (.int .i64 x)).setCell (p := ⟨w.heap.size, 1, none⟩) (Nat.le_refl _) (.slice (some ⟨b, o + G, none⟩) (E - G) (cap - G))).setCell (p := ⟨w.heap.size, 2, none⟩) (Nat.le_refl _) (.int .i64 (F : Int))).setCell (p := ⟨w.heap.size, 3, none⟩) (Nat.le_refl _) (.int .i64 0)).setCell (p := ⟨w.heap.size, 4, none⟩) (Nat.le_refl _) (.string ⟨#[]⟩)).setCell (p := ⟨w.heap.size, 5, none⟩) (Nat.le_refl _) (.int .i64 0))
  obtain ⟨WF, hWF⟩ : ∃ WF, WF = ((((((w'.setCell ⟨w.heap.size, 0, none⟩ (.int .i64 x)).setCell ⟨w.heap.size, 1, none⟩ (.slice (some ⟨b, o + G, none⟩) (E - G) (cap - G))).setCell ⟨w.heap.size, 2, none⟩ (.int .i64 (F : Int))).setCell ⟨w.heap.size, 3, none⟩ (.int .i64 0)).setCell ⟨w.heap.size, 4, none⟩ (.string ⟨#[]⟩)).setCell ⟨w.heap.size, 5, none⟩ (.int .i64 0)) := ⟨_, rfl⟩
  obtain ⟨t0, t1, t2, t3, t4, t5⟩ := T WF hWF
  rw [← hWF] at hBf ⊢
  exact bodyPost_ret (v := .agg #[.int .i64 x, .slice (some ⟨b, o + G, none⟩) (E - G) (cap - G), .int .i64 (F : Int), .int .i64 0, .string ⟨#[]⟩, .int .i64 0]) (by simp [results, Tryd.results14, go_sem, t0, t1, t2, t3, t4, t5]) rfl ⟨rfl, hBf.drew⟩
end Go.Proofs.YtenahnbfaekljaaDoor
