/-
  THE DOCUMENT's NEXT NUMBER (castellanref02.bad, above, num): what is read at a place, and what is wrong first, and where. Conditions: the bytes' cells hold them, and no more than four thousand bytes.
-/
import Derived.Test.YtjjpfajbljbelaaGreatDoorJKWrowa5
namespace Go.Proofs.YtjjpfajbljbelaaGreatDoor
open Go.RowKit
set_option maxRecDepth 100000
set_option maxHeartbeats 4000000
def stv (a c : Int) (op : ByteArray) (wh : Int) : Value := .agg #[.int .i64 a, .int .i64 c, .string op, .int .i64 wh]
theorem four_cells {u : World} {n : Nat} {x y z t x' y' z' t' : Value} (h0 : u.cell? ⟨n, 0, none⟩ = some x') (h1 : u.cell? ⟨n, 1, none⟩ = some y') (h2 : u.cell? ⟨n, 2, none⟩ = some z') (h3 : u.cell? ⟨n, 3, none⟩ = some t') :
  ((((u.setCell ⟨n, 0, none⟩ x).setCell ⟨n, 1, none⟩ y).setCell ⟨n, 2, none⟩ z).setCell ⟨n, 3, none⟩ t).cell? ⟨n, 0, none⟩ = some x ∧ ((((u.setCell ⟨n, 0, none⟩ x).setCell ⟨n, 1, none⟩ y).setCell ⟨n, 2, none⟩ z).setCell ⟨n, 3, none⟩ t).cell? ⟨n, 1, none⟩ = some y ∧
  ((((u.setCell ⟨n, 0, none⟩ x).setCell ⟨n, 1, none⟩ y).setCell ⟨n, 2, none⟩ z).setCell ⟨n, 3, none⟩ t).cell? ⟨n, 2, none⟩ = some z ∧ ((((u.setCell ⟨n, 0, none⟩ x).setCell ⟨n, 1, none⟩ y).setCell ⟨n, 2, none⟩ z).setCell ⟨n, 3, none⟩ t).cell? ⟨n, 3, none⟩ = some t := by
 refine ⟨?_, ?_, ?_, ?_⟩
 ·iterate 3 rw [World.cell?_setCell_other _ _ _ _ (by simp)]
  exact World.cell?_setCell_same _ _ _ h0
 ·iterate 2 rw [World.cell?_setCell_other _ _ _ _ (by simp)]
  refine World.cell?_setCell_same _ _ _ (u := y') ?_
  rw [World.cell?_setCell_other _ _ _ _ (by simp)]
  exact h1
 ·rw [World.cell?_setCell_other _ _ _ _ (by simp)]
  refine World.cell?_setCell_same _ _ _ (u := z') ?_
  iterate 2 rw [World.cell?_setCell_other _ _ _ _ (by simp)]
  exact h2
 ·refine World.cell?_setCell_same _ _ _ (u := t') ?_
  iterate 3 rw [World.cell?_setCell_other _ _ _ _ (by simp)]
  exact h3
theorem bad_any (a c wh at' c' : Int) (op s : ByteArray) (w : World) (hc : (c != 0) = false) :
  Calls Tryz.prog 87 #[stv a c op wh, .string s, .int .i64 at', .int .i64 c'] w fun e w' => e = .returned (stv a c' s at') ∧ Below w.heap.size w w' := by
 unfold stv
 go_enter Tryz.func87, Tryz.ntmps87
 go_wp2
 exact bodyPost_ret (v := .agg #[.int .i64 a, .int .i64 c', .string s, .int .i64 at']) (by simp [results, Tryz.results87, go_sem]) rfl ⟨rfl, ((Below.refl _ _).alloc (Nat.le_refl _) _).alloc (by simp) _⟩
def abv (n : Int) : Int := if n < 0 then 0 else n
theorem above_any (n : Int) (w : World) (h1 : n ≤ 9223372036854775807) : Calls Tryz.prog 86 #[.int .i64 n] w fun e w' => e = .returned (.int .u64 (abv n)) ∧ w' = w := by
 by_cases h : n < 0
 ·rw [show abv n = 0 from if_pos h]
  go_enter Tryz.func86, Tryz.ntmps86
  go_wp2
  go_ret
  exact ⟨rfl, rfl⟩
 ·rw [show abv n = n from if_neg h]
  go_enter Tryz.func86, Tryz.ntmps86
  go_wp2
  go_ret
  exact ⟨rfl, rfl⟩
theorem num_none (ao : Option Addr) (L cap a : Nat) (wh most : Int) (op : ByteArray) (w : World) (ha : L ≤ a) :
  Calls Tryz.prog 85 #[.slice ao L cap, stv a 0 op wh, .int .u64 most] w fun e w' => e = .returned (.tuple #[stv a 3 ⟨#[110, 117, 109]⟩ a, .int .u64 0]) ∧ Below w.heap.size w w' := by
 have ha' : (L : Int) ≤ (a : Int) := by omega
 have HB := hide (fun W => bad_any a 0 wh a 3 op ⟨#[110, 117, 109]⟩ W rfl)
 unfold stv at HB ⊢
 go_enter Tryz.func85, Tryz.ntmps85
 go_wp2_with (first | (go_at_call 87; refine (HB.out _).mono ?_; rintro e w' ⟨rfl, hb⟩; obtain ⟨hcc, hf⟩ := bcell hb))
 have q0 : w'.cell? ⟨w.heap.size + 1, 0, none⟩ = some (.int .i64 0) := by rw [hcc _ _ (by simp)]; simp
 have q1 : w'.cell? ⟨w.heap.size + 1, 1, none⟩ = some (.int .i64 0) := by rw [hcc _ _ (by simp)]; simp
 have q2 : w'.cell? ⟨w.heap.size + 1, 2, none⟩ = some (.string ⟨#[]⟩) := by rw [hcc _ _ (by simp)]; simp
 have q3 : w'.cell? ⟨w.heap.size + 1, 3, none⟩ = some (.int .i64 0) := by rw [hcc _ _ (by simp)]; simp
 have T := four_cells (x := .int .i64 a) (y := .int .i64 3) (z := .string ⟨#[110, 117, 109]⟩) (t := .int .i64 a) q0 q1 q2 q3
 have hB : Below w.heap.size w w' := (((Below.refl _ _).alloc (Nat.le_refl _) _).alloc (by simp) _).trans (hb.mono (by simp; omega))
 exact bodyPost_ret (v := .tuple #[.agg #[.int .i64 a, .int .i64 3, .string ⟨#[110, 117, 109]⟩, .int .i64 a], .int .u64 0]) (by simp [results, Tryz.results85, go_sem, T.1, T.2.1, T.2.2.1, T.2.2.2]) rfl ⟨rfl, (((hB.setCell (by simp) _).setCell (by simp) _).setCell (by simp) _).setCell (by simp) _⟩
theorem small2 (n : Int) (w : World) (h : n < 64) : Calls Tryz.prog 114 #[.int .u64 n] w fun e w' => (∃ s : Int, e = .returned (.int .i64 s) ∧ (s != 2) = true) ∧ w' = w := by
 refine (size_1 n w h).mono ?_
 rintro e w' ⟨rfl, rfl⟩
 exact ⟨⟨1, rfl, rfl⟩, rfl⟩
theorem small4 (n : Int) (w : World) (h : n < 16384) : Calls Tryz.prog 114 #[.int .u64 n] w fun e w' => (∃ s : Int, e = .returned (.int .i64 s) ∧ (s != 4) = true) ∧ w' = w := by
 by_cases h1 : n < 64
 ·refine (size_1 n w h1).mono ?_
  rintro e w' ⟨rfl, rfl⟩
  exact ⟨⟨1, rfl, rfl⟩, rfl⟩
 ·refine (size_2 n w h1 h).mono ?_
  rintro e w' ⟨rfl, rfl⟩
  exact ⟨⟨2, rfl, rfl⟩, rfl⟩
theorem small8 (n : Int) (w : World) (h : n < 1073741824) : Calls Tryz.prog 114 #[.int .u64 n] w fun e w' => (∃ s : Int, e = .returned (.int .i64 s) ∧ (s != 8) = true) ∧ w' = w := by
 by_cases h1 : n < 64
 ·refine (size_1 n w h1).mono ?_
  rintro e w' ⟨rfl, rfl⟩
  exact ⟨⟨1, rfl, rfl⟩, rfl⟩
 ·by_cases h2 : n < 16384
  ·refine (size_2 n w h1 h2).mono ?_
   rintro e w' ⟨rfl, rfl⟩
   exact ⟨⟨2, rfl, rfl⟩, rfl⟩
  ·refine (size_4 n w h1 h2 h).mono ?_
   rintro e w' ⟨rfl, rfl⟩
   exact ⟨⟨4, rfl, rfl⟩, rfl⟩
theorem num1_limit (b o L cap a : Nat) (wh most x0 : Int) (op : ByteArray) (w : World) (hL : L ≤ 4000) (ha : a + 1 ≤ L) (h0 : 0 ≤ x0) (g0 : x0 ≤ 255) (hx : x0 / 64 = 0) (hm : most < x0 % 64)
  (c0 : w.cell? ⟨b, o + a, none⟩ = some (.int .u8 x0)) :
  Calls Tryz.prog 85 #[.slice (some ⟨b, o, none⟩) L cap, stv a 0 op wh, .int .u64 most] w fun e w' => e = .returned (.tuple #[stv a 6 ⟨#[110, 117, 109]⟩ a, .int .u64 0]) ∧ Below w.heap.size w w' := by
 have hbl := cell_block c0
 have HB := hide (fun W => bad_any a 0 wh a 6 op ⟨#[110, 117, 109]⟩ W rfl)
 unfold stv at HB ⊢
 go_enter Tryz.func85, Tryz.ntmps85
 go_wp2_with fail
 refine wp_loop_rounds 1 ?_
 rw [rounds_succ]
 go_wp2_with fail
 refine wp_loop_rounds 1 ?_
 rw [rounds_succ]
 go_wp2_with (first | (go_at_call 114; refine (size_1 _ _ (by omega)).mono ?_; rintro e w' ⟨rfl, rfl⟩) | (go_at_call 87; refine (HB.out _).mono ?_; rintro e w' ⟨rfl, hb⟩; obtain ⟨hcc, hf⟩ := bcell hb))
 have q0 : w'.cell? ⟨w.heap.size + 1, 0, none⟩ = some (.int .i64 0) := by rw [hcc _ _ (by simp)]; simp
 have q1 : w'.cell? ⟨w.heap.size + 1, 1, none⟩ = some (.int .i64 0) := by rw [hcc _ _ (by simp)]; simp
 have q2 : w'.cell? ⟨w.heap.size + 1, 2, none⟩ = some (.string ⟨#[]⟩) := by rw [hcc _ _ (by simp)]; simp
 have q3 : w'.cell? ⟨w.heap.size + 1, 3, none⟩ = some (.int .i64 0) := by rw [hcc _ _ (by simp)]; simp
 have T := four_cells (x := .int .i64 a) (y := .int .i64 6) (z := .string ⟨#[110, 117, 109]⟩) (t := .int .i64 a) q0 q1 q2 q3
 have hB : Below w.heap.size w w' := (((Below.refl _ _).alloc (Nat.le_refl _) _).alloc (by simp) _).trans (hb.mono (by simp; omega))
 exact bodyPost_ret (v := .tuple #[.agg #[.int .i64 a, .int .i64 6, .string ⟨#[110, 117, 109]⟩, .int .i64 a], .int .u64 0]) (by simp [results, Tryz.results85, go_sem, T.1, T.2.1, T.2.2.1, T.2.2.2]) rfl ⟨rfl, (((hB.setCell (by simp) _).setCell (by simp) _).setCell (by simp) _).setCell (by simp) _⟩
theorem num1_ok (b o L cap a : Nat) (wh most x0 : Int) (op : ByteArray) (w : World) (hL : L ≤ 4000) (ha : a + 1 ≤ L) (h0 : 0 ≤ x0) (g0 : x0 ≤ 255) (hx : x0 / 64 = 0) (hm : ¬ most < x0 % 64)
  (c0 : w.cell? ⟨b, o + a, none⟩ = some (.int .u8 x0)) :
  Calls Tryz.prog 85 #[.slice (some ⟨b, o, none⟩) L cap, stv a 0 op wh, .int .u64 most] w fun e w' => e = .returned (.tuple #[stv (a + 1) 0 ⟨#[]⟩ 0, .int .u64 (x0 % 64)]) ∧ Below w.heap.size w w' := by
 have hbl := cell_block c0
 unfold stv
 go_enter Tryz.func85, Tryz.ntmps85
 go_wp2_with fail
 refine wp_loop_rounds 1 ?_
 rw [rounds_succ]
 go_wp2_with fail
 refine wp_loop_rounds 1 ?_
 rw [rounds_succ]
 go_wp2_with (first | (go_at_call 114; refine (size_1 _ _ (by omega)).mono ?_; rintro e w' ⟨rfl, rfl⟩))
 exact bodyPost_ret (v := .tuple #[.agg #[.int .i64 (a + 1), .int .i64 0, .string ⟨#[]⟩, .int .i64 0], .int .u64 (x0 % 64)]) (by simp [results, Tryz.results85, go_sem]) rfl ⟨rfl, ((Below.refl _ _).alloc (Nat.le_refl _) _).alloc (by simp) _⟩
theorem num2_short (b o L cap a : Nat) (wh most x0 : Int) (op : ByteArray) (w : World) (hL : L ≤ 4000) (ha : a < L) (hs : L < a + 2) (h0 : 0 ≤ x0) (g0 : x0 ≤ 255) (hx : x0 / 64 = 1) 
  (c0 : w.cell? ⟨b, o + a, none⟩ = some (.int .u8 x0)) :
  Calls Tryz.prog 85 #[.slice (some ⟨b, o, none⟩) L cap, stv a 0 op wh, .int .u64 most] w fun e w' => e = .returned (.tuple #[stv a 3 ⟨#[110, 117, 109]⟩ a, .int .u64 0]) ∧ Below w.heap.size w w' := by
 have hbl := cell_block c0
 have HB := hide (fun W => bad_any a 0 wh a 3 op ⟨#[110, 117, 109]⟩ W rfl)
 unfold stv at HB ⊢
 go_enter Tryz.func85, Tryz.ntmps85
 go_wp2_with fail
 refine wp_loop_rounds 2 ?_
 rw [rounds_succ]
 go_wp2_with fail
 rw [rounds_succ]
 go_wp2_with (first | (go_at_call 87; refine (HB.out _).mono ?_; rintro e w' ⟨rfl, hb⟩; obtain ⟨hcc, hf⟩ := bcell hb))
 have q0 : w'.cell? ⟨w.heap.size + 1, 0, none⟩ = some (.int .i64 0) := by rw [hcc _ _ (by simp)]; simp
 have q1 : w'.cell? ⟨w.heap.size + 1, 1, none⟩ = some (.int .i64 0) := by rw [hcc _ _ (by simp)]; simp
 have q2 : w'.cell? ⟨w.heap.size + 1, 2, none⟩ = some (.string ⟨#[]⟩) := by rw [hcc _ _ (by simp)]; simp
 have q3 : w'.cell? ⟨w.heap.size + 1, 3, none⟩ = some (.int .i64 0) := by rw [hcc _ _ (by simp)]; simp
 have T := four_cells (x := .int .i64 a) (y := .int .i64 3) (z := .string ⟨#[110, 117, 109]⟩) (t := .int .i64 a) q0 q1 q2 q3
 have hB : Below w.heap.size w w' := (((Below.refl _ _).alloc (Nat.le_refl _) _).alloc (by simp) _).trans (hb.mono (by simp; omega))
 exact bodyPost_ret (v := .tuple #[.agg #[.int .i64 a, .int .i64 3, .string ⟨#[110, 117, 109]⟩, .int .i64 a], .int .u64 0]) (by simp [results, Tryz.results85, go_sem, T.1, T.2.1, T.2.2.1, T.2.2.2]) rfl ⟨rfl, (((hB.setCell (by simp) _).setCell (by simp) _).setCell (by simp) _).setCell (by simp) _⟩
theorem num2_kind (b o L cap a : Nat) (wh most x0 x1 : Int) (op : ByteArray) (w : World) (hL : L ≤ 4000) (ha : a + 2 ≤ L) (h0 : 0 ≤ x0) (g0 : x0 ≤ 255) (h1 : 0 ≤ x1) (g1 : x1 ≤ 255) (hx : x0 / 64 = 1) (hn : x0 % 64 * 256 + x1 < 64)
  (c0 : w.cell? ⟨b, o + a, none⟩ = some (.int .u8 x0)) (c1 : w.cell? ⟨b, o + (a + 1), none⟩ = some (.int .u8 x1)) :
  Calls Tryz.prog 85 #[.slice (some ⟨b, o, none⟩) L cap, stv a 0 op wh, .int .u64 most] w fun e w' => e = .returned (.tuple #[stv a 5 ⟨#[110, 117, 109]⟩ a, .int .u64 0]) ∧ Below w.heap.size w w' := by
 have hbl := cell_block c0
 have HB := hide (fun W => bad_any a 0 wh a 5 op ⟨#[110, 117, 109]⟩ W rfl)
 unfold stv at HB ⊢
 go_enter Tryz.func85, Tryz.ntmps85
 go_wp2_with fail
 refine wp_loop_rounds 2 ?_
 rw [rounds_succ]
 go_wp2_with fail
 rw [rounds_succ]
 go_wp2_with fail
 refine wp_loop_rounds 2 ?_
 rw [rounds_succ]
 go_wp2_with fail
 rw [rounds_succ]
 go_wp2_with (first | (go_at_call 114; refine (small2 _ _ hn).mono ?_; rintro e w' ⟨⟨s, rfl, hs⟩, rfl⟩) | (go_at_call 87; refine (HB.out _).mono ?_; rintro e w' ⟨rfl, hb⟩; obtain ⟨hcc, hf⟩ := bcell hb))
 have q0 : w'.cell? ⟨w.heap.size + 1, 0, none⟩ = some (.int .i64 0) := by rw [hcc _ _ (by simp)]; simp
 have q1 : w'.cell? ⟨w.heap.size + 1, 1, none⟩ = some (.int .i64 0) := by rw [hcc _ _ (by simp)]; simp
 have q2 : w'.cell? ⟨w.heap.size + 1, 2, none⟩ = some (.string ⟨#[]⟩) := by rw [hcc _ _ (by simp)]; simp
 have q3 : w'.cell? ⟨w.heap.size + 1, 3, none⟩ = some (.int .i64 0) := by rw [hcc _ _ (by simp)]; simp
 have T := four_cells (x := .int .i64 a) (y := .int .i64 5) (z := .string ⟨#[110, 117, 109]⟩) (t := .int .i64 a) q0 q1 q2 q3
 have hB : Below w.heap.size w w' := (((Below.refl _ _).alloc (Nat.le_refl _) _).alloc (by simp) _).trans (hb.mono (by simp; omega))
 exact bodyPost_ret (v := .tuple #[.agg #[.int .i64 a, .int .i64 5, .string ⟨#[110, 117, 109]⟩, .int .i64 a], .int .u64 0]) (by simp [results, Tryz.results85, go_sem, T.1, T.2.1, T.2.2.1, T.2.2.2]) rfl ⟨rfl, (((hB.setCell (by simp) _).setCell (by simp) _).setCell (by simp) _).setCell (by simp) _⟩
theorem num2_limit (b o L cap a : Nat) (wh most x0 x1 : Int) (op : ByteArray) (w : World) (hL : L ≤ 4000) (ha : a + 2 ≤ L) (h0 : 0 ≤ x0) (g0 : x0 ≤ 255) (h1 : 0 ≤ x1) (g1 : x1 ≤ 255) (hx : x0 / 64 = 1) (hn : 64 ≤ x0 % 64 * 256 + x1) (hm : most < x0 % 64 * 256 + x1)
  (c0 : w.cell? ⟨b, o + a, none⟩ = some (.int .u8 x0)) (c1 : w.cell? ⟨b, o + (a + 1), none⟩ = some (.int .u8 x1)) :
  Calls Tryz.prog 85 #[.slice (some ⟨b, o, none⟩) L cap, stv a 0 op wh, .int .u64 most] w fun e w' => e = .returned (.tuple #[stv a 6 ⟨#[110, 117, 109]⟩ a, .int .u64 0]) ∧ Below w.heap.size w w' := by
 have hbl := cell_block c0
 have HB := hide (fun W => bad_any a 0 wh a 6 op ⟨#[110, 117, 109]⟩ W rfl)
 unfold stv at HB ⊢
 go_enter Tryz.func85, Tryz.ntmps85
 go_wp2_with fail
 refine wp_loop_rounds 2 ?_
 rw [rounds_succ]
 go_wp2_with fail
 rw [rounds_succ]
 go_wp2_with fail
 refine wp_loop_rounds 2 ?_
 rw [rounds_succ]
 go_wp2_with fail
 rw [rounds_succ]
 go_wp2_with (first | (go_at_call 114; refine (size_2 _ _ (by omega) (by omega)).mono ?_; rintro e w' ⟨rfl, rfl⟩) | (go_at_call 87; refine (HB.out _).mono ?_; rintro e w' ⟨rfl, hb⟩; obtain ⟨hcc, hf⟩ := bcell hb))
 have q0 : w'.cell? ⟨w.heap.size + 1, 0, none⟩ = some (.int .i64 0) := by rw [hcc _ _ (by simp)]; simp
 have q1 : w'.cell? ⟨w.heap.size + 1, 1, none⟩ = some (.int .i64 0) := by rw [hcc _ _ (by simp)]; simp
 have q2 : w'.cell? ⟨w.heap.size + 1, 2, none⟩ = some (.string ⟨#[]⟩) := by rw [hcc _ _ (by simp)]; simp
 have q3 : w'.cell? ⟨w.heap.size + 1, 3, none⟩ = some (.int .i64 0) := by rw [hcc _ _ (by simp)]; simp
 have T := four_cells (x := .int .i64 a) (y := .int .i64 6) (z := .string ⟨#[110, 117, 109]⟩) (t := .int .i64 a) q0 q1 q2 q3
 have hB : Below w.heap.size w w' := (((Below.refl _ _).alloc (Nat.le_refl _) _).alloc (by simp) _).trans (hb.mono (by simp; omega))
 exact bodyPost_ret (v := .tuple #[.agg #[.int .i64 a, .int .i64 6, .string ⟨#[110, 117, 109]⟩, .int .i64 a], .int .u64 0]) (by simp [results, Tryz.results85, go_sem, T.1, T.2.1, T.2.2.1, T.2.2.2]) rfl ⟨rfl, (((hB.setCell (by simp) _).setCell (by simp) _).setCell (by simp) _).setCell (by simp) _⟩
theorem num2_ok (b o L cap a : Nat) (wh most x0 x1 : Int) (op : ByteArray) (w : World) (hL : L ≤ 4000) (ha : a + 2 ≤ L) (h0 : 0 ≤ x0) (g0 : x0 ≤ 255) (h1 : 0 ≤ x1) (g1 : x1 ≤ 255) (hx : x0 / 64 = 1) (hn : 64 ≤ x0 % 64 * 256 + x1) (hm : ¬ most < x0 % 64 * 256 + x1)
  (c0 : w.cell? ⟨b, o + a, none⟩ = some (.int .u8 x0)) (c1 : w.cell? ⟨b, o + (a + 1), none⟩ = some (.int .u8 x1)) :
  Calls Tryz.prog 85 #[.slice (some ⟨b, o, none⟩) L cap, stv a 0 op wh, .int .u64 most] w fun e w' => e = .returned (.tuple #[stv (a + 2) 0 ⟨#[]⟩ 0, .int .u64 (x0 % 64 * 256 + x1)]) ∧ Below w.heap.size w w' := by
 have hbl := cell_block c0
 unfold stv
 go_enter Tryz.func85, Tryz.ntmps85
 go_wp2_with fail
 refine wp_loop_rounds 2 ?_
 rw [rounds_succ]
 go_wp2_with fail
 rw [rounds_succ]
 go_wp2_with fail
 refine wp_loop_rounds 2 ?_
 rw [rounds_succ]
 go_wp2_with fail
 rw [rounds_succ]
 go_wp2_with (first | (go_at_call 114; refine (size_2 _ _ (by omega) (by omega)).mono ?_; rintro e w' ⟨rfl, rfl⟩))
 exact bodyPost_ret (v := .tuple #[.agg #[.int .i64 (a + 2), .int .i64 0, .string ⟨#[]⟩, .int .i64 0], .int .u64 (x0 % 64 * 256 + x1)]) (by simp [results, Tryz.results85, go_sem]) rfl ⟨rfl, ((Below.refl _ _).alloc (Nat.le_refl _) _).alloc (by simp) _⟩
theorem num4_short (b o L cap a : Nat) (wh most x0 : Int) (op : ByteArray) (w : World) (hL : L ≤ 4000) (ha : a < L) (hs : L < a + 4) (h0 : 0 ≤ x0) (g0 : x0 ≤ 255) (hx : x0 / 64 = 2) 
  (c0 : w.cell? ⟨b, o + a, none⟩ = some (.int .u8 x0)) :
  Calls Tryz.prog 85 #[.slice (some ⟨b, o, none⟩) L cap, stv a 0 op wh, .int .u64 most] w fun e w' => e = .returned (.tuple #[stv a 3 ⟨#[110, 117, 109]⟩ a, .int .u64 0]) ∧ Below w.heap.size w w' := by
 have hbl := cell_block c0
 have HB := hide (fun W => bad_any a 0 wh a 3 op ⟨#[110, 117, 109]⟩ W rfl)
 unfold stv at HB ⊢
 go_enter Tryz.func85, Tryz.ntmps85
 go_wp2_with fail
 refine wp_loop_rounds 3 ?_
 rw [rounds_succ]
 go_wp2_with fail
 rw [rounds_succ]
 go_wp2_with fail
 rw [rounds_succ]
 go_wp2_with (first | (go_at_call 87; refine (HB.out _).mono ?_; rintro e w' ⟨rfl, hb⟩; obtain ⟨hcc, hf⟩ := bcell hb))
 have q0 : w'.cell? ⟨w.heap.size + 1, 0, none⟩ = some (.int .i64 0) := by rw [hcc _ _ (by simp)]; simp
 have q1 : w'.cell? ⟨w.heap.size + 1, 1, none⟩ = some (.int .i64 0) := by rw [hcc _ _ (by simp)]; simp
 have q2 : w'.cell? ⟨w.heap.size + 1, 2, none⟩ = some (.string ⟨#[]⟩) := by rw [hcc _ _ (by simp)]; simp
 have q3 : w'.cell? ⟨w.heap.size + 1, 3, none⟩ = some (.int .i64 0) := by rw [hcc _ _ (by simp)]; simp
 have T := four_cells (x := .int .i64 a) (y := .int .i64 3) (z := .string ⟨#[110, 117, 109]⟩) (t := .int .i64 a) q0 q1 q2 q3
 have hB : Below w.heap.size w w' := (((Below.refl _ _).alloc (Nat.le_refl _) _).alloc (by simp) _).trans (hb.mono (by simp; omega))
 exact bodyPost_ret (v := .tuple #[.agg #[.int .i64 a, .int .i64 3, .string ⟨#[110, 117, 109]⟩, .int .i64 a], .int .u64 0]) (by simp [results, Tryz.results85, go_sem, T.1, T.2.1, T.2.2.1, T.2.2.2]) rfl ⟨rfl, (((hB.setCell (by simp) _).setCell (by simp) _).setCell (by simp) _).setCell (by simp) _⟩
theorem num4_kind (b o L cap a : Nat) (wh most x0 x1 x2 x3 : Int) (op : ByteArray) (w : World) (hL : L ≤ 4000) (ha : a + 4 ≤ L) (h0 : 0 ≤ x0) (g0 : x0 ≤ 255) (h1 : 0 ≤ x1) (g1 : x1 ≤ 255) (h2 : 0 ≤ x2) (g2 : x2 ≤ 255) (h3 : 0 ≤ x3) (g3 : x3 ≤ 255) (hx : x0 / 64 = 2) (hn : ((x0 % 64 * 256 + x1) * 256 + x2) * 256 + x3 < 16384)
  (c0 : w.cell? ⟨b, o + a, none⟩ = some (.int .u8 x0)) (c1 : w.cell? ⟨b, o + (a + 1), none⟩ = some (.int .u8 x1)) (c2 : w.cell? ⟨b, o + (a + 2), none⟩ = some (.int .u8 x2)) (c3 : w.cell? ⟨b, o + (a + 3), none⟩ = some (.int .u8 x3)) :
  Calls Tryz.prog 85 #[.slice (some ⟨b, o, none⟩) L cap, stv a 0 op wh, .int .u64 most] w fun e w' => e = .returned (.tuple #[stv a 5 ⟨#[110, 117, 109]⟩ a, .int .u64 0]) ∧ Below w.heap.size w w' := by
 have hbl := cell_block c0
 have HB := hide (fun W => bad_any a 0 wh a 5 op ⟨#[110, 117, 109]⟩ W rfl)
 unfold stv at HB ⊢
 go_enter Tryz.func85, Tryz.ntmps85
 go_wp2_with fail
 refine wp_loop_rounds 3 ?_
 rw [rounds_succ]
 go_wp2_with fail
 rw [rounds_succ]
 go_wp2_with fail
 rw [rounds_succ]
 go_wp2_with fail
 refine wp_loop_rounds 4 ?_
 rw [rounds_succ]
 go_wp2_with fail
 rw [rounds_succ]
 go_wp2_with fail
 rw [rounds_succ]
 go_wp2_with fail
 rw [rounds_succ]
 go_wp2_with (first | (go_at_call 114; refine (small4 _ _ hn).mono ?_; rintro e w' ⟨⟨s, rfl, hs⟩, rfl⟩) | (go_at_call 87; refine (HB.out _).mono ?_; rintro e w' ⟨rfl, hb⟩; obtain ⟨hcc, hf⟩ := bcell hb))
 have q0 : w'.cell? ⟨w.heap.size + 1, 0, none⟩ = some (.int .i64 0) := by rw [hcc _ _ (by simp)]; simp
 have q1 : w'.cell? ⟨w.heap.size + 1, 1, none⟩ = some (.int .i64 0) := by rw [hcc _ _ (by simp)]; simp
 have q2 : w'.cell? ⟨w.heap.size + 1, 2, none⟩ = some (.string ⟨#[]⟩) := by rw [hcc _ _ (by simp)]; simp
 have q3 : w'.cell? ⟨w.heap.size + 1, 3, none⟩ = some (.int .i64 0) := by rw [hcc _ _ (by simp)]; simp
 have T := four_cells (x := .int .i64 a) (y := .int .i64 5) (z := .string ⟨#[110, 117, 109]⟩) (t := .int .i64 a) q0 q1 q2 q3
 have hB : Below w.heap.size w w' := (((Below.refl _ _).alloc (Nat.le_refl _) _).alloc (by simp) _).trans (hb.mono (by simp; omega))
 exact bodyPost_ret (v := .tuple #[.agg #[.int .i64 a, .int .i64 5, .string ⟨#[110, 117, 109]⟩, .int .i64 a], .int .u64 0]) (by simp [results, Tryz.results85, go_sem, T.1, T.2.1, T.2.2.1, T.2.2.2]) rfl ⟨rfl, (((hB.setCell (by simp) _).setCell (by simp) _).setCell (by simp) _).setCell (by simp) _⟩
theorem num4_limit (b o L cap a : Nat) (wh most x0 x1 x2 x3 : Int) (op : ByteArray) (w : World) (hL : L ≤ 4000) (ha : a + 4 ≤ L) (h0 : 0 ≤ x0) (g0 : x0 ≤ 255) (h1 : 0 ≤ x1) (g1 : x1 ≤ 255) (h2 : 0 ≤ x2) (g2 : x2 ≤ 255) (h3 : 0 ≤ x3) (g3 : x3 ≤ 255) (hx : x0 / 64 = 2) (hn : 16384 ≤ ((x0 % 64 * 256 + x1) * 256 + x2) * 256 + x3) (hm : most < ((x0 % 64 * 256 + x1) * 256 + x2) * 256 + x3)
  (c0 : w.cell? ⟨b, o + a, none⟩ = some (.int .u8 x0)) (c1 : w.cell? ⟨b, o + (a + 1), none⟩ = some (.int .u8 x1)) (c2 : w.cell? ⟨b, o + (a + 2), none⟩ = some (.int .u8 x2)) (c3 : w.cell? ⟨b, o + (a + 3), none⟩ = some (.int .u8 x3)) :
  Calls Tryz.prog 85 #[.slice (some ⟨b, o, none⟩) L cap, stv a 0 op wh, .int .u64 most] w fun e w' => e = .returned (.tuple #[stv a 6 ⟨#[110, 117, 109]⟩ a, .int .u64 0]) ∧ Below w.heap.size w w' := by
 have hbl := cell_block c0
 have HB := hide (fun W => bad_any a 0 wh a 6 op ⟨#[110, 117, 109]⟩ W rfl)
 unfold stv at HB ⊢
 go_enter Tryz.func85, Tryz.ntmps85
 go_wp2_with fail
 refine wp_loop_rounds 3 ?_
 rw [rounds_succ]
 go_wp2_with fail
 rw [rounds_succ]
 go_wp2_with fail
 rw [rounds_succ]
 go_wp2_with fail
 refine wp_loop_rounds 4 ?_
 rw [rounds_succ]
 go_wp2_with fail
 rw [rounds_succ]
 go_wp2_with fail
 rw [rounds_succ]
 go_wp2_with fail
 rw [rounds_succ]
 go_wp2_with (first | (go_at_call 114; refine (size_4 _ _ (by omega) (by omega) (by omega)).mono ?_; rintro e w' ⟨rfl, rfl⟩) | (go_at_call 87; refine (HB.out _).mono ?_; rintro e w' ⟨rfl, hb⟩; obtain ⟨hcc, hf⟩ := bcell hb))
 have q0 : w'.cell? ⟨w.heap.size + 1, 0, none⟩ = some (.int .i64 0) := by rw [hcc _ _ (by simp)]; simp
 have q1 : w'.cell? ⟨w.heap.size + 1, 1, none⟩ = some (.int .i64 0) := by rw [hcc _ _ (by simp)]; simp
 have q2 : w'.cell? ⟨w.heap.size + 1, 2, none⟩ = some (.string ⟨#[]⟩) := by rw [hcc _ _ (by simp)]; simp
 have q3 : w'.cell? ⟨w.heap.size + 1, 3, none⟩ = some (.int .i64 0) := by rw [hcc _ _ (by simp)]; simp
 have T := four_cells (x := .int .i64 a) (y := .int .i64 6) (z := .string ⟨#[110, 117, 109]⟩) (t := .int .i64 a) q0 q1 q2 q3
 have hB : Below w.heap.size w w' := (((Below.refl _ _).alloc (Nat.le_refl _) _).alloc (by simp) _).trans (hb.mono (by simp; omega))
 exact bodyPost_ret (v := .tuple #[.agg #[.int .i64 a, .int .i64 6, .string ⟨#[110, 117, 109]⟩, .int .i64 a], .int .u64 0]) (by simp [results, Tryz.results85, go_sem, T.1, T.2.1, T.2.2.1, T.2.2.2]) rfl ⟨rfl, (((hB.setCell (by simp) _).setCell (by simp) _).setCell (by simp) _).setCell (by simp) _⟩
theorem num4_ok (b o L cap a : Nat) (wh most x0 x1 x2 x3 : Int) (op : ByteArray) (w : World) (hL : L ≤ 4000) (ha : a + 4 ≤ L) (h0 : 0 ≤ x0) (g0 : x0 ≤ 255) (h1 : 0 ≤ x1) (g1 : x1 ≤ 255) (h2 : 0 ≤ x2) (g2 : x2 ≤ 255) (h3 : 0 ≤ x3) (g3 : x3 ≤ 255) (hx : x0 / 64 = 2) (hn : 16384 ≤ ((x0 % 64 * 256 + x1) * 256 + x2) * 256 + x3) (hm : ¬ most < ((x0 % 64 * 256 + x1) * 256 + x2) * 256 + x3)
  (c0 : w.cell? ⟨b, o + a, none⟩ = some (.int .u8 x0)) (c1 : w.cell? ⟨b, o + (a + 1), none⟩ = some (.int .u8 x1)) (c2 : w.cell? ⟨b, o + (a + 2), none⟩ = some (.int .u8 x2)) (c3 : w.cell? ⟨b, o + (a + 3), none⟩ = some (.int .u8 x3)) :
  Calls Tryz.prog 85 #[.slice (some ⟨b, o, none⟩) L cap, stv a 0 op wh, .int .u64 most] w fun e w' => e = .returned (.tuple #[stv (a + 4) 0 ⟨#[]⟩ 0, .int .u64 (((x0 % 64 * 256 + x1) * 256 + x2) * 256 + x3)]) ∧ Below w.heap.size w w' := by
 have hbl := cell_block c0
 unfold stv
 go_enter Tryz.func85, Tryz.ntmps85
 go_wp2_with fail
 refine wp_loop_rounds 3 ?_
 rw [rounds_succ]
 go_wp2_with fail
 rw [rounds_succ]
 go_wp2_with fail
 rw [rounds_succ]
 go_wp2_with fail
 refine wp_loop_rounds 4 ?_
 rw [rounds_succ]
 go_wp2_with fail
 rw [rounds_succ]
 go_wp2_with fail
 rw [rounds_succ]
 go_wp2_with fail
 rw [rounds_succ]
 go_wp2_with (first | (go_at_call 114; refine (size_4 _ _ (by omega) (by omega) (by omega)).mono ?_; rintro e w' ⟨rfl, rfl⟩))
 exact bodyPost_ret (v := .tuple #[.agg #[.int .i64 (a + 4), .int .i64 0, .string ⟨#[]⟩, .int .i64 0], .int .u64 (((x0 % 64 * 256 + x1) * 256 + x2) * 256 + x3)]) (by simp [results, Tryz.results85, go_sem]) rfl ⟨rfl, ((Below.refl _ _).alloc (Nat.le_refl _) _).alloc (by simp) _⟩
theorem num8_short (b o L cap a : Nat) (wh most x0 : Int) (op : ByteArray) (w : World) (hL : L ≤ 4000) (ha : a < L) (hs : L < a + 8) (h0 : 0 ≤ x0) (g0 : x0 ≤ 255) (hx : x0 / 64 = 3) 
  (c0 : w.cell? ⟨b, o + a, none⟩ = some (.int .u8 x0)) :
  Calls Tryz.prog 85 #[.slice (some ⟨b, o, none⟩) L cap, stv a 0 op wh, .int .u64 most] w fun e w' => e = .returned (.tuple #[stv a 3 ⟨#[110, 117, 109]⟩ a, .int .u64 0]) ∧ Below w.heap.size w w' := by
 have hbl := cell_block c0
 have HB := hide (fun W => bad_any a 0 wh a 3 op ⟨#[110, 117, 109]⟩ W rfl)
 unfold stv at HB ⊢
 go_enter Tryz.func85, Tryz.ntmps85
 go_wp2_with fail
 refine wp_loop_rounds 4 ?_
 rw [rounds_succ]
 go_wp2_with fail
 rw [rounds_succ]
 go_wp2_with fail
 rw [rounds_succ]
 go_wp2_with fail
 rw [rounds_succ]
 go_wp2_with (first | (go_at_call 87; refine (HB.out _).mono ?_; rintro e w' ⟨rfl, hb⟩; obtain ⟨hcc, hf⟩ := bcell hb))
 have q0 : w'.cell? ⟨w.heap.size + 1, 0, none⟩ = some (.int .i64 0) := by rw [hcc _ _ (by simp)]; simp
 have q1 : w'.cell? ⟨w.heap.size + 1, 1, none⟩ = some (.int .i64 0) := by rw [hcc _ _ (by simp)]; simp
 have q2 : w'.cell? ⟨w.heap.size + 1, 2, none⟩ = some (.string ⟨#[]⟩) := by rw [hcc _ _ (by simp)]; simp
 have q3 : w'.cell? ⟨w.heap.size + 1, 3, none⟩ = some (.int .i64 0) := by rw [hcc _ _ (by simp)]; simp
 have T := four_cells (x := .int .i64 a) (y := .int .i64 3) (z := .string ⟨#[110, 117, 109]⟩) (t := .int .i64 a) q0 q1 q2 q3
 have hB : Below w.heap.size w w' := (((Below.refl _ _).alloc (Nat.le_refl _) _).alloc (by simp) _).trans (hb.mono (by simp; omega))
 exact bodyPost_ret (v := .tuple #[.agg #[.int .i64 a, .int .i64 3, .string ⟨#[110, 117, 109]⟩, .int .i64 a], .int .u64 0]) (by simp [results, Tryz.results85, go_sem, T.1, T.2.1, T.2.2.1, T.2.2.2]) rfl ⟨rfl, (((hB.setCell (by simp) _).setCell (by simp) _).setCell (by simp) _).setCell (by simp) _⟩
theorem num8_kind (b o L cap a : Nat) (wh most x0 x1 x2 x3 x4 x5 x6 x7 : Int) (op : ByteArray) (w : World) (hL : L ≤ 4000) (ha : a + 8 ≤ L) (h0 : 0 ≤ x0) (g0 : x0 ≤ 255) (h1 : 0 ≤ x1) (g1 : x1 ≤ 255) (h2 : 0 ≤ x2) (g2 : x2 ≤ 255) (h3 : 0 ≤ x3) (g3 : x3 ≤ 255) (h4 : 0 ≤ x4) (g4 : x4 ≤ 255) (h5 : 0 ≤ x5) (g5 : x5 ≤ 255) (h6 : 0 ≤ x6) (g6 : x6 ≤ 255) (h7 : 0 ≤ x7) (g7 : x7 ≤ 255) (hx : x0 / 64 = 3) (hn : ((((((x0 % 64 * 256 + x1) * 256 + x2) * 256 + x3) * 256 + x4) * 256 + x5) * 256 + x6) * 256 + x7 < 1073741824)
  (c0 : w.cell? ⟨b, o + a, none⟩ = some (.int .u8 x0)) (c1 : w.cell? ⟨b, o + (a + 1), none⟩ = some (.int .u8 x1)) (c2 : w.cell? ⟨b, o + (a + 2), none⟩ = some (.int .u8 x2)) (c3 : w.cell? ⟨b, o + (a + 3), none⟩ = some (.int .u8 x3)) (c4 : w.cell? ⟨b, o + (a + 4), none⟩ = some (.int .u8 x4)) (c5 : w.cell? ⟨b, o + (a + 5), none⟩ = some (.int .u8 x5)) (c6 : w.cell? ⟨b, o + (a + 6), none⟩ = some (.int .u8 x6)) (c7 : w.cell? ⟨b, o + (a + 7), none⟩ = some (.int .u8 x7)) :
  Calls Tryz.prog 85 #[.slice (some ⟨b, o, none⟩) L cap, stv a 0 op wh, .int .u64 most] w fun e w' => e = .returned (.tuple #[stv a 5 ⟨#[110, 117, 109]⟩ a, .int .u64 0]) ∧ Below w.heap.size w w' := by
 have hbl := cell_block c0
 have HB := hide (fun W => bad_any a 0 wh a 5 op ⟨#[110, 117, 109]⟩ W rfl)
 unfold stv at HB ⊢
 go_enter Tryz.func85, Tryz.ntmps85
 go_wp2_with fail
 refine wp_loop_rounds 4 ?_
 rw [rounds_succ]
 go_wp2_with fail
 rw [rounds_succ]
 go_wp2_with fail
 rw [rounds_succ]
 go_wp2_with fail
 rw [rounds_succ]
 go_wp2_with fail
 refine wp_loop_rounds 8 ?_
 rw [rounds_succ]
 go_wp2_with fail
 rw [rounds_succ]
 go_wp2_with fail
 rw [rounds_succ]
 go_wp2_with fail
 rw [rounds_succ]
 go_wp2_with fail
 rw [rounds_succ]
 go_wp2_with fail
 rw [rounds_succ]
 go_wp2_with fail
 rw [rounds_succ]
 go_wp2_with fail
 rw [rounds_succ]
 go_wp2_with (first | (go_at_call 114; refine (small8 _ _ hn).mono ?_; rintro e w' ⟨⟨s, rfl, hs⟩, rfl⟩) | (go_at_call 87; refine (HB.out _).mono ?_; rintro e w' ⟨rfl, hb⟩; obtain ⟨hcc, hf⟩ := bcell hb))
 have q0 : w'.cell? ⟨w.heap.size + 1, 0, none⟩ = some (.int .i64 0) := by rw [hcc _ _ (by simp)]; simp
 have q1 : w'.cell? ⟨w.heap.size + 1, 1, none⟩ = some (.int .i64 0) := by rw [hcc _ _ (by simp)]; simp
 have q2 : w'.cell? ⟨w.heap.size + 1, 2, none⟩ = some (.string ⟨#[]⟩) := by rw [hcc _ _ (by simp)]; simp
 have q3 : w'.cell? ⟨w.heap.size + 1, 3, none⟩ = some (.int .i64 0) := by rw [hcc _ _ (by simp)]; simp
 have T := four_cells (x := .int .i64 a) (y := .int .i64 5) (z := .string ⟨#[110, 117, 109]⟩) (t := .int .i64 a) q0 q1 q2 q3
 have hB : Below w.heap.size w w' := (((Below.refl _ _).alloc (Nat.le_refl _) _).alloc (by simp) _).trans (hb.mono (by simp; omega))
 exact bodyPost_ret (v := .tuple #[.agg #[.int .i64 a, .int .i64 5, .string ⟨#[110, 117, 109]⟩, .int .i64 a], .int .u64 0]) (by simp [results, Tryz.results85, go_sem, T.1, T.2.1, T.2.2.1, T.2.2.2]) rfl ⟨rfl, (((hB.setCell (by simp) _).setCell (by simp) _).setCell (by simp) _).setCell (by simp) _⟩
theorem num8_limit (b o L cap a : Nat) (wh most x0 x1 x2 x3 x4 x5 x6 x7 : Int) (op : ByteArray) (w : World) (hL : L ≤ 4000) (ha : a + 8 ≤ L) (h0 : 0 ≤ x0) (g0 : x0 ≤ 255) (h1 : 0 ≤ x1) (g1 : x1 ≤ 255) (h2 : 0 ≤ x2) (g2 : x2 ≤ 255) (h3 : 0 ≤ x3) (g3 : x3 ≤ 255) (h4 : 0 ≤ x4) (g4 : x4 ≤ 255) (h5 : 0 ≤ x5) (g5 : x5 ≤ 255) (h6 : 0 ≤ x6) (g6 : x6 ≤ 255) (h7 : 0 ≤ x7) (g7 : x7 ≤ 255) (hx : x0 / 64 = 3) (hn : 1073741824 ≤ ((((((x0 % 64 * 256 + x1) * 256 + x2) * 256 + x3) * 256 + x4) * 256 + x5) * 256 + x6) * 256 + x7) (hm : most < ((((((x0 % 64 * 256 + x1) * 256 + x2) * 256 + x3) * 256 + x4) * 256 + x5) * 256 + x6) * 256 + x7)
  (c0 : w.cell? ⟨b, o + a, none⟩ = some (.int .u8 x0)) (c1 : w.cell? ⟨b, o + (a + 1), none⟩ = some (.int .u8 x1)) (c2 : w.cell? ⟨b, o + (a + 2), none⟩ = some (.int .u8 x2)) (c3 : w.cell? ⟨b, o + (a + 3), none⟩ = some (.int .u8 x3)) (c4 : w.cell? ⟨b, o + (a + 4), none⟩ = some (.int .u8 x4)) (c5 : w.cell? ⟨b, o + (a + 5), none⟩ = some (.int .u8 x5)) (c6 : w.cell? ⟨b, o + (a + 6), none⟩ = some (.int .u8 x6)) (c7 : w.cell? ⟨b, o + (a + 7), none⟩ = some (.int .u8 x7)) :
  Calls Tryz.prog 85 #[.slice (some ⟨b, o, none⟩) L cap, stv a 0 op wh, .int .u64 most] w fun e w' => e = .returned (.tuple #[stv a 6 ⟨#[110, 117, 109]⟩ a, .int .u64 0]) ∧ Below w.heap.size w w' := by
 have hbl := cell_block c0
 have HB := hide (fun W => bad_any a 0 wh a 6 op ⟨#[110, 117, 109]⟩ W rfl)
 unfold stv at HB ⊢
 go_enter Tryz.func85, Tryz.ntmps85
 go_wp2_with fail
 refine wp_loop_rounds 4 ?_
 rw [rounds_succ]
 go_wp2_with fail
 rw [rounds_succ]
 go_wp2_with fail
 rw [rounds_succ]
 go_wp2_with fail
 rw [rounds_succ]
 go_wp2_with fail
 refine wp_loop_rounds 8 ?_
 rw [rounds_succ]
 go_wp2_with fail
 rw [rounds_succ]
 go_wp2_with fail
 rw [rounds_succ]
 go_wp2_with fail
 rw [rounds_succ]
 go_wp2_with fail
 rw [rounds_succ]
 go_wp2_with fail
 rw [rounds_succ]
 go_wp2_with fail
 rw [rounds_succ]
 go_wp2_with fail
 rw [rounds_succ]
 go_wp2_with (first | (go_at_call 114; refine (size_8 _ _ (by omega) (by omega) (by omega)).mono ?_; rintro e w' ⟨rfl, rfl⟩) | (go_at_call 87; refine (HB.out _).mono ?_; rintro e w' ⟨rfl, hb⟩; obtain ⟨hcc, hf⟩ := bcell hb))
 have q0 : w'.cell? ⟨w.heap.size + 1, 0, none⟩ = some (.int .i64 0) := by rw [hcc _ _ (by simp)]; simp
 have q1 : w'.cell? ⟨w.heap.size + 1, 1, none⟩ = some (.int .i64 0) := by rw [hcc _ _ (by simp)]; simp
 have q2 : w'.cell? ⟨w.heap.size + 1, 2, none⟩ = some (.string ⟨#[]⟩) := by rw [hcc _ _ (by simp)]; simp
 have q3 : w'.cell? ⟨w.heap.size + 1, 3, none⟩ = some (.int .i64 0) := by rw [hcc _ _ (by simp)]; simp
 have T := four_cells (x := .int .i64 a) (y := .int .i64 6) (z := .string ⟨#[110, 117, 109]⟩) (t := .int .i64 a) q0 q1 q2 q3
 have hB : Below w.heap.size w w' := (((Below.refl _ _).alloc (Nat.le_refl _) _).alloc (by simp) _).trans (hb.mono (by simp; omega))
 exact bodyPost_ret (v := .tuple #[.agg #[.int .i64 a, .int .i64 6, .string ⟨#[110, 117, 109]⟩, .int .i64 a], .int .u64 0]) (by simp [results, Tryz.results85, go_sem, T.1, T.2.1, T.2.2.1, T.2.2.2]) rfl ⟨rfl, (((hB.setCell (by simp) _).setCell (by simp) _).setCell (by simp) _).setCell (by simp) _⟩
theorem num8_ok (b o L cap a : Nat) (wh most x0 x1 x2 x3 x4 x5 x6 x7 : Int) (op : ByteArray) (w : World) (hL : L ≤ 4000) (ha : a + 8 ≤ L) (h0 : 0 ≤ x0) (g0 : x0 ≤ 255) (h1 : 0 ≤ x1) (g1 : x1 ≤ 255) (h2 : 0 ≤ x2) (g2 : x2 ≤ 255) (h3 : 0 ≤ x3) (g3 : x3 ≤ 255) (h4 : 0 ≤ x4) (g4 : x4 ≤ 255) (h5 : 0 ≤ x5) (g5 : x5 ≤ 255) (h6 : 0 ≤ x6) (g6 : x6 ≤ 255) (h7 : 0 ≤ x7) (g7 : x7 ≤ 255) (hx : x0 / 64 = 3) (hn : 1073741824 ≤ ((((((x0 % 64 * 256 + x1) * 256 + x2) * 256 + x3) * 256 + x4) * 256 + x5) * 256 + x6) * 256 + x7) (hm : ¬ most < ((((((x0 % 64 * 256 + x1) * 256 + x2) * 256 + x3) * 256 + x4) * 256 + x5) * 256 + x6) * 256 + x7)
  (c0 : w.cell? ⟨b, o + a, none⟩ = some (.int .u8 x0)) (c1 : w.cell? ⟨b, o + (a + 1), none⟩ = some (.int .u8 x1)) (c2 : w.cell? ⟨b, o + (a + 2), none⟩ = some (.int .u8 x2)) (c3 : w.cell? ⟨b, o + (a + 3), none⟩ = some (.int .u8 x3)) (c4 : w.cell? ⟨b, o + (a + 4), none⟩ = some (.int .u8 x4)) (c5 : w.cell? ⟨b, o + (a + 5), none⟩ = some (.int .u8 x5)) (c6 : w.cell? ⟨b, o + (a + 6), none⟩ = some (.int .u8 x6)) (c7 : w.cell? ⟨b, o + (a + 7), none⟩ = some (.int .u8 x7)) :
  Calls Tryz.prog 85 #[.slice (some ⟨b, o, none⟩) L cap, stv a 0 op wh, .int .u64 most] w fun e w' => e = .returned (.tuple #[stv (a + 8) 0 ⟨#[]⟩ 0, .int .u64 (((((((x0 % 64 * 256 + x1) * 256 + x2) * 256 + x3) * 256 + x4) * 256 + x5) * 256 + x6) * 256 + x7)]) ∧ Below w.heap.size w w' := by
 have hbl := cell_block c0
 unfold stv
 go_enter Tryz.func85, Tryz.ntmps85
 go_wp2_with fail
 refine wp_loop_rounds 4 ?_
 rw [rounds_succ]
 go_wp2_with fail
 rw [rounds_succ]
 go_wp2_with fail
 rw [rounds_succ]
 go_wp2_with fail
 rw [rounds_succ]
 go_wp2_with fail
 refine wp_loop_rounds 8 ?_
 rw [rounds_succ]
 go_wp2_with fail
 rw [rounds_succ]
 go_wp2_with fail
 rw [rounds_succ]
 go_wp2_with fail
 rw [rounds_succ]
 go_wp2_with fail
 rw [rounds_succ]
 go_wp2_with fail
 rw [rounds_succ]
 go_wp2_with fail
 rw [rounds_succ]
 go_wp2_with fail
 rw [rounds_succ]
 go_wp2_with (first | (go_at_call 114; refine (size_8 _ _ (by omega) (by omega) (by omega)).mono ?_; rintro e w' ⟨rfl, rfl⟩))
 exact bodyPost_ret (v := .tuple #[.agg #[.int .i64 (a + 8), .int .i64 0, .string ⟨#[]⟩, .int .i64 0], .int .u64 (((((((x0 % 64 * 256 + x1) * 256 + x2) * 256 + x3) * 256 + x4) * 256 + x5) * 256 + x6) * 256 + x7)]) (by simp [results, Tryz.results85, go_sem]) rfl ⟨rfl, ((Below.refl _ _).alloc (Nat.le_refl _) _).alloc (by simp) _⟩
end Go.Proofs.YtjjpfajbljbelaaGreatDoor
