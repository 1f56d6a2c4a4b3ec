/-
  WHAT A READER READS NEXT (castellanlaw02.got), out of what its calls tell. Conditions: the bytes' cells hold them, they lie off the reader, no more than ten thousand.
-/
import Derived.Test.YtfjkahclobnhiaaDoorWrow
namespace Go.Proofs.YtfjkahclobnhiaaDoor
open Go.RowKit

theorem Bx.setNew {p : Nat} {a b : World} (h : Bx p a b) {k : Nat} (i : Nat) (x : Value) (hk : a.heap.size ≤ k) : Bx p a (b.setCell ⟨k, i, none⟩ x) :=
  ⟨h.os, h.tape, h.output, Nat.le_trans h.size (by simp [World.setCell]), fun j hj hp => (Below.heap_setCell _ _ _ _ (fun e => by simp at e; omega)).trans (h.block j hj hp)⟩
theorem Rd.setNew {W : World} {p : Nat} {v : Value} {a : Int} {e : Value} (h : Rd W p v a e) {k : Nat} (i : Nat) (x : Value) (hk : ¬ k = p) : Rd (W.setCell ⟨k, i, none⟩ x) p v a e :=
  ⟨by rw [World.cell?_setCell_other _ _ _ _ (fun q => hk (congrArg Addr.block q))]; exact h.c0, by rw [World.cell?_setCell_other _ _ _ _ (fun q => hk (congrArg Addr.block q))]; exact h.c1, by rw [World.cell?_setCell_other _ _ _ _ (fun q => hk (congrArg Addr.block q))]; exact h.c2, fun i => by simp [h.fz i]⟩
theorem Slx.setNew {α : Type} {f : α → Value} {q : Nat} {W : World} {v : Value} {l : List α} (h : Slx q f W v l) (i : Nat) (x : Value) : Slx q f (W.setCell ⟨q, i, none⟩ x) v l := by
  rcases h with h | ⟨b, o, cap, h1, h2, hp, h3⟩
  · exact .inl h
  · refine .inr ⟨b, o, cap, h1, h2, hp, fun j hj => ?_⟩
    rw [World.cell?_setCell_other _ _ _ _ (fun q => hp (congrArg Addr.block q).symm)]
    exact h3 j hj
theorem Sl.off {α : Type} {f : α → Value} {q : Nat} {W : World} {v : Value} {l : List α} (h : Sl f W v l) (hq : ∀ i x, W.cell? ⟨q, i, none⟩ ≠ some (f x)) : Slx q f W v l := by
  rcases h with h | ⟨b, o, cap, h1, h2, h3⟩
  · exact .inl h
  · by_cases hb : b = q
    · subst hb
      by_cases hl : 0 < l.length
      · exact absurd (h3 0 hl) (hq _ _)
      · exact .inl ⟨_, _, List.length_eq_zero_iff.1 (by omega), by rw [h1, show l.length = 0 by omega]⟩
    · exact .inr ⟨b, o, cap, h1, h2, hb, h3⟩
/-- The four cells of what was read, as they begin. -/
structure Gz (W : World) (q : Nat) : Prop where
  c0 : W.cell? ⟨q, 0, none⟩ = some (.int .u64 0)
  c1 : W.cell? ⟨q, 1, none⟩ = some (.bool false)
  c2 : W.cell? ⟨q, 2, none⟩ = some (.slice none 0 0)
  c3 : W.cell? ⟨q, 3, none⟩ = some (.slice none 0 0)
  c4 : ∀ i, 4 ≤ i → W.cell? ⟨q, i, none⟩ = none
  fz : ∀ i, W.frozen? ⟨q, i, none⟩ = false
theorem Gz.bx {p q : Nat} {W W' : World} (h : Gz W q) (hb : Bx p W W') (hq : q < W.heap.size) (hp : q ≠ p) : Gz W' q :=
  ⟨(hb.cell hq hp).trans h.c0, (hb.cell hq hp).trans h.c1, (hb.cell hq hp).trans h.c2, (hb.cell hq hp).trans h.c3, fun i hi => (hb.cell hq hp).trans (h.c4 i hi), fun i => (hb.frozen hq hp).trans (h.fz i)⟩
theorem Gz.made (w : World) (o : Obj) : Gz ((w.alloc o).alloc (.cells #[.int .u64 0, .bool false, .slice none 0 0, .slice none 0 0] 45)) (w.heap.size + 1) :=
  ⟨by simp, by simp, by simp, by simp, fun i hi => by rw [World.cell?_alloc_at _ _ _ _ (by simp)]; simp; omega, fun i => World.frozen?_alloc_at _ _ _ _ (by simp)⟩
theorem Gz.nob {W : World} {q : Nat} (h : Gz W q) (f : Int → Value) (hf : ∀ x, f x ≠ .int .u64 0 ∧ f x ≠ .bool false ∧ f x ≠ .slice none 0 0) : ∀ i x, W.cell? ⟨q, i, none⟩ ≠ some (f x) := by
  intro i x e
  by_cases h4 : 4 ≤ i
  · rw [h.c4 i h4] at e; cases e
  · obtain ⟨h1, h2, h3⟩ := hf x
    have : i = 0 ∨ i = 1 ∨ i = 2 ∨ i = 3 := by omega
    rcases this with rfl | rfl | rfl | rfl
    · rw [h.c0] at e; exact h1 (Option.some.inj e).symm
    · rw [h.c1] at e; exact h2 (Option.some.inj e).symm
    · rw [h.c2] at e; exact h3 (Option.some.inj e).symm
    · rw [h.c3] at e; exact h3 (Option.some.inj e).symm
theorem bc_no (x : Int) : bc x ≠ .int .u64 0 ∧ bc x ≠ .bool false ∧ bc x ≠ .slice none 0 0 := ⟨by simp [bc], by simp [bc], by simp [bc]⟩
theorem ic_no (x : Int) : ic x ≠ .int .u64 0 ∧ ic x ≠ .bool false ∧ ic x ≠ .slice none 0 0 := ⟨by simp [ic], by simp [ic], by simp [ic]⟩
theorem new4 {u : World} {n : Nat} {x y z t x' y' z' t' : Value} (h0 : u.cell? ⟨n, 0, none⟩ = some x') (h1 : u.cell? ⟨n, 1, none⟩ = some y') (h2 : u.cell? ⟨n, 2, none⟩ = some z') (h3 : u.cell? ⟨n, 3, none⟩ = some t') :
    ((((u.setCell ⟨n, 0, none⟩ x).setCell ⟨n, 1, none⟩ y).setCell ⟨n, 2, none⟩ z).setCell ⟨n, 3, none⟩ t).cell? ⟨n, 0, none⟩ = some x ∧ ((((u.setCell ⟨n, 0, none⟩ x).setCell ⟨n, 1, none⟩ y).setCell ⟨n, 2, none⟩ z).setCell ⟨n, 3, none⟩ t).cell? ⟨n, 1, none⟩ = some y ∧
    ((((u.setCell ⟨n, 0, none⟩ x).setCell ⟨n, 1, none⟩ y).setCell ⟨n, 2, none⟩ z).setCell ⟨n, 3, none⟩ t).cell? ⟨n, 2, none⟩ = some z ∧ ((((u.setCell ⟨n, 0, none⟩ x).setCell ⟨n, 1, none⟩ y).setCell ⟨n, 2, none⟩ z).setCell ⟨n, 3, none⟩ t).cell? ⟨n, 3, none⟩ = some t := by
  refine ⟨?_, ?_, ?_, ?_⟩
  · iterate 3 rw [World.cell?_setCell_other _ _ _ _ (by simp)]
    exact World.cell?_setCell_same _ _ _ h0
  · iterate 2 rw [World.cell?_setCell_other _ _ _ _ (by simp)]
    refine World.cell?_setCell_same _ _ _ (u := y') ?_
    rw [World.cell?_setCell_other _ _ _ _ (by simp)]
    exact h1
  · rw [World.cell?_setCell_other _ _ _ _ (by simp)]
    refine World.cell?_setCell_same _ _ _ (u := z') ?_
    iterate 2 rw [World.cell?_setCell_other _ _ _ _ (by simp)]
    exact h2
  · refine World.cell?_setCell_same _ _ _ (u := t') ?_
    iterate 3 rw [World.cell?_setCell_other _ _ _ _ (by simp)]
    exact h3

set_option maxRecDepth 100000 in
set_option maxHeartbeats 4000000 in
theorem got_num (p : Nat) (V : Value) (a A M E N : Int) (e0 e1 : Value) (w : World) (hr : Rd w p V a e0) (hM : M ≤ 9223372036854775807)
    (HC : Hid (∀ W, Rd W p V a e0 → Below w.heap.size w W → Calls Tryd.prog 29 #[.pointer (some ⟨p, 0, none⟩), .int .u64 (abv' M)] W fun x w' => x = .returned (.int .u64 N) ∧ Rd w' p V A e1 ∧ Bx p W w')) :
    Calls Tryd.prog 21 #[.pointer (some ⟨p, 0, none⟩), .agg #[.int .i64 0, .int .i64 M, .int .i64 E]] w fun x w' => x = .returned (.agg #[.int .u64 N, .bool false, .slice none 0 0, .slice none 0 0]) ∧ Rd w' p V A e1 ∧ Bx p w w' := by
  have hp := hr.lt
  have HR := hide hr
  clear hr
  have hne : ¬ w.heap.size + 1 = p := by omega
  have hk : w.heap.size ≤ w.heap.size + 1 := Nat.le_succ _
  have hb1 : Below w.heap.size w ((w.alloc (.cells #[.int .i64 0, .int .i64 M, .int .i64 E] 48)).alloc (.cells #[.int .u64 0, .bool false, .slice none 0 0, .slice none 0 0] 45)) := ((Below.refl _ _).alloc (Nat.le_refl _) _).alloc (by simp) _
  have HB1 := hide hb1
  have HG := hide (Gz.made w (.cells #[.int .i64 0, .int .i64 M, .int .i64 E] 48))
  clear hb1
  by_cases hM0 : M < 0
  · rw [show abv' M = 0 from if_pos hM0] at HC
    go_enter Tryd.func21, Tryd.ntmps21
    go_wp2_with fail
    refine (HC.out _ (HR.out.below HB1.out) HB1.out).mono ?_
    rintro e w2 ⟨rfl, hr2, hx2⟩
    have hG2 := HG.out.bx hx2 (by simp) (by omega)
    obtain ⟨g0, g1, g2, g3, g4, gf⟩ := id hG2
    have f0 := gf 0
    have f1 := gf 1
    have f2 := gf 2
    have f3 := gf 3
    have HR2 := hide hr2
    have HX2 := hide ((Bx.of HB1.out).trans hx2)
    clear hr2 hx2 gf g4 hG2
    go_wp2
    have T := new4 (x := .int .u64 N) (y := .bool false) (z := .slice none 0 0) (t := .slice none 0 0) g0 g1 g2 g3
    exact bodyPost_ret (v := .agg #[.int .u64 N, .bool false, .slice none 0 0, .slice none 0 0]) (by simp [results, Tryd.results21, go_sem, T.1, T.2.1, T.2.2.1, T.2.2.2]) rfl ⟨rfl, (((HR2.out.setNew 0 _ hne).setNew 1 _ hne).setNew 2 _ hne).setNew 3 _ hne, (((HX2.out.setNew 0 _ hk).setNew 1 _ hk).setNew 2 _ hk).setNew 3 _ hk⟩
  · rw [show abv' M = M from if_neg hM0] at HC
    go_enter Tryd.func21, Tryd.ntmps21
    go_wp2_with fail
    refine (HC.out _ (HR.out.below HB1.out) HB1.out).mono ?_
    rintro e w2 ⟨rfl, hr2, hx2⟩
    have hG2 := HG.out.bx hx2 (by simp) (by omega)
    obtain ⟨g0, g1, g2, g3, g4, gf⟩ := id hG2
    have f0 := gf 0
    have f1 := gf 1
    have f2 := gf 2
    have f3 := gf 3
    have HR2 := hide hr2
    have HX2 := hide ((Bx.of HB1.out).trans hx2)
    clear hr2 hx2 gf g4 hG2
    go_wp2
    have T := new4 (x := .int .u64 N) (y := .bool false) (z := .slice none 0 0) (t := .slice none 0 0) g0 g1 g2 g3
    exact bodyPost_ret (v := .agg #[.int .u64 N, .bool false, .slice none 0 0, .slice none 0 0]) (by simp [results, Tryd.results21, go_sem, T.1, T.2.1, T.2.2.1, T.2.2.2]) rfl ⟨rfl, (((HR2.out.setNew 0 _ hne).setNew 1 _ hne).setNew 2 _ hne).setNew 3 _ hne, (((HX2.out.setNew 0 _ hk).setNew 1 _ hk).setNew 2 _ hk).setNew 3 _ hk⟩
set_option maxRecDepth 100000 in
set_option maxHeartbeats 4000000 in
theorem got_int (p : Nat) (V : Value) (a A M E N : Int) (e0 e1 : Value) (w : World) (hr : Rd w p V a e0) (n0 : 0 ≤ N) (n1 : N ≤ 9223372036854775807)
    (HC : Hid (∀ W, Rd W p V a e0 → Below w.heap.size w W → Calls Tryd.prog 30 #[.pointer (some ⟨p, 0, none⟩), .int .i64 M] W fun x w' => x = .returned (.int .i64 N) ∧ Rd w' p V A e1 ∧ Bx p W w')) :
    Calls Tryd.prog 21 #[.pointer (some ⟨p, 0, none⟩), .agg #[.int .i64 1, .int .i64 M, .int .i64 E]] w fun x w' => x = .returned (.agg #[.int .u64 N, .bool false, .slice none 0 0, .slice none 0 0]) ∧ Rd w' p V A e1 ∧ Bx p w w' := by
  have hp := hr.lt
  have HR := hide hr
  clear hr
  have hne : ¬ w.heap.size + 1 = p := by omega
  have hk : w.heap.size ≤ w.heap.size + 1 := Nat.le_succ _
  have hb1 : Below w.heap.size w ((w.alloc (.cells #[.int .i64 1, .int .i64 M, .int .i64 E] 48)).alloc (.cells #[.int .u64 0, .bool false, .slice none 0 0, .slice none 0 0] 45)) := ((Below.refl _ _).alloc (Nat.le_refl _) _).alloc (by simp) _
  have HB1 := hide hb1
  have HG := hide (Gz.made w (.cells #[.int .i64 1, .int .i64 M, .int .i64 E] 48))
  clear hb1
  go_enter Tryd.func21, Tryd.ntmps21
  go_wp2_with fail
  refine (HC.out _ (HR.out.below HB1.out) HB1.out).mono ?_
  rintro e w2 ⟨rfl, hr2, hx2⟩
  have hG2 := HG.out.bx hx2 (by simp) (by omega)
  obtain ⟨g0, g1, g2, g3, g4, gf⟩ := id hG2
  have f0 := gf 0
  have f1 := gf 1
  have f2 := gf 2
  have f3 := gf 3
  have HR2 := hide hr2
  have HX2 := hide ((Bx.of HB1.out).trans hx2)
  clear hr2 hx2 gf g4 hG2
  go_wp2
  have T := new4 (x := .int .u64 N) (y := .bool false) (z := .slice none 0 0) (t := .slice none 0 0) g0 g1 g2 g3
  exact bodyPost_ret (v := .agg #[.int .u64 N, .bool false, .slice none 0 0, .slice none 0 0]) (by simp [results, Tryd.results21, go_sem, T.1, T.2.1, T.2.2.1, T.2.2.2]) rfl ⟨rfl, (((HR2.out.setNew 0 _ hne).setNew 1 _ hne).setNew 2 _ hne).setNew 3 _ hne, (((HX2.out.setNew 0 _ hk).setNew 1 _ hk).setNew 2 _ hk).setNew 3 _ hk⟩
set_option maxRecDepth 100000 in
set_option maxHeartbeats 4000000 in
theorem got_flag (p : Nat) (V : Value) (a A M E : Int) (F : Bool) (e0 e1 : Value) (w : World) (hr : Rd w p V a e0)
    (HC : Hid (∀ W, Rd W p V a e0 → Below w.heap.size w W → Calls Tryd.prog 31 #[.pointer (some ⟨p, 0, none⟩)] W fun x w' => x = .returned (.bool F) ∧ Rd w' p V A e1 ∧ Bx p W w')) :
    Calls Tryd.prog 21 #[.pointer (some ⟨p, 0, none⟩), .agg #[.int .i64 2, .int .i64 M, .int .i64 E]] w fun x w' => x = .returned (.agg #[.int .u64 0, .bool F, .slice none 0 0, .slice none 0 0]) ∧ Rd w' p V A e1 ∧ Bx p w w' := by
  have hp := hr.lt
  have HR := hide hr
  clear hr
  have hne : ¬ w.heap.size + 1 = p := by omega
  have hk : w.heap.size ≤ w.heap.size + 1 := Nat.le_succ _
  have hb1 : Below w.heap.size w ((w.alloc (.cells #[.int .i64 2, .int .i64 M, .int .i64 E] 48)).alloc (.cells #[.int .u64 0, .bool false, .slice none 0 0, .slice none 0 0] 45)) := ((Below.refl _ _).alloc (Nat.le_refl _) _).alloc (by simp) _
  have HB1 := hide hb1
  have HG := hide (Gz.made w (.cells #[.int .i64 2, .int .i64 M, .int .i64 E] 48))
  clear hb1
  go_enter Tryd.func21, Tryd.ntmps21
  go_wp2_with fail
  refine (HC.out _ (HR.out.below HB1.out) HB1.out).mono ?_
  rintro e w2 ⟨rfl, hr2, hx2⟩
  have hG2 := HG.out.bx hx2 (by simp) (by omega)
  obtain ⟨g0, g1, g2, g3, g4, gf⟩ := id hG2
  have f0 := gf 0
  have f1 := gf 1
  have f2 := gf 2
  have f3 := gf 3
  have HR2 := hide hr2
  have HX2 := hide ((Bx.of HB1.out).trans hx2)
  clear hr2 hx2 gf g4 hG2
  go_wp2
  have T := new4 (x := .int .u64 0) (y := .bool F) (z := .slice none 0 0) (t := .slice none 0 0) g0 g1 g2 g3
  exact bodyPost_ret (v := .agg #[.int .u64 0, .bool F, .slice none 0 0, .slice none 0 0]) (by simp [results, Tryd.results21, go_sem, T.1, T.2.1, T.2.2.1, T.2.2.2]) rfl ⟨rfl, (((HR2.out.setNew 0 _ hne).setNew 1 _ hne).setNew 2 _ hne).setNew 3 _ hne, (((HX2.out.setNew 0 _ hk).setNew 1 _ hk).setNew 2 _ hk).setNew 3 _ hk⟩
set_option maxRecDepth 100000 in
set_option maxHeartbeats 4000000 in
theorem got_text (p : Nat) (V : Value) (a A M E : Int) (t : List Int) (e0 e1 : Value) (w : World) (hr : Rd w p V a e0)
    (HC : Hid (∀ W, Rd W p V a e0 → Below w.heap.size w W → Calls Tryd.prog 32 #[.pointer (some ⟨p, 0, none⟩), .int .i64 M] W fun x w' => ∃ v', x = .returned v' ∧ Sl bc w' v' t ∧ Rd w' p V A e1 ∧ Bx p W w')) :
    Calls Tryd.prog 21 #[.pointer (some ⟨p, 0, none⟩), .agg #[.int .i64 3, .int .i64 M, .int .i64 E]] w fun x w' => ∃ v', x = .returned (.agg #[.int .u64 0, .bool false, v', .slice none 0 0]) ∧ Sl bc w' v' t ∧ Rd w' p V A e1 ∧ Bx p w w' := by
  have hp := hr.lt
  have HR := hide hr
  clear hr
  have hne : ¬ w.heap.size + 1 = p := by omega
  have hk : w.heap.size ≤ w.heap.size + 1 := Nat.le_succ _
  have hb1 : Below w.heap.size w ((w.alloc (.cells #[.int .i64 3, .int .i64 M, .int .i64 E] 48)).alloc (.cells #[.int .u64 0, .bool false, .slice none 0 0, .slice none 0 0] 45)) := ((Below.refl _ _).alloc (Nat.le_refl _) _).alloc (by simp) _
  have HB1 := hide hb1
  have HG := hide (Gz.made w (.cells #[.int .i64 3, .int .i64 M, .int .i64 E] 48))
  clear hb1
  go_enter Tryd.func21, Tryd.ntmps21
  go_wp2_with fail
  refine (HC.out _ (HR.out.below HB1.out) HB1.out).mono ?_
  rintro e w2 ⟨v', rfl, hs2, hr2, hx2⟩
  have hG2 := HG.out.bx hx2 (by simp) (by omega)
  obtain ⟨g0, g1, g2, g3, g4, gf⟩ := id hG2
  have f0 := gf 0
  have f1 := gf 1
  have f2 := gf 2
  have f3 := gf 3
  have HR2 := hide hr2
  have HX2 := hide ((Bx.of HB1.out).trans hx2)
  obtain ⟨ao', cap', hV⟩ := hs2.form
  subst hV
  have HSL := hide (hs2.off (hG2.nob bc bc_no))
  clear hs2
  clear hr2 hx2 gf g4 hG2
  go_wp2
  have T := new4 (x := .int .u64 0) (y := .bool false) (z := .slice ao' t.length cap') (t := .slice none 0 0) g0 g1 g2 g3
  exact bodyPost_ret (v := .agg #[.int .u64 0, .bool false, .slice ao' t.length cap', .slice none 0 0]) (by simp [results, Tryd.results21, go_sem, T.1, T.2.1, T.2.2.1, T.2.2.2]) rfl ⟨_, rfl, ((((HSL.out.setNew 0 _).setNew 1 _).setNew 2 _).setNew 3 _).sl, (((HR2.out.setNew 0 _ hne).setNew 1 _ hne).setNew 2 _ hne).setNew 3 _ hne, (((HX2.out.setNew 0 _ hk).setNew 1 _ hk).setNew 2 _ hk).setNew 3 _ hk⟩
set_option maxRecDepth 100000 in
set_option maxHeartbeats 4000000 in
theorem got_row (p : Nat) (V : Value) (a A K M E : Int) (r : List Int) (e0 e1 : Value) (w : World) (hr : Rd w p V a e0) (k0 : (K == 0) = false) (k1 : (K == 1) = false) (k2 : (K == 2) = false) (k3 : (K == 3) = false)
    (HC : Hid (∀ W, Rd W p V a e0 → Below w.heap.size w W → Calls Tryd.prog 33 #[.pointer (some ⟨p, 0, none⟩), .int .i64 M, .int .i64 E] W fun x w' => ∃ v', x = .returned v' ∧ Sl ic w' v' r ∧ Rd w' p V A e1 ∧ Bx p W w')) :
    Calls Tryd.prog 21 #[.pointer (some ⟨p, 0, none⟩), .agg #[.int .i64 K, .int .i64 M, .int .i64 E]] w fun x w' => ∃ v', x = .returned (.agg #[.int .u64 0, .bool false, .slice none 0 0, v']) ∧ Sl ic w' v' r ∧ Rd w' p V A e1 ∧ Bx p w w' := by
  have hp := hr.lt
  have HR := hide hr
  clear hr
  have hne : ¬ w.heap.size + 1 = p := by omega
  have hk : w.heap.size ≤ w.heap.size + 1 := Nat.le_succ _
  have hb1 : Below w.heap.size w ((w.alloc (.cells #[.int .i64 K, .int .i64 M, .int .i64 E] 48)).alloc (.cells #[.int .u64 0, .bool false, .slice none 0 0, .slice none 0 0] 45)) := ((Below.refl _ _).alloc (Nat.le_refl _) _).alloc (by simp) _
  have HB1 := hide hb1
  have HG := hide (Gz.made w (.cells #[.int .i64 K, .int .i64 M, .int .i64 E] 48))
  clear hb1
  go_enter Tryd.func21, Tryd.ntmps21
  go_wp2_with fail
  refine (HC.out _ (HR.out.below HB1.out) HB1.out).mono ?_
  rintro e w2 ⟨v', rfl, hs2, hr2, hx2⟩
  have hG2 := HG.out.bx hx2 (by simp) (by omega)
  obtain ⟨g0, g1, g2, g3, g4, gf⟩ := id hG2
  have f0 := gf 0
  have f1 := gf 1
  have f2 := gf 2
  have f3 := gf 3
  have HR2 := hide hr2
  have HX2 := hide ((Bx.of HB1.out).trans hx2)
  obtain ⟨ao', cap', hV⟩ := hs2.form
  subst hV
  have HSL := hide (hs2.off (hG2.nob ic ic_no))
  clear hs2
  clear hr2 hx2 gf g4 hG2
  go_wp2
  have T := new4 (x := .int .u64 0) (y := .bool false) (z := .slice none 0 0) (t := .slice ao' r.length cap') g0 g1 g2 g3
  exact bodyPost_ret (v := .agg #[.int .u64 0, .bool false, .slice none 0 0, .slice ao' r.length cap']) (by simp [results, Tryd.results21, go_sem, T.1, T.2.1, T.2.2.1, T.2.2.2]) rfl ⟨_, rfl, ((((HSL.out.setNew 0 _).setNew 1 _).setNew 2 _).setNew 3 _).sl, (((HR2.out.setNew 0 _ hne).setNew 1 _ hne).setNew 2 _ hne).setNew 3 _ hne, (((HX2.out.setNew 0 _ hk).setNew 1 _ hk).setNew 2 _ hk).setNew 3 _ hk⟩
end Go.Proofs.YtfjkahclobnhiaaDoor
