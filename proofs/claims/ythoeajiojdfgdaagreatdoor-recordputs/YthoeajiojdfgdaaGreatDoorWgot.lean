/-
  WHAT A READER READS NEXT (castellanlaw02.got), out of what its calls tell. Conditions: the bytes' cells hold them, they lie off the reader, no more than ten thousand.
-/
import Derived.Test.YthoeajiojdfgdaaGreatDoorWrow
namespace Go.Proofs.YthoeajiojdfgdaaGreatDoor
open Go.RowKit

theorem Bx.setNew {p : Nat} {a b : World} (h : Bx p a b) {k : Nat} (i : Nat) (x : Value) (hk : a.heap.size ≤ k) : Bx p a (b.setCell ⟨k, i, none⟩ x) :=
  ⟨h.os, h.tape, h.output, Nat.le_trans h.size (by simp [World.setCell]), fun j hj hp => (Below.heap_setCell _ _ _ _ (fun e => by simp at e; omega)).trans (h.block j hj hp)⟩
theorem Rd.setNew {W : World} {p : Nat} {v : Value} {a : Int} {e : Value} (h : Rd W p v a e) {k : Nat} (i : Nat) (x : Value) (hk : ¬ k = p) : Rd (W.setCell ⟨k, i, none⟩ x) p v a e :=
  ⟨by rw [World.cell?_setCell_other _ _ _ _ (fun q => hk (congrArg Addr.block q))]; exact h.c0, by rw [World.cell?_setCell_other _ _ _ _ (fun q => hk (congrArg Addr.block q))]; exact h.c1, by rw [World.cell?_setCell_other _ _ _ _ (fun q => hk (congrArg Addr.block q))]; exact h.c2, fun i => by simp [h.fz i]⟩
theorem Slx.setNew {α : Type} {f : α → Value} {q : Nat} {W : World} {v : Value} {l : List α} (h : Slx q f W v l) (i : Nat) (x : Value) : Slx q f (W.setCell ⟨q, i, none⟩ x) v l := by
  rcases h with h | ⟨b, o, cap, h1, h2, hp, h3⟩
  · exact .inl h
  · refine .inr ⟨b, o, cap, h1, h2, hp, fun j hj => ?_⟩
    rw [World.cell?_setCell_other _ _ _ _ (fun q => hp (congrArg Addr.block q).symm)]
    exact h3 j hj
theorem Sl.off {α : Type} {f : α → Value} {q : Nat} {W : World} {v : Value} {l : List α} (h : Sl f W v l) (hq : ∀ i x, W.cell? ⟨q, i, none⟩ ≠ some (f x)) : Slx q f W v l := by
  rcases h with h | ⟨b, o, cap, h1, h2, h3⟩
  · exact .inl h
  · by_cases hb : b = q
    · subst hb
      by_cases hl : 0 < l.length
      · exact absurd (h3 0 hl) (hq _ _)
      · exact .inl ⟨_, _, List.length_eq_zero_iff.1 (by omega), by rw [h1, show l.length = 0 by omega]⟩
    · exact .inr ⟨b, o, cap, h1, h2, hb, h3⟩
/-- The four cells of what was read, as they begin. -/
structure Gz (W : World) (q : Nat) : Prop where
  c0 : W.cell? ⟨q, 0, none⟩ = some (.int .u64 0)
  c1 : W.cell? ⟨q, 1, none⟩ = some (.bool false)
  c2 : W.cell? ⟨q, 2, none⟩ = some (.slice none 0 0)
  c3 : W.cell? ⟨q, 3, none⟩ = some (.slice none 0 0)
  c4 : ∀ i, 4 ≤ i → W.cell? ⟨q, i, none⟩ = none
  fz : ∀ i, W.frozen? ⟨q, i, none⟩ = false
theorem Gz.bx {p q : Nat} {W W' : World} (h : Gz W q) (hb : Bx p W W') (hq : q < W.heap.size) (hp : q ≠ p) : Gz W' q :=
  ⟨(hb.cell hq hp).trans h.c0, (hb.cell hq hp).trans h.c1, (hb.cell hq hp).trans h.c2, (hb.cell hq hp).trans h.c3, fun i hi => (hb.cell hq hp).trans (h.c4 i hi), fun i => (hb.frozen hq hp).trans (h.fz i)⟩
theorem Gz.made (w : World) (o : Obj) : Gz ((w.alloc o).alloc (.cells #[.int .u64 0, .bool false, .slice none 0 0, .slice none 0 0] 128)) (w.heap.size + 1) :=
  ⟨by simp, by simp, by simp, by simp, fun i hi => by rw [World.cell?_alloc_at _ _ _ _ (by simp)]; simp; omega, fun i => World.frozen?_alloc_at _ _ _ _ (by simp)⟩
theorem Gz.nob {W : World} {q : Nat} (h : Gz W q) (f : Int → Value) (hf : ∀ x, f x ≠ .int .u64 0 ∧ f x ≠ .bool false ∧ f x ≠ .slice none 0 0) : ∀ i x, W.cell? ⟨q, i, none⟩ ≠ some (f x) := by
  intro i x e
  by_cases h4 : 4 ≤ i
  · rw [h.c4 i h4] at e; cases e
  · obtain ⟨h1, h2, h3⟩ := hf x
    have : i = 0 ∨ i = 1 ∨ i = 2 ∨ i = 3 := by omega
    rcases this with rfl | rfl | rfl | rfl
    · rw [h.c0] at e; exact h1 (Option.some.inj e).symm
    · rw [h.c1] at e; exact h2 (Option.some.inj e).symm
    · rw [h.c2] at e; exact h3 (Option.some.inj e).symm
    · rw [h.c3] at e; exact h3 (Option.some.inj e).symm
theorem bc_no (x : Int) : bc x ≠ .int .u64 0 ∧ bc x ≠ .bool false ∧ bc x ≠ .slice none 0 0 := ⟨by simp [bc], by simp [bc], by simp [bc]⟩
theorem ic_no (x : Int) : ic x ≠ .int .u64 0 ∧ ic x ≠ .bool false ∧ ic x ≠ .slice none 0 0 := ⟨by simp [ic], by simp [ic], by simp [ic]⟩
theorem new4 {u : World} {n : Nat} {x y z t x' y' z' t' : Value} (h0 : u.cell? ⟨n, 0, none⟩ = some x') (h1 : u.cell? ⟨n, 1, none⟩ = some y') (h2 : u.cell? ⟨n, 2, none⟩ = some z') (h3 : u.cell? ⟨n, 3, none⟩ = some t') :
    ((((u.setCell ⟨n, 0, none⟩ x).setCell ⟨n, 1, none⟩ y).setCell ⟨n, 2, none⟩ z).setCell ⟨n, 3, none⟩ t).cell? ⟨n, 0, none⟩ = some x ∧ ((((u.setCell ⟨n, 0, none⟩ x).setCell ⟨n, 1, none⟩ y).setCell ⟨n, 2, none⟩ z).setCell ⟨n, 3, none⟩ t).cell? ⟨n, 1, none⟩ = some y ∧
    ((((u.setCell ⟨n, 0, none⟩ x).setCell ⟨n, 1, none⟩ y).setCell ⟨n, 2, none⟩ z).setCell ⟨n, 3, none⟩ t).cell? ⟨n, 2, none⟩ = some z ∧ ((((u.setCell ⟨n, 0, none⟩ x).setCell ⟨n, 1, none⟩ y).setCell ⟨n, 2, none⟩ z).setCell ⟨n, 3, none⟩ t).cell? ⟨n, 3, none⟩ = some t := by
  refine ⟨?_, ?_, ?_, ?_⟩
  · iterate 3 rw [World.cell?_setCell_other _ _ _ _ (by simp)]
    exact World.cell?_setCell_same _ _ _ h0
  · iterate 2 rw [World.cell?_setCell_other _ _ _ _ (by simp)]
    refine World.cell?_setCell_same _ _ _ (u := y') ?_
    rw [World.cell?_setCell_other _ _ _ _ (by simp)]
    exact h1
  · rw [World.cell?_setCell_other _ _ _ _ (by simp)]
    refine World.cell?_setCell_same _ _ _ (u := z') ?_
    iterate 2 rw [World.cell?_setCell_other _ _ _ _ (by simp)]
    exact h2
  · refine World.cell?_setCell_same _ _ _ (u := t') ?_
    iterate 3 rw [World.cell?_setCell_other _ _ _ _ (by simp)]
    exact h3

end Go.Proofs.YthoeajiojdfgdaaGreatDoor
