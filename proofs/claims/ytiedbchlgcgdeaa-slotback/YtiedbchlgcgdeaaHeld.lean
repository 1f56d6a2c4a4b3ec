/-
  WHAT A DRAWN REGION WITH CALLS KEEPS, FOR ANY FACTS ON CELLS OF OLD MEMORY: no program in it. Conditions: a call writes only new memory.
-/
import Derived.Test.YtiedbchlgcgdeaaSlc
namespace Go.Proofs.Ytiedbchlgcgdeaa
open Go.RowKit

theorem hs_call {F : World → Prop} {N : Nat} {w0 W W' : World} (hF : ∀ W, Below N w0 W → F W) (hb : Below W.heap.size W W') (h : F W ∧ Below N w0 W ∧ N ≤ W.heap.size) : F W' ∧ Below N w0 W' ∧ N ≤ W'.heap.size :=
  have k := h.2.1.trans (hb.mono h.2.2)
  ⟨hF _ k, k, Nat.le_trans h.2.2 hb.size⟩
theorem hs_alloc {F : World → Prop} {N : Nat} {w0 W : World} {o : Obj} (hF : ∀ W, Below N w0 W → F W) (h : F W ∧ Below N w0 W ∧ N ≤ W.heap.size) : F (W.alloc o) ∧ Below N w0 (W.alloc o) ∧ N ≤ (W.alloc o).heap.size :=
  hs_call hF ((Below.refl _ _).alloc (Nat.le_refl _) o) h
theorem hs_set {F : World → Prop} {N : Nat} {w0 W : World} {g i : Nat} {x : Value} (hF : ∀ W, Below N w0 W → F W) (hg : N ≤ g) (h : F W ∧ Below N w0 W ∧ N ≤ W.heap.size) : F (W.setCell ⟨g, i, none⟩ x) ∧ Below N w0 (W.setCell ⟨g, i, none⟩ x) ∧ N ≤ (W.setCell ⟨g, i, none⟩ x).heap.size :=
  have k := h.2.1.setCell (by exact hg) x
  ⟨hF _ k, k, by simpa [World.setCell] using h.2.2⟩
theorem hs_set4 {F : World → Prop} {N : Nat} {w0 W : World} {g : Nat} {x y z t : Value} (hF : ∀ W, Below N w0 W → F W) (hg : N ≤ g) (h : F W ∧ Below N w0 W ∧ N ≤ W.heap.size) :
    F ((((W.setCell ⟨g, 0, none⟩ x).setCell ⟨g, 1, none⟩ y).setCell ⟨g, 2, none⟩ z).setCell ⟨g, 3, none⟩ t) ∧ Below N w0 ((((W.setCell ⟨g, 0, none⟩ x).setCell ⟨g, 1, none⟩ y).setCell ⟨g, 2, none⟩ z).setCell ⟨g, 3, none⟩ t) ∧ N ≤ ((((W.setCell ⟨g, 0, none⟩ x).setCell ⟨g, 1, none⟩ y).setCell ⟨g, 2, none⟩ z).setCell ⟨g, 3, none⟩ t).heap.size :=
  hs_set hF hg (hs_set hF hg (hs_set hF hg (hs_set hF hg h)))
theorem hs_drew {F : World → Prop} {N : Nat} {w0 : World} (hF : ∀ W, Below N w0 W → F W) (hN : N ≤ w0.heap.size) : F w0.drew ∧ Below N w0 w0.drew ∧ N ≤ w0.drew.heap.size :=
  have k := (Below.refl N w0).drew
  ⟨hF _ k, k, hN⟩
theorem hs_first {F : World → Prop} {N : Nat} {w0 : World} (hF : ∀ W, Below N w0 W → F W) (hN : N ≤ w0.heap.size) (o : Obj) : F (w0.alloc o).drew ∧ Below N w0 (w0.alloc o).drew ∧ N ≤ (w0.alloc o).drew.heap.size :=
  have k := ((Below.refl N w0).alloc hN o).drew
  ⟨hF _ k, k, by simp; omega⟩
theorem hs_second {F : World → Prop} {N : Nat} {w0 : World} (hF : ∀ W, Below N w0 W → F W) (hN : N ≤ w0.heap.size) (o o' : Obj) : F ((w0.alloc o).alloc o').drew ∧ Below N w0 ((w0.alloc o).alloc o').drew ∧ N ≤ ((w0.alloc o).alloc o').drew.heap.size :=
  have k := (((Below.refl N w0).alloc hN o).alloc (by simp; omega) o').drew
  ⟨hF _ k, k, by simp; omega⟩
/-- A slice as a list that lies in old memory, or in new: not in the blocks from lo to hi. -/
def Sld {α : Type} (lo hi : Nat) (f : α → Value) (W : World) (v : Value) (l : List α) : Prop :=
  (∃ ao cap, l = [] ∧ v = .slice ao 0 cap) ∨
  (∃ b o cap, v = .slice (some ⟨b, o, none⟩) l.length cap ∧ l.length ≤ cap ∧ (b < lo ∨ hi ≤ b) ∧ ∀ i (h : i < l.length), W.cell? ⟨b, o + i, none⟩ = some (f l[i]))
theorem Sld.nil {α : Type} (lo hi : Nat) (f : α → Value) (w : World) (ao : Option Addr) (cap : Nat) : Sld lo hi f w (.slice ao 0 cap) [] := .inl ⟨_, _, rfl, rfl⟩
theorem Sld.sl {α : Type} {lo hi : Nat} {f : α → Value} {W : World} {v : Value} {l : List α} (h : Sld lo hi f W v l) : Sl f W v l := by
  rcases h with h | ⟨b, o, cap, h1, h2, _, h3⟩
  · exact .inl h
  · exact .inr ⟨b, o, cap, h1, h2, h3⟩
theorem Sld.below {α : Type} {lo hi : Nat} {f : α → Value} {W W' : World} {v : Value} {l : List α} (h : Sld lo hi f W v l) (hb : Below W.heap.size W W') : Sld lo hi f W' v l := by
  rcases h with h | ⟨b, o, cap, h1, h2, hp, h3⟩
  · exact .inl h
  · exact .inr ⟨b, o, cap, h1, h2, hp, fun i hi => (hb.cell (p := ⟨b, o + i, none⟩) (cell_block (h3 i hi))).trans (h3 i hi)⟩
theorem Sld.set {α : Type} {lo hi : Nat} {f : α → Value} {W : World} {v : Value} {l : List α} (h : Sld lo hi f W v l) {q : Nat} (i : Nat) (x : Value) (h1 : lo ≤ q) (h2 : q < hi) : Sld lo hi f (W.setCell ⟨q, i, none⟩ x) v l := by
  rcases h with h | ⟨b, o, cap, e1, e2, hp, h3⟩
  · exact .inl h
  · refine .inr ⟨b, o, cap, e1, e2, hp, fun j hj => ?_⟩
    rw [World.cell?_setCell_other _ _ _ _ (fun e => by have := congrArg Addr.block e; simp at this; omega)]
    exact h3 j hj
theorem Sld.more {α : Type} {lo hi hi' : Nat} {f : α → Value} {W : World} {v : Value} {l : List α} (h : Sld lo hi f W v l) (hh : hi' ≤ hi) : Sld lo hi' f W v l := by
  rcases h with h | ⟨b, o, cap, h1, h2, hp, h3⟩
  · exact .inl h
  · exact .inr ⟨b, o, cap, h1, h2, hp.imp id (fun q => Nat.le_trans hh q), h3⟩
theorem Sl.old {α : Type} {f : α → Value} {W : World} {v : Value} {l : List α} (h : Sl f W v l) (hi : Nat) : Sld W.heap.size hi f W v l := by
  rcases h with h | ⟨b, o, cap, h1, h2, h3⟩
  · exact .inl h
  · by_cases hl : 0 < l.length
    · exact .inr ⟨b, o, cap, h1, h2, .inl (cell_block (h3 0 hl)), h3⟩
    · exact .inl ⟨_, _, List.length_eq_zero_iff.1 (by omega), by rw [h1, show l.length = 0 by omega]⟩
theorem sld_of_owns {α : Type} {f : α → Value} {w : World} {base : Nat} {e : TypeId} {v : Value} {l : List α} (lo : Nat) (h : w.ownsRow base e 1 v l.length (l.map f)) : Sld lo base f w v l := by
  rcases sl_of_owns h with h' | ⟨b, o, cap, h1, h2, h3⟩
  · exact .inl h'
  · refine .inr ⟨b, o, cap, h1, h2, .inr ?_, h3⟩
    rw [h1] at h
    exact (h.lt b rfl).1
/-- Eight cells of two blocks, written. -/
theorem set8 {u : World} {n m : Nat} {x y z t a b c d x' y' z' t' a' b' c' d' : Value} (hne : ¬ m = n) (h0 : u.cell? ⟨n, 0, none⟩ = some x') (h1 : u.cell? ⟨n, 1, none⟩ = some y') (h2 : u.cell? ⟨n, 2, none⟩ = some z') (h3 : u.cell? ⟨n, 3, none⟩ = some t')
    (k0 : u.cell? ⟨m, 0, none⟩ = some a') (k1 : u.cell? ⟨m, 1, none⟩ = some b') (k2 : u.cell? ⟨m, 2, none⟩ = some c') (k3 : u.cell? ⟨m, 3, none⟩ = some d') :
    ∀ W, W = ((((((((u.setCell ⟨n, 0, none⟩ x).setCell ⟨n, 1, none⟩ y).setCell ⟨n, 2, none⟩ z).setCell ⟨n, 3, none⟩ t).setCell ⟨m, 0, none⟩ a).setCell ⟨m, 1, none⟩ b).setCell ⟨m, 2, none⟩ c).setCell ⟨m, 3, none⟩ d) →
    (W.cell? ⟨n, 0, none⟩ = some x ∧ W.cell? ⟨n, 1, none⟩ = some y ∧ W.cell? ⟨n, 2, none⟩ = some z ∧ W.cell? ⟨n, 3, none⟩ = some t) ∧ (W.cell? ⟨m, 0, none⟩ = some a ∧ W.cell? ⟨m, 1, none⟩ = some b ∧ W.cell? ⟨m, 2, none⟩ = some c ∧ W.cell? ⟨m, 3, none⟩ = some d) := by
  rintro W rfl
  have o : ∀ (v : World) (i j : Nat) (s : Value), ¬ i = j → (v.setCell ⟨n, i, none⟩ s).cell? ⟨n, j, none⟩ = v.cell? ⟨n, j, none⟩ := fun v i j s h => World.cell?_setCell_other _ _ _ _ (fun q => h (congrArg Addr.off q))
  have o' : ∀ (v : World) (i j : Nat) (s : Value), ¬ i = j → (v.setCell ⟨m, i, none⟩ s).cell? ⟨m, j, none⟩ = v.cell? ⟨m, j, none⟩ := fun v i j s h => World.cell?_setCell_other _ _ _ _ (fun q => h (congrArg Addr.off q))
  have p : ∀ (v : World) (i j : Nat) (s : Value), (v.setCell ⟨m, i, none⟩ s).cell? ⟨n, j, none⟩ = v.cell? ⟨n, j, none⟩ := fun v i j s => World.cell?_setCell_other _ _ _ _ (fun q => hne (congrArg Addr.block q))
  have p' : ∀ (v : World) (i j : Nat) (s : Value), (v.setCell ⟨n, i, none⟩ s).cell? ⟨m, j, none⟩ = v.cell? ⟨m, j, none⟩ := fun v i j s => World.cell?_setCell_other _ _ _ _ (fun q => hne (congrArg Addr.block q).symm)
  refine ⟨⟨?_, ?_, ?_, ?_⟩, ?_, ?_, ?_, ?_⟩
  · rw [p, p, p, p, o _ _ _ _ (by decide), o _ _ _ _ (by decide), o _ _ _ _ (by decide)]
    exact World.cell?_setCell_same _ _ _ h0
  · rw [p, p, p, p, o _ _ _ _ (by decide), o _ _ _ _ (by decide)]
    exact World.cell?_setCell_same _ _ _ (u := y') (by rw [o _ _ _ _ (by decide)]; exact h1)
  · rw [p, p, p, p, o _ _ _ _ (by decide)]
    exact World.cell?_setCell_same _ _ _ (u := z') (by rw [o _ _ _ _ (by decide), o _ _ _ _ (by decide)]; exact h2)
  · rw [p, p, p, p]
    exact World.cell?_setCell_same _ _ _ (u := t') (by rw [o _ _ _ _ (by decide), o _ _ _ _ (by decide), o _ _ _ _ (by decide)]; exact h3)
  · rw [o' _ _ _ _ (by decide), o' _ _ _ _ (by decide), o' _ _ _ _ (by decide)]
    exact World.cell?_setCell_same _ _ _ (u := a') (by rw [p', p', p', p']; exact k0)
  · rw [o' _ _ _ _ (by decide), o' _ _ _ _ (by decide)]
    exact World.cell?_setCell_same _ _ _ (u := b') (by rw [o' _ _ _ _ (by decide), p', p', p', p']; exact k1)
  · rw [o' _ _ _ _ (by decide)]
    exact World.cell?_setCell_same _ _ _ (u := c') (by rw [o' _ _ _ _ (by decide), o' _ _ _ _ (by decide), p', p', p', p']; exact k2)
  · exact World.cell?_setCell_same _ _ _ (u := d') (by rw [o' _ _ _ _ (by decide), o' _ _ _ _ (by decide), o' _ _ _ _ (by decide), p', p', p', p']; exact k3)
end Go.Proofs.Ytiedbchlgcgdeaa
