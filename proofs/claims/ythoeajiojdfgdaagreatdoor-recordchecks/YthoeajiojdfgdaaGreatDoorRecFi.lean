/-
  WHAT IS READ OF A RECORD BEHIND ITS KIND (record.fields). Conditions: the bytes' cells hold them, each is a byte, no more than ten thousand, they don't lie in the reader, and the reader is within them.
-/
import Derived.Test.YthoeajiojdfgdaaGreatDoorRecRd
import Derived.Test.YthoeajiojdfgdaaGreatDoorRecPutb
namespace Go.Proofs.YthoeajiojdfgdaaGreatDoor
open Go.RowKit

theorem mkS_pt {c : Int} {op : ByteArray} {n a L : Nat} (h1 : n ≤ L) (h2 : a ≤ L) : (mkS c op n a).pt ≤ L := by
  unfold mkS; split
  · exact h1
  · exact h2
theorem gN_pt {m : Int} {l : List Int} {s : Gs} (hb : Byt l) (hs : s.pt ≤ l.length) : (gN m l s).1.pt ≤ l.length := by
  unfold gN; split
  · refine mkS_pt ?_ hs
    have := numS_next (most := m) (hb.drop s.pt)
    rw [List.length_drop] at this
    omega
  · exact hs
theorem gF_pt {l : List Int} {s : Gs} (hb : Byt l) (hs : s.pt ≤ l.length) : (gF l s).1.pt ≤ l.length := by
  unfold gF; split
  · exact mkS_pt (askS_next l s.pt 2 0 0 hb hs) hs
  · exact hs
theorem gT_pt {l : List Int} {s : Gs} (hb : Byt l) (hs : s.pt ≤ l.length) : (gT l s).1.pt ≤ l.length := by
  unfold gT; split
  · exact mkS_pt (askS_next l s.pt 3 256 0 hb hs) hs
  · exact hs
theorem gR_pt {l : List Int} {s : Gs} (hb : Byt l) (hs : s.pt ≤ l.length) : (gR l s).1.pt ≤ l.length := by
  unfold gR; split
  · exact mkS_pt (askS_next l s.pt 4 7 64 hb hs) (askS_next l s.pt 4 7 64 hb hs)
  · exact hs
theorem fL_pt {α : Type} (z : α) (g : Gs → Gs × α) (L : Nat) (hg : ∀ s, s.pt ≤ L → (g s).1.pt ≤ L) : ∀ (hs : List Bool) (s : Gs), s.pt ≤ L → (fL z g hs s).1.pt ≤ L
  | [], s, h => h
  | b :: hs, s, h => fL_pt z g L hg hs _ (by cases b; (exact h); (exact hg s h))
theorem fL_take {α : Type} (z : α) (g : Gs → Gs × α) (hs : List Bool) (s : Gs) (j : Nat) (hj : j < hs.length) : fL z g (hs.take (j + 1)) s = ((if hs.getD j false then g (fL z g (hs.take j) s).1 else ((fL z g (hs.take j) s).1, z)).1, (fL z g (hs.take j) s).2 ++ [(if hs.getD j false then g (fL z g (hs.take j) s).1 else ((fL z g (hs.take j) s).1, z)).2]) := by
  rw [List.take_succ_eq_append_getElem hj, show hs.getD j false = hs[j] by simp [List.getD, hj]]
  exact fL_snoc z g _ _ _
theorem Bx.fresh {p X i : Nat} {a b : World} {x : Value} (h : Bx p a b) (hX : a.heap.size ≤ X) : Bx p a (b.setCell ⟨X, i, none⟩ x) :=
  ⟨h.os, h.tape, h.output, by simpa [World.setCell] using h.size, fun k hk hp => (Below.heap_setCell _ _ _ _ (fun e => by simp at e; omega)).trans (h.block k hk hp)⟩
theorem getD_snoc {α : Type} (l : List α) (x d : α) (i : Nat) : (l ++ [x]).getD i d = if i = l.length then x else l.getD i d := by
  by_cases h : i = l.length
  · subst h; simp [List.getD]
  · rw [if_neg h]
    by_cases h2 : i < l.length
    · simp [List.getD, List.getElem?_append_left h2]
    · simp [List.getD, List.getElem?_eq_none (show (l ++ [x]).length ≤ i by simp; omega), List.getElem?_eq_none (show l.length ≤ i by omega)]
theorem getD_pad {α : Type} (l : List α) (d : α) (i : Nat) : (l ++ [d]).getD i d = l.getD i d := by
  rw [getD_snoc]
  split
  · rename_i h; subst h; simp [List.getD]
  · rfl
/-- A record that is being read, in its cells. -/
structure Fi (p R X : Nat) (w W : World) (v : Value) (s : Gs) (n : List Int) (f : List Bool) (t : List (List UInt8)) (r : List Value) (rs : List (List Int)) : Prop where
  rd : RdG W p v s
  c0 : W.cell? ⟨X, 0, none⟩ = some (.int .i64 0)
  cn : ∀ i, i < 8 → W.cell? ⟨X, i + 1, none⟩ = some (.int .i64 (n.getD i 0))
  cf : W.cell? ⟨X, 9, none⟩ = some (.bool (f.getD 0 false))
  ct : ∀ i, i < 4 → W.cell? ⟨X, i + 10, none⟩ = some (.string ⟨(t.getD i []).toArray⟩)
  cr : ∀ i, i < 4 → W.cell? ⟨X, i + 14, none⟩ = some (r.getD i (.slice none 0 0))
  fz : ∀ i, W.frozen? ⟨X, i, none⟩ = false
  th : W.there R 0 18
  rw : ∀ i, i < 4 → Sli (fun b => X < b) W (r.getD i (.slice none 0 0)) (rs.getD i [])
  bx : Bx p w W
  hp : p < w.heap.size
  hR : R = w.heap.size
  hX : X = w.heap.size + 1
section
variable {p R X : Nat} {w W W' : World} {v : Value} {s s' : Gs} {n : List Int} {f : List Bool} {t : List (List UInt8)} {r : List Value} {rs : List (List Int)}
theorem Fi.sz (h : Fi p R X w W v s n f t r rs) : X < W.heap.size := cell_block h.c0
theorem Fi.step (h : Fi p R X w W v s n f t r rs) (hr : RdG W' p v s') (hb : Bx p W W') : Fi p R X w W' v s' n f t r rs := by
  have hXl := h.sz
  have hXp : X ≠ p := by have := h.hp; have := h.hX; omega
  have hRp : R ≠ p := by have := h.hp; have := h.hR; omega
  have hRl : R < W.heap.size := by have := h.hR; have := h.hX; omega
  have hc : ∀ i, W'.cell? ⟨X, i, none⟩ = W.cell? ⟨X, i, none⟩ := fun i => hb.cell hXl hXp
  refine ⟨hr, by rw [hc]; exact h.c0, fun i hi => by rw [hc]; exact h.cn i hi, by rw [hc]; exact h.cf, fun i hi => by rw [hc]; exact h.ct i hi, fun i hi => by rw [hc]; exact h.cr i hi, fun i => by rw [hb.frozen hXl hXp]; exact h.fz i, fun j hj => by rw [hb.cell hRl hRp, hb.frozen hRl hRp]; exact h.th j hj, fun i hi => (h.rw i hi).imp (fun _ _ q => q) (fun b j hl hk => hb.cell hl (by have := h.hp; have := h.hX; omega)), h.bx.trans hb, h.hp, h.hR, h.hX⟩
theorem Fi.below (h : Fi p R X w W v s n f t r rs) (hb : Below W.heap.size W W') : Fi p R X w W' v s n f t r rs := h.step (h.rd.below hb) (Bx.of hb)
theorem rdG_set {i : Nat} {x : Value} (h : RdG W p v s) (hX : X ≠ p) : RdG (W.setCell ⟨X, i, none⟩ x) p v s := by
  have o : ∀ j, (W.setCell ⟨X, i, none⟩ x).cell? ⟨p, j, none⟩ = W.cell? ⟨p, j, none⟩ := fun j => World.cell?_setCell_other _ _ _ _ (fun q => hX (congrArg Addr.block q))
  exact ⟨by rw [o]; exact h.c0, by rw [o]; exact h.c1, by rw [o]; exact h.c2, fun j => by simp [h.fz j]⟩
theorem cell_off {i j : Nat} {x : Value} (h : ¬ i = j) : (W.setCell ⟨X, i, none⟩ x).cell? ⟨X, j, none⟩ = W.cell? ⟨X, j, none⟩ := World.cell?_setCell_other _ _ _ _ (fun q => h (congrArg Addr.off q))
/-- A store into one of its cells. -/
theorem Fi.set {i : Nat} {x : Value} {n' : List Int} {f' : List Bool} {t' : List (List UInt8)} {r' : List Value} {rs' : List (List Int)} (h : Fi p R X w W v s n f t r rs) (h0 : 0 < i)
    (cn : ∀ j, j < 8 → (W.setCell ⟨X, i, none⟩ x).cell? ⟨X, j + 1, none⟩ = some (.int .i64 (n'.getD j 0))) (cf : (W.setCell ⟨X, i, none⟩ x).cell? ⟨X, 9, none⟩ = some (.bool (f'.getD 0 false)))
    (ct : ∀ j, j < 4 → (W.setCell ⟨X, i, none⟩ x).cell? ⟨X, j + 10, none⟩ = some (.string ⟨(t'.getD j []).toArray⟩)) (cr : ∀ j, j < 4 → (W.setCell ⟨X, i, none⟩ x).cell? ⟨X, j + 14, none⟩ = some (r'.getD j (.slice none 0 0)))
    (hrw : ∀ j, j < 4 → Sli (fun b => X < b) W (r'.getD j (.slice none 0 0)) (rs'.getD j [])) : Fi p R X w (W.setCell ⟨X, i, none⟩ x) v s n' f' t' r' rs' := by
  have hXp : X ≠ p := by have := h.hp; have := h.hX; omega
  have ho : ∀ b j, b ≠ X → (W.setCell ⟨X, i, none⟩ x).cell? ⟨b, j, none⟩ = W.cell? ⟨b, j, none⟩ := fun b j hb => World.cell?_setCell_other _ _ _ _ (fun q => hb (congrArg Addr.block q).symm)
  refine ⟨rdG_set h.rd hXp, by rw [cell_off (by omega)]; exact h.c0, cn, cf, ct, cr, fun j => by simp [h.fz j], fun j hj => by rw [ho _ _ (by have := h.hR; have := h.hX; omega)]; simpa using h.th j hj, fun j hj => (hrw j hj).imp (fun _ _ q => q) (fun b j _ hk => ho b j (by omega)), h.bx.fresh (by have := h.hX; omega), h.hp, h.hR, h.hX⟩
theorem Fi.setN {j : Nat} {x : Int} (h : Fi p R X w W v s n f t r rs) (hn : n.length = j) (hj : j < 8) : Fi p R X w (W.setCell ⟨X, j + 1, none⟩ (.int .i64 x)) v s (n ++ [x]) f t r rs := by
  refine h.set (by omega) (fun i hi => ?_) (by rw [cell_off (by omega)]; exact h.cf) (fun i hi => by rw [cell_off (by omega)]; exact h.ct i hi) (fun i hi => by rw [cell_off (by omega)]; exact h.cr i hi) h.rw
  rw [getD_snoc]
  by_cases e : i = j
  · subst e
    rw [if_pos hn.symm]
    exact World.cell?_setCell_same _ _ _ (h.cn i hi)
  · rw [if_neg (by omega), cell_off (by omega)]
    exact h.cn i hi
theorem Fi.setF {b : Bool} (h : Fi p R X w W v s n [] t r rs) : Fi p R X w (W.setCell ⟨X, 9, none⟩ (.bool b)) v s n [b] t r rs :=
  h.set (by omega) (fun i hi => by rw [cell_off (by omega)]; exact h.cn i hi) (World.cell?_setCell_same _ _ _ h.cf) (fun i hi => by rw [cell_off (by omega)]; exact h.ct i hi) (fun i hi => by rw [cell_off (by omega)]; exact h.cr i hi) h.rw
theorem Fi.setT {j : Nat} {x : List UInt8} (h : Fi p R X w W v s n f t r rs) (hn : t.length = j) (hj : j < 4) : Fi p R X w (W.setCell ⟨X, j + 10, none⟩ (.string ⟨x.toArray⟩)) v s n f (t ++ [x]) r rs := by
  refine h.set (by omega) (fun i hi => by rw [cell_off (by omega)]; exact h.cn i hi) (by rw [cell_off (by omega)]; exact h.cf) (fun i hi => ?_) (fun i hi => by rw [cell_off (by omega)]; exact h.cr i hi) h.rw
  rw [getD_snoc]
  by_cases e : i = j
  · subst e
    rw [if_pos hn.symm]
    exact World.cell?_setCell_same _ _ _ (h.ct i hi)
  · rw [if_neg (by omega), cell_off (by omega)]
    exact h.ct i hi
theorem Fi.setR {j : Nat} {u : Value} {x : List Int} (h : Fi p R X w W v s n f t r rs) (hn : r.length = j) (hn2 : rs.length = j) (hj : j < 4) (hu : Sli (fun b => X < b) W u x) : Fi p R X w (W.setCell ⟨X, j + 14, none⟩ u) v s n f t (r ++ [u]) (rs ++ [x]) := by
  refine h.set (by omega) (fun i hi => by rw [cell_off (by omega)]; exact h.cn i hi) (by rw [cell_off (by omega)]; exact h.cf) (fun i hi => by rw [cell_off (by omega)]; exact h.ct i hi) (fun i hi => ?_) (fun i hi => ?_)
  · rw [getD_snoc]
    by_cases e : i = j
    · subst e
      rw [if_pos hn.symm]
      exact World.cell?_setCell_same _ _ _ (h.cr i hi)
    · rw [if_neg (by omega), cell_off (by omega)]
      exact h.cr i hi
  · rw [getD_snoc, getD_snoc]
    by_cases e : i = j
    · rw [if_pos (by omega), if_pos (by omega)]
      exact hu
    · rw [if_neg (by omega), if_neg (by omega)]
      exact h.rw i hi
theorem Fi.padN (h : Fi p R X w W v s n f t r rs) : Fi p R X w W v s (n ++ [0]) f t r rs :=
  ⟨h.rd, h.c0, fun i hi => by rw [getD_pad]; exact h.cn i hi, h.cf, h.ct, h.cr, h.fz, h.th, h.rw, h.bx, h.hp, h.hR, h.hX⟩
theorem Fi.padF (h : Fi p R X w W v s n [] t r rs) : Fi p R X w W v s n [false] t r rs :=
  ⟨h.rd, h.c0, h.cn, h.cf, h.ct, h.cr, h.fz, h.th, h.rw, h.bx, h.hp, h.hR, h.hX⟩
theorem Fi.padT (h : Fi p R X w W v s n f t r rs) : Fi p R X w W v s n f (t ++ [[]]) r rs :=
  ⟨h.rd, h.c0, h.cn, h.cf, fun i hi => by rw [getD_pad]; exact h.ct i hi, h.cr, h.fz, h.th, h.rw, h.bx, h.hp, h.hR, h.hX⟩
theorem Fi.padR (h : Fi p R X w W v s n f t r rs) : Fi p R X w W v s n f t (r ++ [.slice none 0 0]) (rs ++ [[]]) :=
  ⟨h.rd, h.c0, h.cn, h.cf, h.ct, fun i hi => by rw [getD_pad]; exact h.cr i hi, h.fz, h.th, fun i hi => by rw [getD_pad, getD_pad]; exact h.rw i hi, h.bx, h.hp, h.hR, h.hX⟩
end
end Go.Proofs.YthoeajiojdfgdaaGreatDoor
