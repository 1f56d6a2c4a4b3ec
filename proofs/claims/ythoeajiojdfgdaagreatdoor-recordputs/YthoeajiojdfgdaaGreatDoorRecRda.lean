/-
  THE RECORD THAT A READER READS NEXT (record.Read): what the document says. Conditions: the bytes' cells hold them, each is a byte, no more than ten thousand, they don't lie in the reader, and the reader is within them.
-/
import Derived.Test.YthoeajiojdfgdaaGreatDoorRecFld
namespace Go.Proofs.YthoeajiojdfgdaaGreatDoor
open Go.RowKit

theorem gT_len {l : List Int} {s : Gs} (hb : Byt l) : (gT l s).2.length ≤ 256 := by
  unfold gT
  split
  · simp only [bs_len]
    unfold textS
    rw [show abv' 256 = 256 from rfl]
    rcases hq : numS (l.drop s.pt) 256 with ⟨c, k, N⟩
    simp only
    split
    · rename_i hc
      subst hc
      have := numS_once (hb.drop s.pt) hq
      split
      · simp
      · rw [List.length_take]; omega
    · simp
  · simp
theorem fL_all {α : Type} (z : α) (g : Gs → Gs × α) (P : α → Prop) (hz : P z) (hg : ∀ s, P (g s).2) : ∀ (hs : List Bool) (s : Gs), ∀ x ∈ (fL z g hs s).2, P x
  | [], _, x, h => by simp [fL] at h
  | b :: hs, s, x, h => by
    rcases List.mem_cons.1 h with e | e
    · rw [e]
      cases b
      · exact hz
      · exact hg s
    · exact fL_all z g P hz hg hs _ x e
theorem getD_all {α : Type} (P : α → Prop) (l : List α) (d : α) (hd : P d) (h : ∀ x ∈ l, P x) (i : Nat) : P (l.getD i d) := by
  by_cases hi : i < l.length
  · rw [show l.getD i d = l[i] by simp [List.getD, hi]]
    exact h _ (List.getElem_mem hi)
  · rw [show l.getD i d = d by simp [List.getD, List.getElem?_eq_none (Nat.le_of_not_lt hi)]]
    exact hd
theorem body_tx {l : List Int} {k : Int} {s : Gs} (hb : Byt l) : TxR (bodyG l k s).2 := by
  unfold bodyG
  simp only
  generalize (fL false (gF l) (hF k) (fL 0 (gN 1073741824 l) (hN k) s).1).1 = s2
  have h := fL_all [] (gT l) (fun x => x.length ≤ 1000) (by simp) (fun s => by have := gT_len (s := s) hb; omega) (hT k) s2
  exact ⟨getD_all (fun x => x.length ≤ 1000) _ [] (by simp) h 0, getD_all (fun x => x.length ≤ 1000) _ [] (by simp) h 1, getD_all (fun x => x.length ≤ 1000) _ [] (by simp) h 2, getD_all (fun x => x.length ≤ 1000) _ [] (by simp) h 3⟩
theorem body_k (l : List Int) (k : Int) (s : Gs) : (bodyG l k s).2.k = k := rfl
theorem body_pt {l : List Int} {k : Int} {s : Gs} (hb : Byt l) (hs : s.pt ≤ l.length) : (bodyG l k s).1.pt ≤ l.length := by
  unfold bodyG
  simp only
  exact fL_pt [] (gR l) l.length (fun s h => gR_pt hb h) _ _ (fL_pt [] (gT l) l.length (fun s h => gT_pt hb h) _ _ (fL_pt false (gF l) l.length (fun s h => gF_pt hb h) _ _ (fL_pt 0 (gN 1073741824 l) l.length (fun s h => gN_pt hb h) _ _ hs)))
theorem read_pt {l : List Int} {s : Gs} (hb : Byt l) (hs : s.pt ≤ l.length) : (readG l s).1.pt ≤ l.length := by
  have h1 := gN_pt (m := 63) hb hs
  have h2 := body_pt (k := (gN 63 l s).2) hb h1
  unfold readG
  simp only
  split
  · split
    · split
      · exact h2
      · exact h2
    · exact h2
  · split
    · exact h1
    · exact h1
/-- New zeros are there, and may be written. -/
theorem there_new (w : World) : (w.alloc (.cells #[.int .i64 0, .int .i64 0, .int .i64 0, .int .i64 0, .int .i64 0, .int .i64 0, .int .i64 0, .int .i64 0, .int .i64 0, .bool false, .string ⟨#[]⟩, .string ⟨#[]⟩, .string ⟨#[]⟩, .string ⟨#[]⟩, .slice none 0 0, .slice none 0 0, .slice none 0 0, .slice none 0 0] 24)).there w.heap.size 0 18 := fun j hj =>
  ⟨(range_new w [.int .i64 0, .int .i64 0, .int .i64 0, .int .i64 0, .int .i64 0, .int .i64 0, .int .i64 0, .int .i64 0, .int .i64 0, .bool false, .string ⟨#[]⟩, .string ⟨#[]⟩, .string ⟨#[]⟩, .string ⟨#[]⟩, .slice none 0 0, .slice none 0 0, .slice none 0 0, .slice none 0 0] 24).isSome j hj, by simp⟩
theorem there_bx {p R : Nat} {W W' : World} (h : W.there R 0 18) (hb : Bx p W W') (hp : R ≠ p) : W'.there R 0 18 := fun j hj => by
  have hl : R < W.heap.size := by
    obtain ⟨x, hx⟩ := Option.isSome_iff_exists.1 (h 0 (by decide)).1
    exact cell_block hx
  rw [hb.cell hl hp, hb.frozen hl hp]
  exact h j hj
theorem Bx.handle {p : Nat} {w w' : World} (h : Bx p w w') (hp : p ≠ 0) (hg : Hnd w) : Hnd w' := (h.cell (cell_block hg) (Ne.symm hp)).trans hg
/-- A record that is laid into new cells, and then its kind. -/
theorem laid {ok : Nat → Prop} {p R X : Nat} {w W : World} {v : Value} {s : Gs} {x : Rc} {a14 a15 a16 a17 : Option Addr} {c14 c15 c16 c17 : Nat} {k : Int} (hX : X = W.heap.size) (hr : RdG W p v s) (hb : Bx p w W) (hp : p < w.heap.size) (hw : RwsR ok W x a14 a15 a16 a17 c14 c15 c16 c17) (ht : W.there R 0 18) (hR : R < W.heap.size) {W1 W2 : World} (h1 : W1 = (W.alloc (.cells #[.int .i64 0, .int .i64 0, .int .i64 0, .int .i64 0, .int .i64 0, .int .i64 0, .int .i64 0, .int .i64 0, .int .i64 0, .bool false, .string ⟨#[]⟩, .string ⟨#[]⟩, .string ⟨#[]⟩, .string ⟨#[]⟩, .slice none 0 0, .slice none 0 0, .slice none 0 0, .slice none 0 0] 24)).setCells X 0 (cellsR x a14 a15 a16 a17 c14 c15 c16 c17)) (h2 : W2 = W1.setCell ⟨X, 0, none⟩ (.int .i64 k)) :
    (W1.cell? ⟨X, 0, none⟩ = some (.int .i64 x.k) ∧ W1.frozen? ⟨X, 0, none⟩ = false) ∧ RdG W2 p v s ∧ Bx p w W2 ∧ RwsR ok W2 { x with k := k } a14 a15 a16 a17 c14 c15 c16 c17 ∧ W2.there R 0 18 ∧ W2.rangeAt X 0 (cellsR { x with k := k } a14 a15 a16 a17 c14 c15 c16 c17) ∧ X < W2.heap.size := by
  subst h2
  subst h1
  generalize hW1 : (W.alloc (.cells #[.int .i64 0, .int .i64 0, .int .i64 0, .int .i64 0, .int .i64 0, .int .i64 0, .int .i64 0, .int .i64 0, .int .i64 0, .bool false, .string ⟨#[]⟩, .string ⟨#[]⟩, .string ⟨#[]⟩, .string ⟨#[]⟩, .slice none 0 0, .slice none 0 0, .slice none 0 0, .slice none 0 0] 24)).setCells X 0 (cellsR x a14 a15 a16 a17 c14 c15 c16 c17) = W1
  generalize hW2 : W1.setCell ⟨X, 0, none⟩ (.int .i64 k) = W2
  have hth : (W.alloc (.cells #[.int .i64 0, .int .i64 0, .int .i64 0, .int .i64 0, .int .i64 0, .int .i64 0, .int .i64 0, .int .i64 0, .int .i64 0, .bool false, .string ⟨#[]⟩, .string ⟨#[]⟩, .string ⟨#[]⟩, .string ⟨#[]⟩, .slice none 0 0, .slice none 0 0, .slice none 0 0, .slice none 0 0] 24)).there X 0 18 := by subst hX; exact there_new W
  have hrg : W1.rangeAt X 0 (cellsR x a14 a15 a16 a17 c14 c15 c16 c17) := by rw [← hW1]; exact World.rangeAt_setCells_same _ _ _ _ hth
  have hfz : ∀ j, j < 18 → W1.frozen? ⟨X, 0 + j, none⟩ = false := fun j hj => by rw [← hW1, World.frozen?_setCells]; exact (hth j hj).2
  have hXw : w.heap.size ≤ X := by rw [hX]; exact hb.size
  have hXp : X ≠ p := by omega
  have hbl : Below W.heap.size W (W.alloc (.cells #[.int .i64 0, .int .i64 0, .int .i64 0, .int .i64 0, .int .i64 0, .int .i64 0, .int .i64 0, .int .i64 0, .int .i64 0, .bool false, .string ⟨#[]⟩, .string ⟨#[]⟩, .string ⟨#[]⟩, .string ⟨#[]⟩, .slice none 0 0, .slice none 0 0, .slice none 0 0, .slice none 0 0] 24)) := (Below.refl _ _).alloc (Nat.le_refl _) _
  have hc0 : W1.cell? ⟨X, 0, none⟩ = some (.int .i64 x.k) := hrg 0 _ rfl
  have hcell : ∀ b i, b ≠ X → b < W.heap.size → W2.cell? ⟨b, i, none⟩ = W.cell? ⟨b, i, none⟩ := fun b i hb hl => by
    rw [← hW2, World.cell?_setCell_other _ _ _ _ (fun q => hb (congrArg Addr.block q).symm), ← hW1, cell_many hb]
    exact hbl.cell (p := ⟨b, i, none⟩) hl
  have hsl : ∀ (u : Value) (l : List Int), Sli ok W u l → Sli ok W2 u l := fun u l h => h.imp (fun _ _ q => q) (fun b i hl _ => hcell b i (by omega) hl)
  refine ⟨⟨hc0, hfz 0 (by decide)⟩, by rw [← hW2, ← hW1]; exact rdG_set (rdG_many hXp _ _ (hr.below hbl)) hXp, by rw [← hW2, ← hW1]; exact (Bx.many hXw _ _ (hb.call hbl)).fresh hXw, ⟨hsl _ _ hw.h14, hsl _ _ hw.h15, hsl _ _ hw.h16, hsl _ _ hw.h17⟩, fun j hj => ⟨?_, ?_⟩, ?_, ?_⟩
  · rw [hcell R _ (by omega) hR]; exact (ht j hj).1
  · have h1 : W2.frozen? ⟨R, 0 + j, none⟩ = W1.frozen? ⟨R, 0 + j, none⟩ := by rw [← hW2]; simp
    rw [h1, ← hW1, World.frozen?_setCells, hbl.frozen (p := ⟨R, 0 + j, none⟩) hR]
    exact (ht j hj).2
  · intro j y hy
    rcases j with _ | j
    · cases hy
      rw [← hW2]
      exact World.cell?_setCell_same _ _ _ hc0
    · rw [← hW2, World.cell?_setCell_other _ _ _ _ (fun q => by have := congrArg Addr.off q; simp at this)]
      exact hrg (j + 1) y hy
  · rw [← hW2]; exact cell_block (World.cell?_setCell_same _ _ (.int .i64 k) hc0)
end Go.Proofs.YthoeajiojdfgdaaGreatDoor
