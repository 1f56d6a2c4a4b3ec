/-
  A STREAM AS BYTES COME TO IT, PIECE BY PIECE, and a row that its frames are gathered in: what holds behind each piece. Conditions: no more than five thousand bytes.
-/
import Derived.Test.YtenahnbfaekljaaDoorMQ
namespace Go.Proofs.YtenahnbfaekljaaDoor
open Go.RowKit

theorem drop_cat {P Q : List Int} {n : Nat} (h : n ≤ P.length) : (P ++ Q).drop n = P.drop n ++ Q := List.drop_append_of_le_length h
/-- k frames of P, and no more. -/
def Whole (P : List Int) (k : Nat) : Prop := Its P k ∧ (nextS (P.drop (it P k).2)).size = 0
theorem whole_bad {P : List Int} (Q : List Int) {k : Nat} (h : Whole P k) (hc : (nextS (P.drop (it P k).2)).c ≠ 0) : Whole (P ++ Q) k ∧ it (P ++ Q) k = it P k ∧ nextS ((P ++ Q).drop (it P k).2) = nextS (P.drop (it P k).2) := by
  have e := it_app Q h.1
  have e2 : nextS ((P ++ Q).drop (it P k).2) = nextS (P.drop (it P k).2) := by rw [drop_cat (it_le P k)]; exact nextS_app Q (.inr hc)
  exact ⟨⟨its_app Q h.1, by rw [e, e2]; exact h.2⟩, e, e2⟩
theorem whole_more {P Q : List Int} {k m : Nat} (h : Whole P k) (h2 : Whole (P.drop (it P k).2 ++ Q) m) : Whole (P ++ Q) (k + m) ∧ it (P ++ Q) (k + m) = ((it P k).1 ++ (it (P.drop (it P k).2 ++ Q) m).1, (it P k).2 + (it (P.drop (it P k).2 ++ Q) m).2) := by
  have e := it_app Q h.1
  have ed : (P ++ Q).drop (it P k).2 = P.drop (it P k).2 ++ Q := drop_cat (it_le P k)
  have es := it_shift (P ++ Q) k m
  rw [e, ed] at es
  refine ⟨⟨its_shift (its_app Q h.1) (by rw [e, ed]; exact h2.1), ?_⟩, es⟩
  rw [es, ← List.drop_drop, ed]
  exact h2.2
theorem errS_shift (P Q : List Int) (n m : Nat) (h : n ≤ P.length) : errS n (P.drop n ++ Q) m = errS 0 (P ++ Q) (n + m) := by
  unfold errS
  rw [← List.drop_drop, drop_cat h, Nat.zero_add]
theorem leftS_shift (P Q : List Int) (n m : Nat) (h : n ≤ P.length) : leftS (P.drop n ++ Q) m = leftS (P ++ Q) (n + m) := by
  unfold leftS
  rw [← List.drop_drop, drop_cat h]
/-- Behind the bytes P: k frames were told, in the row y with the cells ps. The row may be behind by those that are about to be put on it. -/
def Mi (B p : Nat) (W : World) (v y : Value) (k : Nat) (qs : List (Int × Value)) (P : List Int) (K : Nat) (ps : List (Int × Value)) : Prop :=
  Whole P K ∧ W.ownsRow B 24 2 y k (fcs qs) ∧ Bod (fun b => b ≠ p ∧ some b ≠ v.ownBlock ∧ some b ≠ y.ownBlock) W ps (it P K).1 ∧
    Strm B W p v (leftS P (it P K).2) ((it P K).2 : Int) (ev (errS 0 P (it P K).2)) ∧ ∀ g, y.ownBlock = some g → g ≠ p ∧ v.ownBlock ≠ some g
theorem Mi.below {B p : Nat} {W W' : World} {v y : Value} {k : Nat} {qs : List (Int × Value)} {P : List Int} {K : Nat} {ps : List (Int × Value)} (h : Mi B p W v y k qs P K ps) (hb : Below W.heap.size W W') : Mi B p W' v y k qs P K ps := by
  obtain ⟨h1, h2, h3, h4, h5⟩ := h
  exact ⟨h1, owns_below h2 hb, h3.below hb, h4.below hb, h5⟩
theorem errS_some {a : Nat} {A : List Int} {n : Nat} (hc : (nextS (A.drop n)).c ≠ 0) : ∃ t u, ev (errS a A n) = .iface t u := by
  have hop : ∃ l c, errF (nextS (A.drop n)) = some (l, c) := by
    unfold errF
    rw [if_neg hc]
    split <;> exact ⟨_, _, rfl⟩
  obtain ⟨l, c, e⟩ := hop
  unfold errS
  rw [e]
  exact ⟨_, _, rfl⟩
/-- A piece more. -/
theorem feed_mi (B p : Nat) (v y u : Value) (P Q : List Int) (k : Nat) (ps : List (Int × Value)) (W : World) (h : Mi B p W v y k ps P k ps) (hB : B ≤ W.heap.size) (hu : Sl bc W u Q) (hby : Byt (P ++ Q)) (hlen : (P ++ Q).length ≤ 5000) :
    Calls Tryd.prog 16 #[.pointer (some ⟨p, 0, none⟩), u] W fun x w' => ∃ y1 m ps1 v', x = .returned y1 ∧ w'.ownsRow W.heap.size 24 2 y1 m (fcs ps1) ∧ (∀ z ∈ fcs ps1, z.oneCell' = true) ∧ Mi B p w' v' y k ps (P ++ Q) (k + m) (ps ++ ps1) ∧ Below B W w' := by
  obtain ⟨hw, hown, hbod, hst, hy⟩ := h
  have hn := it_le P k
  by_cases hc : (nextS (P.drop (it P k).2)).c = 0
  · rw [leftS_none hc, errS_none hc] at hst
    have hst' : Strm B W p v (P.drop (it P k).2) ((it P k).2 : Int) .nilIface := hst
    have hl : (P.drop (it P k).2 ++ Q).length ≤ 5000 := by rw [List.length_append] at hlen ⊢; rw [List.length_drop]; omega
    have hP : P.length ≤ 5000 := by rw [List.length_append] at hlen; omega
    refine (feed_core B p v u _ Q (P.drop (it P k).2 ++ Q) (it P k).2 W hst' hB hu rfl (fun x hx => hby x (by rcases List.mem_append.1 hx with q | q; exact List.mem_append_left _ (List.mem_of_mem_drop q); exact List.mem_append_right _ q)) hl (by omega)).mono ?_
    rintro e w' ⟨y1, m, ps1, v', rfl, hi, hs, ho1, hb1, hs1, hblk, hx, hyv⟩
    obtain ⟨hW, hE⟩ := whole_more (Q := Q) hw ⟨hi, hs⟩
    have hylt : ∀ g, y.ownBlock = some g → B ≤ g ∧ g < W.heap.size := fun g hg => hown.lt g hg
    have hplt := hst'.lt.1
    have hy' : ∀ g, y.ownBlock = some g → g ≠ p ∧ v'.ownBlock ≠ some g := fun g hg => ⟨(hy g hg).1, fun e => by
      rcases hblk with q | q
      · rw [q] at e; exact (hy g hg).2 e
      · have := q g e; have := (hylt g hg).2; omega⟩
    refine ⟨y1, m, ps1, v', rfl, ho1, hb1.cells, ⟨hW, ?_, ?_, ?_, hy'⟩, strm_low hst' hx⟩
    · refine owns_ex hown hx (fun g hg q => ?_)
      rcases q with q | q
      · exact (hy g hg).1 q
      · exact (hy g hg).2 q.symm
    · rw [hE]
      refine Bod.app (Bod.imp (fun z l h => ?_) hbod) (Bod.imp (fun z l h => ?_) hb1)
      · have h2 : Slo (fun b => (b ≠ p ∧ some b ≠ v'.ownBlock ∧ some b ≠ y.ownBlock) ∧ some b ≠ v.ownBlock) W z l := h.mono (fun b hlt hb => ⟨⟨hb.1, fun e => by
          rcases hblk with q | q
          · rw [q] at e; exact hb.2.1 e
          · have := q b e.symm; omega, hb.2.2⟩, hb.2.1⟩)
        exact (h2.ex hx (fun b hb q => by rcases q with q | q; exact hb.1.1 q; exact hb.2 q)).mono (fun b _ hb => hb.1)
      · exact h.mono (fun b _ hb => ⟨fun e => by omega, hb.2, fun e => by have := (hylt b e.symm).2; omega⟩)
    · rw [hE]
      simp only
      rw [← leftS_shift P Q _ _ hn, ← errS_shift P Q _ _ hn]
      exact hs1
  · obtain ⟨hW, hE, hN⟩ := whole_bad Q hw hc
    obtain ⟨t, z, hez⟩ := errS_some (a := 0) hc
    have hl0 : leftS P (it P k).2 = [] := if_neg hc
    have hl1 : leftS (P ++ Q) (it P k).2 = [] := if_neg (by rw [hN]; exact hc)
    have he1 : errS 0 (P ++ Q) (it P k).2 = errS 0 P (it P k).2 := by unfold errS; rw [hN]
    have hr := hst.1
    rw [hez] at hr
    refine (feed_err p v u _ t z W hr).mono ?_
    rintro e w' ⟨rfl, rfl⟩
    refine ⟨_, 0, [], v, rfl, World.ownsRow_nil _ _ _ _, fun z hz => by simp [fcs] at hz, ⟨hW, hown, ?_, ?_, hy⟩, Below.refl _ _⟩
    · rw [Nat.add_zero, hE, List.append_nil]; exact hbod
    · rw [Nat.add_zero, hE, hl1, he1, ← hl0]; exact hst
/-- The frames of a piece, put on the row. -/
theorem append_mi {B p : Nat} {W w' : World} {v y y' : Value} {P : List Int} {k m : Nat} {ps ps1 : List (Int × Value)} (h : Mi B p W v y k ps P (k + m) (ps ++ ps1)) (ho : w'.ownsRow B 24 2 y' (k + m) (fcs ps ++ fcs ps1)) (hg : W.grownBy w' y.ownBlock) (hblk : y'.ownBlock = y.ownBlock ∨ ∀ g, y'.ownBlock = some g → W.heap.size ≤ g) :
    Mi B p w' v y' (k + m) (ps ++ ps1) P (k + m) (ps ++ ps1) ∧ Below B W w' := by
  obtain ⟨hw, hown, hbod, hst, hy⟩ := h
  have hx : Ex (fun k => some k = y.ownBlock) W w' := Ex.grown hg (fun g h => h.symm)
  obtain ⟨hplt, hBp, hvlt⟩ := hst.lt
  refine ⟨⟨hw, by rw [fcs_app]; exact ho, Bod.imp (fun z l h => ?_) hbod, ?_, fun g hg' => ?_⟩, ?_⟩
  · have h2 : Slo (fun b => (b ≠ p ∧ some b ≠ v.ownBlock ∧ some b ≠ y'.ownBlock) ∧ some b ≠ y.ownBlock) W z l := h.mono (fun b hlt hb => ⟨⟨hb.1, hb.2.1, fun e => by
      rcases hblk with q | q
      · rw [q] at e; exact hb.2.2 e
      · have := q b e.symm; omega⟩, hb.2.2⟩)
    exact (h2.ex hx (fun b hb => hb.2)).mono (fun b _ hb => hb.1)
  · obtain ⟨h0, h1, h2, cur, h3, h4⟩ := hst
    have hpn : ¬ some p = y.ownBlock := fun e => (hy p e.symm).1 rfl
    have hc : ∀ i, w'.cell? ⟨p, i, none⟩ = W.cell? ⟨p, i, none⟩ := fun i => hx.cell hplt hpn
    exact ⟨⟨(hc 0).trans h0.c0, (hc 1).trans h0.c1, (hc 2).trans h0.c2, fun i => (World.frozen?_of_block (hx.block p hplt hpn)).trans (h0.fz i)⟩, h1, h2, cur, h3.ex hx (fun g hg e => (hy g e.symm).2 hg), h4⟩
  · rcases hblk with q | q
    · exact hy g (by rw [← q]; exact hg')
    · have := q g hg'
      exact ⟨by omega, fun e => by have := (hvlt g e).2; omega⟩
  · exact hx.below (by omega) (fun b hb e => by have := (hown.lt b e.symm).1; omega)
end Go.Proofs.YtenahnbfaekljaaDoor
