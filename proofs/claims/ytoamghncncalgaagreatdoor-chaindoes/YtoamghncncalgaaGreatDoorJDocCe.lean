/-
  BLOCKS, ONE BY ONE, AS THE DOCUMENT HOLDS THEM AGAINST EACH OTHER (castellanref08.Cells): where both have the same, true. Condition: fewer than a hundred thousand. And: is a write kept (kept).
-/
import Derived.Test.YtoamghncncalgaaGreatDoorJDocVa2
import Derived.Test.YtoamghncncalgaaGreatDoorJSameB
namespace Go.Proofs.YtoamghncncalgaaGreatDoor
open Go.RowKit

theorem own_range {W : World} {B n c : Nat} {a0 : Option Addr} {qs : List Ce} (h : W.ownsRow B 88 2 (.slice a0 n c) qs.length (ces qs)) {k : Nat} (hk : k < qs.length) : ∃ cb, a0 = some ⟨cb, 0, none⟩ ∧ W.cell? ⟨cb, k * 2, none⟩ = some (.int .i64 (qs[k]).1) ∧ W.cell? ⟨cb, k * 2 + 1, none⟩ = some (.slice (some ⟨(qs[k]).2.1, 0, none⟩) 64 64) := by
  rcases h.2 with ⟨_, h0⟩ | ⟨g, cap, cur, e, a2, a3, a4, a5, a6, a7⟩
  · omega
  · cases e
    have hr : W.rangeAt g 0 (ces qs) := fun j u hu => by
      have hj : j < (ces qs).length := (List.getElem?_eq_some_iff.1 hu).1
      rw [← a7] at hu
      rw [ces_len] at hj
      rw [List.getElem?_take_of_lt (by omega)] at hu
      simp only [World.cell?, a3, Nat.zero_add]
      simpa using hu
    have hf := fm_at cec 2 (fun _ => rfl) hr hk
    have h0 := hf 0 _ rfl
    have h1 := hf 1 _ rfl
    simp only [Nat.zero_add, Nat.add_zero] at h0 h1
    exact ⟨g, rfl, h0, h1⟩
set_option maxRecDepth 100000 in
set_option maxHeartbeats 4000000 in
theorem rcells_same {P : Nat → Prop} {B : Nat} (va vb : Value) (ps qs : List Ce) (w : World) (hp : Cw w B va ps) (hbk : ∀ q ∈ ps, Blk q.2.2) (hq : Cl w P vb qs) (he : csOf ps = csOf qs) (hn : ps.length < 100000) : Calls Tryz.prog 56 #[va, vb] w fun e w' => e = .returned (.bool true) ∧ Below w.heap.size w w' := by
  have hl : qs.length = ps.length := by have := congrArg List.length he; simpa [csOf] using this.symm
  obtain ⟨a0, c0, rfl⟩ := cw_form hp
  obtain ⟨b0, d0, rfl⟩ := hq.fm
  have HP := hide hp
  have HQ := hide hq
  have HBK := hide hbk
  have HE : Hid (∀ k (h : k < ps.length) (h' : k < qs.length), (ps[k]).1 = (qs[k]).1 ∧ (ps[k]).2.2 = (qs[k]).2.2) := hide (fun k h h' => by
    have := congrArg (fun L => L[k]?) he
    simp only [csOf, List.getElem?_map, List.getElem?_eq_getElem h, List.getElem?_eq_getElem h', Option.map_some] at this
    have := Option.some.inj this
    exact Prod.mk.inj this)
  have HLL := hide hl
  rw [hl] at HQ ⊢
  clear hp hq hbk he hl
  go_enter Tryz.func56, Tryz.ntmps56
  go_wp2
  go_loopw [5] (fun i W => ∃ k : Nat, k ≤ ps.length ∧ i = .int .i64 k ∧ Below w.heap.size w W) (fun i _ => ps.length - (iv i).toNat)
  case atStart => exact ⟨0, Nat.zero_le _, rfl, Below.refl _ _⟩
  case round =>
    obtain ⟨k, hk, rfl, hb⟩ := hrel
    have HB := hide hb
    clear hb
    by_cases hlt : k < ps.length
    · have hlq : k < qs.length := by have := HLL.out; omega
      obtain ⟨cb, rfl, x0, x1⟩ := own_range HP.out.own hlt
      obtain ⟨lb, lo, rfl, y0, y1⟩ := Cl.at HQ.out hlq
      obtain ⟨e1, e2⟩ := HE.out k hlt hlq
      have hA := HP.out.mem _ (List.getElem_mem hlt)
      have hU := (HQ.out.au _ (List.getElem_mem hlq)).2
      have hBK := HBK.out _ (List.getElem_mem hlt)
      rw [← e1] at y0
      rw [← e2] at hU
      generalize (ps[k]).1 = xa at x0 y0
      generalize (ps[k]).2.1 = xg at x1 hA
      generalize (ps[k]).2.2 = xb at hA hU hBK
      generalize (qs[k]).2.1 = yg at y1 hU
      have HF : Hid (∀ W, Below wr.heap.size wr W → (W.cell? ⟨cb, k * 2, none⟩ = some (.int .i64 xa) ∧ W.cell? ⟨cb, k * 2 + 1, none⟩ = some (.slice (some ⟨xg, 0, none⟩) 64 64) ∧ W.cell? ⟨lb, lo + k * 2, none⟩ = some (.int .i64 xa) ∧ W.cell? ⟨lb, lo + k * 2 + 1, none⟩ = some (.slice (some ⟨yg, 0, none⟩) 64 64))) := hide (fun W h => by
        have hW := HB.out.trans (h.mono HB.out.size)
        exact ⟨(hW.cell (p := ⟨cb, k * 2, none⟩) (cell_block x0)).trans x0, (hW.cell (p := ⟨cb, k * 2 + 1, none⟩) (cell_block x1)).trans x1, (hW.cell (p := ⟨lb, lo + k * 2, none⟩) (cell_block y0)).trans y0, (hW.cell (p := ⟨lb, lo + k * 2 + 1, none⟩) (cell_block y1)).trans y1⟩)
      have HS : Hid (∀ W, Below wr.heap.size wr W → Calls Tryz.prog 76 #[.slice (some ⟨xg, 0, none⟩) 64 64, .slice (some ⟨yg, 0, none⟩) 64 64] W fun e w' => e = .returned (.bool true) ∧ Below W.heap.size W w') := hide (fun W h => by
        have hW := HB.out.trans (h.mono HB.out.size)
        have hg : W.heap[xg]? = some (.cells (bv xb).toArray 101 (0, 0)) := (hW.block _ (Array.getElem?_eq_some_iff.1 hA.2.2).1).trans hA.2.2
        refine same_bytes _ _ xb W ?_ (hU.keep (hW.block _ hU.lt)).all (by rw [hBK.1]; decide)
        have hl := hBK.1
        exact .inr ⟨xg, 0, 64, by rw [hl], by omega, fun i hi => by rw [Nat.zero_add]; exact arrAt hg (List.getElem?_eq_getElem hi)⟩)
      have HS0 := hide (hs_drew HF.out (Nat.le_refl _))
      have hne : (xa != xa) = false := by simp
      clear x0 x1 y0 y1 hA hU hBK e1 e2
      go_wp2_with fail
      go_region_held3 (fun W => (W.cell? ⟨cb, k * 2, none⟩ = some (.int .i64 xa) ∧ W.cell? ⟨cb, k * 2 + 1, none⟩ = some (.slice (some ⟨xg, 0, none⟩) 64 64) ∧ W.cell? ⟨lb, lo + k * 2, none⟩ = some (.int .i64 xa) ∧ W.cell? ⟨lb, lo + k * 2 + 1, none⟩ = some (.slice (some ⟨yg, 0, none⟩) 64 64)) ∧ Below wr.heap.size wr W ∧ wr.heap.size ≤ W.heap.size)
        (first | with_reducible assumption | with_reducible exact hs_call HF.out (by assumption) (by assumption) | with_reducible exact HS0.out)
        (first
          | (go_at_call 76; refine (HS.out _ ?_).mono ?_; exact And.left (And.right (by assumption)); rintro e w' ⟨rfl, hb⟩))
      have hfin : Below wr.heap.size wr w' := And.left (And.right (by assumption))
      have HBF := hide (HB.out.trans (hfin.mono HB.out.size))
      clear hfin
      go_wp2
      exact ⟨⟨k + 1, by omega, by go_num, HBF.out⟩, by simp [iv]; omega⟩
    · go_wp2
      go_ret
      exact ⟨rfl, HB.out⟩
end Go.Proofs.YtoamghncncalgaaGreatDoor
