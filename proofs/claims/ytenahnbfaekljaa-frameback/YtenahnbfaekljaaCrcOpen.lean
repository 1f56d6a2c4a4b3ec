/-
  BYTES AHEAD OF THEIR SUM, OR NONE (crc.Open): what the document says of them. Conditions: the bytes' cells hold them, no more than a hundred thousand.
-/
import Derived.Test.YtenahnbfaekljaaCrcPut
import Derived.Test.YtenahnbfaekljaaHeld
import Derived.Deep.RegionHeld3
namespace Go.Proofs.Ytenahnbfaekljaa
open Go.RowKit

theorem last_four {l : List Int} (h : ¬ l.length < 4) : ∃ x0 x1 x2 x3, l.drop (l.length - 4) = [x0, x1, x2, x3] := by
  have hl : (l.drop (l.length - 4)).length = 4 := by rw [List.length_drop]; omega
  match hd : l.drop (l.length - 4), hl with
  | [x0, x1, x2, x3], _ => exact ⟨x0, x1, x2, x3, rfl⟩
theorem openL_num {l : List Int} {x0 x1 x2 x3 : Int} (h : ¬ l.length < 4) (hby : Byt l) (hd : l.drop (l.length - 4) = [x0, x1, x2, x3]) :
    openL l = if (crcL (l.take (l.length - 4)) : Int) = x0 + x1 * 256 + x2 * 65536 + x3 * 16777216 then some (l.take (l.length - 4)) else none := by
  have hb : ∀ x ∈ [x0, x1, x2, x3], 0 ≤ x ∧ x ≤ 255 := fun x hx => hby x (List.mem_of_mem_drop (by rw [hd]; exact hx))
  have b0 := hb x0 (by simp)
  have b1 := hb x1 (by simp)
  have b2 := hb x2 (by simp)
  have b3 := hb x3 (by simp)
  have hS := crcL_lt (l.take (l.length - 4))
  have hcat : l.take (l.length - 4) ++ [x0, x1, x2, x3] = l := by rw [← hd]; exact List.take_append_drop _ _
  unfold openL
  rw [if_neg h]
  by_cases e : (crcL (l.take (l.length - 4)) : Int) = x0 + x1 * 256 + x2 * 65536 + x3 * 16777216
  · rw [if_pos e, if_pos]
    generalize crcL (l.take (l.length - 4)) = S at *
    have : le4 S = [x0, x1, x2, x3] := by
      unfold le4
      simp only [List.cons.injEq, and_true]
      refine ⟨?_, ?_, ?_, ?_⟩ <;> omega
    rw [this, hcat]
  · rw [if_neg e, if_neg]
    generalize crcL (l.take (l.length - 4)) = S at *
    intro q
    have q2 := q.trans hcat.symm
    have q3 := List.append_cancel_left q2
    unfold le4 at q3
    simp only [List.cons.injEq, and_true] at q3
    omega
set_option maxRecDepth 100000 in
set_option maxHeartbeats 4000000 in
theorem copen_few (ao : Option Addr) (cap : Nat) (l : List Int) (w : World) (h : l.length < 4) :
    Calls Try.prog 22 #[.slice ao l.length cap] w fun e w' => e = .returned (.tuple #[.slice none 0 0, .bool false]) ∧ Below w.heap.size w w' := by
  have h' : (l.length : Int) - 4 < 0 := by omega
  go_enter Try.func22, Try.ntmps22
  go_wp2_with fail
  go_quiet (fail)
  go_wp2_with fail
  exact bodyPost_ret (v := .tuple #[.slice none 0 0, .bool false]) (by simp [results, Try.results22, go_sem]) rfl ⟨rfl, below_drewN (Below.refl _ _) _⟩
theorem slice_to (b o L cap E : Nat) (hE : E ≤ cap) (W : World) : (Instr.slice 26 (.slice (some ⟨b, o, none⟩) L cap) none (some (.int .i64 (E : Int))) none).run Try.prog W = .ok (.slice (some ⟨b, o, none⟩) E cap) W := by
  have h1 : (E : Int) ≤ (cap : Int) := by omega
  simp [Instr.slice, go_sem, h1]
theorem slice_from (b o L cap E : Nat) (hE : E < L) (hc : L ≤ cap) (W : World) : (Instr.slice 26 (.slice (some ⟨b, o, none⟩) L cap) (some (.int .i64 (E : Int))) none none).run Try.prog W = .ok (.slice (some ⟨b, o + E, none⟩) (L - E) (cap - E)) W := by
  have h1 : (E : Int) ≤ (L : Int) := by omega
  simp [Instr.slice, go_sem, h1]
  omega
set_option maxRecDepth 100000 in
set_option maxHeartbeats 4000000 in
theorem copen_much (b o cap E : Nat) (S : Nat) (X : Int) (l : List Int) (w : World) (hl : l.length ≤ 100000) (hE : (l.length : Int) - 4 = (E : Int)) (hcap : l.length ≤ cap)
    (HS : Hid (∀ W, Below w.heap.size w W → Calls Try.prog 26 #[.slice (some ⟨b, o, none⟩) E cap] W fun e w' => e = .returned (.int .u32 (S : Int)) ∧ Below W.heap.size W w'))
    (HN : Hid (∀ W, Below w.heap.size w W → Calls Try.prog 35 #[.slice (some ⟨b, o + E, none⟩) 4 (cap - E)] W fun e w' => e = .returned (.int .u32 X) ∧ Below W.heap.size W w'))
    (HC : Hid (∀ W, Below w.heap.size w W → Calls Try.prog 25 #[.slice (some ⟨b, o, none⟩) E cap] W fun e w' => ∃ u, e = .returned u ∧ Sld 0 w.heap.size bc w' u (l.take E) ∧ Below W.heap.size W w')) :
    Calls Try.prog 22 #[.slice (some ⟨b, o, none⟩) l.length cap] w fun e w' => (∃ u, e = .returned (.tuple #[u, .bool (decide ((S : Int) = X))]) ∧ (((S : Int) = X ∧ Sld 0 w.heap.size bc w' u (l.take E)) ∨ (¬ (S : Int) = X ∧ u = .slice none 0 0))) ∧ Below w.heap.size w w' := by
  have hE0 : ¬ ((E : Int) < 0) := by omega
  have hE1 : (l.length : Int) - (E : Int) = 4 := by omega
  have hs1 := slice_to b o l.length cap E (by omega)
  have hs2 := slice_from b o l.length cap E (by omega) hcap
  rw [show l.length - E = 4 by omega] at hs2
  go_enter Try.func22, Try.ntmps22
  go_wp2_with fail
  have HF : Hid (∀ W, Below w.heap.size w W → True) := hide (fun _ _ => trivial)
  have HS0 := hide (hs_drew (F := fun _ => True) HF.out (Nat.le_refl _))
  go_region_held3 (fun W => True ∧ Below w.heap.size w W ∧ w.heap.size ≤ W.heap.size)
    (first | with_reducible assumption | with_reducible exact hs_call (F := fun _ => True) HF.out (by assumption) (by assumption) | with_reducible exact HS0.out)
    (first
      | (go_at_call 26; refine (HS.out _ ?_).mono ?_; exact And.left (And.right (by assumption)); rintro e w' ⟨rfl, hb⟩)
      | (go_at_call 35; refine (HN.out _ ?_).mono ?_; exact And.left (And.right (by assumption)); rintro e w' ⟨rfl, hb⟩))
  have hfin : Below w.heap.size w w' := And.left (And.right (by assumption))
  have HFI := hide hfin
  clear hfin
  generalize hf : (decide ((E : Int) < 0) || (S : Int) != X) = f
  have hf2 : f = ! decide ((S : Int) = X) := by
    rw [← hf, decide_eq_false (by omega), Bool.false_or]
    rfl
  have HX := hide hf2
  clear hf hf2
  cases f with
  | false =>
    have HY := hide (show (S : Int) = X by have := HX.out; simpa using this)
    go_wp2_with fail
    refine (HC.out _ HFI.out).mono ?_
    rintro e w2 ⟨u, rfl, hsl, hb2⟩
    have HSL := hide hsl
    have HB2 := hide (HFI.out.trans (hb2.mono HFI.out.size))
    clear hsl hb2
    go_wp2_with fail
    exact bodyPost_ret (v := .tuple #[u, .bool true]) (by simp [results, Try.results22, go_sem]) rfl ⟨⟨u, by rw [decide_eq_true HY.out], .inl ⟨HY.out, HSL.out⟩⟩, HB2.out⟩
  | true =>
    have HY := hide (show ¬ (S : Int) = X by have := HX.out; simpa using this)
    go_wp2_with fail
    exact bodyPost_ret (v := .tuple #[.slice none 0 0, .bool false]) (by simp [results, Try.results22, go_sem]) rfl ⟨⟨_, by rw [decide_eq_false HY.out], .inr ⟨HY.out, rfl⟩⟩, HFI.out⟩
theorem cell_take {b o : Nat} {l : List Int} {w : World} (E : Nat) (h3 : ∀ i (h : i < l.length), w.cell? ⟨b, o + i, none⟩ = some (bc l[i])) : ∀ i (h : i < (l.take E).length), w.cell? ⟨b, o + i, none⟩ = some (bc (l.take E)[i]) := by
  intro i hi
  rw [List.getElem_take]
  exact h3 i (by rw [List.length_take] at hi; omega)
/-- The bytes ahead of their sum, or none. -/
theorem copen_any (v : Value) (l : List Int) (w : World) (hv : Sl bc w v l) (hl : l.length ≤ 100000) (hby : Byt l) :
    Calls Try.prog 22 #[v] w fun e w' => (∃ u f, e = .returned (.tuple #[u, .bool f]) ∧ ((f = true ∧ openL l = some (l.take (l.length - 4)) ∧ Sld 0 w.heap.size bc w' u (l.take (l.length - 4))) ∨ (f = false ∧ openL l = none ∧ u = .slice none 0 0))) ∧ Below w.heap.size w w' := by
  by_cases h4 : l.length < 4
  · obtain ⟨ao, cap, rfl⟩ := hv.form
    refine (copen_few ao cap l w h4).mono ?_
    rintro e w' ⟨rfl, hb⟩
    exact ⟨⟨_, _, rfl, .inr ⟨rfl, by unfold openL; rw [if_pos h4], rfl⟩⟩, hb⟩
  · rcases hv with ⟨ao, cap, rfl, rfl⟩ | ⟨b, o, cap, rfl, hc, h3⟩
    · simp at h4
    · obtain ⟨x0, x1, x2, x3, hd⟩ := last_four h4
      have hlen : (l.take (l.length - 4)).length = l.length - 4 := by rw [List.length_take]; omega
      have hb : ∀ x ∈ [x0, x1, x2, x3], 0 ≤ x ∧ x ≤ 255 := fun x hx => hby x (List.mem_of_mem_drop (by rw [hd]; exact hx))
      have b0 := hb x0 (by simp)
      have b1 := hb x1 (by simp)
      have b2 := hb x2 (by simp)
      have b3 := hb x3 (by simp)
      have hsl : Sl bc w (.slice (some ⟨b, o, none⟩) (l.length - 4) cap) (l.take (l.length - 4)) := .inr ⟨b, o, cap, by rw [hlen], by omega, cell_take _ h3⟩
      have hbt : Byt (l.take (l.length - 4)) := fun x hx => hby x (List.mem_of_mem_take hx)
      have hx : ∀ i (h : i < 4) (x : Int), [x0, x1, x2, x3][i]? = some x → w.cell? ⟨b, o + (l.length - 4) + i, none⟩ = some (.int .u8 x) := by
        intro i h x hx
        rw [← hd, List.getElem?_drop] at hx
        obtain ⟨h5, h6⟩ := List.getElem?_eq_some_iff.1 hx
        rw [Nat.add_assoc, h3 _ h5, h6]
        rfl
      refine (copen_much b o cap (l.length - 4) (crcL (l.take (l.length - 4))) (x0 + x1 * 256 + x2 * 65536 + x3 * 16777216) l w hl (by omega) hc
        (hide fun W hW => sum_any _ _ W (hsl.below hW) (by omega) hbt)
        (hide fun W hW => number_four b (o + (l.length - 4)) (cap - (l.length - 4)) x0 x1 x2 x3 W b0.1 b0.2 b1.1 b1.2 b2.1 b2.2 b3.1 b3.2 ?_ ?_ ?_ ?_)
        (hide fun W hW => (bclone_own _ _ W (hsl.below hW) (by omega)).mono (by rintro e w' ⟨u, rfl, ho, hb'⟩; exact ⟨u, rfl, (sld_of_owns 0 ho).more hW.size, hb'⟩))).mono ?_
      · have c := hx 0 (by decide) x0 rfl
        rw [hW.cell (p := ⟨b, o + (l.length - 4), none⟩) (cell_block c)]; exact c
      · have c := hx 1 (by decide) x1 rfl
        rw [hW.cell (p := ⟨b, o + (l.length - 4) + 1, none⟩) (cell_block c)]; exact c
      · have c := hx 2 (by decide) x2 rfl
        rw [hW.cell (p := ⟨b, o + (l.length - 4) + 2, none⟩) (cell_block c)]; exact c
      · have c := hx 3 (by decide) x3 rfl
        rw [hW.cell (p := ⟨b, o + (l.length - 4) + 3, none⟩) (cell_block c)]; exact c
      rintro e w' ⟨⟨u, rfl, hu⟩, hbl⟩
      refine ⟨⟨u, _, rfl, ?_⟩, hbl⟩
      rw [openL_num h4 hby hd]
      rcases hu with ⟨h5, h6⟩ | ⟨h5, h6⟩
      · exact .inl ⟨decide_eq_true h5, if_pos h5, h6⟩
      · exact .inr ⟨decide_eq_false h5, if_neg h5, h6⟩
end Go.Proofs.Ytenahnbfaekljaa
