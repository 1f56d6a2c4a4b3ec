/-
  THE FRAME THAT BYTES BEGIN WITH (castellanref04.Next), as one function of the bytes. Conditions: the bytes' cells hold them, no more than two thousand.
-/
import Derived.Test.YtenahnbfaekljaaDoorRefFn
namespace Go.Proofs.YtenahnbfaekljaaDoor
open Go.RowKit

theorem next_full (v : Value) (l : List Int) (w : World) (hv : Sl bc w v l) (hl : l.length ≤ 2000) (hby : Byt l) :
    Calls Tryd.prog 14 #[v] w fun e w' => ∃ u, e = .returned (fdv (nextS l).K u (nextS l).size (nextS l).c (nextS l).op (nextS l).wh) ∧ Sl bc w' u (nextS l).body ∧ Below w.heap.size w w' ∧ ∀ b o k c, u = .slice (some ⟨b, o, none⟩) k c → ∃ o' k' c', v = .slice (some ⟨b, o', none⟩) k' c' := by
  unfold nextS
  by_cases h0 : l.length = 0
  · rw [if_pos h0]
    obtain ⟨ao, cap, rfl⟩ := hv.form
    rw [h0]
    refine (next_none ao cap w).mono ?_
    rintro e w' ⟨rfl, hb⟩
    exact ⟨.slice none 0 0, rfl, Sl.nil _ _ _ _, hb, fun _ _ _ _ h => by cases h⟩
  rw [if_neg h0]
  rcases hv with ⟨ao, cap, rfl, rfl⟩ | ⟨b, o, cap, rfl, hc, h3⟩
  · exact absurd rfl h0
  have g0 : l.getD 0 0 = l[0] := by simp [List.getD, show 0 < l.length by omega]
  have c0 := h3 0 (by omega)
  rw [← g0, Nat.add_zero] at c0
  by_cases h1 : l.getD 0 0 ≠ 197
  · rw [if_pos h1]
    refine (next_sign b o l.length cap _ w (by omega) (by simpa using h1) c0).mono ?_
    rintro e w' ⟨rfl, hb⟩
    exact ⟨.slice none 0 0, rfl, Sl.nil _ _ _ _, hb, fun _ _ _ _ h => by cases h⟩
  rw [if_neg h1]
  have h1' : l.getD 0 0 = 197 := by omega
  rw [h1'] at c0
  by_cases h2 : l.length = 1
  · rw [if_pos h2, h2]
    refine (next_one b o cap w c0).mono ?_
    rintro e w' ⟨rfl, hb⟩
    exact ⟨.slice none 0 0, rfl, Sl.nil _ _ _ _, hb, fun _ _ _ _ h => by cases h⟩
  rw [if_neg h2]
  have g1 : l.getD 1 0 = l[1] := by simp [List.getD, show 1 < l.length by omega]
  have c1 := h3 1 (by omega)
  rw [← g1] at c1
  have hx0 : 0 ≤ l.getD 1 0 := by rw [g1]; exact (hby _ (List.getElem_mem _)).1
  by_cases h4 : 63 < l.getD 1 0
  · rw [if_pos h4]
    refine (next_kind b o l.length cap _ w (by omega) h4 c0 c1).mono ?_
    rintro e w' ⟨rfl, hb⟩
    exact ⟨.slice none 0 0, rfl, Sl.nil _ _ _ _, hb, fun _ _ _ _ h => by cases h⟩
  rw [if_neg h4]
  by_cases h5 : l.length = 2
  · rw [if_pos h5, h5]
    refine (next_two b o cap _ w h4 c0 c1).mono ?_
    rintro e w' ⟨rfl, hb⟩
    exact ⟨.slice none 0 0, rfl, Sl.nil _ _ _ _, hb, fun _ _ _ _ h => by cases h⟩
  rw [if_neg h5]
  generalize l.getD 1 0 = x at *
  have hd : (l.drop 2).length = l.length - 2 := List.length_drop
  have hsl : Sl bc w (.slice (some ⟨b, o + 2, none⟩) (l.length - 2) (cap - 2)) (l.drop 2) := by
    refine .inr ⟨b, o + 2, cap - 2, by rw [hd], by rw [hd]; omega, fun i hi => ?_⟩
    rw [hd] at hi
    have := h3 (2 + i) (by omega)
    rw [← Nat.add_assoc] at this
    rw [this, List.getElem_drop]
  have hbd := fun y hy => hby y (List.mem_of_mem_drop (i := 2) hy)
  have h14 := fun W (h : Sl bc W (.slice (some ⟨b, o + 2, none⟩) (l.length - 2) (cap - 2)) (l.drop 2)) => num_next _ (l.drop 2) 0 0 16384 ⟨#[]⟩ W h (by omega) hbd
  have h15 := fun W => above_any 16384 W (by decide)
  rw [show abv 16384 = 16384 from rfl] at h15
  rw [List.drop_zero] at h14
  rcases hq : numS (l.drop 2) 16384 with ⟨c, k, n⟩
  rw [hq] at h14
  simp only [stN] at h14
  have hrc : ∃ A C OP WH, (if c = 0 then stv (0 + k : Nat) 0 ⟨#[]⟩ 0 else stv (0 : Nat) c ⟨#[110, 117, 109]⟩ (0 : Nat)) = .agg #[.int .i64 A, .int .i64 C, .string OP, .int .i64 WH] ∧ C = c ∧ (c = 0 → A = (k : Int)) := by
    by_cases hc0 : c = 0
    · rw [if_pos hc0]; exact ⟨_, _, _, _, rfl, hc0.symm, fun _ => by simp⟩
    · rw [if_neg hc0]; exact ⟨_, _, _, _, rfl, rfl, fun h => absurd h hc0⟩
  obtain ⟨A, C, OP, WH, hX, rfl, hAk⟩ := hrc
  simp only [hX] at h14
  unfold stv at h14
  have HC := fun W (h : Below w.heap.size w W) => read_num1 _ (l.drop 2) 0 0 16384 16384 0 A C WH n ⟨#[]⟩ OP W (hsl.below h) (hide h15) (hide h14)
  unfold nextT
  simp only
  by_cases hc3 : C = 3
  · rw [if_pos hc3]
    refine (next_more b o l.length cap x A C WH n OP w (by omega) hc hl h4 c0 c1 (hide HC) (by simpa using hc3)).mono ?_
    rintro e w' ⟨rfl, hb⟩
    exact ⟨.slice none 0 0, rfl, Sl.nil _ _ _ _, hb, fun _ _ _ _ h => by cases h⟩
  rw [if_neg hc3]
  by_cases hc0 : C ≠ 0
  · rw [if_pos hc0]
    refine (next_length b o l.length cap x A C WH n OP w (by omega) hc hl h4 c0 c1 (hide HC) (by simpa using hc3) (by simpa using hc0)).mono ?_
    rintro e w' ⟨rfl, hb⟩
    exact ⟨.slice none 0 0, rfl, Sl.nil _ _ _ _, hb, fun _ _ _ _ h => by cases h⟩
  rw [if_neg hc0]
  obtain rfl : C = 0 := by omega
  obtain rfl := hAk rfl
  obtain ⟨_, hkn, n0, _, nm, hkl⟩ := numS_once hbd hq
  have hk8 : k ≤ 8 := by rw [hkn]; exact numL_le n
  obtain ⟨m, rfl⟩ := Int.eq_ofNat_of_zero_le n0
  simp only [Int.toNat_natCast]
  by_cases hw : l.length < 2 + k + m + 4
  · rw [if_pos hw]
    refine (next_wait b o l.length cap x WH k m OP w (by omega) hc hl h4 c0 c1 (hide HC) hk8 (by omega) hw).mono ?_
    rintro e w' ⟨rfl, hb⟩
    exact ⟨.slice none 0 0, rfl, Sl.nil _ _ _ _, hb, fun _ _ _ _ h => by cases h⟩
  rw [if_neg hw]
  have tk : ∀ j, j ≤ l.length → (l.take j).length = j := fun j hj => by rw [List.length_take]; omega
  have hs : ∀ j W, j ≤ l.length → Below w.heap.size w W → Sl bc W (.slice (some ⟨b, o, none⟩) j cap) (l.take j) := fun j W hj hb => by
    refine Sl.below (w := w) ?_ hb
    refine .inr ⟨b, o, cap, by rw [tk j hj], by rw [tk j hj]; omega, fun i hi => ?_⟩
    rw [tk j hj] at hi
    rw [List.getElem_take]
    exact h3 i (by omega)
  have hbt : ∀ j, Byt (l.take j) := fun j y hy => hby y (List.mem_of_mem_take hy)
  have H10 : ∀ W, Below w.heap.size w W → Calls Tryd.prog 28 #[.slice (some ⟨b, o, none⟩) (2 + k + m) cap] W fun e w' => ∃ v, e = .returned v ∧ Sl bc w' v (l.take (2 + k + m) ++ le4 (crcL (l.take (2 + k + m)))) ∧ Below W.heap.size W w' := fun W hb => by
    refine (refPut_any _ (l.take (2 + k + m)) W (hs _ W (by omega) hb) (by rw [tk _ (by omega)]; omega) (hbt _)).mono ?_
    rintro e w' ⟨v', rfl, hown, hb'⟩
    exact ⟨v', rfl, sl_of_owns (base := W.heap.size) (e := 5) hown, hb'⟩
  have H9 := fun W v (hb : Below w.heap.size w W) (h : Sl bc W v (l.take (2 + k + m) ++ le4 (crcL (l.take (2 + k + m))))) => same_any v (.slice (some ⟨b, o, none⟩) (2 + k + m + 4) cap) _ (l.take (2 + k + m + 4)) W h (hs _ W (by omega) hb) (by rw [List.length_append, tk _ (by omega)]; simp [le4]; omega)
  by_cases he : l.take (2 + k + m) ++ le4 (crcL (l.take (2 + k + m))) = l.take (2 + k + m + 4)
  · rw [if_pos he]
    simp only [decide_eq_true he] at H9
    refine (next_ok b o l.length cap x WH k m OP w (by omega) hc hl h4 c0 c1 (hide HC) hk8 (by omega) hx0 (2 + k + m) (2 + k + m + 4) (2 + k) (by simp) (by simp) (by simp) (by omega) _ (hide H10) (hide H9)).mono ?_
    rintro e w' ⟨rfl, hb⟩
    refine ⟨_, rfl, ?_, hb, fun _ _ _ _ h => by cases h; exact ⟨_, _, _, rfl⟩⟩
    have hlen : ((l.drop (2 + k)).take m).length = m := by rw [List.length_take, List.length_drop]; omega
    rw [show 2 + k + m - (2 + k) = m by omega]
    refine .inr ⟨b, o + (2 + k), cap - (2 + k), by rw [hlen], by rw [hlen]; omega, fun i hi => ?_⟩
    rw [hlen] at hi
    have h9 := h3 (2 + k + i) (by omega)
    rw [← Nat.add_assoc o] at h9
    rw [hb.cell (p := ⟨b, o + (2 + k) + i, none⟩) (cell_block h9), h9]
    simp [List.getElem_take, List.getElem_drop]
  · rw [if_neg he]
    simp only [decide_eq_false he] at H9
    refine (next_sum b o l.length cap x WH k m OP w (by omega) hc hl h4 c0 c1 (hide HC) hk8 (by omega) (2 + k + m) (2 + k + m + 4) (by simp) (by simp) (by omega) _ (hide H10) (hide H9)).mono ?_
    rintro e w' ⟨rfl, hb⟩
    exact ⟨.slice none 0 0, rfl, Sl.nil _ _ _ _, hb, fun _ _ _ _ h => by cases h⟩
theorem next_any (v : Value) (l : List Int) (w : World) (hv : Sl bc w v l) (hl : l.length ≤ 2000) (hby : Byt l) :
    Calls Tryd.prog 14 #[v] w fun e w' => ∃ u, e = .returned (fdv (nextS l).K u (nextS l).size (nextS l).c (nextS l).op (nextS l).wh) ∧ Sl bc w' u (nextS l).body ∧ Below w.heap.size w w' := by
  refine (next_full v l w hv hl hby).mono ?_
  rintro e w' ⟨u, h1, h2, h3, _⟩
  exact ⟨u, h1, h2, h3⟩
end Go.Proofs.YtenahnbfaekljaaDoor
