/-
  STAMPS BELOW 256, AND WHAT A TEAR MAKES OF THEM: a block whose edges are seven noughts and a byte; torn it is what it was, or has no stamp; behind a crash each block that was written is whole, as it was, or without a stamp. Mathematics alone: no program in it. Condition: stamps below 256.
-/
import Derived.Test.YtiedbchlgcgdeaaChK
import Derived.Test.YtiedbchlgcgdeaaBlkCr
namespace Go.Proofs.Ytiedbchlgcgdeaa

def e8 (x : Int) : List Int := [0, 0, 0, 0, 0, 0, 0, x]
/-- Both edges are seven noughts and a byte below k. -/
def Sme (k : Int) (b : List Int) : Prop := ∃ x y, b.take 8 = e8 x ∧ b.drop 56 = e8 y ∧ (0 ≤ x ∧ x < k) ∧ (0 ≤ y ∧ y < k)
theorem Sme.mono {k m : Int} {b : List Int} (h : Sme k b) (hk : k ≤ m) : Sme m b := by
  obtain ⟨x, y, h1, h2, h3, h4⟩ := h
  exact ⟨x, y, h1, h2, by omega, by omega⟩
theorem sme_zer {k : Int} (h : 0 < k) : Sme k zer := ⟨0, 0, rfl, rfl, by omega, by omega⟩
theorem dig_e8 {x : Int} (h0 : 0 ≤ x) (h1 : x < 256) : dig 8 x = e8 x := by
  simp only [dig, e8, List.nil_append, List.cons_append, List.cons.injEq, and_true]
  omega
theorem sme_blk {st k : Int} (bg : Bool) (r : List Int) (h0 : 0 ≤ st) (h1 : st < k) (h2 : st < 256) : Sme k (blkOf st bg r) := ⟨st, st, by rw [blkOf_take, dig_e8 h0 h2], by rw [blkOf_drop, dig_e8 h0 h2], by omega, by omega⟩
theorem num_e8 (x : Int) : num8 (e8 x) = x := by simp [num8, e8]
theorem sme_st {k : Int} {b : List Int} (h : Sme k b) : (pcs b).st < k := by
  obtain ⟨x, y, h1, h2, h3, h4⟩ := h
  simp only [pcs, h1, h2]
  split
  · unfold stp
    rw [num_e8]
    split <;> omega
  · omega
/-- A block of a new stamp, torn. -/
theorem sme_torn {st : Int} {old new : List Int} {cut : Nat} (hn : Blk new) (ho : Sme st old) (he1 : new.take 8 = e8 st) (he2 : new.drop 56 = e8 st) (hc : cut < 64) : (new.take cut ++ old.drop cut = old) ∨ ((pcs (new.take cut ++ old.drop cut)).st ≤ 0 ∧ Sme (st + 1) (new.take cut ++ old.drop cut)) := by
  obtain ⟨x, y, h3, h4, h5, h6⟩ := ho
  by_cases hc8 : cut ≤ 7
  · left
    have e1 : new.take cut = old.take cut := by
      have a1 : new.take cut = (new.take 8).take cut := by rw [List.take_take, Nat.min_eq_left (by omega)]
      have a2 : old.take cut = (old.take 8).take cut := by rw [List.take_take, Nat.min_eq_left (by omega)]
      rw [a1, a2, he1, h3]
      have : cut = 0 ∨ cut = 1 ∨ cut = 2 ∨ cut = 3 ∨ cut = 4 ∨ cut = 5 ∨ cut = 6 ∨ cut = 7 := by omega
      rcases this with rfl | rfl | rfl | rfl | rfl | rfl | rfl | rfl <;> rfl
    rw [e1, List.take_append_drop]
  · right
    have hl : (new.take cut).length = cut := by rw [List.length_take, hn.1]; omega
    have t8 : (new.take cut ++ old.drop cut).take 8 = e8 st := by
      rw [List.take_append_of_le_length (by omega), List.take_take, Nat.min_eq_left (by omega), he1]
    have d56 : (new.take cut ++ old.drop cut).drop 56 = e8 y := by
      by_cases hc56 : cut ≤ 56
      · rw [List.drop_append, List.drop_of_length_le (by omega), List.nil_append, hl, List.drop_drop, show cut + (56 - cut) = 56 by omega, h4]
      · rw [List.drop_append, hl, show 56 - cut = 0 by omega, List.drop_zero]
        have a1 : (new.take cut).drop 56 = (new.drop 56).take (cut - 56) := by rw [List.drop_take]
        have a2 : old.drop cut = (old.drop 56).drop (cut - 56) := by rw [List.drop_drop, show 56 + (cut - 56) = cut by omega]
        rw [a1, a2, he2, h4]
        have : cut = 57 ∨ cut = 58 ∨ cut = 59 ∨ cut = 60 ∨ cut = 61 ∨ cut = 62 ∨ cut = 63 := by omega
        rcases this with rfl | rfl | rfl | rfl | rfl | rfl | rfl <;> rfl
    refine ⟨?_, st, y, t8, d56, by omega, by omega⟩
    simp only [pcs, t8, d56]
    rw [if_neg (by simp [e8]; omega)]
    omega
/-- All blocks have such edges. -/
def Sma (k : Int) (t : Cs) : Prop := ∀ p ∈ t, Sme k p.2
theorem sma_look {k : Int} {t : Cs} (h : Sma k t) (hk : 0 < k) (a : Int) : Sme k ((look t a).getD zer) := by
  cases hl : look t a with
  | none => exact sme_zer hk
  | some b => exact h _ (look_mem hl)
theorem sma_vw {k : Int} {t : Cs} (h : Sma k t) (hk : 0 < k) (a : Int) : Sme k (vw t a) := by
  unfold vw
  split
  · exact sma_look h hk a
  · exact sme_zer hk
/-- Writes of which no two are of one block. -/
def Dis (K : List Wr) : Prop := K.Pairwise fun p q => p.at_ ≠ q.at_
theorem look_stS_at {c : Cs} {w : Wr} (h : w.fr = false) : look (stS c w) w.at_ = some w.by_ := by
  unfold stS
  rw [h]
  simp only [Bool.false_eq_true, if_false]
  rw [look_ins, if_pos rfl]
theorem syn_at : ∀ {K : List Wr} {cs : Cs} {w : Wr}, Dis K → (∀ x ∈ K, x.fr = false) → w ∈ K → look (syn cs K) w.at_ = some w.by_
  | [], _, _, _, _, h => by simp at h
  | x :: r, cs, w, hd, hf, h => by
    obtain ⟨h1, h2⟩ := List.pairwise_cons.1 hd
    show look (syn (stS cs x) r) w.at_ = _
    rcases List.mem_cons.1 h with e | e
    · rw [look_syn (fun y hy => by rw [e]; exact (h1 y hy).symm), e]
      exact look_stS_at (hf x List.mem_cons_self)
    · exact syn_at h2 (fun y hy => hf y (List.mem_cons_of_mem _ hy)) e
theorem kpt_sublist : ∀ (ks : List Int) (lo : List Wr), (kpt ks lo).Sublist lo
  | [], lo => by simp [kpt]
  | _ :: _, [] => by simp [kpt]
  | k :: ks, w :: ws => by
    unfold kpt
    split
    · exact (kpt_sublist ks ws).cons_cons _
    · exact (kpt_sublist ks ws).cons _
/-- What lies at a block behind a crash. -/
theorem crs_at {cs : Cs} {K : List Wr} {cut : Int} (hd : Dis K) (hf : ∀ x ∈ K, x.fr = false) {w : Wr} (hw : w ∈ K) : look (crs cs K cut) w.at_ = some w.by_ ∨ (0 ≤ cut ∧ cut < 64 ∧ look (crs cs K cut) w.at_ = some (w.by_.take cut.toNat ++ ((look cs w.at_).getD zer).drop cut.toNat)) := by
  rcases nil_or_snoc K with rfl | ⟨K0, x, rfl⟩
  · simp at hw
  · rw [crs_snoc]
    have hdx := List.pairwise_append.1 hd
    have hx0 : ∀ y ∈ K0, y.at_ ≠ x.at_ := fun y hy => hdx.2.2 y hy x (by simp)
    by_cases e : w.at_ = x.at_
    · have hwx : w = x := by
        rcases List.mem_append.1 hw with h | h
        · exact absurd e (hx0 w h)
        · simpa using h
      subst hwx
      rw [look_syn hx0]
      have hfw := hf w hw
      unfold torn
      split
      · rename_i h
        exact .inr ⟨h.2.1, h.2.2, look_stS_at (w := { w with by_ := _ }) hfw⟩
      · exact .inl (look_stS_at hfw)
    · left
      rw [look_stS (by rw [torn_at]; exact fun h => e h.symm)]
      refine syn_at hdx.1 (fun y hy => hf y (List.mem_append_left _ hy)) ?_
      rcases List.mem_append.1 hw with h | h
      · exact h
      · simp at h; rw [h] at e; exact absurd rfl e
/-- Blocks written one behind the other. -/
def wrs (a : Int) (B : Nat → List Int) (n : Nat) : List Wr := (List.range n).map fun (i : Nat) => (⟨a + (i : Int), false, B i⟩ : Wr)
theorem wrs_dis (a : Int) (B : Nat → List Int) (n : Nat) : Dis (wrs a B n) := by
  unfold wrs Dis
  rw [List.pairwise_map]
  refine List.Pairwise.imp ?_ List.pairwise_lt_range
  intro i j h
  simp only
  omega
/-- Behind a crash each block that was written is whole, as it was, or without a stamp. -/
theorem crs_mix {t0 : Cs} {a st cut : Int} {B : Nat → List Int} {n : Nat} {ks : List Int} (hsm : Sma st t0) (hs : 0 < st) (hB : ∀ i : Nat, i < n → Blk (B i) ∧ (B i).take 8 = e8 (st + i) ∧ (B i).drop 56 = e8 (st + i)) : Mix (crs t0 (kpt ks (wrs a B n)) cut) t0 a B n ∧ ∀ q, q < a ∨ a + n ≤ q → vw (crs t0 (kpt ks (wrs a B n)) cut) q = vw t0 q := by
  have hK : ∀ w ∈ kpt ks (wrs a B n), ∃ i : Nat, i < n ∧ w = ⟨a + (i : Int), false, B i⟩ := fun w hw => by
    have := (kpt_sublist ks (wrs a B n)).subset hw
    obtain ⟨i, hi, rfl⟩ := List.mem_map.1 this
    exact ⟨i, List.mem_range.1 hi, rfl⟩
  have hd : Dis (kpt ks (wrs a B n)) := List.Pairwise.sublist (kpt_sublist ks _) (wrs_dis a B n)
  have hf : ∀ x ∈ kpt ks (wrs a B n), x.fr = false := fun x hx => by obtain ⟨i, _, rfl⟩ := hK x hx; rfl
  generalize kpt ks (wrs a B n) = K at hK hd hf
  have hno : ∀ q : Int, (∀ w ∈ K, w.at_ ≠ q) → vw (crs t0 K cut) q = vw t0 q := fun q hq => by
    unfold vw
    rw [look_crs hq]
  refine ⟨fun i hi => ?_, fun q hq => hno q (fun w hw e => ?_)⟩
  · by_cases hin : ∃ w ∈ K, w.at_ = a + i
    · obtain ⟨w, hw, e⟩ := hin
      obtain ⟨j, hj, rfl⟩ := hK w hw
      obtain rfl : j = i := by simp only at e; omega
      by_cases hN : Num (a + j)
      · rw [vw_num hN, vw_num hN]
        rcases crs_at (cs := t0) (cut := cut) hd hf hw with h | ⟨h1, h2, h⟩
        · left; simp only at h; rw [h]; rfl
        · simp only at h
          rw [h]
          right
          have hso := (sma_look hsm hs (a + j)).mono (show st ≤ st + j by omega)
          have h7 := sme_torn (cut := cut.toNat) (hB j hi).1 hso (hB j hi).2.1 (hB j hi).2.2 (by omega)
          rcases h7 with h7 | h7
          · left; simpa using h7
          · right; simpa using h7.1
      · rw [vw_bad hN, vw_bad hN]
        exact .inr (.inl rfl)
    · exact .inr (.inl (hno _ (fun w hw e => hin ⟨w, hw, e⟩)))
  · obtain ⟨i, hi, rfl⟩ := hK w hw
    simp only at e
    omega
end Go.Proofs.Ytiedbchlgcgdeaa
