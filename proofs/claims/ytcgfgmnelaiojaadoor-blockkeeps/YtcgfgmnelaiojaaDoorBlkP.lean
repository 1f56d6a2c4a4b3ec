/-
  WHAT A BLOCK IS BEHIND A CRASH: what it was when it was synced, or one that was written since, or the beginning of one such and the rest of what was there, or was written ahead. Mathematics alone. Condition: nothing was freed since; blocks are of sixty-four bytes.
-/
import Derived.Test.YtcgfgmnelaiojaaDoorBlkDz
namespace Go.Proofs.YtcgfgmnelaiojaaDoor

/-- A beginning of x, and then the rest of y. -/
def Bg (b x y : List Int) : Prop := ∃ c, c ≤ 64 ∧ b = x.take c ++ y.drop c
theorem bg_same {x : List Int} (h : x.length = 64) (y : List Int) (hy : y.length = 64) : Bg x x y := ⟨64, Nat.le_refl _, by rw [List.take_of_length_le (by omega), List.drop_of_length_le (by omega), List.append_nil]⟩
/-- From where two rows are unlike on, the rest is the other's. -/
theorem bg_rest {b x y : List Int} (hx : x.length = 64) (h : Bg b x y) {k : Nat} (hd : k = 64 ∨ b[k]? ≠ x[k]?) : b.drop k = y.drop k := by
  obtain ⟨c, hc, e⟩ := h
  have hle : c ≤ k := by
    rcases hd with q | q
    · omega
    · apply Nat.le_of_not_lt
      intro hlt
      refine q ?_
      rw [e, List.getElem?_append_left (by rw [List.length_take]; omega), List.getElem?_take_of_lt hlt]
  rw [e, List.drop_append, List.length_take, List.drop_of_length_le (by rw [List.length_take]; omega), List.nil_append, List.drop_drop]
  congr 1
  omega
/-- The writes of a block, in order. -/
def wrA (a : Int) (lo : List Wr) : List (List Int) := (lo.filter fun w => decide (w.at_ = a)).map (·.by_)
theorem wrA_app (a : Int) (l m : List Wr) : wrA a (l ++ m) = wrA a l ++ wrA a m := by simp [wrA]
theorem wrA_one_eq {a : Int} {w : Wr} (h : w.at_ = a) : wrA a [w] = [w.by_] := by simp [wrA, h]
theorem wrA_one_ne {a : Int} {w : Wr} (h : w.at_ ≠ a) : wrA a [w] = [] := by simp [wrA, h]
theorem kpt_subl : ∀ (ks : List Int) (lo : List Wr), (kpt ks lo).Sublist lo
  | k :: ks, w :: ws => by
    unfold kpt
    split
    · exact (kpt_subl ks ws).cons_cons w
    · exact (kpt_subl ks ws).cons w
  | [], lo => by simp [kpt]
  | _ :: _, [] => by simp [kpt]
theorem syn_last (a : Int) : ∀ (L : List Wr) (cs : Cs), (∀ w ∈ L, w.fr = false) → look (syn cs L) a = look cs a ∨ ∃ y ∈ wrA a L, look (syn cs L) a = some y
  | [], _, _ => .inl rfl
  | w :: L, cs, h => by
    have hs : syn cs (w :: L) = syn (stS cs w) L := rfl
    have hA : wrA a (w :: L) = wrA a [w] ++ wrA a L := wrA_app a [w] L
    rw [hs, hA]
    rcases syn_last a L (stS cs w) (fun x hx => h x (List.mem_cons_of_mem _ hx)) with q | ⟨y, hy, q⟩
    · rw [q]
      by_cases e : w.at_ = a
      · refine .inr ⟨w.by_, by rw [wrA_one_eq e]; simp, ?_⟩
        unfold stS
        rw [h w List.mem_cons_self]
        simp only [Bool.false_eq_true, if_false]
        rw [look_ins, if_pos e.symm]
      · exact .inl (look_stS e)
    · exact .inr ⟨y, List.mem_append_right _ hy, q⟩
theorem crash_block {cs : Cs} {lo : List Wr} (ks : List Int) (cut a : Int) (hf : ∀ w ∈ lo, w.fr = false) (hb : ∀ w ∈ lo, w.by_.length = 64) (hw : ((look cs a).getD zer).length = 64) :
    (look (crs cs (kpt ks lo) cut) a).getD zer = (look cs a).getD zer ∨ ∃ p b q, wrA a lo = p ++ b :: q ∧ (Bg ((look (crs cs (kpt ks lo) cut) a).getD zer) b ((look cs a).getD zer) ∨ ∃ y ∈ p, Bg ((look (crs cs (kpt ks lo) cut) a).getD zer) b y) := by
  have hsub := kpt_subl ks lo
  generalize hK : kpt ks lo = K at hsub ⊢
  rcases List.eq_nil_or_concat K with e | ⟨K', w, e⟩
  · rw [e]; exact .inl rfl
  · rw [List.concat_eq_append] at e
    subst e
    have hsA : (wrA a K' ++ wrA a [w]).Sublist (wrA a lo) := by rw [← wrA_app]; exact (hsub.filter _).map _
    have hwl : w ∈ lo := hsub.subset (by simp)
    have hKl : ∀ x ∈ K', x ∈ lo := fun x hx => hsub.subset (by simp [hx])
    have hmem : ∀ y, y ∈ wrA a lo → y.length = 64 := fun y hy => by
      obtain ⟨x, hx, rfl⟩ := List.mem_map.1 hy
      exact hb x (List.mem_filter.1 hx).1
    have hone : ∀ y, y ∈ wrA a lo → ∃ p b q, wrA a lo = p ++ b :: q ∧ (Bg y b ((look cs a).getD zer) ∨ ∃ z ∈ p, Bg y b z) := fun y hy => by
      obtain ⟨p, q, e⟩ := List.append_of_mem hy
      exact ⟨p, y, q, e, .inl (bg_same (hmem y hy) _ hw)⟩
    have hcr : crs cs (K' ++ [w]) cut = stS (syn cs K') (torn w ((look (syn cs K') w.at_).getD zer) cut) := by simp [crs]
    rw [hcr]
    have hl := syn_last a K' cs (fun x hx => hf x (hKl x hx))
    by_cases e : w.at_ = a
    · have hfr := hf w hwl
      rw [wrA_one_eq e] at hsA
      have hlk : look (stS (syn cs K') (torn w ((look (syn cs K') w.at_).getD zer) cut)) a = some (torn w ((look (syn cs K') w.at_).getD zer) cut).by_ := by
        unfold stS
        rw [show (torn w ((look (syn cs K') w.at_).getD zer) cut).fr = false by unfold torn; split <;> exact hfr]
        simp only [Bool.false_eq_true, if_false]
        rw [look_ins, torn_at, if_pos e.symm]
      rw [hlk, Option.getD_some, e]
      right
      obtain ⟨r1, r2, h1, h2, h3⟩ := List.append_sublist_iff.1 hsA
      obtain ⟨s, t, h4⟩ := List.append_of_mem (h3.subset (List.mem_singleton.2 rfl))
      refine ⟨r1 ++ s, w.by_, t, by rw [h1, h4, List.append_assoc], ?_⟩
      unfold torn
      split
      · rename_i hc
        rcases hl with q | ⟨y, hy, q⟩
        · left
          rw [q]
          exact ⟨cut.toNat, by omega, rfl⟩
        · right
          refine ⟨y, List.mem_append_left _ (h2.subset hy), ?_⟩
          rw [q]
          exact ⟨cut.toNat, by omega, rfl⟩
      · exact .inl (bg_same (hb w hwl) _ hw)
    · rw [wrA_one_ne e, List.append_nil] at hsA
      rw [look_stS (by rw [torn_at]; exact e)]
      rcases hl with q | ⟨y, hy, q⟩
      · left; rw [q]
      · right; rw [q]
        exact hone y (hsA.subset hy)
end Go.Proofs.YtcgfgmnelaiojaaDoor
