/-
  THE DOCUMENT's ANSWERS (package castellanref01) THAT LOOP OVER A CHAIN's STEPS: Under and Path; and those that hand back a chain: Again and Both. Conditions: the chain's cells hold its steps, and no more than a thousand of them.
-/
import Derived.Test.YtdkbehbpdcfbdaaDoorRef
namespace Go.Proofs.YtdkbehbpdcfbdaaDoor
open Go.RowKit Go.Extern.Stop Go.Stop Go.Extern

theorem has_fst {l : List (ByteArray × Int)} {s : ByteArray} {j : Nat} (hj : j < l.length) (h : (l[j].1.toList == s.toList) = true) : hasB (l.map (·.1)) s = true := by
  refine has_yes (j := j) (by simpa using hj) ?_
  simp only [List.getElem_map]
  rw [beq_iff_eq] at h ⊢
  exact h.symm
theorem no_fst {l : List (ByteArray × Int)} {s : ByteArray} (h : ∀ j (hj : j < l.length), (l[j].1.toList == s.toList) = false) : hasB (l.map (·.1)) s = false := by
  refine has_no fun j hj => ?_
  have hj' : j < l.length := by simpa using hj
  simp only [List.getElem_map]
  have := h j hj'
  rw [beq_eq_false_iff_ne] at this ⊢
  exact fun e => this e.symm

set_option maxHeartbeats 4000000 in
theorem refUnder_any (v : Value) (l : List (ByteArray × Int)) (k : Int) (s : ByteArray) (w : World) (hv : Stp w v l) (hl : l.length ≤ 1000) :
    Calls Tryd.prog 14 #[.agg #[v, .int .i64 k], .string s] w fun e w' => e = .returned (.bool (hasB ((stC l k).map (·.1)) s)) ∧ Below w.heap.size w w' := by
  by_cases hk : k = 0
  · subst hk
    obtain ⟨ao, cap, rfl⟩ := hv.form
    clear hv
    go_enter Tryd.func14, Tryd.ntmps14
    go_wp2
    refine wp_loop_rounds 1 ?_
    rw [rounds_succ]
    go_wp2
    all_goals
      go_ret
      exact ⟨rfl, (Below.refl _ _).alloc (Nat.le_refl _) _⟩
  · have e1 : stC l k = l := if_neg hk
    have hkn : (k != 0) = true := by rw [bne_iff_ne]; exact hk
    rw [e1]
    clear e1 hk
    rcases hv with ⟨ao, cap, rfl, rfl⟩ | ⟨b, o, cap, rfl, h2, h3⟩
    · go_enter Tryd.func14, Tryd.ntmps14
      go_wp2
      refine wp_loop_rounds 1 ?_
      rw [rounds_succ]
      go_wp2
      all_goals
        go_ret
        exact ⟨rfl, (Below.refl _ _).alloc (Nat.le_refl _) _⟩
    · have H3 := hide h3
      clear h3
      go_enter Tryd.func14, Tryd.ntmps14
      go_wp2
      go_loop [5] (fun i => ∃ j : Nat, j ≤ l.length ∧ i = .int .i64 j ∧ ∀ m (hm : m < l.length), m < j → (l[m].1.toList == s.toList) = false) (fun i => l.length - (intOf i).toNat)
      case atStart => exact ⟨0, Nat.zero_le _, rfl, fun j _ h => absurd h (Nat.not_lt_zero _)⟩
      case round =>
        obtain ⟨j, hj, rfl, hno⟩ := hrel
        have HN := hide hno
        clear hno
        by_cases hlt : j < l.length
        · have hc := (H3.out j hlt).1
          have hbl := block_of_cell hc
          generalize hsk : l[j].1 = sk at *
          have HS := hide hsk
          clear hsk
          go_wp2
          · have hy : (sk.toList == s.toList) = true := by assumption
            go_ret
            exact ⟨by rw [has_fst (l := l) hlt (by rw [HS.out]; exact hy)]; rfl, (Below.refl _ _).alloc (Nat.le_refl _) _⟩
          · have hn : (sk.toList == s.toList) = false := by assumption
            refine ⟨⟨j + 1, by omega, by go_num, fun m hm h => ?_⟩, by simp [intOf]; omega⟩
            rcases Nat.lt_or_eq_of_le (Nat.le_of_lt_succ h) with h' | rfl
            · exact HN.out m hm h'
            · rw [HS.out]; exact hn
        · go_wp2
          go_ret
          exact ⟨by rw [no_fst fun m hm => HN.out m hm (by omega)]; rfl, (Below.refl _ _).alloc (Nat.le_refl _) _⟩

set_option maxHeartbeats 4000000 in
theorem refAgain_same (ao : Option Addr) (n cap : Nat) (k : Int) (w : World) (hn : n ≤ 1000) (h : n = 0 ∨ k = 0) :
    Calls Tryd.prog 16 #[.agg #[.slice ao n cap, .int .i64 k]] w fun e w' => e = .returned (.agg #[.slice ao n cap, .int .i64 k]) ∧ Below w.heap.size w w' := by
  by_cases h0 : n = 0
  · subst h0
    go_enter Tryd.func16, Tryd.ntmps16
    go_wp2
    exact bodyPost_ret (v := .agg #[.slice ao 0 cap, .int .i64 k]) (by simp [results, Tryd.results16, go_sem]) rfl ⟨rfl, ((Below.refl _ _).alloc (Nat.le_refl _) _).alloc (by simp) _⟩
  · obtain rfl : k = 0 := by omega
    have hq : (((n : Nat) : Int) == 0) = false := by rw [beq_eq_false_iff_ne]; omega
    go_enter Tryd.func16, Tryd.ntmps16
    go_wp2
    exact bodyPost_ret (v := .agg #[.slice ao n cap, .int .i64 0]) (by simp [results, Tryd.results16, go_sem]) rfl ⟨rfl, ((Below.refl _ _).alloc (Nat.le_refl _) _).alloc (by simp) _⟩
set_option maxHeartbeats 4000000 in
theorem refAgain_tail (b o n cap : Nat) (k : Int) (w : World) (hn : n ≤ 1000) (hc : n + 1 ≤ cap) (hk : (k == 0) = false) :
    Calls Tryd.prog 16 #[.agg #[.slice (some ⟨b, o, none⟩) (n + 1) cap, .int .i64 k]] w fun e w' => e = .returned (.agg #[.slice (if cap = 1 then some ⟨b, o, none⟩ else some ⟨b, o + 2, none⟩) n (cap - 1), .int .i64 k]) ∧ Below w.heap.size w w' := by
  have hq : (((n : Nat) : Int) + 1 == 0) = false := by rw [beq_eq_false_iff_ne]; omega
  by_cases hcap : cap = 1
  · rw [if_pos hcap]
    subst hcap
    obtain rfl : n = 0 := by omega
    clear hc
    go_enter Tryd.func16, Tryd.ntmps16
    go_wp2
    go_region
    go_wp2
    exact bodyPost_ret (v := .agg #[.slice (some ⟨b, o, none⟩) 0 0, .int .i64 k]) (by simp [results, Tryd.results16, go_sem]) rfl ⟨rfl, (((Below.refl _ _).alloc (Nat.le_refl _) _).alloc (by simp) _).drew⟩
  · rw [if_neg hcap]
    go_enter Tryd.func16, Tryd.ntmps16
    go_wp2
    go_region
    go_wp2
    exact bodyPost_ret (v := .agg #[.slice (some ⟨b, o + 2, none⟩) n (cap - 1), .int .i64 k]) (by simp [results, Tryd.results16, go_sem]) rfl ⟨rfl, (((Below.refl _ _).alloc (Nat.le_refl _) _).alloc (by simp) _).drew⟩

/-- A chain's steps without the outermost. -/
def agC (l : List (ByteArray × Int)) (k : Int) : List (ByteArray × Int) := if k = 0 then l else l.tail
theorem refAgain_any (v : Value) (l : List (ByteArray × Int)) (k : Int) (w : World) (hv : Stp w v l) (hl : l.length ≤ 1000) :
    Calls Tryd.prog 16 #[.agg #[v, .int .i64 k]] w fun e w' => ∃ v', e = .returned (.agg #[v', .int .i64 k]) ∧ Stp w' v' (agC l k) ∧ Below w.heap.size w w' := by
  by_cases h : l = [] ∨ k = 0
  · obtain ⟨ao, cap, rfl⟩ := hv.form
    have e1 : agC l k = l := by
      rcases h with rfl | rfl
      · simp [agC]
      · simp [agC]
    rw [e1]
    refine (refAgain_same ao l.length cap k w hl (by rcases h with rfl | h <;> simp [*])).mono ?_
    rintro e w' ⟨rfl, hb⟩
    exact ⟨_, rfl, hv.below hb, hb⟩
  · have h1 : ¬ l = [] := fun e => h (.inl e)
    have h2 : ¬ k = 0 := fun e => h (.inr e)
    rcases hv with ⟨ao, cap, rfl, rfl⟩ | ⟨b, o, cap, rfl, h3, h4⟩
    · exact absurd rfl h1
    · rcases l with _ | ⟨s, l⟩
      · exact absurd rfl h1
      · have e1 : agC (s :: l) k = l := by simp [agC, h2]
        rw [e1]
        refine (refAgain_tail b o l.length cap k w (by simp at hl; omega) (by simpa using h3) (by rw [beq_eq_false_iff_ne]; exact h2)).mono ?_
        rintro e w' ⟨rfl, hb⟩
        refine ⟨_, rfl, ?_, hb⟩
        have hc : ∀ i (h : i < l.length), w'.cell? ⟨b, o + 2 + i * 2, none⟩ = some (.string l[i].1) ∧ w'.cell? ⟨b, o + 2 + i * 2 + 1, none⟩ = some (.int .i64 l[i].2) := by
          intro i hi
          have h5 := h4 (i + 1) (by simpa using hi)
          rw [show o + (i + 1) * 2 = o + 2 + i * 2 by omega] at h5
          have h6 : (s :: l)[i + 1]'(by simpa using hi) = l[i] := rfl
          rw [h6] at h5
          rw [hb.cell (p := ⟨b, o + 2 + i * 2, none⟩) (block_of_cell h5.1), hb.cell (p := ⟨b, o + 2 + i * 2 + 1, none⟩) (block_of_cell h5.1)]
          exact h5
        by_cases hcap : cap = 1
        · have hl0 : l = [] := by
            simp at h3
            exact List.length_eq_zero_iff.1 (by omega)
          subst hl0
          exact .inl ⟨_, _, rfl, rfl⟩
        · rw [if_neg hcap]
          exact .inr ⟨b, o + 2, cap - 1, rfl, by simp at h3; omega, hc⟩

theorem ref_step {w wr w1 : World} {j : Nat} {l : List (ByteArray × Int)} {v v' : Value} {o' : Obj} (hj : j < l.length) (hs : w.heap.size + 1 ≤ wr.heap.size) (hb : Below w.heap.size w wr)
    (hown : wr.ownsRow (w.heap.size + 1) 9 1 v j (sv (l.take j)))
    (hown' : w1.ownsRow (w.heap.size + 1) 9 1 v' (j + 1) (sv (l.take j) ++ [.string l[j].1])) (hgrow : (wr.alloc o').grownBy w1 v.ownBlock) :
    w1.ownsRow (w.heap.size + 1) 9 1 v' (j + 1) (sv (l.take (j + 1))) ∧ Below w.heap.size w w1 ∧ w.heap.size + 1 ≤ w1.heap.size ∧ (∀ o x, wr.cell? ⟨w.heap.size, o, none⟩ = some x → w1.cell? ⟨w.heap.size, o, none⟩ = some x) := by
  have hB : Below w.heap.size w w1 := ((hb.alloc (by omega) o').grown hgrow (by simp; omega) (fun j hj => by have := (hown.lt j hj).1; omega))
  refine ⟨by rw [sv_snoc l j hj]; exact hown', hB, ?_, fun o x hx => hgrow.cell ((World.cell?_alloc_past _ _ _ (by omega)).trans hx) (fun h => by have := (hown.lt _ h.symm).1; simp at this; omega)⟩
  have := hgrow.size
  simp at this
  omega

theorem owns_mono {w : World} {base base' n size : Nat} {e : TypeId} {v : Value} {xs : List Value} (h : w.ownsRow base e size v n xs) (hb : base' ≤ base) : w.ownsRow base' e size v n xs := by
  obtain ⟨h1, h2⟩ := h
  refine ⟨h1, ?_⟩
  rcases h2 with h2 | ⟨g, cap, cur, a1, a2, a3⟩
  · exact .inl h2
  · exact .inr ⟨g, cap, cur, a1, Nat.le_trans hb a2, a3⟩

set_option maxRecDepth 100000 in
set_option maxHeartbeats 4000000 in
theorem refPath_any (v : Value) (l : List (ByteArray × Int)) (k : Int) (w : World) (hv : Stp w v l) (hl : l.length ≤ 1000) :
    Calls Tryd.prog 28 #[.agg #[v, .int .i64 k]] w fun e w' => ∃ v, e = .returned v ∧ w'.ownsRow w.heap.size 9 1 v (stC l k).length (sv (stC l k)) ∧ Below w.heap.size w w' := by
  by_cases hk : k = 0
  · subst hk
    obtain ⟨ao, cap, rfl⟩ := hv.form
    clear hv
    go_enter Tryd.func28, Tryd.ntmps28
    go_wp2
    refine wp_loop_rounds 1 ?_
    rw [rounds_succ]
    go_wp2
    all_goals
      go_ret
      exact ⟨_, rfl, World.ownsRow_nil _ _ _ _, (Below.refl _ _).alloc (Nat.le_refl _) _⟩
  · have e1 : stC l k = l := if_neg hk
    have hkn : (k != 0) = true := by rw [bne_iff_ne]; exact hk
    rw [e1]
    clear e1 hk
    rcases hv with ⟨ao, cap, rfl, rfl⟩ | ⟨b, o, cap, rfl, h2, h3⟩
    · go_enter Tryd.func28, Tryd.ntmps28
      go_wp2
      refine wp_loop_rounds 1 ?_
      rw [rounds_succ]
      go_wp2
      all_goals
        go_ret
        exact ⟨_, rfl, World.ownsRow_nil _ _ _ _, (Below.refl _ _).alloc (Nat.le_refl _) _⟩
    · have H3 := hide h3
      clear h3
      obtain ⟨i0, hi, hz0, hz1, hz2⟩ := info_parts info9
      go_enter Tryd.func28, Tryd.ntmps28
      go_wp2
      go_loopw [3, 4] (fun v i wr => ∃ j : Nat, j ≤ l.length ∧ i = .int .i64 j ∧ wr.ownsRow (w.heap.size + 1) 9 1 v j (sv (l.take j)) ∧ Below w.heap.size w wr ∧ w.heap.size + 1 ≤ wr.heap.size ∧
          wr.cell? ⟨w.heap.size, 0, none⟩ = some (.slice (some ⟨b, o, none⟩) l.length cap) ∧ wr.cell? ⟨w.heap.size, 1, none⟩ = some (.int .i64 k)) (fun _ i _ => l.length - (intOf i).toNat)
      case atStart => exact ⟨0, Nat.zero_le _, rfl, World.ownsRow_nil _ _ _ _, (Below.refl _ _).alloc (Nat.le_refl _) _, by simp, by simp, by simp⟩
      case round =>
        obtain ⟨j, hj, rfl, hown, hb, hs, c0, c1⟩ := hrel
        by_cases hlt : j < l.length
        · have hc : wr.cell? ⟨b, o + j * 2, none⟩ = some (.string l[j].1) := by rw [hb.cell (p := ⟨b, o + j * 2, none⟩) (block_of_cell (H3.out j hlt).1)]; exact (H3.out j hlt).1
          generalize hsk : l[j].1 = sk at *
          have HS := hide hsk
          clear hsk
          go_wp2_with (first
            | (at_builtin; refine wpList_append_own _ rfl _ _ 45 rfl (w.heap.size + 1) 9 i0 (.string ByteArray.empty) 1 16 Tryd.underlying45 hi hz0 hz1 hz2 rfl (by decide) _ _ _ rfl (hown.alloc _) ⟨wr.heap.size, 0, none⟩ 1 1 [.string sk] rfl rfl ?c1 ?c2 ?c3 ?c4 ?c5 ?_))
          case c1 =>
            intro j u hj
            match j, hj with
            | 0, hj => simp at hj; subst hj; simp [Addr.add]
          case c2 => intro u hu; simp at hu; subst hu; rfl
          case c3 => unfold maxLen; omega
          case c4 => omega
          case c5 => simp; omega
          · intro v' w1 hown' hgrow _
            have R := ref_step (l := l) hlt hs hb hown (by rw [HS.out]; exact hown') hgrow
            have d0 := R.2.2.2 _ _ c0
            have d1 := R.2.2.2 _ _ c1
            clear hown' hgrow hown c0 c1 hc
            go_wp2
            go_roundw
            case rel => exact ⟨j + 1, by omega, by go_num, R.1, R.2.1, R.2.2.1, d0, d1⟩
            case measure => simp [intOf]; omega
        · obtain rfl : j = l.length := by omega
          rw [List.take_length] at hown
          go_wp2
          go_ret
          exact ⟨_, rfl, owns_mono hown (by omega), hb⟩
end Go.Proofs.YtdkbehbpdcfbdaaDoor
