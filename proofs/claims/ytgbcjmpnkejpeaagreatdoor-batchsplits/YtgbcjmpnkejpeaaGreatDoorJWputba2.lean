/-
  A NUMBER, AN INT AND A FLAG WRITTEN BEHIND BYTES, at every number (wire.Num, Int, Flag). Conditions: the bytes are nil or a row of their own, and fewer than a million.
  AN APPEND OF ANY BYTES, NONE AMONG THEM, TO A ROW OF ITS OWN; the document's writers as slices. Condition: fewer than a million bytes.
-/
import Derived.Test.YtgbcjmpnkejpeaaGreatDoorJWput
import Derived.Test.YtgbcjmpnkejpeaaGreatDoorJRefPuta2
namespace Go.Proofs.YtgbcjmpnkejpeaaGreatDoor
open Go.RowKit

set_option maxRecDepth 100000 in
set_option maxHeartbeats 8000000 in
theorem wnum_cap (B : Nat) (v : Value) (m : Nat) (cur : List Value) (k : Int) (w : World) (hr : Rw B w v m cur) (hB : B ≤ w.heap.size) (hm : m ≤ 900000) (h0 : 4611686018427387903 < k) :
    Calls Tryz.prog 107 #[v, .int .u64 k] w fun e w' => ∃ v' cur', e = .returned v' ∧ Put B w v m cur w' v' 8 cur' (bv [255, 255, 255, 255, 255, 255, 255, 255]) := by
  obtain ⟨ao, cap, hV⟩ : ∃ ao cap, v = .slice ao m cap := by
    rcases hr.2.2 with ⟨rfl, rfl⟩ | ⟨g, rfl, _⟩
    · have := hr.1; simp at this; subst this; exact ⟨_, _, rfl⟩
    · exact ⟨_, _, rfl⟩
  have HS := hide (wsize_any 4611686018427387903)
  have hz : szL 4611686018427387903 = 8 := by decide
  rw [hz] at HS
  subst hV
  have HR := hide hr
  clear hr hz
  go_enter Tryz.func107, Tryz.ntmps107
  go_wp2_with (first
    | (go_at_call 112; refine (HS.out _).mono ?_; rintro e w' ⟨rfl, rfl⟩)
    | (at_builtin; refine wpList_append_rw _ rfl _ _ rfl B _ m cur rfl (HR.out.below ((Below.refl _ _).alloc (Nat.le_refl _) _)) (by simp; omega) _ 4 4 (bv [63, 255, 255, 255]) rfl rfl (by omega) (cells_at _ _ _) (one_bytes _) (by omega) ?_))
  intro w1 v1 cur1 hp1
  have HQ1 := hide (hp1.pre (w := w') hB ((Below.refl _ _).alloc (Nat.le_refl _) _))
  clear hp1 HR HS
  go_wp2_with (first
    | (at_builtin; refine wpList_append_rw _ rfl _ _ rfl B _ (m + 4) cur1 rfl (HQ1.out.rw.below ((Below.refl _ _).alloc (Nat.le_refl _) _)) (by have := HQ1.out.below.size; simp; omega) _ 2 2 (bv [255, 255]) rfl rfl (by omega) (cells_at _ _ _) (one_bytes _) (by omega) ?_))
  intro w2 v2 cur2 hp2
  have HQ2 := hide (HQ1.out.trans (hp2.pre (w := w1) (by have := HQ1.out.below.size; omega) ((Below.refl _ _).alloc (Nat.le_refl _) _)))
  clear hp2
  go_wp2_with (first
    | (at_builtin; refine wpList_append_rw _ rfl _ _ rfl B _ (m + 6) cur2 rfl (HQ2.out.rw.below ((Below.refl _ _).alloc (Nat.le_refl _) _)) (by have := HQ2.out.below.size; simp; omega) _ 1 1 (bv [255]) rfl rfl (by omega) (cells_at _ _ _) (one_bytes _) (by omega) ?_))
  intro w3 v3 cur3 hp3
  have HQ3 := hide (HQ2.out.trans (hp3.pre (w := w2) (by have := HQ2.out.below.size; omega) ((Below.refl _ _).alloc (Nat.le_refl _) _)))
  clear hp3
  go_wp2_with (first
    | (at_builtin; refine wpList_append_rw _ rfl _ _ rfl B _ (m + 7) cur3 rfl (HQ3.out.rw.below ((Below.refl _ _).alloc (Nat.le_refl _) _)) (by have := HQ3.out.below.size; simp; omega) _ 1 1 (bv [255]) rfl rfl (by omega) (cells_at _ _ _) (one_bytes _) (by omega) ?_))
  intro w4 v4 cur4 hp4
  have HQ4 := hide (HQ3.out.trans (hp4.pre (w := w3) (by have := HQ3.out.below.size; omega) ((Below.refl _ _).alloc (Nat.le_refl _) _)))
  clear hp4
  go_wp2_with fail
  have hq : Put B w' (.slice ao m cap) m cur w4 v4 8 cur4 (bv [63, 255, 255, 255, 255, 255, 255, 255]) := HQ4.out
  obtain ⟨g, rfl, hBg, hh, hcell, hfz, hlt, hle⟩ := hq.opened
  have HP := hide hq
  have HH := hide hh
  have hsz := hq.below.size
  clear hq hh HQ1 HQ2 HQ3 HQ4
  have eor2 : bits .or .u8 63 192 = 255 := by decide
  have eor : bits .or .u8 63 (IntKind.u8.wrap (IntKind.u8.wrap (IntKind.i64.wrap 3) * 64)) = 255 := by decide
  go_region_with (first | (go_at_call 130; refine (len_8 _).mono ?_; rintro e w' ⟨rfl, rfl⟩))
  all_goals go_wp2_with fail
  all_goals go_ret
  all_goals exact ⟨_, _, rfl, (HP.out.store hBg HH.out _).post (by simp; omega) ((Below.refl _ _).drew)⟩

theorem wnum_any (B : Nat) (v : Value) (m : Nat) (cur : List Value) (k : Int) (w : World) (hr : Rw B w v m cur) (hB : B ≤ w.heap.size) (hm : m ≤ 900000) (h0 : 0 ≤ k) :
    Calls Tryz.prog 107 #[v, .int .u64 k] w fun e w' => ∃ v' cur', e = .returned v' ∧ Put B w v m cur w' v' (numL (capN k)).length cur' (bv (numL (capN k))) := by
  by_cases hc : 4611686018427387903 < k
  · rw [show capN k = 4611686018427387903 from if_pos hc, show numL 4611686018427387903 = [255, 255, 255, 255, 255, 255, 255, 255] by decide]
    exact wnum_cap B v m cur k w hr hB hm hc
  · rw [show capN k = k from if_neg hc]
    unfold numL
    by_cases h1 : k < 64
    · rw [if_pos h1]
      exact wnum_1 B v m cur k w hr hB hm h0 h1
    · rw [if_neg h1]
      by_cases h2 : k < 16384
      · rw [if_pos h2]
        exact wnum_2 B v m cur k w hr hB hm (by omega) h2
      · rw [if_neg h2]
        by_cases h3 : k < 1073741824
        · rw [if_pos h3]
          exact wnum_4 B v m cur k w hr hB hm (by omega) h3
        · rw [if_neg h3]
          exact wnum_8 B v m cur k w hr hB hm (by omega) (by omega)
theorem intL_abv (k : Int) : numL (capN (abv' k)) = intL k := by
  unfold intL abv'
  split
  · rfl
  · rfl
theorem wint_any (B : Nat) (v : Value) (m : Nat) (cur : List Value) (k : Int) (w : World) (hr : Rw B w v m cur) (hB : B ≤ w.heap.size) (hm : m ≤ 900000) (hk : k ≤ 9223372036854775807) :
    Calls Tryz.prog 67 #[v, .int .i64 k] w fun e w' => ∃ v' cur', e = .returned v' ∧ Put B w v m cur w' v' (intL k).length cur' (bv (intL k)) := by
  have HC := hide (wnum_any B v m cur (abv' k) w hr hB hm (by unfold abv'; split <;> omega))
  rw [intL_abv] at HC
  clear hr
  go_enter Tryz.func67, Tryz.ntmps67
  go_wp2_with (first
    | (go_at_call 92; refine (natural_any k _ hk).mono ?_; rintro e w' ⟨rfl, rfl⟩)
    | (go_at_call 107; refine (HC.out).mono ?_; rintro e w' ⟨v', cur', rfl, hp⟩))
  go_ret
  exact ⟨_, _, rfl, hp⟩
set_option maxRecDepth 100000 in
set_option maxHeartbeats 8000000 in
theorem wflag_any (B : Nat) (v : Value) (m : Nat) (cur : List Value) (is : Bool) (w : World) (hr : Rw B w v m cur) (hB : B ≤ w.heap.size) (hm : m ≤ 900000) :
    Calls Tryz.prog 72 #[v, .bool is] w fun e w' => ∃ v' cur', e = .returned v' ∧ Put B w v m cur w' v' 1 cur' (bv [if is then 1 else 0]) := by
  have HR := hide hr
  clear hr
  cases is with
  | true =>
    go_enter Tryz.func72, Tryz.ntmps72
    go_wp2_with (first
      | (at_builtin; refine wpList_append_rw _ rfl _ _ rfl B _ m cur rfl (HR.out.below ((Below.refl _ _).alloc (Nat.le_refl _) _)) (by simp; omega) _ 1 1 (bv [1]) rfl rfl (by omega) (cells_at _ _ _) (one_bytes _) (by omega) ?_))
    intro w1 v1 cur1 hp1
    have HQ1 := hide (hp1.pre (w := w) hB ((Below.refl _ _).alloc (Nat.le_refl _) _))
    clear hp1
    go_wp2_with fail
    go_ret
    exact ⟨_, rfl, _, HQ1.out⟩
  | false =>
    go_enter Tryz.func72, Tryz.ntmps72
    go_wp2_with (first
      | (at_builtin; refine wpList_append_rw _ rfl _ _ rfl B _ m cur rfl (HR.out.below ((Below.refl _ _).alloc (Nat.le_refl _) _)) (by simp; omega) _ 1 1 (bv [0]) rfl rfl (by omega) (cells_at _ _ _) (one_bytes _) (by omega) ?_))
    intro w1 v1 cur1 hp1
    have HQ1 := hide (hp1.pre (w := w) hB ((Below.refl _ _).alloc (Nat.le_refl _) _))
    clear hp1
    go_wp2_with fail
    go_ret
    exact ⟨_, rfl, _, HQ1.out⟩
end Go.Proofs.YtgbcjmpnkejpeaaGreatDoor
namespace Go.Proofs.YtgbcjmpnkejpeaaGreatDoor
open Go.RowKit

theorem numL_max (n : Int) : (numL n).length ≤ maxLen := by have := numL_le n; unfold maxLen; omega
theorem intL_max (n : Int) : (intL n).length ≤ maxLen := by have := intL_le n; unfold maxLen; omega
theorem refNum_sl (n : Int) (w : World) (h0 : 0 ≤ n) : Calls Tryz.prog 131 #[.int .u64 n] w fun e w' => ∃ v, e = .returned v ∧ Sl bc w' v (numL (capN n)) ∧ Below w.heap.size w w' := by
  refine (refNum_any n w h0).mono ?_
  rintro e w' ⟨rfl, rfl⟩
  exact ⟨_, rfl, sl_new w _ (numL_max _), (Below.refl _ _).alloc (Nat.le_refl _) _⟩
theorem refInt_sl (n : Int) (w : World) (hn : n ≤ 9223372036854775807) : Calls Tryz.prog 108 #[.int .i64 n] w fun e w' => ∃ v, e = .returned v ∧ Sl bc w' v (intL n) ∧ Below w.heap.size w w' := by
  refine (refInt_any n w hn).mono ?_
  rintro e w' ⟨rfl, rfl⟩
  exact ⟨_, rfl, sl_new w _ (intL_max _), (Below.refl _ _).alloc (Nat.le_refl _) _⟩
/-- A flag as a byte. -/
def flB (is : Bool) : Int := if is then 1 else 0
theorem refFlag_sl (is : Bool) (w : World) : Calls Tryz.prog 133 #[.bool is] w fun e w' => ∃ v, e = .returned v ∧ Sl bc w' v [flB is] ∧ Below w.heap.size w w' := by
  refine (refFlag_any is w).mono ?_
  rintro e w' ⟨rfl, rfl⟩
  exact ⟨_, rfl, sl_new w _ (by simp [maxLen]), (Below.refl _ _).alloc (Nat.le_refl _) _⟩
theorem refText_sl (v : Value) (l : List Int) (w : World) (hv : Sl bc w v l) (hl : l.length ≤ 4000) : Calls Tryz.prog 143 #[v] w fun e w' => ∃ v, e = .returned v ∧ Sl bc w' v (intL l.length ++ l) ∧ Below w.heap.size w w' := by
  refine (refText_any v l w hv hl).mono ?_
  rintro e w' ⟨u, rfl, hown, hb⟩
  exact ⟨u, rfl, sl_of_owns (base := w.heap.size) (e := 5) (by simpa [bv_eq] using hown), hb⟩
theorem refRow_sl (v : Value) (l : List Int) (w : World) (hv : Sl ic w v l) (hl : l.length ≤ 4000) (hi64 : ∀ i (h : i < l.length), l[i] ≤ 9223372036854775807) : Calls Tryz.prog 144 #[v] w fun e w' => ∃ v, e = .returned v ∧ Sl bc w' v (intL l.length ++ rowL l) ∧ Below w.heap.size w w' := by
  refine (refRow_any v l w hv hl hi64).mono ?_
  rintro e w' ⟨u, rfl, hown, hb⟩
  exact ⟨u, rfl, sl_of_owns (base := w.heap.size) (e := 5) (by simpa [bv_eq] using hown), hb⟩
end Go.Proofs.YtgbcjmpnkejpeaaGreatDoor
