/-
  THE DOCUMENT's TEXTS AND ROWS AS BYTES (castellanref02.Text, Row), and its Same and Ints, where both lists are the same. Conditions: the slices' cells hold the lists, and no more than four thousand elements.
-/
import Derived.Test.YtfjkahclobnhiaaDoorRefNum
import Derived.Test.YtfjkahclobnhiaaDoorSlc
import Derived.Deep.QuietTactic
import Derived.BigQuiet
namespace Go.Proofs.YtfjkahclobnhiaaDoor
open Go.RowKit

theorem info5 : (Tryd.prog.info? 5).map (fun i => (i.zero, i.size, i.bytes)) = some (some (.int .u8 0), 1, 1) := by kernel_rfl
theorem refInt_owns (n : Int) (w : World) (hn : n ≤ 9223372036854775807) : Calls Tryd.prog 15 #[.int .i64 n] w fun e w' =>
    ∃ v, e = .returned v ∧ w'.ownsRow w.heap.size 5 1 v (intL n).length (bv (intL n)) ∧ Below w.heap.size w w' := by
  refine (refInt_any n w hn).mono ?_
  rintro e w' ⟨rfl, rfl⟩
  have h := owns_new w (bv (intL n)) 5 (by have := intL_le n; unfold maxLen; simp [bv]; omega)
  rw [show (bv (intL n)).length = (intL n).length by simp [bv]] at h
  exact ⟨_, rfl, h, (Below.refl _ _).alloc (Nat.le_refl _) _⟩

set_option maxHeartbeats 4000000 in
theorem refText_some (b o cap : Nat) (l : List Int) (w : World) (hl : l.length ≤ 4000) (h3 : ∀ i (h : i < l.length), w.cell? ⟨b, o + i, none⟩ = some (bc l[i])) :
    Calls Tryd.prog 17 #[.slice (some ⟨b, o, none⟩) l.length cap] w fun e w' => ∃ v, e = .returned v ∧ w'.ownsRow w.heap.size 5 1 v ((intL l.length).length + l.length) (bv (intL l.length ++ l)) ∧ Below w.heap.size w w' := by
  obtain ⟨i0, hi, hz0, hz1, hz2⟩ := info_parts info5
  have HC := hide (refInt_owns l.length w (by omega))
  have HL := hide (intL_le l.length)
  have H3 := hide h3
  clear h3
  go_enter Tryd.func17, Tryd.ntmps17
  go_wp2_with fail
  refine (HC.out).mono ?_
  rintro e w1 ⟨v, rfl, hown, hb⟩
  have HN := hide (Sl.news (f := bc) (w := w1) (b := b) (o := o) (l := l) fun i hi => by rw [hb.cell (p := ⟨b, o + i, none⟩) (cell_block (H3.out i hi))]; exact H3.out i hi)
  have hz := hb.size
  generalize hL : intL (l.length : Int) = L at *
  have HLq := hide hL
  clear hL
  go_wp2_with (first
    | (at_builtin; refine wpList_append_own _ rfl _ _ 22 rfl w.heap.size 5 i0 (.int .u8 0) 1 1 Tryd.underlying22 hi hz0 hz1 hz2 rfl (by decide) _ _ _ rfl hown ⟨b, o, none⟩ l.length cap (l.map bc) rfl (by simp) HN.out (Sl.one (fun _ => rfl) l) ?c3 ?c4 ?c5 ?_))
  case c3 => have := HL.out; unfold maxLen; omega
  case c4 => have := HL.out; omega
  case c5 => omega
  · intro v' w2 hown' hgrow _
    have hB : Below w.heap.size w w2 := hb.grown hgrow hz (fun j hj => (hown.lt j hj).1)
    have HO := hide hown'
    clear hown' hgrow hown hb
    go_wp2
    go_ret
    exact ⟨v', rfl, by rw [HLq.out, bv_eq, List.map_append]; exact HO.out, hB⟩

set_option maxHeartbeats 4000000 in
theorem refText_empty (ao : Option Addr) (cap : Nat) (w : World) :
    Calls Tryd.prog 17 #[.slice ao 0 cap] w fun e w' => ∃ v, e = .returned v ∧ w'.ownsRow w.heap.size 5 1 v 1 (bv [0]) ∧ Below w.heap.size w w' := by
  have HC := hide (refInt_any 0 w (by omega))
  rw [show intL 0 = [0] by decide] at HC
  go_enter Tryd.func17, Tryd.ntmps17
  go_wp2_with fail
  refine (HC.out).mono ?_
  rintro e w1 ⟨rfl, rfl⟩
  cases ao with
  | none =>
    go_wp2
    go_ret
    exact ⟨_, rfl, owns_new w (bv [0]) 5 (by decide), (Below.refl _ _).alloc (Nat.le_refl _) _⟩
  | some a =>
    go_wp2
    go_ret
    exact ⟨_, rfl, owns_new w (bv [0]) 5 (by decide), (Below.refl _ _).alloc (Nat.le_refl _) _⟩

theorem refText_any (v : Value) (l : List Int) (w : World) (hv : Sl bc w v l) (hl : l.length ≤ 4000) :
    Calls Tryd.prog 17 #[v] w fun e w' => ∃ v, e = .returned v ∧ w'.ownsRow w.heap.size 5 1 v ((intL l.length).length + l.length) (bv (intL l.length ++ l)) ∧ Below w.heap.size w w' := by
  rcases hv with ⟨ao, cap, rfl, rfl⟩ | ⟨b, o, cap, rfl, h2, h3⟩
  · exact refText_empty ao cap w
  · exact refText_some b o cap l w hl h3

/-- A row's bytes. -/
def rowL (l : List Int) : List Int := l.flatMap intL
theorem rowL_snoc (l : List Int) (j : Nat) (h : j < l.length) : rowL (l.take (j + 1)) = rowL (l.take j) ++ intL l[j] := by
  rw [List.take_succ_eq_append_getElem h]
  simp only [rowL, List.flatMap_append, List.flatMap_cons, List.flatMap_nil, List.append_nil]
theorem rowL_le (l : List Int) : (rowL l).length ≤ 8 * l.length := by
  induction l with
  | nil => simp [rowL]
  | cons a l ih =>
    have h1 := intL_le a
    have h2 : rowL (a :: l) = intL a ++ rowL l := by simp [rowL]
    rw [h2, List.length_append, List.length_cons]
    omega

set_option maxRecDepth 100000 in
set_option maxHeartbeats 4000000 in
theorem refRow_some (b o cap : Nat) (l : List Int) (w : World) (hl : l.length ≤ 4000) (hi64 : ∀ i (h : i < l.length), l[i] ≤ 9223372036854775807) (h3 : ∀ i (h : i < l.length), w.cell? ⟨b, o + i, none⟩ = some (ic l[i])) :
    Calls Tryd.prog 19 #[.slice (some ⟨b, o, none⟩) l.length cap] w fun e w' => ∃ v, e = .returned v ∧ w'.ownsRow w.heap.size 5 1 v (intL l.length ++ rowL l).length (bv (intL l.length ++ rowL l)) ∧ Below w.heap.size w w' := by
  obtain ⟨i0, hi, hz0, hz1, hz2⟩ := info_parts info5
  have HC := hide (refInt_owns l.length w (by omega))
  have HI := hide hi64
  have H3 := hide h3
  clear h3 hi64
  go_enter Tryd.func19, Tryd.ntmps19
  go_wp2_with fail
  refine (HC.out).mono ?_
  rintro e w1 ⟨v, rfl, hown, hb⟩
  have HO := hide hown
  have HB := hide hb
  clear hown hb HC
  go_wp2
  go_loopw [3, 4] (fun v i wr => ∃ j : Nat, j ≤ l.length ∧ i = .int .i64 j ∧ wr.ownsRow w.heap.size 5 1 v (intL l.length ++ rowL (l.take j)).length (bv (intL l.length ++ rowL (l.take j))) ∧ Below w.heap.size w wr ∧ w.heap.size ≤ wr.heap.size) (fun _ i _ => l.length - (intOf i).toNat)
  case atStart => exact ⟨0, Nat.zero_le _, rfl, by simpa [rowL] using HO.out, HB.out, HB.out.size⟩
  case round =>
    obtain ⟨j, hj, rfl, hown, hb, hs⟩ := hrel
    by_cases hlt : j < l.length
    · have hc : wr.cell? ⟨b, o + j, none⟩ = some (.int .i64 l[j]) := by rw [hb.cell (p := ⟨b, o + j, none⟩) (cell_block (H3.out j hlt))]; exact H3.out j hlt
      have HJ := hide (refInt_any l[j] wr (HI.out j hlt))
      have HS := hide (rowL_snoc l j hlt)
      have HL1 := hide (intL_le l[j])
      have HL2 := hide (intL_le l.length)
      have HL3 := hide (rowL_le (l.take j))
      generalize l[j] = x at *
      generalize intL x = X at *
      generalize hLL : intL (l.length : Int) ++ rowL (l.take j) = LL at *
      have HLL := hide hLL
      clear hLL
      go_wp2_with (first
        | (go_at_call 15; refine (HJ.out).mono ?_; rintro e w' ⟨rfl, hw'⟩; have hb' : Below wr.heap.size wr w' := by (rw [hw']; exact (Below.refl _ _).alloc (Nat.le_refl _) _))
        | (at_builtin; refine wpList_append_own _ rfl _ _ 22 rfl w.heap.size 5 i0 (.int .u8 0) 1 1 Tryd.underlying22 hi hz0 hz1 hz2 rfl (by decide) _ _ _ rfl (hown.alloc _) ⟨wr.heap.size, 0, none⟩ X.length X.length (bv X) rfl (by simp [bv]) ?c1 (Sl.one (f := bc) (fun _ => rfl) X) ?c3 ?c4 ?c5 ?_))
      case c1 =>
        intro i u hu
        rw [Addr.add_lit, World.cell?_alloc_at _ _ _ _ rfl]
        simpa using hu
      case c3 => have := HLL.out; have h1 := HL1.out; have h2 := HL2.out; have h3 := HL3.out; have h4 := congrArg List.length this; rw [List.length_append] at h4; rw [List.length_take] at h3; unfold maxLen; omega
      case c4 => have := HLL.out; have h1 := HL1.out; have h2 := HL2.out; have h3 := HL3.out; have h4 := congrArg List.length this; rw [List.length_append] at h4; rw [List.length_take] at h3; omega
      case c5 => simp; omega
      · intro v' w2 hown' hgrow _
        have hB : Below w.heap.size w w2 := (hb.alloc hs _).grown hgrow (by simp; omega) (fun i hi => (hown.lt i hi).1)
        have HO2 := hide hown'
        clear hown' hgrow hown hc
        go_wp2
        go_roundw
        case rel => exact ⟨j + 1, by omega, by go_num, by rw [HS.out, ← List.append_assoc, HLL.out, List.length_append, bv_eq, List.map_append]; exact HO2.out, hB, hB.size⟩
        case measure => simp [intOf]; omega
    · obtain rfl : j = l.length := by omega
      rw [List.take_length] at hown
      go_wp2
      go_ret
      exact ⟨_, rfl, hown, hb⟩

set_option maxHeartbeats 4000000 in
theorem refRow_empty (ao : Option Addr) (cap : Nat) (w : World) :
    Calls Tryd.prog 19 #[.slice ao 0 cap] w fun e w' => ∃ v, e = .returned v ∧ w'.ownsRow w.heap.size 5 1 v 1 (bv [0]) ∧ Below w.heap.size w w' := by
  have HC := hide (refInt_any 0 w (by omega))
  rw [show intL 0 = [0] by decide] at HC
  go_enter Tryd.func19, Tryd.ntmps19
  go_wp2_with fail
  refine (HC.out).mono ?_
  rintro e w1 ⟨rfl, rfl⟩
  go_wp2
  refine wp_loop_rounds 1 ?_
  rw [rounds_succ]
  go_wp2
  go_ret
  exact ⟨_, rfl, owns_new w (bv [0]) 5 (by decide), (Below.refl _ _).alloc (Nat.le_refl _) _⟩

theorem refRow_any (v : Value) (l : List Int) (w : World) (hv : Sl ic w v l) (hl : l.length ≤ 4000) (hi64 : ∀ i (h : i < l.length), l[i] ≤ 9223372036854775807) :
    Calls Tryd.prog 19 #[v] w fun e w' => ∃ v, e = .returned v ∧ w'.ownsRow w.heap.size 5 1 v (intL l.length ++ rowL l).length (bv (intL l.length ++ rowL l)) ∧ Below w.heap.size w w' := by
  rcases hv with ⟨ao, cap, rfl, rfl⟩ | ⟨b, o, cap, rfl, h2, h3⟩
  · exact refRow_empty ao cap w
  · exact refRow_some b o cap l w hl hi64 h3

set_option maxHeartbeats 4000000 in
/-- The two lists are the same: so it is told. -/
theorem same_bytes (v u : Value) (a : List Int) (w : World) (hv : Sl bc w v a) (hu : Sl bc w u a) (hl : a.length ≤ 40000) :
    Calls Tryd.prog 18 #[v, u] w fun e w' => e = .returned (.bool true) ∧ Below w.heap.size w w' := by
  rcases hv with ⟨ao, cap, rfl, rfl⟩ | ⟨b, o, cap, rfl, h2, h3⟩
  · rcases hu with ⟨ao', cap', _, rfl⟩ | ⟨b, o, cap', rfl, h2, h3⟩
    all_goals
      go_enter Tryd.func18, Tryd.ntmps18
      go_wp2
      refine wp_loop_rounds 1 ?_
      rw [rounds_succ]
      go_wp2
      go_ret
      exact ⟨rfl, Below.refl _ _⟩
  · rcases hu with ⟨ao', cap', rfl, rfl⟩ | ⟨b', o', cap', rfl, h2', h3'⟩
    · go_enter Tryd.func18, Tryd.ntmps18
      go_wp2
      refine wp_loop_rounds 1 ?_
      rw [rounds_succ]
      go_wp2
      go_ret
      exact ⟨rfl, Below.refl _ _⟩
    · have H3 := hide h3
      have H3' := hide h3'
      clear h3 h3'
      go_enter Tryd.func18, Tryd.ntmps18
      go_wp2
      go_loopw [5] (fun i W => ∃ k : Nat, k ≤ a.length ∧ i = .int .i64 k ∧ Below w.heap.size w W) (fun i _ => a.length - (intOf i).toNat)
      case atStart => exact ⟨0, Nat.zero_le _, rfl, Below.refl _ _⟩
      case round =>
        obtain ⟨k, hk, rfl, hb⟩ := hrel
        by_cases hlt : k < a.length
        · have hc : wr.cell? ⟨b, o + k, none⟩ = some (.int .u8 a[k]) := by rw [hb.cell (p := ⟨b, o + k, none⟩) (cell_block (H3.out k hlt))]; exact H3.out k hlt
          have hc' : wr.cell? ⟨b', o' + k, none⟩ = some (.int .u8 a[k]) := by rw [hb.cell (p := ⟨b', o' + k, none⟩) (cell_block (H3'.out k hlt))]; exact H3'.out k hlt
          generalize a[k] = sk at *
          go_wp2_with fail
          go_quiet (fail)
          go_wp2
          exact ⟨⟨k + 1, by omega, by go_num, below_drewN hb _⟩, by simp [intOf]; omega⟩
        · go_wp2
          go_ret
          exact ⟨rfl, hb⟩

set_option maxHeartbeats 4000000 in
/-- The two lists are the same: so it is told. -/
theorem same_ints (v u : Value) (a : List Int) (w : World) (hv : Sl ic w v a) (hu : Sl ic w u a) (hl : a.length ≤ 40000) :
    Calls Tryd.prog 23 #[v, u] w fun e w' => e = .returned (.bool true) ∧ Below w.heap.size w w' := by
  rcases hv with ⟨ao, cap, rfl, rfl⟩ | ⟨b, o, cap, rfl, h2, h3⟩
  · rcases hu with ⟨ao', cap', _, rfl⟩ | ⟨b, o, cap', rfl, h2, h3⟩
    all_goals
      go_enter Tryd.func23, Tryd.ntmps23
      go_wp2
      refine wp_loop_rounds 1 ?_
      rw [rounds_succ]
      go_wp2
      go_ret
      exact ⟨rfl, Below.refl _ _⟩
  · rcases hu with ⟨ao', cap', rfl, rfl⟩ | ⟨b', o', cap', rfl, h2', h3'⟩
    · go_enter Tryd.func23, Tryd.ntmps23
      go_wp2
      refine wp_loop_rounds 1 ?_
      rw [rounds_succ]
      go_wp2
      go_ret
      exact ⟨rfl, Below.refl _ _⟩
    · have H3 := hide h3
      have H3' := hide h3'
      clear h3 h3'
      go_enter Tryd.func23, Tryd.ntmps23
      go_wp2
      go_loopw [5] (fun i W => ∃ k : Nat, k ≤ a.length ∧ i = .int .i64 k ∧ Below w.heap.size w W) (fun i _ => a.length - (intOf i).toNat)
      case atStart => exact ⟨0, Nat.zero_le _, rfl, Below.refl _ _⟩
      case round =>
        obtain ⟨k, hk, rfl, hb⟩ := hrel
        by_cases hlt : k < a.length
        · have hc : wr.cell? ⟨b, o + k, none⟩ = some (.int .i64 a[k]) := by rw [hb.cell (p := ⟨b, o + k, none⟩) (cell_block (H3.out k hlt))]; exact H3.out k hlt
          have hc' : wr.cell? ⟨b', o' + k, none⟩ = some (.int .i64 a[k]) := by rw [hb.cell (p := ⟨b', o' + k, none⟩) (cell_block (H3'.out k hlt))]; exact H3'.out k hlt
          generalize a[k] = sk at *
          go_wp2_with fail
          go_quiet (fail)
          go_wp2
          exact ⟨⟨k + 1, by omega, by go_num, below_drewN hb _⟩, by simp [intOf]; omega⟩
        · go_wp2
          go_ret
          exact ⟨rfl, hb⟩
end Go.Proofs.YtfjkahclobnhiaaDoor
