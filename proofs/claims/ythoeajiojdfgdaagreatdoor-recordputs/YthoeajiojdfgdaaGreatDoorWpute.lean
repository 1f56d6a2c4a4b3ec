/-
  A ROW WRITTEN BEHIND BYTES (wire.Row). Conditions: the bytes are nil or a row of their own, and fewer than a million; the row has at most four thousand numbers and does not lie in that row.
-/
import Derived.Test.YthoeajiojdfgdaaGreatDoorMJ
namespace Go.Proofs.YthoeajiojdfgdaaGreatDoor
open Go.RowKit

set_option maxRecDepth 100000 in
set_option maxHeartbeats 8000000 in
theorem wrow_some (B : Nat) (v : Value) (m : Nat) (cur : List Value) (b o sc : Nat) (l : List Int) (w : World) (hr : Rw B w v m cur) (hB : B ≤ w.heap.size) (hm : m ≤ 800000) (hl : l.length ≤ 4000) (hi64 : ∀ i (h : i < l.length), l[i] ≤ 9223372036854775807) (hne : v.ownBlock ≠ some b) (h3 : ∀ i (h : i < l.length), w.cell? ⟨b, o + i, none⟩ = some (ic l[i])) :
    Calls Tryz.prog 56 #[v, .slice (some ⟨b, o, none⟩) l.length sc] w fun e w' => ∃ v' cur', e = .returned v' ∧ Put B w v m cur w' v' (intL l.length ++ rowL l).length cur' (bv (intL l.length ++ rowL l)) := by
  have HC := hide (wint_any B v m cur l.length w hr hB (by omega) (by omega))
  have HI := hide hi64
  have H3 := hide h3
  clear h3 hi64 hr
  go_enter Tryz.func56, Tryz.ntmps56
  go_wp2_with (first
    | (go_at_call 51; refine (HC.out).mono ?_; rintro e w1 ⟨v1, cur1, rfl, hp1⟩))
  have HP1 := hide hp1
  clear hp1 HC
  go_loopw [0, 13] (fun u i wr => ∃ (j : Nat) (c : List Value), j ≤ l.length ∧ i = .int .i64 j ∧ Put B w v m cur wr u (intL l.length ++ rowL (l.take j)).length c (bv (intL l.length ++ rowL (l.take j)))) (fun _ i _ => l.length - (intOf i).toNat)
  case atStart => exact ⟨0, cur1, Nat.zero_le _, rfl, by simpa [rowL] using HP1.out⟩
  case round =>
    obtain ⟨j, c, hj, rfl, hp⟩ := hrel
    by_cases hlt : j < l.length
    · have hc : wr.cell? ⟨b, o + j, none⟩ = some (.int .i64 l[j]) := by
        have := H3.out j hlt
        exact hp.grown.cell this (fun e => hne e.symm)
      have hsz := hp.below.size
      have hlen : (intL l.length ++ rowL (l.take j)).length ≤ 40000 := by
        have h1 := intL_le l.length
        have h2 := rowL_le (l.take j)
        rw [List.length_take] at h2
        rw [List.length_append]
        omega
      have HJ := hide (wint_any B _ _ c l[j] wr hp.rw (by omega) (by omega) (HI.out j hlt))
      have HS := hide (rowL_snoc l j hlt)
      have HP := hide hp
      generalize l[j] = x at *
      clear hp
      go_wp2_with (first
        | (go_at_call 51; refine (HJ.out).mono ?_; rintro e w2 ⟨v2, c2, rfl, hp2⟩))
      have HP2 := hide (HP.out.trans hp2)
      clear hp2 HJ
      go_wp2_with fail
      go_roundw
      case rel =>
        refine ⟨j + 1, c2, by omega, by go_num, ?_⟩
        rw [HS.out, ← List.append_assoc, List.length_append, bv_eq, List.map_append]
        exact HP2.out
      case measure => simp [intOf]; omega
    · obtain rfl : j = l.length := by omega
      rw [List.take_length] at hp
      have HP := hide hp
      clear hp
      go_wp2_with fail
      go_ret
      exact ⟨_, _, rfl, HP.out⟩
set_option maxRecDepth 100000 in
set_option maxHeartbeats 8000000 in
theorem wrow_none (B : Nat) (v : Value) (m : Nat) (cur : List Value) (sp : Option Addr) (sc : Nat) (w : World) (hr : Rw B w v m cur) (hB : B ≤ w.heap.size) (hm : m ≤ 800000) :
    Calls Tryz.prog 56 #[v, .slice sp 0 sc] w fun e w' => ∃ v' cur', e = .returned v' ∧ Put B w v m cur w' v' 1 cur' (bv [0]) := by
  have HC := hide (wint_any B v m cur 0 w hr hB (by omega) (by omega))
  rw [show intL 0 = [0] by decide] at HC
  clear hr
  go_enter Tryz.func56, Tryz.ntmps56
  go_wp2_with (first
    | (go_at_call 51; refine (HC.out).mono ?_; rintro e w1 ⟨v1, cur1, rfl, hp1⟩))
  have HP1 := hide hp1
  clear hp1 HC
  refine wp_loop_rounds 1 ?_
  rw [rounds_succ]
  go_wp2_with fail
  go_ret
  exact ⟨_, _, rfl, HP1.out⟩
theorem wrow_any (B : Nat) (v u : Value) (m : Nat) (cur : List Value) (l : List Int) (w : World) (hr : Rw B w v m cur) (hB : B ≤ w.heap.size) (hm : m ≤ 800000) (hl : l.length ≤ 4000) (hi64 : ∀ i (h : i < l.length), l[i] ≤ 9223372036854775807) (hu : Sl ic w u l) (hoff : 0 < l.length → ∀ b o k c, u = .slice (some ⟨b, o, none⟩) k c → v.ownBlock ≠ some b) :
    Calls Tryz.prog 56 #[v, u] w fun e w' => ∃ v' cur', e = .returned v' ∧ Put B w v m cur w' v' (intL l.length ++ rowL l).length cur' (bv (intL l.length ++ rowL l)) := by
  by_cases h0 : 0 < l.length
  · rcases hu with ⟨ao, cap, rfl, rfl⟩ | ⟨b, o, cap, rfl, h2, h3⟩
    · simp at h0
    · exact wrow_some B v m cur b o cap l w hr hB hm hl hi64 (hoff h0 b o _ _ rfl) h3
  · obtain rfl : l = [] := List.eq_nil_of_length_eq_zero (by omega)
    obtain ⟨ao, cap, rfl⟩ := hu.form
    exact wrow_none B v m cur ao cap w hr hB hm
end Go.Proofs.YthoeajiojdfgdaaGreatDoor
