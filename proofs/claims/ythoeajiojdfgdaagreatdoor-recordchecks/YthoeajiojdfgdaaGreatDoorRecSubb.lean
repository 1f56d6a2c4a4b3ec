/-
  BROKERS (slices.Index, slices.Contains, record.Brokers, named, listed): as functions of lists. Conditions: no more than a thousand letters; the brokers' cells hold them.
-/
import Derived.Test.YthoeajiojdfgdaaGreatDoorRecSub
namespace Go.Proofs.YthoeajiojdfgdaaGreatDoor
open Go.RowKit

/-- Is a number among the first j? -/
def inB (l : List Int) (j : Nat) (x : Int) : Bool := (List.range j).any fun k => decide (l.getD k 0 = x)
theorem in_yes {l : List Int} {j k : Nat} {x : Int} (hk : k < j) (h : x = l.getD k 0) : inB l j x = true := by
  unfold inB
  rw [List.any_eq_true]
  exact ⟨k, List.mem_range.2 hk, decide_eq_true h.symm⟩
theorem in_no {l : List Int} {j : Nat} {x : Int} (h : ∀ k, k < j → ¬ l.getD k 0 = x) : inB l j x = false := by
  unfold inB
  rw [List.any_eq_false]
  intro k hk
  simpa using h k (List.mem_range.1 hk)
theorem in_okJ {l : List Int} {j : Nat} (h : 1 ≤ l.getD j 0 ∧ l.getD j 0 ≤ 64) : okJ l j = !inB l j (l.getD j 0) := by
  cases hi : inB l j (l.getD j 0) with
  | true =>
    unfold inB at hi
    rw [List.any_eq_true] at hi
    obtain ⟨k, hk, e⟩ := hi
    exact okJ_twice (List.mem_range.1 hk) (of_decide_eq_true e)
  | false =>
    unfold inB at hi
    rw [List.any_eq_false] at hi
    exact okJ_yes h (fun k hk e => hi k (List.mem_range.2 hk) (decide_eq_true e))
set_option maxRecDepth 100000 in
set_option maxHeartbeats 4000000 in
theorem idxi_some (b o cap : Nat) (l : List Int) (j : Nat) (x : Int) (w : World) (hj : j ≤ l.length) (hl : l.length ≤ 7) (h3 : ∀ i, i < l.length → w.cell? ⟨b, o + i, none⟩ = some (.int .i64 (l.getD i 0))) :
    Calls Tryz.prog 80 #[.slice (some ⟨b, o, none⟩) j cap, .int .i64 x] w fun e w' => (∃ n : Int, e = .returned (.int .i64 n) ∧ ((inB l j x = true ∧ 0 ≤ n) ∨ (inB l j x = false ∧ n = -1))) ∧ w' = w := by
  have H3 := hide h3
  clear h3
  go_enter Tryz.func80, Tryz.ntmps80
  go_wp2
  go_loop [8] (fun i => ∃ k : Nat, k ≤ j ∧ i = .int .i64 (k : Int) ∧ Hid (∀ m, m < k → ¬ l.getD m 0 = x)) (fun i => j - (intOf i).toNat)
  case atStart => exact ⟨0, Nat.zero_le _, rfl, hide (fun m hm => absurd hm (Nat.not_lt_zero _))⟩
  case round =>
    obtain ⟨k, hk, rfl, HN⟩ := hrel
    by_cases hlt : k < j
    · have hltI : (k : Int) < (j : Int) := by omega
      have hc := H3.out k (by omega)
      obtain ⟨y, hy⟩ : ∃ y, y = l.getD k 0 := ⟨_, rfl⟩
      rw [← hy] at hc
      have HY := hide hy
      clear hy
      by_cases he : x = y
      · have HI := hide (in_yes (x := x) hlt (he.trans HY.out))
        go_wp2_with fail
        go_ret
        exact ⟨⟨_, rfl, .inl ⟨he ▸ HI.out, by omega⟩⟩, rfl⟩
      · go_wp2_with fail
        go_round
        case rel => exact ⟨k + 1, by omega, by go_num, hide (fun m hm => by by_cases e : m = k; (subst e; rw [← HY.out]; exact fun q => he q.symm); exact HN.out m (by omega))⟩
        case measure => simp [intOf]; omega
    · obtain rfl : k = j := by omega
      clear hlt
      go_wp2_with fail
      go_ret
      exact ⟨⟨_, rfl, .inr ⟨in_no HN.out, rfl⟩⟩, rfl⟩
set_option maxHeartbeats 4000000 in
theorem ctni_some (b o cap : Nat) (l : List Int) (j : Nat) (x : Int) (w : World) (hj : j ≤ l.length) (hl : l.length ≤ 7) (h3 : ∀ i, i < l.length → w.cell? ⟨b, o + i, none⟩ = some (.int .i64 (l.getD i 0))) :
    Calls Tryz.prog 45 #[.slice (some ⟨b, o, none⟩) j cap, .int .i64 x] w fun e w' => e = .returned (.bool (inB l j x)) ∧ w' = w := by
  have HC := hide (idxi_some b o cap l j x w hj hl h3)
  clear h3
  go_enter Tryz.func45, Tryz.ntmps45
  go_wp2_with fail
  refine (HC.out).mono ?_
  rintro e w' ⟨⟨n, rfl, ⟨hy, hn⟩ | ⟨hy, rfl⟩⟩, rfl⟩
  · have HY := hide hy
    clear hy
    go_wp2
    go_ret
    exact ⟨by rw [HY.out]; rfl, rfl⟩
  · have HY := hide hy
    clear hy
    go_wp2
    go_ret
    exact ⟨by rw [HY.out]; rfl, rfl⟩
set_option maxRecDepth 100000 in
set_option maxHeartbeats 4000000 in
theorem cbrok_some (b o cap : Nat) (l : List Int) (w : World) (hcap : l.length ≤ cap) (h3 : ∀ i (h : i < l.length), w.cell? ⟨b, o + i, none⟩ = some (ic l[i])) :
    Calls Tryz.prog 13 #[.slice (some ⟨b, o, none⟩) l.length cap] w fun e w' => e = .returned (.bool (brokB l)) ∧ w' = w := by
  obtain ⟨R, hR⟩ : ∃ R, R = brokB l := ⟨_, rfl⟩
  rw [← hR]
  have HR := hide hR
  clear hR
  by_cases h7 : 7 < l.length
  · have HE : Hid (R = false) := hide (by rw [HR.out]; unfold brokB; rw [decide_eq_false (by omega), Bool.false_and])
    have h7' : (7 : Int) < (l.length : Int) := by omega
    clear h3
    go_enter Tryz.func13, Tryz.ntmps13
    go_wp2_with fail
    go_ret
    exact ⟨by rw [HE.out]; rfl, rfl⟩
  have h7' : ¬ (7 : Int) < (l.length : Int) := by omega
  have H3 : Hid (∀ i, i < l.length → w.cell? ⟨b, o + i, none⟩ = some (.int .i64 (l.getD i 0))) := hide (fun i hi => by
    rw [h3 i hi]
    simp [List.getD, hi, ic])
  clear h3
  go_enter Tryz.func13, Tryz.ntmps13
  go_wp2_with fail
  go_loop [10] (fun i => ∃ j : Nat, j ≤ l.length ∧ i = .int .i64 (j : Int) ∧ Hid (∀ m, m < j → okJ l m = true)) (fun i => l.length - (intOf i).toNat)
  case atStart => exact ⟨0, Nat.zero_le _, rfl, hide (fun m hm => absurd hm (Nat.not_lt_zero _))⟩
  case round =>
    obtain ⟨j, hj, rfl, HN⟩ := hrel
    by_cases hlt : j < l.length
    · have hltI : (j : Int) < (l.length : Int) := by omega
      have cj := H3.out j hlt
      have hjc : j ≤ cap := by omega
      by_cases hlo : l.getD j 0 < 1 ∨ (¬ l.getD j 0 < 1 ∧ 64 < l.getD j 0)
      · have HE : Hid (R = false) := hide (by rw [HR.out]; exact brokB_no hlt (okJ_no (by omega)))
        generalize l.getD j 0 = x at *
        rcases hlo with h1 | ⟨h1, h2⟩
        all_goals
          go_wp2_with fail
          go_ret
          exact ⟨by rw [HE.out]; rfl, rfl⟩
      · have h1 : ¬ l.getD j 0 < 1 := by omega
        have h2 : ¬ 64 < l.getD j 0 := by omega
        clear hlo
        have HCT := hide (ctni_some b o cap l j (l.getD j 0) w hj (by omega) H3.out)
        have HJ := hide (in_okJ (l := l) (j := j) ⟨by omega, by omega⟩)
        generalize hx : l.getD j 0 = x at *
        generalize inB l j x = t at *
        have HX := hide hx
        clear hx
        cases t with
        | true =>
          have HE : Hid (R = false) := hide (by rw [HR.out]; exact brokB_no hlt HJ.out)
          go_wp2_with (first | (go_at_call 45; refine HCT.out.mono ?_; rintro e w' ⟨rfl, rfl⟩))
          go_ret
          exact ⟨by rw [HE.out]; rfl, rfl⟩
        | false =>
          go_wp2_with (first | (go_at_call 45; refine HCT.out.mono ?_; rintro e w' ⟨rfl, rfl⟩))
          go_round
          case rel => exact ⟨j + 1, by omega, by go_num, hide (fun m hm => by by_cases e : m = j; (subst e; exact HJ.out); exact HN.out m (by omega))⟩
          case measure => simp [intOf]; omega
    · obtain rfl : j = l.length := by omega
      have HE : Hid (R = true) := hide (by rw [HR.out]; exact brokB_yes (by omega) HN.out)
      clear hlt
      go_wp2_with fail
      go_ret
      exact ⟨by rw [HE.out]; rfl, rfl⟩
set_option maxHeartbeats 4000000 in
theorem cbrok_none (ao : Option Addr) (cap : Nat) (w : World) : Calls Tryz.prog 13 #[.slice ao 0 cap] w fun e w' => e = .returned (.bool (brokB [])) ∧ w' = w := by
  go_enter Tryz.func13, Tryz.ntmps13
  go_wp2_with fail
  refine wp_loop_rounds 1 ?_
  rw [rounds_succ]
  go_wp2_with fail
  go_ret
  exact ⟨rfl, rfl⟩
theorem cbrok_any (v : Value) (l : List Int) (w : World) (hv : Sl ic w v l) : Calls Tryz.prog 13 #[v] w fun e w' => e = .returned (.bool (brokB l)) ∧ w' = w := by
  rcases hv with ⟨ao, cap, rfl, rfl⟩ | ⟨b, o, cap, rfl, hc, h3⟩
  · exact cbrok_none ao cap w
  · exact cbrok_some b o cap l w hc h3
theorem listed_any (a o : Int) (v : Value) (l : List Int) (w : World) (hv : Sl ic w v l) : Calls Tryz.prog 38 #[.int .u32 a, .int .u32 o, v] w fun e w' => e = .returned (.bool (rowB l (bitB a o))) ∧ w' = w := by
  have HC := hide (bhas_any a o w)
  have HB := hide (cbrok_any v l w hv)
  obtain ⟨R, hR⟩ : ∃ R, R = rowB l (bitB a o) := ⟨_, rfl⟩
  rw [← hR]
  have HR := hide hR
  obtain ⟨ao, cap, rfl⟩ := hv.form
  clear hR hv
  cases hb : bitB a o with
  | true =>
    rw [hb] at HC HR
    have HE : Hid (R = brokB l) := hide HR.out
    go_enter Tryz.func38, Tryz.ntmps38
    go_wp2_with (first | (go_at_call 35; refine HC.out.mono ?_; rintro e w' ⟨rfl, rfl⟩) | (go_at_call 13; refine HB.out.mono ?_; rintro e w' ⟨rfl, rfl⟩))
    go_ret
    exact ⟨by rw [HE.out]; rfl, rfl⟩
  | false =>
    rw [hb] at HC HR
    have HE : Hid (R = ((l.length : Int) == 0)) := hide HR.out
    go_enter Tryz.func38, Tryz.ntmps38
    go_wp2_with (first | (go_at_call 35; refine HC.out.mono ?_; rintro e w' ⟨rfl, rfl⟩))
    go_ret
    exact ⟨by rw [HE.out]; rfl, rfl⟩
theorem named_any (a o : Int) (S : List UInt8) (w : World) (hS : S.length ≤ 1000) : Calls Tryz.prog 36 #[.int .u32 a, .int .u32 o, .string ⟨S.toArray⟩] w fun e w' => e = .returned (.bool (nameA S (bitB a o))) ∧ Below w.heap.size w w' := by
  have HC := hide (bhas_any a o w)
  have HB := hide (cname_any S w hS)
  have hdot : (⟨S.toArray⟩ : ByteArray).toList = S := by simp
  obtain ⟨R, hR⟩ : ∃ R, R = nameA S (bitB a o) := ⟨_, rfl⟩
  rw [← hR]
  have HR := hide hR
  clear hR
  cases hb : bitB a o with
  | true =>
    rw [hb] at HC HR
    have HE : Hid (R = nameB S) := hide HR.out
    go_enter Tryz.func36, Tryz.ntmps36
    go_wp2_with (first | (go_at_call 35; refine HC.out.mono ?_; rintro e w' ⟨rfl, rfl⟩) | (go_at_call 11; refine HB.out.mono ?_; rintro e w' ⟨rfl, hbl⟩))
    go_ret
    exact ⟨by rw [HE.out]; rfl, hbl⟩
  | false =>
    rw [hb] at HC HR
    have HE : Hid (R = S.isEmpty) := hide HR.out
    go_enter Tryz.func36, Tryz.ntmps36
    go_wp2_with (first | (go_at_call 35; refine HC.out.mono ?_; rintro e w' ⟨rfl, rfl⟩))
    go_ret
    exact ⟨by rw [HE.out]; rfl, Below.refl _ _⟩
end Go.Proofs.YthoeajiojdfgdaaGreatDoor
