/-
  SpansTells' WALK: the spans of batches whose terms rise tell the term of each of them. Conditions: the base is a small number that is not negative, the steps are bytes.
-/
import Derived.Test.YtkihdceieljkgaaSpN
import Derived.Test.YtkihdceieljkgaaSpW
namespace Go.Proofs.Ytkihdceieljkgaa
open Go.RowKit

theorem look_step (S : List Spn) (m : Nat) (h : m < S.length) (x : Int) : lookL (S.take (m + 1)) x = if (S[m]).2 ≤ x then (S[m]).1 else lookL (S.take m) x := by
  rw [List.take_succ_eq_append_getElem h, lookL_snoc]
theorem badN_in {x : Int} (h0 : 0 ≤ x) (h1 : x ≤ 1073741824) : badN x = false := by simp [badN]; omega
theorem ofL_bound (base t : Int) (ts : List Int) : ∀ p ∈ ofL base t ts, p.2 < base + (ts.length : Int) := spk_lt base t ts ts.length
theorem tells_chk {base : Int} {l : List Int} (hb : 0 ≤ base) (hb1 : base ≤ 65535) (hl : l.length ≤ 200) : chkL (ofL base 0 (risT l)) = (0, 0) := by
  have T := tel_any hb (risT_up l) (fun t ht => (risT_mem ht).1) (risT l).length (Nat.le_refl _)
  refine chk_good T.ris (fun p hp => ?_)
  have h1 := T.num p hp
  have h2 := ofL_bound base 0 (risT l) p hp
  rw [risT_len] at h2
  refine ⟨badN_in h1.1.1 ?_, badN_in h1.2 (by omega)⟩
  rcases h1.1.2 with e | e
  · omega
  · have := (risT_mem e).2; omega
theorem tells_look {base : Int} {l : List Int} (hb : 0 ≤ base) {k : Nat} (hk : k < (risT l).length) : lookL (ofL base 0 (risT l)) (base + k) = (risT l)[k] := by
  have T := tel_any hb (risT_up l) (fun t ht => (risT_mem ht).1) (risT l).length (Nat.le_refl _)
  have := T.look k hk
  rw [List.getElem?_eq_getElem hk] at this
  exact this
set_option maxRecDepth 100000 in
set_option maxHeartbeats 16000000 in
theorem tells_law (a : Int) (v : Value) (l : List Int) (w : World) (h0 : 0 ≤ a) (h1 : a ≤ 65535) (hv : Sl u8v w v l) (hb : ∀ x ∈ l, 0 ≤ x ∧ x ≤ 255) (hs : l.length ≤ maxLen) : Calls Try.prog 4 #[.int .u16 a, v] w fun e w' => e = .returned (.bool true) ∧ Below w.heap.size w w' := by
  have hs' : l.length ≤ 9223372036854775807 := by unfold maxLen at hs; omega
  clear hs
  have HWK := hide (fun W => works_any W)
  obtain ⟨ao, cap, rfl⟩ := hv.form
  by_cases hl : 200 < l.length
  · have hlI : (200 : Int) < (l.length : Int) := by omega
    clear hv hb
    go_enter Try.func4, Try.ntmps4
    go_wp2_with (first
      | (go_at_call 7; refine (HWK.out _).mono ?_; rintro e W2 ⟨rfl, hb⟩; have HB := hide hb; clear hb HWK))
    go_ret
    exact ⟨rfl, HB.out⟩
  · have hl2 : l.length ≤ 200 := by omega
    have hlI : ¬ (200 : Int) < (l.length : Int) := by omega
    have hlJ : (l.length : Int) ≤ 200 := by omega
    have HR := hide (rising_any _ l w hv hb (by omega))
    have HL := hide (risT_len l)
    have HCK := hide (tells_chk h0 h1 hl2)
    have HLK := hide (fun (k : Nat) (hk : k < (risT l).length) => tells_look (base := a) h0 hk)
    clear hv hb
    generalize risT l = ts at *
    have HSL := hide (spk_len a 0 ts ts.length)
    have HLT := hide (show (ofL a 0 ts).length ≤ 201 by have h1 := HSL.out; have h2 := HL.out; show (spk a 0 ts ts.length).length ≤ _; omega)
    go_enter Try.func4, Try.ntmps4
    go_wp2_with (first
      | (go_at_call 14; refine HR.out.mono ?_; rintro e W1 ⟨v1, rfl, hv1, hb⟩; have HB := hide hb; have HT := hide hv1.sbt; clear hb hv1 HR)
      | (go_at_call 15; refine (of_any a 0 v1 ts W1 HT.out (by have := HL.out; omega) (by omega) (by omega)).mono ?_; rintro e W2 ⟨v2, rfl, hv2, hb⟩; replace HB := hide (bt HB.out hb); replace HT := hide (HT.out.below hb); have HS := hide hv2.ssp; clear hb hv2)
      | (go_at_call 16; refine (check_any v2 (ofL a 0 ts) W2 HS.out (Nat.le_trans HLT.out (by omega))).mono ?_; rw [HCK.out]; rintro e W3 ⟨rfl, hb⟩; replace HB := hide (bt HB.out hb); replace HT := hide (HT.out.below hb); replace HS := hide (HS.out.below hb); clear hb; unfold erS; simp only [if_true]))
    obtain ⟨ta, tc, rfl⟩ := HT.out.form
    obtain ⟨sa, sc, rfl⟩ := HS.out.form
    have HLK2 : Hid (∀ (k : Nat) (hk : k < ts.length), lookL (ofL a 0 ts) (a + k) = ts[k]) := HLK
    generalize ofL a 0 ts = S at *
    have htl : ts.length ≤ 200 := by have := HL.out; omega
    have hsl : S.length ≤ 201 := HLT.out
    clear HLK
    go_loopw [7] (fun i W => ∃ k : Nat, k ≤ ts.length ∧ i = .int .i64 k ∧ W = W3) (fun i _ => ts.length - (ivS i).toNat)
    case atStart => exact ⟨0, Nat.zero_le _, rfl, rfl⟩
    case round =>
      obtain ⟨k, hk, rfl, rfl⟩ := hrel
      by_cases hlt : k < ts.length
      · obtain ⟨tb, to_, tc', e, -, d0⟩ := HT.out.at hlt
        obtain rfl := (Value.slice.inj e).1
        clear e
        have HX := hide (HLK2.out k hlt)
        obtain ⟨x, hx⟩ : ∃ x, ts[k] = x := ⟨_, rfl⟩
        rw [hx] at d0 HX
        clear hx
        have hltI : (k : Int) < (ts.length : Int) := by omega
        go_wp2
        go_loopw [8, 9] (fun t j W => ∃ m : Nat, m ≤ S.length ∧ j = .int .i64 m ∧ t = .int .i64 (lookL (S.take m) (a + k)) ∧ W = wr) (fun _ j _ => S.length - (ivS j).toNat)
        case atStart => exact ⟨0, Nat.zero_le _, rfl, rfl, rfl⟩
        case round =>
          obtain ⟨m, hm, rfl, rfl, rfl⟩ := hrel
          by_cases hmt : m < S.length
          · obtain ⟨sb, so, sc', e, -, -, -⟩ := HS.out.at hmt
            obtain rfl := (Value.slice.inj e).1
            clear e
            obtain ⟨q0, q1⟩ := HS.out.cells hmt
            have HST := hide (look_step S m hmt (a + k))
            obtain ⟨p0, hp0⟩ : ∃ p0, (S[m]).1 = p0 := ⟨_, rfl⟩
            obtain ⟨p1, hp1⟩ : ∃ p1, (S[m]).2 = p1 := ⟨_, rfl⟩
            rw [hp0] at q0 HST
            rw [hp1] at q1 HST
            clear hp0 hp1
            have hmI : (m : Int) < (S.length : Int) := by omega
            by_cases hc : p1 ≤ a + k
            · rw [if_pos hc] at HST
              go_wp2
              exact ⟨⟨m + 1, by omega, by go_num, by rw [HST.out], trivial⟩, by simp [ivS]; omega⟩
            · rw [if_neg hc] at HST
              go_wp2
              exact ⟨⟨m + 1, by omega, by go_num, by rw [HST.out], trivial⟩, by simp [ivS]; omega⟩
          · obtain rfl : m = S.length := by omega
            rw [List.take_length, HX.out]
            go_wp2
            exact ⟨⟨k + 1, by omega, by go_num, trivial⟩, by simp [ivS]; omega⟩
      · obtain rfl : k = ts.length := by omega
        go_wp2_with (first
          | (go_at_call 7; refine (HWK.out _).mono ?_; rintro e W4 ⟨rfl, hb⟩; replace HB := hide (bt HB.out hb); clear hb))
        go_ret
        exact ⟨rfl, HB.out⟩
end Go.Proofs.Ytkihdceieljkgaa
