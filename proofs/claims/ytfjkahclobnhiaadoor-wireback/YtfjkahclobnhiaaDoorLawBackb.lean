/-
  WHAT IS WRITTEN IS READ AS WHAT IT WAS, AND NOTHING IS LEFT: WireBack answers true. Conditions: the slices' cells hold bytes and ints; errors.errorType holds the handle of the type error.
-/
import Derived.Test.YtfjkahclobnhiaaDoorLawBack
namespace Go.Proofs.YtfjkahclobnhiaaDoor
open Go.RowKit

set_option maxRecDepth 100000 in
set_option maxHeartbeats 8000000 in
theorem back_main (n k : Int) (is : Bool) (vs vl : Value) (s l : List Int) (w : World) (hg : Hnd w) (hs : Sl bc w vs s) (hl : Sl ic w vl l) (hbs : Byt s) (n0 : 0 ≤ n) (n1 : ¬ 4611686018427387903 < n) (k0 : ¬ k < 0) (k1 : ¬ 2305843009213693952 < k) (s1 : ¬ 2000 < s.length) (l1 : ¬ 500 < l.length) :
    Calls Tryd.prog 5 #[.int .u64 n, .int .i64 k, .bool is, vs, vl] w fun e w' => e = .returned (.bool true) ∧ Below w.heap.size w w' := by
  have G0 := hide hg
  have HS := hide hs
  have HL := hide hl
  have HBS := hide hbs
  obtain ⟨ao, sc, hvs, _⟩ := hs.get
  obtain ⟨bo, rc, hvl, hget⟩ := hl.get
  subst hvs
  subst hvl
  have HGET := hide hget
  clear hg hs hl hbs hget
  go_enter Tryd.func5, Tryd.ntmps5
  go_wp2_with fail
  go_loopw [11] (fun i wr => ∃ j : Nat, j ≤ l.length ∧ i = .int .i64 j ∧ (∀ t (h : t < l.length), t < j → 0 ≤ l[t] ∧ l[t] ≤ 2305843009213693952) ∧ wr = w) (fun i _ => l.length - (intOf i).toNat)
  case atStart => exact ⟨0, Nat.zero_le _, rfl, fun t h h' => by omega, rfl⟩
  case round =>
    obtain ⟨j, hj, rfl, hall, rfl⟩ := hrel
    by_cases hlt : j < l.length
    · obtain ⟨b, o, rfl, hc⟩ := HGET.out j hlt
      have hc' : wr.cell? ⟨b, o + j, none⟩ = some (.int .i64 l[j]) := hc
      have HALL := hide (fun (hx : 0 ≤ l[j] ∧ l[j] ≤ 2305843009213693952) => show ∀ t (h : t < l.length), t < j + 1 → 0 ≤ l[t] ∧ l[t] ≤ 2305843009213693952 from fun t h h' => by
        by_cases e : t = j
        · subst e; exact hx
        · exact hall t h (by omega))
      have HW := hide (works_any wr G0.out)
      clear hall hc
      generalize l[j] = x at *
      by_cases hx0 : x < 0
      · go_wp2_with (first | (go_at_call 8; refine (HW.out).mono ?_; rintro e w' ⟨rfl, hb⟩))
        go_ret
        exact ⟨rfl, hb⟩
      · by_cases hx1 : 2305843009213693952 < x
        · go_wp2_with (first | (go_at_call 8; refine (HW.out).mono ?_; rintro e w' ⟨rfl, hb⟩))
          go_ret
          exact ⟨rfl, hb⟩
        · go_wp2_with fail
          go_roundw
          case rel => exact ⟨j + 1, by omega, by go_num, HALL.out ⟨by omega, by omega⟩, by trivial⟩
          case measure => simp [intOf]; omega
    · obtain rfl : j = l.length := by omega
      have HALL := hide (fun t (h : t < l.length) => hall t h h)
      clear hall hlt HGET
      · go_wp2_with fail
        refine (wnum_any wr.heap.size _ 0 [] n _ (rw_nil _ _) (Nat.le_refl _) (by omega) n0).mono ?_
        rintro e w1 ⟨v1, cur1, rfl, hp1⟩
        rw [show capN n = n from if_neg (by omega)] at hp1
        have HP1 := hide hp1
        have hn8 := numL_le n
        clear hp1
        go_wp2_with fail
        refine (wint_any wr.heap.size v1 _ cur1 k _ HP1.out.rw HP1.out.below.size (by omega) (by omega)).mono ?_
        rintro e w2 ⟨v2, cur2, rfl, hp2⟩
        have HP2 := hide (HP1.out.trans hp2)
        have hk8 := intL_le k
        clear hp2 HP1
        go_wp2_with fail
        refine (wflag_any wr.heap.size v2 _ cur2 is _ HP2.out.rw HP2.out.below.size (by omega)).mono ?_
        rintro e w3 ⟨v3, cur3, rfl, hp3⟩
        have HP3 := hide (HP2.out.trans hp3)
        clear hp3 HP2
        go_wp2_with fail
        refine (wtext_any wr.heap.size v3 _ _ cur3 s _ HP3.out.rw HP3.out.below.size (by omega) (by omega) (HS.out.below HP3.out.below) (fun h => off_below HP3.out.rw HS.out (Nat.le_refl _) h)).mono ?_
        rintro e w4 ⟨v4, rfl, hown4, hb4⟩
        obtain ⟨cur4, hrw4, htk4⟩ := Rw.of hown4
        have HB4 := hide (HP3.out.below.trans hb4)
        have HE4 := hide (htk4.trans (congrArg (· ++ bv (intL s.length ++ s)) HP3.out.tk))
        have HR4 := hide hrw4
        have hS8 := intL_le s.length
        clear hown4 hb4 hrw4 htk4 HP3
        go_wp2_with fail
        refine (wrow_any wr.heap.size v4 _ _ cur4 l _ HR4.out HB4.out.size (by simp only [List.length_append]; omega) (by omega) (fun i hi => by have := (HALL.out i hi).2; omega) (HL.out.below HB4.out) (fun h => off_below HR4.out HL.out (Nat.le_refl _) h)).mono ?_
        rintro e w5 ⟨v5, cur5, rfl, hp5⟩
        have hS5 : Sl bc w5 v5 (allL n k is s l) := by
          have h1 := hp5.rw.owns
          rw [hp5.tk, HE4.out] at h1
          refine sl_of_owns (base := wr.heap.size) (e := 5) ?_
          have e1 : (allL n k is s l).map bc = [] ++ (bv (numL n) ++ bv (intL k) ++ bv [if is then 1 else 0]) ++ bv (intL s.length ++ s) ++ bv (intL l.length ++ rowL l) := by
            simp [allL, bv_eq]
          have e2 : (allL n k is s l).length = 0 + ((numL n).length + (intL k).length + 1) + (intL s.length ++ s).length + (intL l.length ++ rowL l).length := by
            simp [allL]; omega
          rw [e1, e2]
          exact h1
        have HB5 := hide (HB4.out.trans hp5.below)
        obtain ⟨ao5, cap5, hV⟩ := hS5.form
        subst hV
        have HS5 := hide hS5
        clear hp5 hS5 HR4 HB4 HE4
        go_wp2_with fail
        refine (read_any ao5 _ cap5 w5).mono ?_
        rintro e w6 ⟨rfl, hr6, hb6⟩
        have hv6 : Slx w5.heap.size bc w6 (.slice ao5 (allL n k is s l).length cap5) (allL n k is s l) := (HS5.out.out (Nat.le_refl _)).below hb6
        have HV6 := hide hv6
        have HR6 := hide hr6
        have HB6 := hide (HB5.out.trans (hb6.mono HB5.out.size))
        have hq : wr.heap.size ≤ w5.heap.size := HB5.out.size
        clear hv6 hr6 hb6 HS5
        go_wp2_with fail
        refine (rd_num n k is s l w5.heap.size _ w6 n0 (by omega) (by omega) (by omega) HBS.out HR6.out HV6.out).mono ?_
        rintro e w7 ⟨rfl, hr7, hx7⟩
        have HR7 := hide hr7
        have HV7 := hide (HV6.out.bx hx7)
        have HB7 := hide (HR6.out.low HB6.out hx7 hq)
        clear hr7 hx7 HR6 HV6
        go_wp2_with fail
        refine (rd_int n k is s l w5.heap.size _ w7 n0 (by omega) (by omega) (by omega) (by omega) (by omega) HBS.out HR7.out HV7.out).mono ?_
        rintro e w8 ⟨rfl, hr8, hx8⟩
        have HR8 := hide hr8
        have HV8 := hide (HV7.out.bx hx8)
        have HB8 := hide (HR7.out.low HB7.out hx8 hq)
        clear hr8 hx8 HR7 HV7
        go_wp2_with fail
        refine (rd_flag n k is s l w5.heap.size _ w8 (by omega) (by omega) HR8.out HV8.out).mono ?_
        rintro e w9 ⟨rfl, hr9, hx9⟩
        have HR9 := hide hr9
        have HV9 := hide (HV8.out.bx hx9)
        have HB9 := hide (HR8.out.low HB8.out hx9 hq)
        clear hr9 hx9 HR8 HV8
        go_wp2_with fail
        refine (rd_text n k is s l w5.heap.size _ w9 n0 (by omega) (by omega) (by omega) HBS.out HR9.out HV9.out).mono ?_
        rintro e w10 ⟨vt, rfl, hst, hr10, hx10⟩
        have HR10 := hide hr10
        have HV10 := hide (HV9.out.bx hx10)
        have HB10 := hide (HR9.out.low HB9.out hx10 hq)
        have HST := hide hst
        clear hst
        clear hr10 hx10 HR9 HV9
        go_wp2_with fail
        refine (same_bytes vt _ s w10 HST.out (HS.out.below HB10.out) (by omega)).mono ?_
        rintro e w11 ⟨rfl, hb11⟩
        have HR11 := hide (HR10.out.below hb11)
        have HV11 := hide (HV10.out.below hb11)
        have HB11 := hide (HB10.out.trans (hb11.mono HB10.out.size))
        clear hb11 HR10 HV10
        go_wp2_with fail
        refine (rd_row n k is s l w5.heap.size _ w11 n0 (by omega) (by omega) (by omega) HBS.out HALL.out HR11.out HV11.out).mono ?_
        rintro e w12 ⟨vr, rfl, hsr, hr12, hx12⟩
        have HR12 := hide hr12
        have HV12 := hide (HV11.out.bx hx12)
        have HB12 := hide (HR11.out.low HB11.out hx12 hq)
        have HSR := hide hsr
        clear hsr
        clear hr12 hx12 HR11 HV11
        go_wp2_with fail
        refine (same_ints vr _ l w12 HSR.out (HL.out.below HB12.out) (by omega)).mono ?_
        rintro e w13 ⟨rfl, hb13⟩
        have HR13 := hide (HR12.out.below hb13)
        have HV13 := hide (HV12.out.below hb13)
        have HB13 := hide (HB12.out.trans (hb13.mono HB12.out.size))
        clear hb13 HR12 HV12
        have hend := rend_any w5.heap.size ao5 (allL n k is s l).length cap5 (allL n k is s l).length w13 HR13.out
        rw [show endC (allL n k is s l).length (allL n k is s l).length = 0 from if_neg (Nat.lt_irrefl _)] at hend
        have HE := hide hend
        clear hend
        go_wp2_with fail
        refine (HE.out).mono ?_
        rintro e w14 ⟨rfl, hr14, hx14⟩
        have HB14 := hide (HR13.out.low HB13.out hx14 hq)
        have HW := hide (works_any w14 (G0.out.below HB14.out))
        clear hr14 hx14 HE
        simp only [erN, if_true]
        go_wp2_with (first | (go_at_call 8; refine (HW.out).mono ?_; rintro e w15 ⟨rfl, hb15⟩))
        go_ret
        exact ⟨rfl, HB14.out.trans (hb15.mono HB14.out.size)⟩
theorem back_law (n k : Int) (is : Bool) (vs vl : Value) (s l : List Int) (w : World) (hg : Hnd w) (hs : Sl bc w vs s) (hl : Sl ic w vl l) (hbs : Byt s) (n0 : 0 ≤ n) (hs63 : s.length ≤ 9223372036854775807) (hl63 : l.length ≤ 9223372036854775807) :
    Calls Tryd.prog 5 #[.int .u64 n, .int .i64 k, .bool is, vs, vl] w fun e w' => e = .returned (.bool true) ∧ Below w.heap.size w w' := by
  by_cases h : 4611686018427387903 < n ∨ (¬ 4611686018427387903 < n ∧ k < 0) ∨ (¬ 4611686018427387903 < n ∧ ¬ k < 0 ∧ 2305843009213693952 < k) ∨ (¬ 4611686018427387903 < n ∧ ¬ k < 0 ∧ ¬ 2305843009213693952 < k ∧ 2000 < s.length) ∨ (¬ 4611686018427387903 < n ∧ ¬ k < 0 ∧ ¬ 2305843009213693952 < k ∧ ¬ 2000 < s.length ∧ 500 < l.length)
  · obtain ⟨ao, sc, rfl⟩ := hs.form
    obtain ⟨bo, rc, rfl⟩ := hl.form
    exact back_out n k is ao bo s.length l.length sc rc w hg hs63 hl63 h
  · exact back_main n k is vs vl s l w hg hs hl hbs n0 (by omega) (by omega) (by omega) (by omega) (by omega)
end Go.Proofs.YtfjkahclobnhiaaDoor
