/-
  ANY NUMBER, FLAG, TEXT AND ROW AS BYTES, BEHIND ANY OTHERS, IS WHAT THE CHAPTER SAYS: WirePuts answers true. Conditions: the slices' cells hold bytes and ints; errors.errorType holds the handle of the type error.
-/
import Derived.Test.YtfjkahclobnhiaaDoorLawBack
import Derived.Test.YtfjkahclobnhiaaDoorWapp
namespace Go.Proofs.YtfjkahclobnhiaaDoor
open Go.RowKit

set_option maxRecDepth 100000 in
set_option maxHeartbeats 8000000 in
theorem puts_out (n k : Int) (is : Bool) (xo ao bo : Option Addr) (X S R xc sc rc : Nat) (w : World) (hg : Hnd w) (hX : X ≤ 9223372036854775807) (hS : S ≤ 9223372036854775807) (hR : R ≤ 9223372036854775807)
    (h : 500 < X ∨ (¬ 500 < X ∧ 2000 < S) ∨ (¬ 500 < X ∧ ¬ 2000 < S ∧ 500 < R)) :
    Calls Tryd.prog 3 #[.slice xo X xc, .int .u64 n, .int .i64 k, .bool is, .slice ao S sc, .slice bo R rc] w fun e w' => e = .returned (.bool true) ∧ Below w.heap.size w w' := by
  have HW := hide (works_any w hg)
  clear hg
  rcases h with h1 | ⟨h1, h2⟩ | ⟨h1, h2, h3⟩
  all_goals
    go_enter Tryd.func3, Tryd.ntmps3
    go_wp2_with (first | (go_at_call 8; refine (HW.out).mono ?_; rintro e w' ⟨rfl, hb⟩))
    go_ret
    exact ⟨rfl, hb⟩
theorem Put.trans0 {B : Nat} {w w1 w2 : World} {v v1 v2 : Value} {m1 m2 : Nat} {cur cur1 cur2 x1 x2 : List Value} (h : Put B w v 0 cur w1 v1 m1 cur1 x1) (k : Put B w1 v1 m1 cur1 w2 v2 m2 cur2 x2) : Put B w v 0 cur w2 v2 (m1 + m2) cur2 (x1 ++ x2) := h.trans (by rw [Nat.zero_add]; exact k)
/-- The bytes of all of them. -/
def putL (b : List Int) (n k : Int) (is : Bool) (s l : List Int) : List Int := ((((b ++ numL (capN n)) ++ intL k) ++ [if is then 1 else 0]) ++ (intL s.length ++ s)) ++ (intL l.length ++ rowL l)
set_option maxRecDepth 100000 in
set_option maxHeartbeats 8000000 in
theorem puts_main (n k : Int) (is : Bool) (vb vs vl : Value) (b s l : List Int) (w : World) (hg : Hnd w) (hb : Sl bc w vb b) (hs : Sl bc w vs s) (hl : Sl ic w vl l) (n0 : 0 ≤ n) (k1 : k ≤ 9223372036854775807) (hi64 : ∀ i (h : i < l.length), l[i] ≤ 9223372036854775807) (b1 : ¬ 500 < b.length) (s1 : ¬ 2000 < s.length) (l1 : ¬ 500 < l.length) :
    Calls Tryd.prog 3 #[vb, .int .u64 n, .int .i64 k, .bool is, vs, vl] w fun e w' => e = .returned (.bool true) ∧ Below w.heap.size w w' := by
  have G0 := hide hg
  have HX := hide hb
  have HS := hide hs
  have HL := hide hl
  have HI := hide hi64
  obtain ⟨xo, xc, hvb⟩ := hb.form
  obtain ⟨ao, sc, hvs⟩ := hs.form
  obtain ⟨bo, rc, hvl⟩ := hl.form
  subst hvb
  subst hvs
  subst hvl
  clear hg hb hs hl hi64
  go_enter Tryd.func3, Tryd.ntmps3
  go_wp2_with (first | (at_builtin; refine wpList_append_sl _ rfl _ _ rfl w.heap.size _ 0 [] rfl (rw_nil _ _) (Nat.le_refl _) _ b rfl HX.out (by omega) ?_))
  intro w0 v0 cur0 hp0
  have HP0 := hide hp0
  clear hp0
  go_wp2_with fail
  refine (wnum_any w.heap.size v0 _ cur0 n _ HP0.out.rw HP0.out.below.size (by omega) n0).mono ?_
  rintro e w1 ⟨v1, cur1, rfl, hp1⟩
  have HP1 := hide (HP0.out.trans hp1)
  have hn8 := numL_le (capN n)
  clear hp1 HP0
  go_wp2_with fail
  refine (wint_any w.heap.size v1 _ cur1 k _ HP1.out.rw HP1.out.below.size (by omega) k1).mono ?_
  rintro e w2 ⟨v2, cur2, rfl, hp2⟩
  have HP2 := hide (HP1.out.trans hp2)
  have hk8 := intL_le k
  clear hp2 HP1
  go_wp2_with fail
  refine (wflag_any w.heap.size v2 _ cur2 is _ HP2.out.rw HP2.out.below.size (by omega)).mono ?_
  rintro e w3 ⟨v3, cur3, rfl, hp3⟩
  have HP3 := hide (HP2.out.trans hp3)
  clear hp3 HP2
  go_wp2_with fail
  refine (wtext_any w.heap.size v3 _ _ cur3 s _ HP3.out.rw HP3.out.below.size (by omega) (by omega) (HS.out.below HP3.out.below) (fun h => off_below HP3.out.rw HS.out (Nat.le_refl _) h)).mono ?_
  rintro e w4 ⟨v4, rfl, hown4, hb4⟩
  obtain ⟨cur4, hrw4, htk4⟩ := Rw.of hown4
  have HB4 := hide (HP3.out.below.trans hb4)
  have HE4 := hide (htk4.trans (congrArg (· ++ bv (intL s.length ++ s)) HP3.out.tk))
  have HR4 := hide hrw4
  have hS8 := intL_le s.length
  clear hown4 hb4 hrw4 htk4 HP3
  go_wp2_with fail
  refine (wrow_any w.heap.size v4 _ _ cur4 l _ HR4.out HB4.out.size (by simp only [List.length_append]; omega) (by omega) HI.out (HL.out.below HB4.out) (fun h => off_below HR4.out HL.out (Nat.le_refl _) h)).mono ?_
  rintro e w5 ⟨v5, cur5, rfl, hp5⟩
  have hS5 : Sl bc w5 v5 (putL b n k is s l) := by
    have h1 := hp5.rw.owns
    rw [hp5.tk, HE4.out] at h1
    refine sl_of_owns (base := w.heap.size) (e := 5) ?_
    have e1 : (putL b n k is s l).map bc = [] ++ (bv b ++ bv (numL (capN n)) ++ bv (intL k) ++ bv [if is then 1 else 0]) ++ bv (intL s.length ++ s) ++ bv (intL l.length ++ rowL l) := by
      simp [putL, bv_eq]
    have e2 : (putL b n k is s l).length = 0 + (b.length + (numL (capN n)).length + (intL k).length + 1) + (intL s.length ++ s).length + (intL l.length ++ rowL l).length := by
      simp [putL]; omega
    rw [e1, e2]
    exact h1
  have HB5 := hide (HB4.out.trans hp5.below)
  have HS5 := hide hS5
  clear hp5 hS5 HR4 HB4 HE4
  go_wp2_with (first | (at_builtin; refine wpList_append_sl _ rfl _ _ rfl w5.heap.size _ 0 [] rfl (rw_nil _ _) (Nat.le_refl _) _ b rfl (HX.out.below HB5.out) (by omega) ?_))
  intro u0 y0 cy0 hq0
  have HQ0 := hide hq0
  clear hq0
  go_wp2_with fail
  refine (refNum_sl n _ n0).mono ?_
  rintro e u1 ⟨z1, rfl, hz1, hc1⟩
  have HQ1 := hide (HQ0.out.post HQ0.out.below.size hc1)
  have HZ1 := hide hz1
  clear hz1 hc1 HQ0
  go_wp2_with (first | (at_builtin; refine wpList_append_sl _ rfl _ _ rfl w5.heap.size _ _ cy0 rfl HQ1.out.rw HQ1.out.below.size _ _ rfl HZ1.out (by omega) ?_))
  intro u2 y2 cy2 hq2
  have HQ2 := hide (HQ1.out.trans0 hq2)
  clear hq2 HQ1 HZ1
  go_wp2_with fail
  refine (refInt_sl k _ k1).mono ?_
  rintro e u3 ⟨z3, rfl, hz3, hc3⟩
  have HQ3 := hide (HQ2.out.post HQ2.out.below.size hc3)
  have HZ3 := hide hz3
  clear hz3 hc3 HQ2
  go_wp2_with (first | (at_builtin; refine wpList_append_sl _ rfl _ _ rfl w5.heap.size _ _ cy2 rfl HQ3.out.rw HQ3.out.below.size _ _ rfl HZ3.out (by omega) ?_))
  intro u4 y4 cy4 hq4
  have HQ4 := hide (HQ3.out.trans0 hq4)
  clear hq4 HQ3 HZ3
  go_wp2_with fail
  refine (refFlag_sl is _).mono ?_
  rintro e u5 ⟨z5, rfl, hz5, hc5⟩
  have HQ5 := hide (HQ4.out.post HQ4.out.below.size hc5)
  have HZ5 := hide hz5
  clear hz5 hc5 HQ4
  go_wp2_with (first | (at_builtin; refine wpList_append_sl _ rfl _ _ rfl w5.heap.size _ _ cy4 rfl HQ5.out.rw HQ5.out.below.size _ _ rfl HZ5.out (by simp; omega) ?_))
  intro u6 y6 cy6 hq6
  have HQ6 := hide (HQ5.out.trans0 hq6)
  clear hq6 HQ5 HZ5
  go_wp2_with fail
  refine (refText_sl _ s _ (HS.out.below (HB5.out.trans (HQ6.out.below.mono HB5.out.size))) (by omega)).mono ?_
  rintro e u7 ⟨z7, rfl, hz7, hc7⟩
  have HQ7 := hide (HQ6.out.post HQ6.out.below.size hc7)
  have HZ7 := hide hz7
  clear hz7 hc7 HQ6
  go_wp2_with (first | (at_builtin; refine wpList_append_sl _ rfl _ _ rfl w5.heap.size _ _ cy6 rfl HQ7.out.rw HQ7.out.below.size _ _ rfl HZ7.out (by simp; omega) ?_))
  intro u8 y8 cy8 hq8
  have HQ8 := hide (HQ7.out.trans0 hq8)
  clear hq8 HQ7 HZ7
  go_wp2_with fail
  refine (refRow_sl _ l _ (HL.out.below (HB5.out.trans (HQ8.out.below.mono HB5.out.size))) (by omega) HI.out).mono ?_
  rintro e u9 ⟨z9, rfl, hz9, hc9⟩
  have HQ9 := hide (HQ8.out.post HQ8.out.below.size hc9)
  have HZ9 := hide hz9
  have hr8 := rowL_le l
  have hl8 := intL_le l.length
  clear hz9 hc9 HQ8
  go_wp2_with (first | (at_builtin; refine wpList_append_sl _ rfl _ _ rfl w5.heap.size _ _ cy8 rfl HQ9.out.rw HQ9.out.below.size _ _ rfl HZ9.out (by simp; omega) ?_))
  intro u10 y10 cy10 hq10
  have hQ := HQ9.out.trans0 hq10
  have hSY : Sl bc u10 y10 (putL b n k is s l) := by
    have h1 := hQ.rw.owns
    rw [hQ.tk] at h1
    refine sl_of_owns (base := w5.heap.size) (e := 5) ?_
    have e1 : (putL b n k is s l).map bc = List.take 0 [] ++ (bv b ++ bv (numL (capN n)) ++ bv (intL k) ++ bv [flB is] ++ bv (intL s.length ++ s) ++ bv (intL l.length ++ rowL l)) := by
      simp [putL, bv_eq, flB]
    have e2 : (putL b n k is s l).length = 0 + (b.length + (numL (capN n)).length + (intL k).length + 1 + ((intL s.length).length + s.length) + ((intL l.length).length + (rowL l).length)) := by
      simp [putL]; omega
    rw [e1, e2]
    exact h1
  have HSX := hide (HS5.out.below hQ.below)
  have HSY := hide hSY
  have HB10 := hide (HB5.out.trans (hQ.below.mono HB5.out.size))
  clear hq10 hQ hSY HQ9 HZ9 HS5
  go_wp2_with fail
  refine (same_bytes v5 y10 (putL b n k is s l) u10 HSX.out HSY.out (by simp [putL]; omega)).mono ?_
  rintro e u11 ⟨rfl, hb11⟩
  have HB11 := hide (HB10.out.trans (hb11.mono HB10.out.size))
  have HW := hide (works_any u11 (G0.out.below HB11.out))
  clear hb11
  go_wp2_with (first | (go_at_call 8; refine (HW.out).mono ?_; rintro e w15 ⟨rfl, hb15⟩))
  go_ret
  exact ⟨rfl, HB11.out.trans (hb15.mono HB11.out.size)⟩
theorem puts_law (n k : Int) (is : Bool) (vb vs vl : Value) (b s l : List Int) (w : World) (hg : Hnd w) (hb : Sl bc w vb b) (hs : Sl bc w vs s) (hl : Sl ic w vl l) (n0 : 0 ≤ n) (k1 : k ≤ 9223372036854775807) (hi64 : ∀ i (h : i < l.length), l[i] ≤ 9223372036854775807) (hb63 : b.length ≤ 9223372036854775807) (hs63 : s.length ≤ 9223372036854775807) (hl63 : l.length ≤ 9223372036854775807) :
    Calls Tryd.prog 3 #[vb, .int .u64 n, .int .i64 k, .bool is, vs, vl] w fun e w' => e = .returned (.bool true) ∧ Below w.heap.size w w' := by
  by_cases h : 500 < b.length ∨ (¬ 500 < b.length ∧ 2000 < s.length) ∨ (¬ 500 < b.length ∧ ¬ 2000 < s.length ∧ 500 < l.length)
  · obtain ⟨xo, xc, rfl⟩ := hb.form
    obtain ⟨ao, sc, rfl⟩ := hs.form
    obtain ⟨bo, rc, rfl⟩ := hl.form
    exact puts_out n k is xo ao bo b.length s.length l.length xc sc rc w hg hb63 hs63 hl63 h
  · exact puts_main n k is vb vs vl b s l w hg hb hs hl n0 k1 hi64 (by omega) (by omega) (by omega)
end Go.Proofs.YtfjkahclobnhiaaDoor
