/-
  WHAT IS WRONG FIRST, AS THE DOCUMENT SAYS (castellanref13.Check): a code, and at which span. Conditions: the spans' cells hold them; no more than an int counts.
-/
import Derived.Test.YtkihdceieljkgaaDoorSpC
namespace Go.Proofs.YtkihdceieljkgaaDoor
open Go.RowKit

def chkV (r : Int × Nat) : Value := .tuple #[.int .i64 r.1, .int .i64 (r.2 : Int)]
theorem badN_lo {x : Int} (h : x < 0) : badN x = true := by simp [badN, h]
theorem badN_hi {x : Int} (h : 1073741824 < x) : badN x = true := by simp [badN, h]
theorem badN_ok {x : Int} (h : ¬ x < 0) (h2 : ¬ 1073741824 < x) : badN x = false := by simp [badN]; omega
theorem bad_two {l : List Spn} {k : Nat} (hk : k < l.length) (h : badN (l[k]).1 = true ∨ badN (l[k]).2 = true) : badL l k = 2 := by
  unfold badL badC
  rw [List.getElem?_eq_getElem hk]
  simp only [Option.getD_some]
  rw [if_pos]
  simpa using h
set_option maxRecDepth 100000 in
set_option maxHeartbeats 16000000 in
theorem rcheck_any (v : Value) (l : List Spn) (w : World) (hv : Ssp w v l) (hs : l.length ≤ 9223372036854775807) : Calls Tryd.prog 6 #[v] w fun e w' => e = .returned (chkV (chkL l)) ∧ Below w.heap.size w w' := by
  obtain ⟨ao, cap, rfl⟩ := hv.form
  have HV := hide hv
  obtain ⟨E, hE⟩ : ∃ E, chkV (chkL l) = E := ⟨_, rfl⟩
  rw [hE]
  have HE := hide hE
  clear hv hE
  go_enter Tryd.func6, Tryd.ntmps6
  go_wp2
  go_loopw [5] (fun i W => ∃ k : Nat, k ≤ l.length ∧ i = .int .i64 k ∧ chkL l = chkS l (l.length - k) k ∧ Below w.heap.size w W) (fun i _ => l.length - (ivS i).toNat)
  case atStart => exact ⟨0, Nat.zero_le _, rfl, rfl, Below.refl _ _⟩
  case round =>
    obtain ⟨k, hk, rfl, hc, hb⟩ := hrel
    have HC := hide hc
    have HB := hide hb
    clear hc hb
    by_cases hlt : k < l.length
    · obtain ⟨b, o, cap', e, -, -, -⟩ := HV.out.at hlt
      obtain rfl := (Value.slice.inj e).1
      clear e
      obtain ⟨c0, c1⟩ := (HV.out.below HB.out).cells hlt
      obtain ⟨x, hx⟩ : ∃ x, (l[k]).1 = x := ⟨_, rfl⟩
      obtain ⟨y, hy⟩ : ∃ y, (l[k]).2 = y := ⟨_, rfl⟩
      rw [hx] at c0
      rw [hy] at c1
      have HXY := hide (And.intro hx hy)
      clear hx hy
      have hltI : (k : Int) < (l.length : Int) := by omega
      by_cases hx0 : x < 0
      · have HBD : Hid (badL l k = 2) := hide (bad_two hlt (.inl (by rw [HXY.out.1]; exact badN_lo hx0)))
        go_wp2
        go_ret2
        exact ⟨by rw [← HE.out, chk_off hlt HC.out (by rw [HBD.out]; decide), HBD.out]; rfl, HB.out⟩
      · by_cases hx1 : 1073741824 < x
        · have HBD : Hid (badL l k = 2) := hide (bad_two hlt (.inl (by rw [HXY.out.1]; exact badN_hi hx1)))
          have hx0' : 0 ≤ x := by omega
          go_wp2
          go_ret2
          exact ⟨by rw [← HE.out, chk_off hlt HC.out (by rw [HBD.out]; decide), HBD.out]; rfl, HB.out⟩
        · have hbx := badN_ok hx0 hx1
          have hx0' : 0 ≤ x := by omega
          have hx1' : x ≤ 1073741824 := by omega
          by_cases hy0 : y < 0
          · have HBD : Hid (badL l k = 2) := hide (bad_two hlt (.inr (by rw [HXY.out.2]; exact badN_lo hy0)))
            go_wp2
            go_ret2
            exact ⟨by rw [← HE.out, chk_off hlt HC.out (by rw [HBD.out]; decide), HBD.out]; rfl, HB.out⟩
          · have hy0' : 0 ≤ y := by omega
            by_cases hy1 : 1073741824 < y
            · have HBD : Hid (badL l k = 2) := hide (bad_two hlt (.inr (by rw [HXY.out.2]; exact badN_hi hy1)))
              go_wp2
              go_ret2
              exact ⟨by rw [← HE.out, chk_off hlt HC.out (by rw [HBD.out]; decide), HBD.out]; rfl, HB.out⟩
            · have hby := badN_ok hy0 hy1
              have hy1' : y ≤ 1073741824 := by omega
              cases k with
              | zero =>
                simp only [Nat.zero_mul, Nat.add_zero] at c0 c1
                have HBD : Hid (badL l 0 = 0) := hide (by rw [bad_zero hlt, HXY.out.1, HXY.out.2, hbx, hby]; rfl)
                go_wp2
                go_quiet (fail)
                go_wp2
                exact ⟨⟨1, by omega, rfl, chk_on hlt HC.out HBD.out, below_drewN HB.out _⟩, by simp [ivS]; omega⟩
              | succ m =>
                have hmm : m < l.length := by omega
                obtain ⟨d0, d1⟩ := (HV.out.below HB.out).cells hmm
                obtain ⟨p, hp⟩ : ∃ p, (l[m]).1 = p := ⟨_, rfl⟩
                obtain ⟨q, hq⟩ : ∃ q, (l[m]).2 = q := ⟨_, rfl⟩
                rw [hp] at d0
                rw [hq] at d1
                have HPQ := hide (And.intro hp hq)
                clear hp hq
                have hm0 : decide ((0 : Int) < (m : Int) + 1) = true := decide_eq_true (by omega)
                have hmI : (m : Int) < (l.length : Int) := by omega
                by_cases h1 : x ≤ p
                · have HBD : Hid (badL l (m + 1) = 10) := hide (by rw [bad_succ hlt, HXY.out.1, HXY.out.2, HPQ.out.1, hbx, hby]; simp [h1])
                  have h1' : decide (x ≤ p) = true := decide_eq_true h1
                  go_wp2
                  go_quiet (fail)
                  go_wp2
                  go_ret2
                  exact ⟨by rw [← HE.out, chk_off hlt HC.out (by rw [HBD.out]; decide), HBD.out]; rfl, below_drewN HB.out _⟩
                · have h1' : decide (x ≤ p) = false := decide_eq_false h1
                  by_cases h2 : y ≤ q
                  · have HBD : Hid (badL l (m + 1) = 10) := hide (by rw [bad_succ hlt, HXY.out.1, HXY.out.2, HPQ.out.2, hbx, hby]; simp [h2])
                    have h2' : decide (y ≤ q) = true := decide_eq_true h2
                    go_wp2
                    go_quiet (fail)
                    go_wp2
                    go_ret2
                    exact ⟨by rw [← HE.out, chk_off hlt HC.out (by rw [HBD.out]; decide), HBD.out]; rfl, below_drewN HB.out _⟩
                  · have HBD : Hid (badL l (m + 1) = 0) := hide (by rw [bad_succ hlt, HXY.out.1, HXY.out.2, HPQ.out.1, HPQ.out.2, hbx, hby]; simp [h1, h2])
                    have h2' : decide (y ≤ q) = false := decide_eq_false h2
                    go_wp2
                    go_quiet (fail)
                    go_wp2
                    exact ⟨⟨m + 1 + 1, by omega, by go_num, chk_on hlt HC.out HBD.out, below_drewN HB.out _⟩, by simp [ivS]; omega⟩
    · obtain rfl : k = l.length := by omega
      go_wp2
      go_ret2
      exact ⟨by rw [← HE.out, chk_end HC.out]; rfl, HB.out⟩
set_option maxRecDepth 100000 in
set_option maxHeartbeats 4000000 in
/-- castellanlaw13.may. -/
theorem may_any (v : Value) (l : List Spn) (w : World) (hv : Ssp w v l) (hs : l.length ≤ 9223372036854775807) : Calls Tryd.prog 9 #[v] w fun e w' => e = .returned (.bool (decide (l.length ≤ 200) && decide ((chkL l).1 = 0))) ∧ Below w.heap.size w w' := by
  have HR := hide (rcheck_any v l w hv hs)
  obtain ⟨ao, cap, rfl⟩ := hv.form
  clear hv
  generalize chkL l = R at HR ⊢
  obtain ⟨c, k⟩ := R
  by_cases h2 : l.length ≤ 200
  · have h2I : (l.length : Int) ≤ 200 := by omega
    rw [decide_eq_true h2]
    by_cases hc : c = 0
    · subst hc
      go_enter Tryd.func9, Tryd.ntmps9
      go_wp2_with (first | (go_at_call 6; refine HR.out.mono ?_; rintro e W1 ⟨rfl, hb⟩; have HB := hide hb; clear hb HR; unfold chkV))
      go_ret
      exact ⟨rfl, HB.out⟩
    · have e : decide (c = 0) = false := decide_eq_false hc
      show Calls _ _ _ _ fun e w' => e = .returned (.bool (true && decide (c = 0))) ∧ _
      rw [e]
      clear e
      have e2 : (c == 0) = false := by simpa using hc
      go_enter Tryd.func9, Tryd.ntmps9
      go_wp2_with (first | (go_at_call 6; refine HR.out.mono ?_; rintro e W1 ⟨rfl, hb⟩; have HB := hide hb; clear hb HR; unfold chkV))
      go_ret
      exact ⟨rfl, HB.out⟩
  · have h2I : ¬ (l.length : Int) ≤ 200 := by omega
    have h2J : 200 < (l.length : Int) := by omega
    rw [decide_eq_false h2]
    go_enter Tryd.func9, Tryd.ntmps9
    go_wp2_with (first | (go_at_call 6; refine HR.out.mono ?_; rintro e W1 ⟨rfl, hb⟩; have HB := hide hb; clear hb HR; unfold chkV))
    go_ret
    exact ⟨rfl, HB.out⟩
end Go.Proofs.YtkihdceieljkgaaDoor
