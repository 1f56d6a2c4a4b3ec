/-
  SpansKeeps' WALK: whether any spans may be, any with one more, and those of any batches, are what the document says. Conditions: the base is a small number that is not negative, the terms are bytes; errors.errorType is laid.
-/
import Derived.Test.YtkihdceieljkgaaDoorSpK
import Derived.Test.YtkihdceieljkgaaDoorSpR
import Derived.Test.YtkihdceieljkgaaDoorSpW
import Derived.Test.YtkihdceieljkgaaDoorMidc
namespace Go.Proofs.YtkihdceieljkgaaDoor
open Go.RowKit

theorem erS_ev (r : Int × Nat) : erS r = ev (if r.1 = 0 then none else some ([(⟨#[115, 112, 97, 110]⟩, (r.2 : Int))], r.1)) := by
  unfold erS
  split
  · rfl
  · rfl
theorem of_erS (r : Int × Nat) (w : World) (hg : Hnd w) : Calls Tryd.prog 8 #[erS r] w fun e w' => e = .returned (.int .i64 r.1) ∧ Below w.heap.size w w' := by
  rw [erS_ev]
  refine (of_ev _ w hg).mono ?_
  rintro e w' ⟨rfl, hb⟩
  refine ⟨?_, hb⟩
  by_cases h : r.1 = 0
  · rw [if_pos h, h]; rfl
  · rw [if_neg h]; rfl
theorem where_erS (r : Int × Nat) (w : World) (hg : Hnd w) (h0 : r.1 = 0 → r.2 = 0) : Calls Tryd.prog 7 #[erS r] w fun e w' => e = .returned (.tuple #[.int .i64 (r.2 : Int), .bool (!(r.1 == 0))]) ∧ Below w.heap.size w w' := by
  rw [erS_ev]
  refine (where_ev _ w hg).mono ?_
  rintro e w' ⟨rfl, hb⟩
  refine ⟨?_, hb⟩
  by_cases h : r.1 = 0
  · rw [if_pos h, h0 h, h]; rfl
  · rw [if_neg h, show (r.1 == 0) = false by simpa using h]; rfl
theorem ofK_len (base t : Int) (ts : List Int) : (ofL base t ts).length ≤ ts.length + 1 := spk_len base t ts ts.length
set_option maxRecDepth 100000 in
set_option maxHeartbeats 8000000 in
theorem keeps_over (v vb : Value) (l : List Spn) (lb : List Int) (t s base : Int) (w : World) (hv : Ssp w v l) (hb : Sl u8v w vb lb) (h : 200 < l.length ∨ 200 < lb.length) : Calls Tryd.prog 3 #[v, .int .i64 t, .int .i64 s, .int .u16 base, vb] w fun e w' => e = .returned (.bool true) ∧ Below w.heap.size w w' := by
  have HWK := hide (fun W => works_any W)
  obtain ⟨ao, cap, rfl⟩ := hv.form
  obtain ⟨ab, cb, rfl⟩ := hb.form
  clear hv hb
  by_cases h1 : 200 < l.length
  · have h1I : (200 : Int) < (l.length : Int) := by omega
    clear h
    go_enter Tryd.func3, Tryd.ntmps3
    go_wp2_with (first | (go_at_call 4; refine (HWK.out _).mono ?_; rintro e W2 ⟨rfl, hb⟩; have HB := hide hb; clear hb HWK))
    go_ret
    exact ⟨rfl, HB.out⟩
  · have h1I : ¬ (200 : Int) < (l.length : Int) := by omega
    have h1J : (l.length : Int) ≤ 200 := by omega
    have h2I : (200 : Int) < (lb.length : Int) := by omega
    clear h
    go_enter Tryd.func3, Tryd.ntmps3
    go_wp2_with (first | (go_at_call 4; refine (HWK.out _).mono ?_; rintro e W2 ⟨rfl, hb⟩; have HB := hide hb; clear hb HWK))
    go_ret
    exact ⟨rfl, HB.out⟩
set_option maxRecDepth 100000 in
set_option maxHeartbeats 32000000 in
theorem keeps_go (v vb : Value) (l : List Spn) (lb : List Int) (t s base : Int) (w : World) (hv : Ssp w v l) (hb : Sl u8v w vb lb) (yb : ∀ x ∈ lb, 0 ≤ x ∧ x ≤ 255) (h0 : 0 ≤ base) (hb1 : base ≤ 65535) (h1 : l.length ≤ 200) (h2 : lb.length ≤ 200) (hg : Hnd w) : Calls Tryd.prog 3 #[v, .int .i64 t, .int .i64 s, .int .u16 base, vb] w fun e w' => e = .returned (.bool true) ∧ Below w.heap.size w w' := by
  have HWK := hide (fun W => works_any W)
  have HV := hide (fun W (h : Below w.heap.size w W) => hv.below h)
  have HVB := hide (fun W (h : Below w.heap.size w W) => hb.below h)
  have HG := hide (fun W (h : Below w.heap.size w W) => hg.below h)
  have YB := hide yb
  have HS : Hid (l.length ≤ 100000) := hide (by omega)
  have HCK := hide (fun W (h : Below w.heap.size w W) => check_any v l W (HV.out W h) HS.out)
  have HRC := hide (fun W (h : Below w.heap.size w W) => rcheck_any v l W (HV.out W h) (by omega))
  have HMY := hide (fun W (h : Below w.heap.size w W) => may_any v l W (HV.out W h) (by omega))
  have HWH := hide (fun W (h : Below w.heap.size w W) => where_erS (chkL l) W (HG.out W h) (fun q => by have := chkS_fst (l := l) l.length 0 q; show (chkS l l.length 0).2 = 0; rw [this]))
  have HOF := hide (fun W (h : Below w.heap.size w W) => of_erS (chkL l) W (HG.out W h))
  have HRS : Hid ((chkL l).1 = 0 → Ris l) := hide (fun q => (chk_ris q).ris)
  obtain ⟨ao, cap, rfl⟩ := hv.form
  obtain ⟨ab, cb, rfl⟩ := hb.form
  rw [decide_eq_true h1, Bool.true_and] at HMY
  generalize erS (chkL l) = E at *
  generalize chkL l = R at *
  obtain ⟨c, k⟩ := R
  unfold chkV at HRC
  dsimp only at HRC HMY HWH HOF HRS
  have h1I : ¬ (200 : Int) < (l.length : Int) := by omega
  have h1J : (l.length : Int) ≤ 200 := by omega
  have h2I : ¬ (200 : Int) < (lb.length : Int) := by omega
  have h2J : (lb.length : Int) ≤ 200 := by omega
  clear hv hb yb hg
  by_cases hc : c = 0
  · subst hc
    have HRI := hide (HRS.out rfl)
    have HA := hide (fun W (h : Below w.heap.size w W) => Add_any _ l t s W (HV.out W h) HRI.out HS.out)
    have HRA := hide (fun W (h : Below w.heap.size w W) => radd_any _ l t s W (HV.out W h) HRI.out HS.out)
    have HAL : Hid ((addL l t s).length ≤ 100000) := hide (Nat.le_trans (addL_len _ _ _) (by omega))
    have HOL : Hid ((ofL base t lb).length ≤ 100000) := hide (Nat.le_trans (ofK_len _ _ _) (by omega))
    have HTE := hide (fun W (h : Below w.heap.size w W) => terms_any _ lb W (HVB.out W h) YB.out (by omega))
    clear HRS HG
    have e0 : decide ((0 : Int) = 0) = true := by decide
    rw [e0] at HMY
    have e1 : (!((0 : Int) == 0)) = false := by decide
    rw [e1] at HWH
    clear e0 e1
    generalize addL l t s = AL at *
    go_enter Tryd.func3, Tryd.ntmps3
    go_wp2_with (first
      | (go_at_call 5; refine (HCK.out _ (Below.refl _ _)).mono ?_; rintro e W1 ⟨rfl, hb⟩; have HB := hide hb; clear hb HCK)
      | (go_at_call 6; refine (HRC.out _ HB.out).mono ?_; rintro e W2 ⟨rfl, hb⟩; replace HB := hide (bt HB.out hb); clear hb HRC)
      | (go_at_call 7; refine (HWH.out _ HB.out).mono ?_; rintro e W3 ⟨rfl, hb⟩; replace HB := hide (bt HB.out hb); clear hb HWH)
      | (go_at_call 8; refine (HOF.out _ HB.out).mono ?_; rintro e W4 ⟨rfl, hb⟩; replace HB := hide (bt HB.out hb); clear hb HOF)
      | (go_at_call 9; refine (HMY.out _ HB.out).mono ?_; rintro e W5 ⟨rfl, hb⟩; replace HB := hide (bt HB.out hb); clear hb HMY)
      | (go_at_call 11; refine (HA.out _ HB.out).mono ?_; rintro e W6 ⟨v6, rfl, hx, hb⟩; replace HB := hide (bt HB.out hb); have S1 := hide hx.ssp; clear hx hb HA)
      | (go_at_call 12; refine (HRA.out _ HB.out).mono ?_; rintro e W7 ⟨v7, rfl, hx, hb⟩; replace HB := hide (bt HB.out hb); replace S1 := hide (S1.out.below hb); have S2 := hide hx.ssp; clear hx hb HRA)
      | (go_at_call 10; refine (same_any _ _ AL _ S1.out S2.out HAL.out).mono ?_; rintro e W8 ⟨rfl, hb⟩; replace HB := hide (bt HB.out hb); clear hb S1 S2)
      | (go_at_call 14; refine (HTE.out _ HB.out).mono ?_; rintro e W9 ⟨v9, rfl, hx, hb⟩; replace HB := hide (bt HB.out hb); (try replace S3 := hide (S3.out.below hb)); have ST := hide hx; clear hx hb)
      | (go_at_call 13; refine (of_any base t _ lb _ ST.out (by omega) (by omega) (by omega)).mono ?_; rintro e W10 ⟨v10, rfl, hx, hb⟩; replace HB := hide (bt HB.out hb); have S3 := hide hx.ssp; clear hx hb ST)
      | (go_at_call 15; refine (rof_any base t _ lb _ ST.out (by omega) (by omega) (by omega)).mono ?_; rintro e W11 ⟨v11, rfl, hx, hb⟩; replace HB := hide (bt HB.out hb); replace S3 := hide (S3.out.below hb); have S4 := hide hx; clear hx hb ST)
      | (go_at_call 10; refine (same_any _ _ (ofL base t lb) _ S3.out S4.out HOL.out).mono ?_; rintro e W12 ⟨rfl, hb⟩; replace HB := hide (bt HB.out hb); clear hb S3 S4)
      | (go_at_call 4; refine (HWK.out _).mono ?_; rintro e W13 ⟨rfl, hb⟩; replace HB := hide (bt HB.out hb); clear hb HWK))
    go_ret
    exact ⟨rfl, HB.out⟩
  · have e0 : decide (c = 0) = false := decide_eq_false hc
    rw [e0] at HMY
    have e1 : (!(c == 0)) = true := by simpa using hc
    rw [e1] at HWH
    have hc0 : (c == 0) = false := by simpa using hc
    have hc1 : (c != 0) = true := by simpa using hc
    have hc2 : (c != c) = false := by simp
    have hk2 : ((k : Int) != (k : Int)) = false := by simp
    clear HRS HG e0 e1
    go_enter Tryd.func3, Tryd.ntmps3
    go_wp2_with (first
      | (go_at_call 5; refine (HCK.out _ (Below.refl _ _)).mono ?_; rintro e W1 ⟨rfl, hb⟩; have HB := hide hb; clear hb HCK)
      | (go_at_call 6; refine (HRC.out _ HB.out).mono ?_; rintro e W2 ⟨rfl, hb⟩; replace HB := hide (bt HB.out hb); clear hb HRC)
      | (go_at_call 7; refine (HWH.out _ HB.out).mono ?_; rintro e W3 ⟨rfl, hb⟩; replace HB := hide (bt HB.out hb); clear hb HWH)
      | (go_at_call 8; refine (HOF.out _ HB.out).mono ?_; rintro e W4 ⟨rfl, hb⟩; replace HB := hide (bt HB.out hb); clear hb HOF)
      | (go_at_call 9; refine (HMY.out _ HB.out).mono ?_; rintro e W5 ⟨rfl, hb⟩; replace HB := hide (bt HB.out hb); clear hb HMY)
      | (go_at_call 4; refine (HWK.out _).mono ?_; rintro e W13 ⟨rfl, hb⟩; replace HB := hide (bt HB.out hb); clear hb HWK))
    go_ret
    exact ⟨rfl, HB.out⟩
theorem keeps_law (v vb : Value) (l : List Spn) (lb : List Int) (t s base : Int) (w : World) (hv : Ssp w v l) (hb : Sl u8v w vb lb) (yb : ∀ x ∈ lb, 0 ≤ x ∧ x ≤ 255) (h0 : 0 ≤ base) (hb1 : base ≤ 65535) (hg : Hnd w) : Calls Tryd.prog 3 #[v, .int .i64 t, .int .i64 s, .int .u16 base, vb] w fun e w' => e = .returned (.bool true) ∧ Below w.heap.size w w' := by
  by_cases h : 200 < l.length ∨ 200 < lb.length
  · exact keeps_over v vb l lb t s base w hv hb h
  · exact keeps_go v vb l lb t s base w hv hb yb h0 hb1 (by omega) (by omega) hg
end Go.Proofs.YtkihdceieljkgaaDoor
