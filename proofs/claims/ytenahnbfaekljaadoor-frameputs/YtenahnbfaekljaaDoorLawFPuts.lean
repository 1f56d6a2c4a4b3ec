/-
  FramePuts: any frame as bytes, or what is wrong with it, is what the chapter says. Conditions: the body's cells hold it, errors.errorType holds the handle of the type error.
-/
import Derived.Test.YtenahnbfaekljaaDoorFwrong
import Derived.Test.YtenahnbfaekljaaDoorMN
namespace Go.Proofs.YtenahnbfaekljaaDoor
open Go.RowKit

theorem fl_one (w : World) (K : Int) (ao : Option Addr) (cap : Nat) (l : List Int) (hv : Sl bc w (.slice ao l.length cap) l) : Fl ((w.alloc (.cells #[.int .i64 K, .slice ao l.length cap] 24)).alloc (.cells #[.int .i64 K, .slice ao l.length cap] 24)) (.slice (some ⟨w.heap.size + 1, 0, none⟩) 1 1) [(K, l)] := by
  refine .inr ⟨w.heap.size + 1, 0, 1, rfl, Nat.le_refl _, fun i hi => ?_⟩
  match i, hi with
  | 0, _ => exact ⟨by simp, .slice ao l.length cap, by simp, hv.below (((Below.refl _ _).alloc (Nat.le_refl _) _).alloc (by simp) _)⟩
set_option maxRecDepth 100000 in
set_option maxHeartbeats 8000000 in
theorem puts_law (K : Int) (v : Value) (l : List Int) (w : World) (hv : Sl bc w v l) (hby : Byt l) (hl : l.length ≤ 1152921504606846976) (hg : Hnd w) :
    Calls Tryd.prog 3 #[.agg #[.int .i64 K, v]] w fun e w' => e = .returned (.bool true) ∧ Below w.heap.size w w' := by
  obtain ⟨ao, cap, rfl⟩ := hv.form
  have HLI := hide (light_any _ [(K, l)] _ (fl_one w K ao cap l hv) (by simp) (fun f hf => by simp at hf; subst hf; exact hl))
  have hb0 : Below w.heap.size w ((w.alloc (.cells #[.int .i64 K, .slice ao l.length cap] 24)).alloc (.cells #[.int .i64 K, .slice ao l.length cap] 24)) := ((Below.refl _ _).alloc (Nat.le_refl _) _).alloc (by simp) _
  have hfr : Fr2 ((w.alloc (.cells #[.int .i64 K, .slice ao l.length cap] 24)).alloc (.cells #[.int .i64 K, .slice ao l.length cap] 24)) w.heap.size (.int .i64 K) (.slice ao l.length cap) := (fr2_new w _ _ _).below ((Below.refl _ _).alloc (Nat.le_refl _) _)
  have HV := hide hv
  have HY := hide hby
  have HG := hide hg
  have HB0 := hide hb0
  have HFR := hide hfr
  clear hv hby hg hb0 hfr
  go_enter Tryd.func3, Tryd.ntmps3
  go_wp2_with fail
  refine HLI.out.mono ?_
  rintro e w1 ⟨⟨r, rfl, hr⟩, rfl⟩
  cases r with
  | false =>
    have HW := hide (works_any ((w.alloc (.cells #[.int .i64 K, .slice ao l.length cap] 24)).alloc (.cells #[.int .i64 K, .slice ao l.length cap] 24)))
    clear hr
    go_wp2_with fail
    refine HW.out.mono ?_
    rintro e w2 ⟨rfl, hb2⟩
    have HB2 := hide (HB0.out.trans (hb2.mono HB0.out.size))
    clear hb2
    go_wp2_with fail
    go_ret
    exact ⟨rfl, HB2.out⟩
  | true =>
    have hl2 : l.length ≤ 1500 := by have := (hr rfl).2; simpa [tot] using this
    clear hr
    have HV0 := hide (HV.out.below HB0.out)
    have HG0 := hide (HG.out.below HB0.out)
    generalize (w.alloc (.cells #[.int .i64 K, .slice ao l.length cap] 24)).alloc (.cells #[.int .i64 K, .slice ao l.length cap] 24) = w1 at *
    obtain ⟨c0, c1, _, _⟩ := id HFR.out
    by_cases hbad : K < 0 ∨ (¬ K < 0 ∧ 63 < K)
    · have HP := hide (put_bad K ao l.length cap w1 hbad)
      have HQ := hide (fun W => fput_kind K ao l.length cap W hbad)
      rw [show ft ⟨#[107, 105, 110, 100]⟩ K 5 = ev (some ([(⟨#[107, 105, 110, 100]⟩, K)], 5)) from rfl] at HP
      have HWE := hide (fun W h => where_ev (some ([(⟨#[107, 105, 110, 100]⟩, K)], 5)) W h)
      have HOF := hide (fun W h => of_ev (some ([(⟨#[107, 105, 110, 100]⟩, K)], 5)) W h)
      rw [show inV (stV (some ([((⟨#[107, 105, 110, 100]⟩ : ByteArray), K)], (5 : Int)))) = true from rfl, show atV (stV (some ([((⟨#[107, 105, 110, 100]⟩ : ByteArray), K)], (5 : Int)))) = K from rfl] at HWE
      rw [show ofV (some ([((⟨#[107, 105, 110, 100]⟩ : ByteArray), K)], (5 : Int))) = 5 from rfl] at HOF
      generalize ev (some ([((⟨#[107, 105, 110, 100]⟩ : ByteArray), K)], (5 : Int))) = E at *
      clear hbad
      go_wp2_with fail
      refine HP.out.mono ?_
      rintro e w2 ⟨rfl, hb2⟩
      obtain ⟨d0, d1, _, _⟩ := HFR.out.below hb2
      have HB2 := hide (HB0.out.trans (hb2.mono HB0.out.size))
      have HG2 := hide (HG0.out.below hb2)
      clear hb2
      go_wp2_with (first
        | (go_at_call 9; refine (HQ.out _).mono ?_; rintro e w3 ⟨rfl, hb3⟩; have HB3 := hide (HB2.out.trans (hb3.mono HB2.out.size)); have HG3 := hide (HG2.out.below hb3); clear hb3)
        | (go_at_call 10; refine (HWE.out _ HG3.out).mono ?_; rintro e w4 ⟨rfl, hb4⟩; have HB4 := hide (HB3.out.trans (hb4.mono HB3.out.size)); have HG4 := hide (HG3.out.below hb4); clear hb4)
        | (go_at_call 11; refine (HOF.out _ HG4.out).mono ?_; rintro e w5 ⟨rfl, hb5⟩; have HB5 := hide (HB4.out.trans (hb5.mono HB4.out.size)); clear hb5)
        | (go_at_call 7; refine (works_any _).mono ?_; rintro e w6 ⟨rfl, hb6⟩; have HB6 := hide (HB5.out.trans (hb6.mono HB5.out.size)); clear hb6))
      go_ret
      exact ⟨rfl, HB6.out⟩
    · have hk0 : ¬ K < 0 := by omega
      have hk1 : ¬ 63 < K := by omega
      have HP := hide (put_ok K (.slice ao l.length cap) l w1 HV0.out (by omega) HY.out hk0 hk1)
      have HQ := hide (fun W (h : Below w.heap.size w W) => fput_ok K (.slice ao l.length cap) l W (HV.out.below h) (by omega) HY.out hk0 hk1)
      have hfl : (frameL K l).length ≤ 40000 := by have := intL_le l.length; rw [frameL_len]; omega
      have HFL := hide hfl
      clear hbad hfl
      go_wp2_with fail
      refine HP.out.mono ?_
      rintro e w2 ⟨y2, rfl, ho2, hb2⟩
      obtain ⟨d0, d1, _, _⟩ := HFR.out.below hb2
      have HB2 := hide (HB0.out.trans (hb2.mono HB0.out.size))
      have HS2 := hide (show Sl bc w2 y2 (frameL K l) from sl_of_owns ho2)
      clear hb2 ho2
      go_wp2_with fail
      refine (HQ.out _ HB2.out).mono ?_
      rintro e w3 ⟨y3, rfl, hs3, hb3⟩
      have HB3 := hide (HB2.out.trans (hb3.mono HB2.out.size))
      have HSS := hide (same_bytes y2 y3 (frameL K l) w3 (HS2.out.below hb3) hs3 HFL.out)
      clear hb3 hs3
      go_wp2_with (first
        | (go_at_call 12; refine (HSS.out).mono ?_; rintro e w4 ⟨rfl, hb4⟩; have HB4 := hide (HB3.out.trans (hb4.mono HB3.out.size)); clear hb4)
        | (go_at_call 7; refine (works_any _).mono ?_; rintro e w6 ⟨rfl, hb6⟩; have HB6 := hide (HB4.out.trans (hb6.mono HB4.out.size)); clear hb6))
      go_ret
      exact ⟨rfl, HB6.out⟩
end Go.Proofs.YtenahnbfaekljaaDoor
