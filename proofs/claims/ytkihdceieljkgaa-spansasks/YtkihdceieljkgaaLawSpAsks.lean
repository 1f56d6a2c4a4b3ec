/-
  SpansAsks' WALK: where any term ends, where another log parts, and up to where one may stay. Condition: no more spans than an int counts.
-/
import Derived.Test.YtkihdceieljkgaaSpR
import Derived.Test.YtkihdceieljkgaaSpQ
import Derived.Test.YtkihdceieljkgaaSpW
namespace Go.Proofs.Ytkihdceieljkgaa
open Go.RowKit

set_option maxRecDepth 100000 in
set_option maxHeartbeats 16000000 in
theorem asks_law (v : Value) (l : List Spn) (z t a : Int) (w : World) (hv : Ssp w v l) (hs : l.length ≤ maxLen) : Calls Try.prog 3 #[v, .int .i64 z, .int .i64 t, .int .i64 a] w fun e w' => e = .returned (.bool true) ∧ Below w.heap.size w w' := by
  have HM := hide (may_any v l w hv (by unfold maxLen at hs; omega))
  have HV := hide (fun W (h : Below w.heap.size w W) => hv.below h)
  have HWK := hide (fun W => works_any W)
  obtain ⟨ao, cap, rfl⟩ := hv.form
  clear hv
  cases hm : (decide (l.length ≤ 200) && decide ((chkL l).1 = 0)) with
  | false =>
    rw [hm] at HM
    clear hm HV hs
    go_enter Try.func3, Try.ntmps3
    go_wp2_with (first
      | (go_at_call 6; refine HM.out.mono ?_; rintro e W1 ⟨rfl, hb⟩; have HB := hide hb; clear hb HM)
      | (go_at_call 7; refine (HWK.out _).mono ?_; rintro e W2 ⟨rfl, hb⟩; replace HB := hide (bt HB.out hb); clear hb HWK))
    go_ret
    exact ⟨rfl, HB.out⟩
  | true =>
    rw [hm] at HM
    have hl : l.length ≤ 200 := by simp at hm; exact hm.1
    clear hm hs
    have HS : Hid (l.length ≤ 100000) := hide (by omega)
    have HE := hide (fun W (h : Below w.heap.size w W) => end_any _ l t z W (HV.out W h) HS.out)
    have HE' := hide (fun W (h : Below w.heap.size w W) => rend_any _ l t z W (HV.out W h) HS.out)
    have HP := hide (fun W (h : Below w.heap.size w W) => part_any _ l z t a W (HV.out W h) HS.out)
    have HP' := hide (fun W (h : Below w.heap.size w W) => rpart_any _ l z t a W (HV.out W h) HS.out)
    have HK := hide (fun W (h : Below w.heap.size w W) => keep_any _ l z t a W (HV.out W h) HS.out)
    have HK' := hide (fun W (h : Below w.heap.size w W) => rkeep_any _ l z t a W (HV.out W h) HS.out)
    clear HV HS hl
    obtain ⟨p0, p1, p2⟩ := partL l z t a
    generalize keepL l z t a = k at *
    obtain ⟨e0, e1, e2, hE⟩ : ∃ e0 e1 e2, endV (endL l t z) = .tuple #[.int .i64 e0, .int .i64 e1, .bool e2] := by
      cases endL l t z with
      | none => exact ⟨_, _, _, rfl⟩
      | some r => exact ⟨_, _, _, rfl⟩
    rw [hE] at HE HE'
    clear hE
    go_enter Try.func3, Try.ntmps3
    go_wp2_with (first
      | (go_at_call 6; refine HM.out.mono ?_; rintro e W1 ⟨rfl, hb⟩; have HB := hide hb; clear hb HM)
      | (go_at_call 8; refine (HE.out _ HB.out).mono ?_; rintro e W2 ⟨rfl, hb⟩; replace HB := hide (bt HB.out hb); clear hb HE)
      | (go_at_call 9; refine (HE'.out _ HB.out).mono ?_; rintro e W2 ⟨rfl, hb⟩; replace HB := hide (bt HB.out hb); clear hb HE')
      | (go_at_call 10; refine (HP.out _ HB.out).mono ?_; rintro e W2 ⟨rfl, hb⟩; replace HB := hide (bt HB.out hb); clear hb HP)
      | (go_at_call 11; refine (HP'.out _ HB.out).mono ?_; rintro e W2 ⟨rfl, hb⟩; replace HB := hide (bt HB.out hb); clear hb HP')
      | (go_at_call 12; refine (HK.out _ HB.out).mono ?_; rintro e W2 ⟨rfl, hb⟩; replace HB := hide (bt HB.out hb); clear hb HK)
      | (go_at_call 13; refine (HK'.out _ HB.out).mono ?_; rintro e W2 ⟨rfl, hb⟩; replace HB := hide (bt HB.out hb); clear hb HK')
      | (go_at_call 7; refine (HWK.out _).mono ?_; rintro e W2 ⟨rfl, hb⟩; replace HB := hide (bt HB.out hb); clear hb HWK))
    go_ret
    exact ⟨rfl, HB.out⟩
end Go.Proofs.Ytkihdceieljkgaa
