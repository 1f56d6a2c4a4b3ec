/-
  SMALL CALLS OF PACKAGE spans, AND THE DOCUMENT's: number, first. Condition: the spans' cells hold them.
-/
import Derived.Test.YtkihdceieljkgaaDoorSpV
namespace Go.Proofs.YtkihdceieljkgaaDoor
open Go.RowKit

set_option maxRecDepth 100000 in
set_option maxHeartbeats 4000000 in
theorem number_any (n : Int) (w : World) : Calls Tryd.prog 19 #[.int .i64 n] w fun e w' => e = .returned (.bool (!badN n)) ∧ w' = w := by
  by_cases h1 : n < 0
  · have h1' : ¬ 0 ≤ n := by omega
    have e : badN n = true := by simp [badN, h1]
    rw [e]
    clear e
    go_enter Tryd.func19, Tryd.ntmps19
    go_wp2
    go_ret
    exact ⟨rfl, rfl⟩
  · have h1' : 0 ≤ n := by omega
    by_cases h2 : 1073741824 < n
    · have h2' : ¬ n ≤ 1073741824 := by omega
      have e : badN n = true := by simp [badN, h2]
      rw [e]
      clear e
      go_enter Tryd.func19, Tryd.ntmps19
      go_wp2
      go_ret
      exact ⟨rfl, rfl⟩
    · have h2' : n ≤ 1073741824 := by omega
      have e : badN n = false := by simp [badN, h1', h2']
      rw [e]
      clear e
      go_enter Tryd.func19, Tryd.ntmps19
      go_wp2
      go_ret
      exact ⟨rfl, rfl⟩
set_option maxRecDepth 100000 in
set_option maxHeartbeats 4000000 in
theorem first_any (v : Value) (l : List Spn) (w : World) (hv : Ssp w v l) : Calls Tryd.prog 26 #[v] w fun e w' => e = .returned (.int .i64 (firstL l)) ∧ w' = w := by
  cases l with
  | nil =>
    obtain ⟨ao, cap, rfl⟩ := hv.form
    clear hv
    go_enter Tryd.func26, Tryd.ntmps26
    go_wp2
    go_ret
    exact ⟨rfl, rfl⟩
  | cons p r =>
    obtain ⟨b, o, cap, rfl, _, h0, h1⟩ := hv.at (k := 0) (by simp)
    simp only [List.getElem_cons_zero, Nat.zero_mul, Nat.add_zero] at h0 h1
    have hn : ¬ (((p :: r).length : Int) = 0) := by simp only [List.length_cons]; omega
    have hn2 : (0 : Int) < ((p :: r).length : Int) := by simp only [List.length_cons]; omega
    have hn3 : 0 < (p :: r).length := by simp
    generalize (p :: r).length = n at *
    show Calls _ _ _ _ fun e w' => e = .returned (.int .i64 p.2) ∧ w' = w
    clear hv
    go_enter Tryd.func26, Tryd.ntmps26
    go_wp2
    go_ret
    exact ⟨rfl, rfl⟩
end Go.Proofs.YtkihdceieljkgaaDoor
