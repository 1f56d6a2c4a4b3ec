/-
  WHERE TWO LOGS PART, AS THE DOCUMENT SAYS (castellanref13.first, Parted, Keep). Condition: the spans' cells hold them; no more than a hundred thousand.
-/
import Derived.Test.YtkihdceieljkgaaSpD
namespace Go.Proofs.Ytkihdceieljkgaa
open Go.RowKit

set_option maxRecDepth 100000 in
set_option maxHeartbeats 4000000 in
theorem rfirst_any (v : Value) (l : List Spn) (w : World) (hv : Ssp w v l) : Calls Try.prog 21 #[v] w fun e w' => e = .returned (.int .i64 (firstL l)) ∧ w' = w := by
  cases l with
  | nil =>
    obtain ⟨ao, cap, rfl⟩ := hv.form
    clear hv
    go_enter Try.func21, Try.ntmps21
    go_wp2
    go_ret
    exact ⟨rfl, rfl⟩
  | cons p r =>
    obtain ⟨b, o, cap, rfl, _, h0, h1⟩ := hv.at (k := 0) (by simp)
    simp only [List.getElem_cons_zero, Nat.zero_mul, Nat.add_zero] at h0 h1
    have hn : ¬ (((p :: r).length : Int) = 0) := by simp only [List.length_cons]; omega
    have hn2 : (0 : Int) < ((p :: r).length : Int) := by simp only [List.length_cons]; omega
    have hn3 : 0 < (p :: r).length := by simp
    generalize (p :: r).length = n at *
    show Calls _ _ _ _ fun e w' => e = .returned (.int .i64 p.2) ∧ w' = w
    clear hv
    go_enter Try.func21, Try.ntmps21
    go_wp2
    go_ret
    exact ⟨rfl, rfl⟩
set_option maxRecDepth 100000 in
set_option maxHeartbeats 8000000 in
theorem rpart_any (v : Value) (l : List Spn) (z lt a : Int) (w : World) (hv : Ssp w v l) (hs : l.length ≤ 100000) : Calls Try.prog 11 #[v, .int .i64 z, .int .i64 lt, .int .i64 a] w fun e w' => e = .returned (.tuple #[.int .i64 (partL l z lt a).1, .int .i64 (partL l z lt a).2.1, .bool (partL l z lt a).2.2]) ∧ Below w.heap.size w w' := by
  have HN := hide (rend_any v l lt z w hv hs)
  have HF := hide (fun W (h : Below w.heap.size w W) => rfirst_any v l W (hv.below h))
  clear hv hs
  cases he : endL l lt z with
  | none =>
    have hp : partL l z lt a = (0, firstL l, true) := by unfold partL; rw [he]
    rw [hp]
    rw [he] at HN
    clear he hp
    generalize firstL l = f at HF ⊢
    unfold endV at HN
    go_enter Try.func11, Try.ntmps11
    go_wp2_with (first
      | (go_at_call 9; refine HN.out.mono ?_; rintro e W1 ⟨rfl, hb⟩; have HB := hide hb; clear hb HN)
      | (go_at_call 21; refine (HF.out _ HB.out).mono ?_; rintro e W2 ⟨rfl, rfl⟩))
    go_ret3
    exact ⟨rfl, HB.out⟩
  | some r =>
    obtain ⟨x, y⟩ := r
    rw [he] at HN
    unfold endV at HN
    by_cases h1 : x = lt
    · by_cases h2 : a ≤ y
      · have hp : partL l z lt a = (0, 0, false) := by unfold partL; rw [he]; exact if_pos ⟨h1, h2⟩
        rw [hp]
        clear he hp HF
        subst h1
        go_enter Try.func11, Try.ntmps11
        go_wp2_with (first
          | (go_at_call 9; refine HN.out.mono ?_; rintro e W1 ⟨rfl, hb⟩; have HB := hide hb; clear hb HN))
        go_ret3
        exact ⟨rfl, HB.out⟩
      · have hp : partL l z lt a = (x, y, true) := by unfold partL; rw [he]; exact if_neg (fun q => h2 q.2)
        rw [hp]
        clear he hp HF
        subst h1
        have h2' : y < a := by omega
        go_enter Try.func11, Try.ntmps11
        go_wp2_with (first
          | (go_at_call 9; refine HN.out.mono ?_; rintro e W1 ⟨rfl, hb⟩; have HB := hide hb; clear hb HN))
        go_ret3
        exact ⟨rfl, HB.out⟩
    · have hp : partL l z lt a = (x, y, true) := by unfold partL; rw [he]; exact if_neg (fun q => h1 q.1)
      rw [hp]
      clear he hp HF
      have h1' : (x == lt) = false := by simpa using h1
      go_enter Try.func11, Try.ntmps11
      go_wp2_with (first
        | (go_at_call 9; refine HN.out.mono ?_; rintro e W1 ⟨rfl, hb⟩; have HB := hide hb; clear hb HN))
      go_ret3
      exact ⟨rfl, HB.out⟩
set_option maxRecDepth 100000 in
set_option maxHeartbeats 8000000 in
theorem rkeep_any (v : Value) (l : List Spn) (z t u : Int) (w : World) (hv : Ssp w v l) (hs : l.length ≤ 100000) : Calls Try.prog 13 #[v, .int .i64 z, .int .i64 t, .int .i64 u] w fun e w' => e = .returned (.int .i64 (keepL l z t u)) ∧ Below w.heap.size w w' := by
  have HN := hide (rend_any v l t z w hv hs)
  have HF := hide (fun W (h : Below w.heap.size w W) => rfirst_any v l W (hv.below h))
  clear hv hs
  cases he : endL l t z with
  | none =>
    have hp : keepL l z t u = firstL l := by unfold keepL; rw [he]
    rw [hp]
    rw [he] at HN
    clear he hp
    generalize firstL l = f at HF ⊢
    unfold endV at HN
    go_enter Try.func13, Try.ntmps13
    go_wp2_with (first
      | (go_at_call 9; refine HN.out.mono ?_; rintro e W1 ⟨rfl, hb⟩; have HB := hide hb; clear hb HN)
      | (go_at_call 21; refine (HF.out _ HB.out).mono ?_; rintro e W2 ⟨rfl, rfl⟩))
    go_ret
    exact ⟨rfl, HB.out⟩
  | some r =>
    obtain ⟨x, y⟩ := r
    rw [he] at HN
    unfold endV at HN
    by_cases h1 : x = t
    · by_cases h2 : u < y
      · have hp : keepL l z t u = u := by unfold keepL; rw [he]; exact if_pos ⟨h1, h2⟩
        rw [hp]
        clear he hp HF
        subst h1
        go_enter Try.func13, Try.ntmps13
        go_wp2_with (first
          | (go_at_call 9; refine HN.out.mono ?_; rintro e W1 ⟨rfl, hb⟩; have HB := hide hb; clear hb HN))
        go_ret
        exact ⟨rfl, HB.out⟩
      · have hp : keepL l z t u = y := by unfold keepL; rw [he]; exact if_neg (fun q => h2 q.2)
        rw [hp]
        clear he hp HF
        subst h1
        have h2' : y ≤ u := by omega
        go_enter Try.func13, Try.ntmps13
        go_wp2_with (first
          | (go_at_call 9; refine HN.out.mono ?_; rintro e W1 ⟨rfl, hb⟩; have HB := hide hb; clear hb HN))
        go_ret
        exact ⟨rfl, HB.out⟩
    · have hp : keepL l z t u = y := by unfold keepL; rw [he]; exact if_neg (fun q => h1 q.1)
      rw [hp]
      clear he hp HF
      have h1' : (x == t) = false := by simpa using h1
      go_enter Try.func13, Try.ntmps13
      go_wp2_with (first
        | (go_at_call 9; refine HN.out.mono ?_; rintro e W1 ⟨rfl, hb⟩; have HB := hide hb; clear hb HN))
      go_ret
      exact ⟨rfl, HB.out⟩
end Go.Proofs.Ytkihdceieljkgaa
