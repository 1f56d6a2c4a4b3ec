/-
  WHERE TWO LOGS PART (spans.Parted, Keep). Condition: the spans' cells hold them; no more than a hundred thousand.
-/
import Derived.Test.YtkihdceieljkgaaDoorSpE
namespace Go.Proofs.YtkihdceieljkgaaDoor
open Go.RowKit

set_option maxRecDepth 100000 in
set_option maxHeartbeats 8000000 in
theorem part_any (v : Value) (l : List Spn) (z lt a : Int) (w : World) (hv : Ssp w v l) (hs : l.length ≤ 100000) : Calls Tryd.prog 17 #[v, .int .i64 z, .int .i64 lt, .int .i64 a] w fun e w' => e = .returned (.tuple #[.int .i64 (partL l z lt a).1, .int .i64 (partL l z lt a).2.1, .bool (partL l z lt a).2.2]) ∧ Below w.heap.size w w' := by
  have HN := hide (end_any v l lt z w hv hs)
  have HF := hide (fun W (h : Below w.heap.size w W) => first_any v l W (hv.below h))
  clear hv hs
  cases he : endL l lt z with
  | none =>
    have hp : partL l z lt a = (0, firstL l, true) := by unfold partL; rw [he]
    rw [hp]
    rw [he] at HN
    clear he hp
    generalize firstL l = f at HF ⊢
    unfold endV at HN
    go_enter Tryd.func17, Tryd.ntmps17
    go_wp2_with (first
      | (go_at_call 16; refine HN.out.mono ?_; rintro e W1 ⟨rfl, hb⟩; have HB := hide hb; clear hb HN)
      | (go_at_call 26; refine (HF.out _ HB.out).mono ?_; rintro e W2 ⟨rfl, rfl⟩))
    go_ret3
    exact ⟨rfl, HB.out⟩
  | some r =>
    obtain ⟨x, y⟩ := r
    rw [he] at HN
    unfold endV at HN
    by_cases h1 : x = lt
    · by_cases h2 : a ≤ y
      · have hp : partL l z lt a = (0, 0, false) := by unfold partL; rw [he]; exact if_pos ⟨h1, h2⟩
        rw [hp]
        clear he hp HF
        subst h1
        go_enter Tryd.func17, Tryd.ntmps17
        go_wp2_with (first
          | (go_at_call 16; refine HN.out.mono ?_; rintro e W1 ⟨rfl, hb⟩; have HB := hide hb; clear hb HN))
        go_ret3
        exact ⟨rfl, HB.out⟩
      · have hp : partL l z lt a = (x, y, true) := by unfold partL; rw [he]; exact if_neg (fun q => h2 q.2)
        rw [hp]
        clear he hp HF
        subst h1
        have h2' : y < a := by omega
        go_enter Tryd.func17, Tryd.ntmps17
        go_wp2_with (first
          | (go_at_call 16; refine HN.out.mono ?_; rintro e W1 ⟨rfl, hb⟩; have HB := hide hb; clear hb HN))
        go_ret3
        exact ⟨rfl, HB.out⟩
    · have hp : partL l z lt a = (x, y, true) := by unfold partL; rw [he]; exact if_neg (fun q => h1 q.1)
      rw [hp]
      clear he hp HF
      have h1' : (x == lt) = false := by simpa using h1
      go_enter Tryd.func17, Tryd.ntmps17
      go_wp2_with (first
        | (go_at_call 16; refine HN.out.mono ?_; rintro e W1 ⟨rfl, hb⟩; have HB := hide hb; clear hb HN))
      go_ret3
      exact ⟨rfl, HB.out⟩
set_option maxRecDepth 100000 in
set_option maxHeartbeats 8000000 in
theorem keep_any (v : Value) (l : List Spn) (z t u : Int) (w : World) (hv : Ssp w v l) (hs : l.length ≤ 100000) : Calls Tryd.prog 18 #[v, .int .i64 z, .int .i64 t, .int .i64 u] w fun e w' => e = .returned (.int .i64 (keepL l z t u)) ∧ Below w.heap.size w w' := by
  have HN := hide (end_any v l t z w hv hs)
  have HF := hide (fun W (h : Below w.heap.size w W) => first_any v l W (hv.below h))
  clear hv hs
  cases he : endL l t z with
  | none =>
    have hp : keepL l z t u = firstL l := by unfold keepL; rw [he]
    rw [hp]
    rw [he] at HN
    clear he hp
    generalize firstL l = f at HF ⊢
    unfold endV at HN
    go_enter Tryd.func18, Tryd.ntmps18
    go_wp2_with (first
      | (go_at_call 16; refine HN.out.mono ?_; rintro e W1 ⟨rfl, hb⟩; have HB := hide hb; clear hb HN)
      | (go_at_call 26; refine (HF.out _ HB.out).mono ?_; rintro e W2 ⟨rfl, rfl⟩))
    go_ret
    exact ⟨rfl, HB.out⟩
  | some r =>
    obtain ⟨x, y⟩ := r
    rw [he] at HN
    unfold endV at HN
    by_cases h1 : x = t
    · by_cases h2 : u < y
      · have hp : keepL l z t u = u := by unfold keepL; rw [he]; exact if_pos ⟨h1, h2⟩
        rw [hp]
        clear he hp HF
        subst h1
        have hmn : min y u = u := by omega
        go_enter Tryd.func18, Tryd.ntmps18
        go_wp2_with (first
          | (go_at_call 16; refine HN.out.mono ?_; rintro e W1 ⟨rfl, hb⟩; have HB := hide hb; clear hb HN))
        go_ret
        exact ⟨rfl, HB.out⟩
      · have hp : keepL l z t u = y := by unfold keepL; rw [he]; exact if_neg (fun q => h2 q.2)
        rw [hp]
        clear he hp HF
        subst h1
        have h2' : y ≤ u := by omega
        have hmn : min y u = y := by omega
        go_enter Tryd.func18, Tryd.ntmps18
        go_wp2_with (first
          | (go_at_call 16; refine HN.out.mono ?_; rintro e W1 ⟨rfl, hb⟩; have HB := hide hb; clear hb HN))
        go_ret
        exact ⟨rfl, HB.out⟩
    · have hp : keepL l z t u = y := by unfold keepL; rw [he]; exact if_neg (fun q => h1 q.1)
      rw [hp]
      clear he hp HF
      have h1' : (x == t) = false := by simpa using h1
      go_enter Tryd.func18, Tryd.ntmps18
      go_wp2_with (first
        | (go_at_call 16; refine HN.out.mono ?_; rintro e W1 ⟨rfl, hb⟩; have HB := hide hb; clear hb HN))
      go_ret
      exact ⟨rfl, HB.out⟩
end Go.Proofs.YtkihdceieljkgaaDoor
