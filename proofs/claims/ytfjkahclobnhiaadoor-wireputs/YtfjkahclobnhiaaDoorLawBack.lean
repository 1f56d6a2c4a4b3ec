/-
  WHAT IS WRITTEN IS READ AS WHAT IT WAS, AND NOTHING IS LEFT: WireBack answers true. Conditions: the slices' cells hold bytes and ints; errors.errorType holds the handle of the type error.
-/
import Derived.Test.YtfjkahclobnhiaaDoorWorks
import Derived.Test.YtfjkahclobnhiaaDoorWback
namespace Go.Proofs.YtfjkahclobnhiaaDoor
open Go.RowKit

set_option maxRecDepth 100000 in
set_option maxHeartbeats 8000000 in
theorem back_out (n k : Int) (is : Bool) (ao bo : Option Addr) (S R sc rc : Nat) (w : World) (hg : Hnd w) (hS : S ≤ 9223372036854775807) (hR : R ≤ 9223372036854775807)
    (h : 4611686018427387903 < n ∨ (¬ 4611686018427387903 < n ∧ k < 0) ∨ (¬ 4611686018427387903 < n ∧ ¬ k < 0 ∧ 2305843009213693952 < k) ∨ (¬ 4611686018427387903 < n ∧ ¬ k < 0 ∧ ¬ 2305843009213693952 < k ∧ 2000 < S) ∨ (¬ 4611686018427387903 < n ∧ ¬ k < 0 ∧ ¬ 2305843009213693952 < k ∧ ¬ 2000 < S ∧ 500 < R)) :
    Calls Tryd.prog 5 #[.int .u64 n, .int .i64 k, .bool is, .slice ao S sc, .slice bo R rc] w fun e w' => e = .returned (.bool true) ∧ Below w.heap.size w w' := by
  have HW := hide (works_any w hg)
  clear hg
  rcases h with h1 | ⟨h1, h2⟩ | ⟨h1, h2, h3⟩ | ⟨h1, h2, h3, h4⟩ | ⟨h1, h2, h3, h4, h5⟩
  all_goals
    go_enter Tryd.func5, Tryd.ntmps5
    go_wp2_with (first | (go_at_call 8; refine (HW.out).mono ?_; rintro e w' ⟨rfl, hb⟩))
    go_ret
    exact ⟨rfl, hb⟩
theorem Sl.get {α : Type} {f : α → Value} {W : World} {v : Value} {l : List α} (h : Sl f W v l) : ∃ ao cap, v = .slice ao l.length cap ∧ ∀ i (h : i < l.length), ∃ b o, ao = some ⟨b, o, none⟩ ∧ W.cell? ⟨b, o + i, none⟩ = some (f l[i]) := by
  rcases h with ⟨ao, cap, rfl, rfl⟩ | ⟨b, o, cap, rfl, h2, h3⟩
  · exact ⟨ao, cap, rfl, fun i hi => by simp at hi⟩
  · exact ⟨_, cap, rfl, fun i hi => ⟨b, o, rfl, h3 i hi⟩⟩
/-- The bytes of all of them. -/
def allL (n k : Int) (is : Bool) (s l : List Int) : List Int := (((numL n ++ intL k) ++ [if is then 1 else 0]) ++ (intL s.length ++ s)) ++ (intL l.length ++ rowL l)
theorem off_below {B : Nat} {w : World} {v u : Value} {m : Nat} {cur : List Value} {l : List Int} {f : Int → Value} (h : Rw B w v m cur) {w0 : World} (hu : Sl f w0 u l) (hB : w0.heap.size ≤ B) (hl : 0 < l.length) : ∀ b o k c, u = .slice (some ⟨b, o, none⟩) k c → v.ownBlock ≠ some b := by
  intro b o k c e q
  rcases hu with ⟨_, _, rfl, _⟩ | ⟨b', o', c', e', _, h3⟩
  · simp at hl
  · rw [e] at e'
    cases e'
    have h1 := (h.owns.lt _ q).1
    have h2 := cell_block (h3 0 hl)
    simp at h2
    omega

theorem all_len (n k : Int) (is : Bool) (s l : List Int) (hs : s.length ≤ 2000) (hl : l.length ≤ 500) : (allL n k is s l).length ≤ 10000 := by
  have h1 := numL_le n
  have h2 := intL_le k
  have h3 := intL_le s.length
  have h4 := intL_le l.length
  have h5 := rowL_le l
  simp only [allL, List.length_append, List.length_cons, List.length_nil]
  omega
theorem all_byt (n k : Int) (is : Bool) (s l : List Int) (h0 : 0 ≤ n) (h1 : n ≤ 4611686018427387903) (hs : Byt s) : Byt (allL n k is s l) :=
  ((((numL_byt h0 h1).app (intL_byt k)).app (by cases is <;> (unfold Byt; decide))).app ((intL_byt _).app hs)).app ((intL_byt _).app (rowL_byt l))
theorem rd_num (n k : Int) (is : Bool) (s l : List Int) (p : Nat) (v : Value) (w : World) (h0 : 0 ≤ n) (h1 : n ≤ 4611686018427387903) (hs : s.length ≤ 2000) (hl : l.length ≤ 500) (hb : Byt s) (hr : Rd w p v 0 .nilIface) (hv : Slx p bc w v (allL n k is s l)) :
    Calls Tryd.prog 29 #[.pointer (some ⟨p, 0, none⟩), .int .u64 4611686018427387904] w fun x w' => x = .returned (.int .u64 n) ∧ Rd w' p v (numL n).length .nilIface ∧ Bx p w w' := by
  have h := rnum_any p v (allL n k is s l) 0 4611686018427387904 w hr hv.sl (all_len n k is s l hs hl) (all_byt n k is s l h0 h1 hb) (Nat.zero_le _)
  rw [List.drop_zero, show numS (allL n k is s l) 4611686018427387904 = (0, (numL n).length, n) by unfold allL; simp only [List.append_assoc]; exact numS_numL _ h0 h1 (by omega)] at h
  simpa [erN] using h
theorem rd_int (n k : Int) (is : Bool) (s l : List Int) (p : Nat) (v : Value) (w : World) (h0 : 0 ≤ n) (h1 : n ≤ 4611686018427387903) (k0 : 0 ≤ k) (k1 : k ≤ 2305843009213693952) (hs : s.length ≤ 2000) (hl : l.length ≤ 500) (hb : Byt s) (hr : Rd w p v (numL n).length .nilIface) (hv : Slx p bc w v (allL n k is s l)) :
    Calls Tryd.prog 30 #[.pointer (some ⟨p, 0, none⟩), .int .i64 2305843009213693952] w fun x w' => x = .returned (.int .i64 k) ∧ Rd w' p v (numL n ++ intL k).length .nilIface ∧ Bx p w w' := by
  have h := rnum_any p v (allL n k is s l) (numL n).length 2305843009213693952 w hr hv.sl (all_len n k is s l hs hl) (all_byt n k is s l h0 h1 hb) (by unfold allL; simp only [List.length_append]; omega)
  rw [show numS ((allL n k is s l).drop (numL n).length) 2305843009213693952 = (0, (intL k).length, k) by unfold allL; simp only [List.append_assoc]; exact numS_back _ _ k0 (by omega) k1] at h
  refine rint_of p _ _ k w (by omega) (show (2305843009213693952 : Int) = abv' 2305843009213693952 by decide) ⟨k0, by omega⟩ (hide ?_)
  rw [List.length_append]
  simpa [erN] using h
theorem rd_flag (n k : Int) (is : Bool) (s l : List Int) (p : Nat) (v : Value) (w : World) (hs : s.length ≤ 2000) (hl : l.length ≤ 500) (hr : Rd w p v (numL n ++ intL k).length .nilIface) (hv : Slx p bc w v (allL n k is s l)) :
    Calls Tryd.prog 31 #[.pointer (some ⟨p, 0, none⟩)] w fun x w' => x = .returned (.bool is) ∧ Rd w' p v ((numL n ++ intL k) ++ [if is then 1 else 0]).length .nilIface ∧ Bx p w w' := by
  have h := rflag_any p v (allL n k is s l) (numL n ++ intL k).length w hr hv.sl (all_len n k is s l hs hl) (by unfold allL; simp only [List.length_append]; omega)
  rw [show flagS ((allL n k is s l).drop (numL n ++ intL k).length) = (0, 1, is) by
    unfold allL
    rw [List.append_assoc, List.append_assoc, List.drop_left]
    cases is <;> rfl] at h
  have e : ((numL n ++ intL k) ++ [if is then (1 : Int) else 0]).length = (numL n ++ intL k).length + 1 := by rw [List.length_append]; rfl
  rw [e]
  exact h
theorem rd_text (n k : Int) (is : Bool) (s l : List Int) (p : Nat) (v : Value) (w : World) (h0 : 0 ≤ n) (h1 : n ≤ 4611686018427387903) (hs : s.length ≤ 2000) (hl : l.length ≤ 500) (hb : Byt s) (hr : Rd w p v ((numL n ++ intL k) ++ [if is then 1 else 0]).length .nilIface) (hv : Slx p bc w v (allL n k is s l)) :
    Calls Tryd.prog 32 #[.pointer (some ⟨p, 0, none⟩), .int .i64 2000] w fun x w' => ∃ v', x = .returned v' ∧ Sl bc w' v' s ∧ Rd w' p v (((numL n ++ intL k) ++ [if is then 1 else 0]) ++ (intL s.length ++ s)).length .nilIface ∧ Bx p w w' := by
  have h := rtext_any p v (allL n k is s l) ((numL n ++ intL k) ++ [if is then 1 else 0]).length 2000 w hr hv (all_len n k is s l hs hl) (all_byt n k is s l h0 h1 hb) (by unfold allL; simp only [List.length_append]; omega) (by omega)
  have e : textS (allL n k is s l) ((numL n ++ intL k) ++ [if is then 1 else 0]).length 2000 = (0, ⟨#[110, 117, 109]⟩, (((numL n ++ intL k) ++ [if is then 1 else 0]) ++ (intL s.length ++ s)).length, s) := by
    unfold allL
    rw [List.append_assoc (((numL n ++ intL k) ++ _))]
    exact textS_back _ s _ (by omega) (by omega)
  rw [e] at h
  exact h
theorem rd_row (n k : Int) (is : Bool) (s l : List Int) (p : Nat) (v : Value) (w : World) (h0 : 0 ≤ n) (h1 : n ≤ 4611686018427387903) (hs : s.length ≤ 2000) (hl : l.length ≤ 500) (hb : Byt s) (hb2 : ∀ i (hi : i < l.length), 0 ≤ l[i] ∧ l[i] ≤ 2305843009213693952) (hr : Rd w p v (((numL n ++ intL k) ++ [if is then 1 else 0]) ++ (intL s.length ++ s)).length .nilIface) (hv : Slx p bc w v (allL n k is s l)) :
    Calls Tryd.prog 33 #[.pointer (some ⟨p, 0, none⟩), .int .i64 500, .int .i64 2305843009213693952] w fun x w' => ∃ v', x = .returned v' ∧ Sl ic w' v' l ∧ Rd w' p v (allL n k is s l).length .nilIface ∧ Bx p w w' := by
  have h := rrow_any p v (allL n k is s l) (((numL n ++ intL k) ++ [if is then 1 else 0]) ++ (intL s.length ++ s)).length 500 2305843009213693952 w hr hv (all_len n k is s l hs hl) (all_byt n k is s l h0 h1 hb) (by unfold allL; simp only [List.length_append]; omega) (by omega) (by omega)
  have e : rowS (allL n k is s l) (((numL n ++ intL k) ++ [if is then 1 else 0]) ++ (intL s.length ++ s)).length 500 2305843009213693952 = (0, (allL n k is s l).length, l) := by
    unfold allL
    exact rowS_back _ l (by omega) (by omega) (by omega) (fun i hi => ⟨(hb2 i hi).1, by have := (hb2 i hi).2; omega, (hb2 i hi).2⟩)
  rw [e] at h
  exact h
end Go.Proofs.YtfjkahclobnhiaaDoor
