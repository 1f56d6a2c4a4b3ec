/-
  IS AN ERROR SUCH A ONE, OF SUCH WORDS, AT SUCH A PLACE (castellanlaw04.wrong): yes, where it is. Condition: errors.errorType holds the handle of the type error.
-/
import Derived.Test.YtenahnbfaekljaaDoorMQ
import Derived.Test.YtenahnbfaekljaaDoorMF
namespace Go.Proofs.YtenahnbfaekljaaDoor
open Go.RowKit

theorem fwrong_nil (op : ByteArray) (wh : Int) (w : World) : Calls Tryd.prog 15 #[.nilIface, .int .i64 0, .string op, .int .i64 wh] w fun e w' => e = .returned (.bool true) ∧ Below w.heap.size w w' := by
  go_enter Tryd.func15, Tryd.ntmps15
  go_wp2
  go_ret
  exact ⟨rfl, Below.refl _ _⟩
set_option maxRecDepth 100000 in
set_option maxHeartbeats 8000000 in
theorem fwrong_some (s : ByteArray × Int) (l : List (ByteArray × Int)) (c : Int) (op : ByteArray) (w : World) (hg : Hnd w) (hop : hasB ((s :: l).map (·.1)) op = true) (hl : l.length ≤ 900) :
    Calls Tryd.prog 15 #[ev (some (s :: l, c)), .int .i64 c, .string op, .int .i64 s.2] w fun e w' => e = .returned (.bool true) ∧ Below w.heap.size w w' := by
  have G0 := hide hg
  have hof := fun W h => of_ev (some (s :: l, c)) W h
  have hwe := fun W h => where_ev (some (s :: l, c)) W h
  have hun := fun W h => under_ev (some (s :: l, c)) op W h (by simp [stV]; omega)
  rw [show inV (stV (some (s :: l, c))) = true from rfl, show atV (stV (some (s :: l, c))) = s.2 from rfl] at hwe
  rw [show ofV (some (s :: l, c)) = c from rfl] at hof
  rw [show stV (some (s :: l, c)) = s :: l from rfl, hop] at hun
  obtain ⟨T, U, hU⟩ := chn_form (s :: l) c
  simp only [ev, hU] at hof hwe hun ⊢
  have HOF := hide hof
  have HWE := hide hwe
  have HUN := hide hun
  clear hof hwe hun hg hU
  go_enter Tryd.func15, Tryd.ntmps15
  go_wp2_with (first
    | (go_at_call 10; refine (HWE.out _ G0.out).mono ?_; rintro e w1 ⟨rfl, hb1⟩; have G1 := hide (G0.out.below hb1); have HB1 := hide hb1; clear hb1)
    | (go_at_call 11; refine (HOF.out _ G1.out).mono ?_; rintro e w2 ⟨rfl, hb2⟩; have G2 := hide (G1.out.below hb2); have HB2 := hide (bt HB1.out hb2); clear hb2)
    | (go_at_call 21; refine (HUN.out _ G2.out).mono ?_; rintro e w3 ⟨rfl, hb3⟩; have HB3 := hide (bt HB2.out hb3); clear hb3))
  go_ret
  exact ⟨rfl, HB3.out⟩
theorem hasB_self (s : ByteArray) (l r : List ByteArray) : hasB (l ++ s :: r) s = true := by simp [hasB]
theorem nextS_six (l : List Int) : (nextS l).op.data.size = 6 → (nextS l).wh = 2 := by
  unfold nextS
  split
  · intro h; exact absurd h (by decide)
  split
  · intro h; exact absurd h (by decide)
  split
  · intro h; exact absurd h (by decide)
  split
  · intro h; exact absurd h (by decide)
  split
  · intro h; exact absurd h (by decide)
  unfold nextT
  split
  · intro h; exact absurd h (by decide)
  split
  · intro _; rfl
  split
  · intro h; exact absurd h (by decide)
  split
  · intro h; exact absurd h (by simp)
  · intro h; exact absurd h (by simp)
/-- What is wrong with a frame. -/
theorem fwrong_f (l : List Int) (w : World) (hg : Hnd w) : Calls Tryd.prog 15 #[ev (errF (nextS l)), .int .i64 (nextS l).c, .string (nextS l).op, .int .i64 ((nextS l).wh : Int)] w fun e w' => e = .returned (.bool true) ∧ Below w.heap.size w w' := by
  unfold errF
  by_cases hc : (nextS l).c = 0
  · rw [if_pos hc, hc]
    exact fwrong_nil _ _ w
  · rw [if_neg hc]
    by_cases h6 : (nextS l).op.data.size = 6
    · rw [if_pos h6, nextS_six l h6]
      exact fwrong_some ((nextS l).op, 2) _ _ _ w hg (by simp [hasB]) (by simp)
    · rw [if_neg h6]
      exact fwrong_some ((nextS l).op, ((nextS l).wh : Int)) [] _ _ w hg (by simp [hasB]) (by simp)
/-- What is wrong with a stream. -/
theorem fwrong_s (a : Nat) (A : List Int) (n : Nat) (hc : (nextS (A.drop n)).c ≠ 0) (w : World) (hg : Hnd w) : Calls Tryd.prog 15 #[ev (errS a A n), .int .i64 (nextS (A.drop n)).c, .string (nextS (A.drop n)).op, .int .i64 ((a + n : Nat) : Int)] w fun e w' => e = .returned (.bool true) ∧ Below w.heap.size w w' := by
  unfold errS errF
  rw [if_neg hc]
  by_cases h6 : (nextS (A.drop n)).op.data.size = 6
  · rw [if_pos h6]
    exact fwrong_some (⟨#[102, 114, 97, 109, 101]⟩, ((a + n : Nat) : Int)) _ _ _ w hg (by simp [hasB]) (by simp)
  · rw [if_neg h6]
    exact fwrong_some (⟨#[102, 114, 97, 109, 101]⟩, ((a + n : Nat) : Int)) _ _ _ w hg (by simp [hasB]) (by simp)
end Go.Proofs.YtenahnbfaekljaaDoor
