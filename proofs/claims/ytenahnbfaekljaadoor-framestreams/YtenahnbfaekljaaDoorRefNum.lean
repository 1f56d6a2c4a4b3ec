/-
  THE DOCUMENT's NUMBERS AS BYTES (castellanref02.size, Num, Int, Flag): at every number. No condition but that a number fits its kind.
-/
import Derived.Test.YtenahnbfaekljaaDoorSlc
import Derived.Test.YtenahnbfaekljaaDoorWnum
import Derived.Test.YtenahnbfaekljaaDoorProg
import Derived.WalkKit
import Derived.WalkSpells
import Derived.Below
import Derived.WalkSmall
namespace Go.Proofs.YtenahnbfaekljaaDoor
open Go.RowKit



theorem size_1 (n : Int) (w : World) (h : n < 64) : Calls Tryd.prog 73 #[.int .u64 n] w fun e w' => e = .returned (.int .i64 1) ∧ w' = w := by
  go_enter Tryd.func73, Tryd.ntmps73
  go_wp2
  go_ret
  exact ⟨rfl, rfl⟩
theorem size_2 (n : Int) (w : World) (h0 : ¬ n < 64) (h : n < 16384) : Calls Tryd.prog 73 #[.int .u64 n] w fun e w' => e = .returned (.int .i64 2) ∧ w' = w := by
  go_enter Tryd.func73, Tryd.ntmps73
  go_wp2
  go_ret
  exact ⟨rfl, rfl⟩
theorem size_4 (n : Int) (w : World) (h0 : ¬ n < 64) (h1 : ¬ n < 16384) (h : n < 1073741824) : Calls Tryd.prog 73 #[.int .u64 n] w fun e w' => e = .returned (.int .i64 4) ∧ w' = w := by
  go_enter Tryd.func73, Tryd.ntmps73
  go_wp2
  go_ret
  exact ⟨rfl, rfl⟩
theorem size_8 (n : Int) (w : World) (h0 : ¬ n < 64) (h1 : ¬ n < 16384) (h : ¬ n < 1073741824) : Calls Tryd.prog 73 #[.int .u64 n] w fun e w' => e = .returned (.int .i64 8) ∧ w' = w := by
  go_enter Tryd.func73, Tryd.ntmps73
  go_wp2
  go_ret
  exact ⟨rfl, rfl⟩

theorem cells_eq (w : World) (a b : List Int) (h : a = b) : w.alloc (.cells (bv a).toArray 5) = w.alloc (.cells (bv b).toArray 5) := by rw [h]

set_option maxRecDepth 100000 in
set_option maxHeartbeats 4000000 in
theorem num_1 (n : Int) (w : World) (h0 : 0 ≤ n) (h : n < 64) : Calls Tryd.prog 66 #[.int .u64 n] w fun e w' =>
    e = .returned (.slice (some ⟨w.heap.size, 0, none⟩) 1 1) ∧ w' = w.alloc (.cells (bv [n % 256]).toArray 5) := by
  have hmk : ∀ w, (Instr.makeSlice 22 (.int .i64 1) (.int .i64 1)).run Tryd.prog w = .ok (.slice (some ⟨w.heap.size, 0, none⟩) 1 1) (w.alloc (.cells #[.int .u8 0] 5)) := fun _ => by kernel_rfl
  have hcap : ¬ 4611686018427387903 < n := by omega
  go_enter Tryd.func66, Tryd.ntmps66
  go_wp2_with (first | (go_at_call 73; refine (size_1 n _ h).mono ?_; rintro e w' ⟨rfl, rfl⟩))
  refine wp_loop_rounds 2 ?_
  rw [rounds_succ]
  go_wp2
  rw [rounds_succ]
  go_wp2
  refine wp_loop_rounds 1 ?_
  rw [rounds_succ]
  go_wp2
  go_ret
  exact ⟨rfl, rfl⟩

set_option maxRecDepth 100000 in
set_option maxHeartbeats 4000000 in
theorem num_2 (n : Int) (w : World) (h0 : 64 ≤ n) (h : n < 16384) : Calls Tryd.prog 66 #[.int .u64 n] w fun e w' =>
    e = .returned (.slice (some ⟨w.heap.size, 0, none⟩) 2 2) ∧ w' = w.alloc (.cells (bv [n / 256 % 256 + 64, n % 256]).toArray 5) := by
  have hmk : ∀ w, (Instr.makeSlice 22 (.int .i64 2) (.int .i64 2)).run Tryd.prog w = .ok (.slice (some ⟨w.heap.size, 0, none⟩) 2 2) (w.alloc (.cells #[.int .u8 0, .int .u8 0] 5)) := fun _ => by kernel_rfl
  have hcap : ¬ 4611686018427387903 < n := by omega
  go_enter Tryd.func66, Tryd.ntmps66
  go_wp2_with (first | (go_at_call 73; refine (size_2 n _ (by omega) h).mono ?_; rintro e w' ⟨rfl, rfl⟩))
  refine wp_loop_rounds 3 ?_
  rw [rounds_succ]
  go_wp2
  rw [rounds_succ]
  go_wp2
  rw [rounds_succ]
  go_wp2
  refine wp_loop_rounds 2 ?_
  rw [rounds_succ]
  go_wp2
  rw [rounds_succ]
  go_wp2
  go_ret
  exact ⟨rfl, rfl⟩

set_option maxRecDepth 100000 in
set_option maxHeartbeats 4000000 in
theorem num_4 (n : Int) (w : World) (h0 : 16384 ≤ n) (h : n < 1073741824) : Calls Tryd.prog 66 #[.int .u64 n] w fun e w' =>
    e = .returned (.slice (some ⟨w.heap.size, 0, none⟩) 4 4) ∧ w' = w.alloc (.cells (bv [n / 256 / 256 / 256 % 256 + 128, n / 256 / 256 % 256, n / 256 % 256, n % 256]).toArray 5) := by
  have hmk : ∀ w, (Instr.makeSlice 22 (.int .i64 4) (.int .i64 4)).run Tryd.prog w = .ok (.slice (some ⟨w.heap.size, 0, none⟩) 4 4) (w.alloc (.cells #[.int .u8 0, .int .u8 0, .int .u8 0, .int .u8 0] 5)) := fun _ => by kernel_rfl
  have hcap : ¬ 4611686018427387903 < n := by omega
  go_enter Tryd.func66, Tryd.ntmps66
  go_wp2_with (first | (go_at_call 73; refine (size_4 n _ (by omega) (by omega) h).mono ?_; rintro e w' ⟨rfl, rfl⟩))
  refine wp_loop_rounds 5 ?_
  rw [rounds_succ]
  go_wp2
  rw [rounds_succ]
  go_wp2
  rw [rounds_succ]
  go_wp2
  rw [rounds_succ]
  go_wp2
  rw [rounds_succ]
  go_wp2
  refine wp_loop_rounds 3 ?_
  rw [rounds_succ]
  go_wp2
  rw [rounds_succ]
  go_wp2
  rw [rounds_succ]
  go_wp2
  go_ret
  exact ⟨rfl, rfl⟩

set_option maxRecDepth 100000 in
set_option maxHeartbeats 4000000 in
theorem num_8 (n : Int) (w : World) (h0 : 1073741824 ≤ n) (h : n ≤ 4611686018427387903) : Calls Tryd.prog 66 #[.int .u64 n] w fun e w' =>
    e = .returned (.slice (some ⟨w.heap.size, 0, none⟩) 8 8) ∧ w' = w.alloc (.cells (bv [n / 256 / 256 / 256 / 256 / 256 / 256 / 256 % 256 + 192, n / 256 / 256 / 256 / 256 / 256 / 256 % 256, n / 256 / 256 / 256 / 256 / 256 % 256, n / 256 / 256 / 256 / 256 % 256, n / 256 / 256 / 256 % 256, n / 256 / 256 % 256, n / 256 % 256, n % 256]).toArray 5) := by
  have hmk : ∀ w, (Instr.makeSlice 22 (.int .i64 8) (.int .i64 8)).run Tryd.prog w = .ok (.slice (some ⟨w.heap.size, 0, none⟩) 8 8) (w.alloc (.cells #[.int .u8 0, .int .u8 0, .int .u8 0, .int .u8 0, .int .u8 0, .int .u8 0, .int .u8 0, .int .u8 0] 5)) := fun _ => by kernel_rfl
  have hcap : ¬ 4611686018427387903 < n := by omega
  go_enter Tryd.func66, Tryd.ntmps66
  go_wp2_with (first | (go_at_call 73; refine (size_8 n _ (by omega) (by omega) (by omega)).mono ?_; rintro e w' ⟨rfl, rfl⟩))
  refine wp_loop_rounds 9 ?_
  rw [rounds_succ]
  go_wp2
  rw [rounds_succ]
  go_wp2
  rw [rounds_succ]
  go_wp2
  rw [rounds_succ]
  go_wp2
  rw [rounds_succ]
  go_wp2
  rw [rounds_succ]
  go_wp2
  rw [rounds_succ]
  go_wp2
  rw [rounds_succ]
  go_wp2
  rw [rounds_succ]
  go_wp2
  refine wp_loop_rounds 4 ?_
  rw [rounds_succ]
  go_wp2
  rw [rounds_succ]
  go_wp2
  rw [rounds_succ]
  go_wp2
  rw [rounds_succ]
  go_wp2
  go_ret
  exact ⟨rfl, rfl⟩

set_option maxRecDepth 100000 in
set_option maxHeartbeats 4000000 in
theorem num_cap (n : Int) (w : World) (h : 4611686018427387903 < n) : Calls Tryd.prog 66 #[.int .u64 n] w fun e w' =>
    e = .returned (.slice (some ⟨w.heap.size, 0, none⟩) 8 8) ∧ w' = w.alloc (.cells (bv [255, 255, 255, 255, 255, 255, 255, 255]).toArray 5) := by
  have hmk : ∀ w, (Instr.makeSlice 22 (.int .i64 8) (.int .i64 8)).run Tryd.prog w = .ok (.slice (some ⟨w.heap.size, 0, none⟩) 8 8) (w.alloc (.cells #[.int .u8 0, .int .u8 0, .int .u8 0, .int .u8 0, .int .u8 0, .int .u8 0, .int .u8 0, .int .u8 0] 5)) := fun _ => by kernel_rfl
  go_enter Tryd.func66, Tryd.ntmps66
  go_wp2_with (first | (go_at_call 73; refine (size_8 4611686018427387903 _ (by omega) (by omega) (by omega)).mono ?_; rintro e w' ⟨rfl, rfl⟩))
  refine wp_loop_rounds 9 ?_
  rw [rounds_succ]
  go_wp2
  rw [rounds_succ]
  go_wp2
  rw [rounds_succ]
  go_wp2
  rw [rounds_succ]
  go_wp2
  rw [rounds_succ]
  go_wp2
  rw [rounds_succ]
  go_wp2
  rw [rounds_succ]
  go_wp2
  rw [rounds_succ]
  go_wp2
  rw [rounds_succ]
  go_wp2
  refine wp_loop_rounds 4 ?_
  rw [rounds_succ]
  go_wp2
  rw [rounds_succ]
  go_wp2
  rw [rounds_succ]
  go_wp2
  rw [rounds_succ]
  go_wp2
  go_ret
  exact ⟨rfl, rfl⟩

theorem numL_2 {n : Int} (h0 : 64 ≤ n) (h : n < 16384) : [n / 256 % 256 + 64, n % 256] = numL n := by
  rw [numL, if_neg (by omega), if_pos h]
  rw [show n / 256 % 256 = n / 256 by omega]
theorem numL_4 {n : Int} (h0 : 16384 ≤ n) (h : n < 1073741824) : [n / 256 / 256 / 256 % 256 + 128, n / 256 / 256 % 256, n / 256 % 256, n % 256] = numL n := by
  rw [numL, if_neg (by omega), if_neg (by omega), if_pos h]
  rw [show n / 256 / 256 / 256 % 256 = n / 16777216 by omega, show n / 256 / 256 % 256 = n / 65536 % 256 by omega]
theorem numL_8 {n : Int} (h0 : 1073741824 ≤ n) (h : n ≤ 4611686018427387903) :
    [n / 256 / 256 / 256 / 256 / 256 / 256 / 256 % 256 + 192, n / 256 / 256 / 256 / 256 / 256 / 256 % 256, n / 256 / 256 / 256 / 256 / 256 % 256, n / 256 / 256 / 256 / 256 % 256, n / 256 / 256 / 256 % 256, n / 256 / 256 % 256, n / 256 % 256, n % 256] = numL n := by
  rw [numL, if_neg (by omega), if_neg (by omega), if_neg (by omega)]
  rw [show n / 256 / 256 / 256 / 256 / 256 / 256 / 256 % 256 = n / 72057594037927936 by omega, show n / 256 / 256 / 256 / 256 / 256 / 256 % 256 = n / 281474976710656 % 256 by omega, show n / 256 / 256 / 256 / 256 / 256 % 256 = n / 1099511627776 % 256 by omega,
    show n / 256 / 256 / 256 / 256 % 256 = n / 4294967296 % 256 by omega, show n / 256 / 256 / 256 % 256 = n / 16777216 % 256 by omega, show n / 256 / 256 % 256 = n / 65536 % 256 by omega]

/-- A number's bytes lie in new memory. -/
theorem refNum_any (n : Int) (w : World) (h0 : 0 ≤ n) : Calls Tryd.prog 66 #[.int .u64 n] w fun e w' =>
    e = .returned (.slice (some ⟨w.heap.size, 0, none⟩) (numL (capN n)).length (numL (capN n)).length) ∧ w' = w.alloc (.cells (bv (numL (capN n))).toArray 5) := by
  by_cases hc : 4611686018427387903 < n
  · have e1 : capN n = 4611686018427387903 := if_pos hc
    have e2 : numL 4611686018427387903 = [255, 255, 255, 255, 255, 255, 255, 255] := by decide
    rw [e1, e2]
    exact num_cap n w hc
  · have e1 : capN n = n := if_neg hc
    rw [e1]
    by_cases h1 : n < 64
    · have e2 : numL n = [n % 256] := by rw [numL, if_pos h1, show n % 256 = n by omega]
      rw [e2]
      exact num_1 n w h0 h1
    · by_cases h2 : n < 16384
      · rw [← numL_2 (by omega) h2]; exact num_2 n w (by omega) h2
      · by_cases h3 : n < 1073741824
        · rw [← numL_4 (by omega) h3]; exact num_4 n w (by omega) h3
        · rw [← numL_8 (by omega) (by omega)]; exact num_8 n w (by omega) (by omega)

theorem refInt_any (n : Int) (w : World) (hn : n ≤ 9223372036854775807) : Calls Tryd.prog 45 #[.int .i64 n] w fun e w' =>
    e = .returned (.slice (some ⟨w.heap.size, 0, none⟩) (intL n).length (intL n).length) ∧ w' = w.alloc (.cells (bv (intL n)).toArray 5) := by
  by_cases h : n < 0
  · have e1 : intL n = [0] := if_pos h
    rw [e1]
    go_enter Tryd.func45, Tryd.ntmps45
    go_wp2
    go_ret
    exact ⟨rfl, rfl⟩
  · have e1 : intL n = numL (capN n) := if_neg h
    rw [e1]
    have HC := hide (refNum_any n w (by omega))
    generalize numL (capN n) = L at *
    go_enter Tryd.func45, Tryd.ntmps45
    go_wp2_with (first | (go_at_call 66; refine (HC.out).mono ?_; rintro e w' ⟨rfl, rfl⟩))
    go_ret
    exact ⟨rfl, rfl⟩
end Go.Proofs.YtenahnbfaekljaaDoor
