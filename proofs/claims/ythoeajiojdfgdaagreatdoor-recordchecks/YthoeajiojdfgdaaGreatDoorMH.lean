/-
  THE DOCUMENT's NUMBERS AS BYTES (castellanref02.size, Num, Int, Flag): at every number. No condition but that a number fits its kind.
  THE DOCUMENT's TEXTS AND ROWS AS BYTES (castellanref02.Text, Row), and its Same and Ints, where both lists are the same. Conditions: the slices' cells hold the lists, and no more than four thousand elements.
-/
import Derived.Test.YthoeajiojdfgdaaGreatDoorMA
import Derived.Test.YthoeajiojdfgdaaGreatDoorProg
import Derived.WalkKit
import Derived.WalkSpells
import Derived.Below
import Derived.WalkSmall
import Derived.Test.YthoeajiojdfgdaaGreatDoorMB
import Derived.Deep.QuietTactic
import Derived.BigQuiet
namespace Go.Proofs.YthoeajiojdfgdaaGreatDoor
open Go.RowKit



theorem size_1 (n : Int) (w : World) (h : n < 64) : Calls Tryz.prog 117 #[.int .u64 n] w fun e w' => e = .returned (.int .i64 1) ∧ w' = w := by
  go_enter Tryz.func117, Tryz.ntmps117
  go_wp2
  go_ret
  exact ⟨rfl, rfl⟩
theorem size_2 (n : Int) (w : World) (h0 : ¬ n < 64) (h : n < 16384) : Calls Tryz.prog 117 #[.int .u64 n] w fun e w' => e = .returned (.int .i64 2) ∧ w' = w := by
  go_enter Tryz.func117, Tryz.ntmps117
  go_wp2
  go_ret
  exact ⟨rfl, rfl⟩
theorem size_4 (n : Int) (w : World) (h0 : ¬ n < 64) (h1 : ¬ n < 16384) (h : n < 1073741824) : Calls Tryz.prog 117 #[.int .u64 n] w fun e w' => e = .returned (.int .i64 4) ∧ w' = w := by
  go_enter Tryz.func117, Tryz.ntmps117
  go_wp2
  go_ret
  exact ⟨rfl, rfl⟩
theorem size_8 (n : Int) (w : World) (h0 : ¬ n < 64) (h1 : ¬ n < 16384) (h : ¬ n < 1073741824) : Calls Tryz.prog 117 #[.int .u64 n] w fun e w' => e = .returned (.int .i64 8) ∧ w' = w := by
  go_enter Tryz.func117, Tryz.ntmps117
  go_wp2
  go_ret
  exact ⟨rfl, rfl⟩

theorem cells_eq (w : World) (a b : List Int) (h : a = b) : w.alloc (.cells (bv a).toArray 5) = w.alloc (.cells (bv b).toArray 5) := by rw [h]

set_option maxRecDepth 100000 in
set_option maxHeartbeats 4000000 in
theorem num_1 (n : Int) (w : World) (h0 : 0 ≤ n) (h : n < 64) : Calls Tryz.prog 103 #[.int .u64 n] w fun e w' =>
    e = .returned (.slice (some ⟨w.heap.size, 0, none⟩) 1 1) ∧ w' = w.alloc (.cells (bv [n % 256]).toArray 5) := by
  have hmk : ∀ w, (Instr.makeSlice 39 (.int .i64 1) (.int .i64 1)).run Tryz.prog w = .ok (.slice (some ⟨w.heap.size, 0, none⟩) 1 1) (w.alloc (.cells #[.int .u8 0] 5)) := fun _ => by kernel_rfl
  have hcap : ¬ 4611686018427387903 < n := by omega
  go_enter Tryz.func103, Tryz.ntmps103
  go_wp2_with (first | (go_at_call 117; refine (size_1 n _ h).mono ?_; rintro e w' ⟨rfl, rfl⟩))
  refine wp_loop_rounds 2 ?_
  rw [rounds_succ]
  go_wp2
  rw [rounds_succ]
  go_wp2
  refine wp_loop_rounds 1 ?_
  rw [rounds_succ]
  go_wp2
  go_ret
  exact ⟨rfl, rfl⟩

set_option maxRecDepth 100000 in
set_option maxHeartbeats 4000000 in
theorem num_2 (n : Int) (w : World) (h0 : 64 ≤ n) (h : n < 16384) : Calls Tryz.prog 103 #[.int .u64 n] w fun e w' =>
    e = .returned (.slice (some ⟨w.heap.size, 0, none⟩) 2 2) ∧ w' = w.alloc (.cells (bv [n / 256 % 256 + 64, n % 256]).toArray 5) := by
  have hmk : ∀ w, (Instr.makeSlice 39 (.int .i64 2) (.int .i64 2)).run Tryz.prog w = .ok (.slice (some ⟨w.heap.size, 0, none⟩) 2 2) (w.alloc (.cells #[.int .u8 0, .int .u8 0] 5)) := fun _ => by kernel_rfl
  have hcap : ¬ 4611686018427387903 < n := by omega
  go_enter Tryz.func103, Tryz.ntmps103
  go_wp2_with (first | (go_at_call 117; refine (size_2 n _ (by omega) h).mono ?_; rintro e w' ⟨rfl, rfl⟩))
  refine wp_loop_rounds 3 ?_
  rw [rounds_succ]
  go_wp2
  rw [rounds_succ]
  go_wp2
  rw [rounds_succ]
  go_wp2
  refine wp_loop_rounds 2 ?_
  rw [rounds_succ]
  go_wp2
  rw [rounds_succ]
  go_wp2
  go_ret
  exact ⟨rfl, rfl⟩

set_option maxRecDepth 100000 in
set_option maxHeartbeats 4000000 in
theorem num_4 (n : Int) (w : World) (h0 : 16384 ≤ n) (h : n < 1073741824) : Calls Tryz.prog 103 #[.int .u64 n] w fun e w' =>
    e = .returned (.slice (some ⟨w.heap.size, 0, none⟩) 4 4) ∧ w' = w.alloc (.cells (bv [n / 256 / 256 / 256 % 256 + 128, n / 256 / 256 % 256, n / 256 % 256, n % 256]).toArray 5) := by
  have hmk : ∀ w, (Instr.makeSlice 39 (.int .i64 4) (.int .i64 4)).run Tryz.prog w = .ok (.slice (some ⟨w.heap.size, 0, none⟩) 4 4) (w.alloc (.cells #[.int .u8 0, .int .u8 0, .int .u8 0, .int .u8 0] 5)) := fun _ => by kernel_rfl
  have hcap : ¬ 4611686018427387903 < n := by omega
  go_enter Tryz.func103, Tryz.ntmps103
  go_wp2_with (first | (go_at_call 117; refine (size_4 n _ (by omega) (by omega) h).mono ?_; rintro e w' ⟨rfl, rfl⟩))
  refine wp_loop_rounds 5 ?_
  rw [rounds_succ]
  go_wp2
  rw [rounds_succ]
  go_wp2
  rw [rounds_succ]
  go_wp2
  rw [rounds_succ]
  go_wp2
  rw [rounds_succ]
  go_wp2
  refine wp_loop_rounds 3 ?_
  rw [rounds_succ]
  go_wp2
  rw [rounds_succ]
  go_wp2
  rw [rounds_succ]
  go_wp2
  go_ret
  exact ⟨rfl, rfl⟩

set_option maxRecDepth 100000 in
set_option maxHeartbeats 4000000 in
theorem num_8 (n : Int) (w : World) (h0 : 1073741824 ≤ n) (h : n ≤ 4611686018427387903) : Calls Tryz.prog 103 #[.int .u64 n] w fun e w' =>
    e = .returned (.slice (some ⟨w.heap.size, 0, none⟩) 8 8) ∧ w' = w.alloc (.cells (bv [n / 256 / 256 / 256 / 256 / 256 / 256 / 256 % 256 + 192, n / 256 / 256 / 256 / 256 / 256 / 256 % 256, n / 256 / 256 / 256 / 256 / 256 % 256, n / 256 / 256 / 256 / 256 % 256, n / 256 / 256 / 256 % 256, n / 256 / 256 % 256, n / 256 % 256, n % 256]).toArray 5) := by
  have hmk : ∀ w, (Instr.makeSlice 39 (.int .i64 8) (.int .i64 8)).run Tryz.prog w = .ok (.slice (some ⟨w.heap.size, 0, none⟩) 8 8) (w.alloc (.cells #[.int .u8 0, .int .u8 0, .int .u8 0, .int .u8 0, .int .u8 0, .int .u8 0, .int .u8 0, .int .u8 0] 5)) := fun _ => by kernel_rfl
  have hcap : ¬ 4611686018427387903 < n := by omega
  go_enter Tryz.func103, Tryz.ntmps103
  go_wp2_with (first | (go_at_call 117; refine (size_8 n _ (by omega) (by omega) (by omega)).mono ?_; rintro e w' ⟨rfl, rfl⟩))
  refine wp_loop_rounds 9 ?_
  rw [rounds_succ]
  go_wp2
  rw [rounds_succ]
  go_wp2
  rw [rounds_succ]
  go_wp2
  rw [rounds_succ]
  go_wp2
  rw [rounds_succ]
  go_wp2
  rw [rounds_succ]
  go_wp2
  rw [rounds_succ]
  go_wp2
  rw [rounds_succ]
  go_wp2
  rw [rounds_succ]
  go_wp2
  refine wp_loop_rounds 4 ?_
  rw [rounds_succ]
  go_wp2
  rw [rounds_succ]
  go_wp2
  rw [rounds_succ]
  go_wp2
  rw [rounds_succ]
  go_wp2
  go_ret
  exact ⟨rfl, rfl⟩

set_option maxRecDepth 100000 in
set_option maxHeartbeats 4000000 in
theorem num_cap (n : Int) (w : World) (h : 4611686018427387903 < n) : Calls Tryz.prog 103 #[.int .u64 n] w fun e w' =>
    e = .returned (.slice (some ⟨w.heap.size, 0, none⟩) 8 8) ∧ w' = w.alloc (.cells (bv [255, 255, 255, 255, 255, 255, 255, 255]).toArray 5) := by
  have hmk : ∀ w, (Instr.makeSlice 39 (.int .i64 8) (.int .i64 8)).run Tryz.prog w = .ok (.slice (some ⟨w.heap.size, 0, none⟩) 8 8) (w.alloc (.cells #[.int .u8 0, .int .u8 0, .int .u8 0, .int .u8 0, .int .u8 0, .int .u8 0, .int .u8 0, .int .u8 0] 5)) := fun _ => by kernel_rfl
  go_enter Tryz.func103, Tryz.ntmps103
  go_wp2_with (first | (go_at_call 117; refine (size_8 4611686018427387903 _ (by omega) (by omega) (by omega)).mono ?_; rintro e w' ⟨rfl, rfl⟩))
  refine wp_loop_rounds 9 ?_
  rw [rounds_succ]
  go_wp2
  rw [rounds_succ]
  go_wp2
  rw [rounds_succ]
  go_wp2
  rw [rounds_succ]
  go_wp2
  rw [rounds_succ]
  go_wp2
  rw [rounds_succ]
  go_wp2
  rw [rounds_succ]
  go_wp2
  rw [rounds_succ]
  go_wp2
  rw [rounds_succ]
  go_wp2
  refine wp_loop_rounds 4 ?_
  rw [rounds_succ]
  go_wp2
  rw [rounds_succ]
  go_wp2
  rw [rounds_succ]
  go_wp2
  rw [rounds_succ]
  go_wp2
  go_ret
  exact ⟨rfl, rfl⟩

theorem numL_2 {n : Int} (h0 : 64 ≤ n) (h : n < 16384) : [n / 256 % 256 + 64, n % 256] = numL n := by
  rw [numL, if_neg (by omega), if_pos h]
  rw [show n / 256 % 256 = n / 256 by omega]
theorem numL_4 {n : Int} (h0 : 16384 ≤ n) (h : n < 1073741824) : [n / 256 / 256 / 256 % 256 + 128, n / 256 / 256 % 256, n / 256 % 256, n % 256] = numL n := by
  rw [numL, if_neg (by omega), if_neg (by omega), if_pos h]
  rw [show n / 256 / 256 / 256 % 256 = n / 16777216 by omega, show n / 256 / 256 % 256 = n / 65536 % 256 by omega]
theorem numL_8 {n : Int} (h0 : 1073741824 ≤ n) (h : n ≤ 4611686018427387903) :
    [n / 256 / 256 / 256 / 256 / 256 / 256 / 256 % 256 + 192, n / 256 / 256 / 256 / 256 / 256 / 256 % 256, n / 256 / 256 / 256 / 256 / 256 % 256, n / 256 / 256 / 256 / 256 % 256, n / 256 / 256 / 256 % 256, n / 256 / 256 % 256, n / 256 % 256, n % 256] = numL n := by
  rw [numL, if_neg (by omega), if_neg (by omega), if_neg (by omega)]
  rw [show n / 256 / 256 / 256 / 256 / 256 / 256 / 256 % 256 = n / 72057594037927936 by omega, show n / 256 / 256 / 256 / 256 / 256 / 256 % 256 = n / 281474976710656 % 256 by omega, show n / 256 / 256 / 256 / 256 / 256 % 256 = n / 1099511627776 % 256 by omega,
    show n / 256 / 256 / 256 / 256 % 256 = n / 4294967296 % 256 by omega, show n / 256 / 256 / 256 % 256 = n / 16777216 % 256 by omega, show n / 256 / 256 % 256 = n / 65536 % 256 by omega]

/-- A number's bytes lie in new memory. -/
theorem refNum_any (n : Int) (w : World) (h0 : 0 ≤ n) : Calls Tryz.prog 103 #[.int .u64 n] w fun e w' =>
    e = .returned (.slice (some ⟨w.heap.size, 0, none⟩) (numL (capN n)).length (numL (capN n)).length) ∧ w' = w.alloc (.cells (bv (numL (capN n))).toArray 5) := by
  by_cases hc : 4611686018427387903 < n
  · have e1 : capN n = 4611686018427387903 := if_pos hc
    have e2 : numL 4611686018427387903 = [255, 255, 255, 255, 255, 255, 255, 255] := by decide
    rw [e1, e2]
    exact num_cap n w hc
  · have e1 : capN n = n := if_neg hc
    rw [e1]
    by_cases h1 : n < 64
    · have e2 : numL n = [n % 256] := by rw [numL, if_pos h1, show n % 256 = n by omega]
      rw [e2]
      exact num_1 n w h0 h1
    · by_cases h2 : n < 16384
      · rw [← numL_2 (by omega) h2]; exact num_2 n w (by omega) h2
      · by_cases h3 : n < 1073741824
        · rw [← numL_4 (by omega) h3]; exact num_4 n w (by omega) h3
        · rw [← numL_8 (by omega) (by omega)]; exact num_8 n w (by omega) (by omega)

theorem refInt_any (n : Int) (w : World) (hn : n ≤ 9223372036854775807) : Calls Tryz.prog 85 #[.int .i64 n] w fun e w' =>
    e = .returned (.slice (some ⟨w.heap.size, 0, none⟩) (intL n).length (intL n).length) ∧ w' = w.alloc (.cells (bv (intL n)).toArray 5) := by
  by_cases h : n < 0
  · have e1 : intL n = [0] := if_pos h
    rw [e1]
    go_enter Tryz.func85, Tryz.ntmps85
    go_wp2
    go_ret
    exact ⟨rfl, rfl⟩
  · have e1 : intL n = numL (capN n) := if_neg h
    rw [e1]
    have HC := hide (refNum_any n w (by omega))
    generalize numL (capN n) = L at *
    go_enter Tryz.func85, Tryz.ntmps85
    go_wp2_with (first | (go_at_call 103; refine (HC.out).mono ?_; rintro e w' ⟨rfl, rfl⟩))
    go_ret
    exact ⟨rfl, rfl⟩
theorem refFlag_any (is : Bool) (w : World) : Calls Tryz.prog 58 #[.bool is] w fun e w' =>
    e = .returned (.slice (some ⟨w.heap.size, 0, none⟩) 1 1) ∧ w' = w.alloc (.cells (bv [if is then 1 else 0]).toArray 5) := by
  cases is
  · go_enter Tryz.func58, Tryz.ntmps58
    go_wp2
    go_ret
    exact ⟨rfl, rfl⟩
  · go_enter Tryz.func58, Tryz.ntmps58
    go_wp2
    go_ret
    exact ⟨rfl, rfl⟩
end Go.Proofs.YthoeajiojdfgdaaGreatDoor
namespace Go.Proofs.YthoeajiojdfgdaaGreatDoor
open Go.RowKit

theorem info5 : (Tryz.prog.info? 5).map (fun i => (i.zero, i.size, i.bytes)) = some (some (.int .u8 0), 1, 1) := by kernel_rfl
theorem refInt_owns (n : Int) (w : World) (hn : n ≤ 9223372036854775807) : Calls Tryz.prog 85 #[.int .i64 n] w fun e w' =>
    ∃ v, e = .returned v ∧ w'.ownsRow w.heap.size 5 1 v (intL n).length (bv (intL n)) ∧ Below w.heap.size w w' := by
  refine (refInt_any n w hn).mono ?_
  rintro e w' ⟨rfl, rfl⟩
  have h := owns_new w (bv (intL n)) 5 (by have := intL_le n; unfold maxLen; simp [bv]; omega)
  rw [show (bv (intL n)).length = (intL n).length by simp [bv]] at h
  exact ⟨_, rfl, h, (Below.refl _ _).alloc (Nat.le_refl _) _⟩

set_option maxHeartbeats 4000000 in
theorem refText_some (b o cap : Nat) (l : List Int) (w : World) (hl : l.length ≤ 4000) (h3 : ∀ i (h : i < l.length), w.cell? ⟨b, o + i, none⟩ = some (bc l[i])) :
    Calls Tryz.prog 86 #[.slice (some ⟨b, o, none⟩) l.length cap] w fun e w' => ∃ v, e = .returned v ∧ w'.ownsRow w.heap.size 5 1 v ((intL l.length).length + l.length) (bv (intL l.length ++ l)) ∧ Below w.heap.size w w' := by
  obtain ⟨i0, hi, hz0, hz1, hz2⟩ := info_parts info5
  have HC := hide (refInt_owns l.length w (by omega))
  have HL := hide (intL_le l.length)
  have H3 := hide h3
  clear h3
  go_enter Tryz.func86, Tryz.ntmps86
  go_wp2_with fail
  refine (HC.out).mono ?_
  rintro e w1 ⟨v, rfl, hown, hb⟩
  have HN := hide (Sl.news (f := bc) (w := w1) (b := b) (o := o) (l := l) fun i hi => by rw [hb.cell (p := ⟨b, o + i, none⟩) (cell_block (H3.out i hi))]; exact H3.out i hi)
  have hz := hb.size
  generalize hL : intL (l.length : Int) = L at *
  have HLq := hide hL
  clear hL
  go_wp2_with (first
    | (at_builtin; refine wpList_append_own _ rfl _ _ 39 rfl w.heap.size 5 i0 (.int .u8 0) 1 1 Tryz.underlying39 hi hz0 hz1 hz2 rfl (by decide) _ _ _ rfl hown ⟨b, o, none⟩ l.length cap (l.map bc) rfl (by simp) HN.out (Sl.one (fun _ => rfl) l) ?c3 ?c4 ?c5 ?_))
  case c3 => have := HL.out; unfold maxLen; omega
  case c4 => have := HL.out; omega
  case c5 => omega
  · intro v' w2 hown' hgrow _
    have hB : Below w.heap.size w w2 := hb.grown hgrow hz (fun j hj => (hown.lt j hj).1)
    have HO := hide hown'
    clear hown' hgrow hown hb
    go_wp2
    go_ret
    exact ⟨v', rfl, by rw [HLq.out, bv_eq, List.map_append]; exact HO.out, hB⟩

set_option maxHeartbeats 4000000 in
theorem refText_empty (ao : Option Addr) (cap : Nat) (w : World) :
    Calls Tryz.prog 86 #[.slice ao 0 cap] w fun e w' => ∃ v, e = .returned v ∧ w'.ownsRow w.heap.size 5 1 v 1 (bv [0]) ∧ Below w.heap.size w w' := by
  have HC := hide (refInt_any 0 w (by omega))
  rw [show intL 0 = [0] by decide] at HC
  go_enter Tryz.func86, Tryz.ntmps86
  go_wp2_with fail
  refine (HC.out).mono ?_
  rintro e w1 ⟨rfl, rfl⟩
  cases ao with
  | none =>
    go_wp2
    go_ret
    exact ⟨_, rfl, owns_new w (bv [0]) 5 (by decide), (Below.refl _ _).alloc (Nat.le_refl _) _⟩
  | some a =>
    go_wp2
    go_ret
    exact ⟨_, rfl, owns_new w (bv [0]) 5 (by decide), (Below.refl _ _).alloc (Nat.le_refl _) _⟩

theorem refText_any (v : Value) (l : List Int) (w : World) (hv : Sl bc w v l) (hl : l.length ≤ 4000) :
    Calls Tryz.prog 86 #[v] w fun e w' => ∃ v, e = .returned v ∧ w'.ownsRow w.heap.size 5 1 v ((intL l.length).length + l.length) (bv (intL l.length ++ l)) ∧ Below w.heap.size w w' := by
  rcases hv with ⟨ao, cap, rfl, rfl⟩ | ⟨b, o, cap, rfl, h2, h3⟩
  · exact refText_empty ao cap w
  · exact refText_some b o cap l w hl h3

/-- A row's bytes. -/
def rowL (l : List Int) : List Int := l.flatMap intL
theorem rowL_snoc (l : List Int) (j : Nat) (h : j < l.length) : rowL (l.take (j + 1)) = rowL (l.take j) ++ intL l[j] := by
  rw [List.take_succ_eq_append_getElem h]
  simp only [rowL, List.flatMap_append, List.flatMap_cons, List.flatMap_nil, List.append_nil]
theorem rowL_le (l : List Int) : (rowL l).length ≤ 8 * l.length := by
  induction l with
  | nil => simp [rowL]
  | cons a l ih =>
    have h1 := intL_le a
    have h2 : rowL (a :: l) = intL a ++ rowL l := by simp [rowL]
    rw [h2, List.length_append, List.length_cons]
    omega

set_option maxRecDepth 100000 in
set_option maxHeartbeats 4000000 in
theorem refRow_some (b o cap : Nat) (l : List Int) (w : World) (hl : l.length ≤ 4000) (hi64 : ∀ i (h : i < l.length), l[i] ≤ 9223372036854775807) (h3 : ∀ i (h : i < l.length), w.cell? ⟨b, o + i, none⟩ = some (ic l[i])) :
    Calls Tryz.prog 87 #[.slice (some ⟨b, o, none⟩) l.length cap] w fun e w' => ∃ v, e = .returned v ∧ w'.ownsRow w.heap.size 5 1 v (intL l.length ++ rowL l).length (bv (intL l.length ++ rowL l)) ∧ Below w.heap.size w w' := by
  obtain ⟨i0, hi, hz0, hz1, hz2⟩ := info_parts info5
  have HC := hide (refInt_owns l.length w (by omega))
  have HI := hide hi64
  have H3 := hide h3
  clear h3 hi64
  go_enter Tryz.func87, Tryz.ntmps87
  go_wp2_with fail
  refine (HC.out).mono ?_
  rintro e w1 ⟨v, rfl, hown, hb⟩
  have HO := hide hown
  have HB := hide hb
  clear hown hb HC
  go_wp2
  go_loopw [3, 4] (fun v i wr => ∃ j : Nat, j ≤ l.length ∧ i = .int .i64 j ∧ wr.ownsRow w.heap.size 5 1 v (intL l.length ++ rowL (l.take j)).length (bv (intL l.length ++ rowL (l.take j))) ∧ Below w.heap.size w wr ∧ w.heap.size ≤ wr.heap.size) (fun _ i _ => l.length - (intOf i).toNat)
  case atStart => exact ⟨0, Nat.zero_le _, rfl, by simpa [rowL] using HO.out, HB.out, HB.out.size⟩
  case round =>
    obtain ⟨j, hj, rfl, hown, hb, hs⟩ := hrel
    by_cases hlt : j < l.length
    · have hc : wr.cell? ⟨b, o + j, none⟩ = some (.int .i64 l[j]) := by rw [hb.cell (p := ⟨b, o + j, none⟩) (cell_block (H3.out j hlt))]; exact H3.out j hlt
      have HJ := hide (refInt_any l[j] wr (HI.out j hlt))
      have HS := hide (rowL_snoc l j hlt)
      have HL1 := hide (intL_le l[j])
      have HL2 := hide (intL_le l.length)
      have HL3 := hide (rowL_le (l.take j))
      generalize l[j] = x at *
      generalize intL x = X at *
      generalize hLL : intL (l.length : Int) ++ rowL (l.take j) = LL at *
      have HLL := hide hLL
      clear hLL
      go_wp2_with (first
        | (go_at_call 85; refine (HJ.out).mono ?_; rintro e w' ⟨rfl, hw'⟩; have hb' : Below wr.heap.size wr w' := by (rw [hw']; exact (Below.refl _ _).alloc (Nat.le_refl _) _))
        | (at_builtin; refine wpList_append_own _ rfl _ _ 39 rfl w.heap.size 5 i0 (.int .u8 0) 1 1 Tryz.underlying39 hi hz0 hz1 hz2 rfl (by decide) _ _ _ rfl (hown.alloc _) ⟨wr.heap.size, 0, none⟩ X.length X.length (bv X) rfl (by simp [bv]) ?c1 (Sl.one (f := bc) (fun _ => rfl) X) ?c3 ?c4 ?c5 ?_))
      case c1 =>
        intro i u hu
        rw [Addr.add_lit, World.cell?_alloc_at _ _ _ _ rfl]
        simpa using hu
      case c3 => have := HLL.out; have h1 := HL1.out; have h2 := HL2.out; have h3 := HL3.out; have h4 := congrArg List.length this; rw [List.length_append] at h4; rw [List.length_take] at h3; unfold maxLen; omega
      case c4 => have := HLL.out; have h1 := HL1.out; have h2 := HL2.out; have h3 := HL3.out; have h4 := congrArg List.length this; rw [List.length_append] at h4; rw [List.length_take] at h3; omega
      case c5 => simp; omega
      · intro v' w2 hown' hgrow _
        have hB : Below w.heap.size w w2 := (hb.alloc hs _).grown hgrow (by simp; omega) (fun i hi => (hown.lt i hi).1)
        have HO2 := hide hown'
        clear hown' hgrow hown hc
        go_wp2
        go_roundw
        case rel => exact ⟨j + 1, by omega, by go_num, by rw [HS.out, ← List.append_assoc, HLL.out, List.length_append, bv_eq, List.map_append]; exact HO2.out, hB, hB.size⟩
        case measure => simp [intOf]; omega
    · obtain rfl : j = l.length := by omega
      rw [List.take_length] at hown
      go_wp2
      go_ret
      exact ⟨_, rfl, hown, hb⟩

set_option maxHeartbeats 4000000 in
theorem refRow_empty (ao : Option Addr) (cap : Nat) (w : World) :
    Calls Tryz.prog 87 #[.slice ao 0 cap] w fun e w' => ∃ v, e = .returned v ∧ w'.ownsRow w.heap.size 5 1 v 1 (bv [0]) ∧ Below w.heap.size w w' := by
  have HC := hide (refInt_any 0 w (by omega))
  rw [show intL 0 = [0] by decide] at HC
  go_enter Tryz.func87, Tryz.ntmps87
  go_wp2_with fail
  refine (HC.out).mono ?_
  rintro e w1 ⟨rfl, rfl⟩
  go_wp2
  refine wp_loop_rounds 1 ?_
  rw [rounds_succ]
  go_wp2
  go_ret
  exact ⟨_, rfl, owns_new w (bv [0]) 5 (by decide), (Below.refl _ _).alloc (Nat.le_refl _) _⟩

theorem refRow_any (v : Value) (l : List Int) (w : World) (hv : Sl ic w v l) (hl : l.length ≤ 4000) (hi64 : ∀ i (h : i < l.length), l[i] ≤ 9223372036854775807) :
    Calls Tryz.prog 87 #[v] w fun e w' => ∃ v, e = .returned v ∧ w'.ownsRow w.heap.size 5 1 v (intL l.length ++ rowL l).length (bv (intL l.length ++ rowL l)) ∧ Below w.heap.size w w' := by
  rcases hv with ⟨ao, cap, rfl, rfl⟩ | ⟨b, o, cap, rfl, h2, h3⟩
  · exact refRow_empty ao cap w
  · exact refRow_some b o cap l w hl hi64 h3


set_option maxHeartbeats 4000000 in
/-- The two lists are the same: so it is told. -/
theorem same_ints (v u : Value) (a : List Int) (w : World) (hv : Sl ic w v a) (hu : Sl ic w u a) (hl : a.length ≤ 40000) :
    Calls Tryz.prog 49 #[v, u] w fun e w' => e = .returned (.bool true) ∧ Below w.heap.size w w' := by
  rcases hv with ⟨ao, cap, rfl, rfl⟩ | ⟨b, o, cap, rfl, h2, h3⟩
  · rcases hu with ⟨ao', cap', _, rfl⟩ | ⟨b, o, cap', rfl, h2, h3⟩
    all_goals
      go_enter Tryz.func49, Tryz.ntmps49
      go_wp2
      refine wp_loop_rounds 1 ?_
      rw [rounds_succ]
      go_wp2
      go_ret
      exact ⟨rfl, Below.refl _ _⟩
  · rcases hu with ⟨ao', cap', rfl, rfl⟩ | ⟨b', o', cap', rfl, h2', h3'⟩
    · go_enter Tryz.func49, Tryz.ntmps49
      go_wp2
      refine wp_loop_rounds 1 ?_
      rw [rounds_succ]
      go_wp2
      go_ret
      exact ⟨rfl, Below.refl _ _⟩
    · have H3 := hide h3
      have H3' := hide h3'
      clear h3 h3'
      go_enter Tryz.func49, Tryz.ntmps49
      go_wp2
      go_loopw [5] (fun i W => ∃ k : Nat, k ≤ a.length ∧ i = .int .i64 k ∧ Below w.heap.size w W) (fun i _ => a.length - (intOf i).toNat)
      case atStart => exact ⟨0, Nat.zero_le _, rfl, Below.refl _ _⟩
      case round =>
        obtain ⟨k, hk, rfl, hb⟩ := hrel
        by_cases hlt : k < a.length
        · have hc : wr.cell? ⟨b, o + k, none⟩ = some (.int .i64 a[k]) := by rw [hb.cell (p := ⟨b, o + k, none⟩) (cell_block (H3.out k hlt))]; exact H3.out k hlt
          have hc' : wr.cell? ⟨b', o' + k, none⟩ = some (.int .i64 a[k]) := by rw [hb.cell (p := ⟨b', o' + k, none⟩) (cell_block (H3'.out k hlt))]; exact H3'.out k hlt
          generalize a[k] = sk at *
          go_wp2_with fail
          go_quiet (fail)
          go_wp2
          exact ⟨⟨k + 1, by omega, by go_num, below_drewN hb _⟩, by simp [intOf]; omega⟩
        · go_wp2
          go_ret
          exact ⟨rfl, hb⟩
end Go.Proofs.YthoeajiojdfgdaaGreatDoor
