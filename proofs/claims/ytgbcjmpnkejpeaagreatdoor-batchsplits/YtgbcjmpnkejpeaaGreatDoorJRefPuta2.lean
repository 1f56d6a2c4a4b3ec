/-
  THE DOCUMENT's TEXTS AND ROWS AS BYTES (castellanref02.Text, Row), and its Same and Ints, where both lists are the same. Conditions: the slices' cells hold the lists, and no more than four thousand elements.
  WHAT A KIND IS ABOUT, BIT BY BIT, NAMES AND BROKERS (record.subjects, has, within, Name, Brokers, named, listed, leastTopic, mostValue): as functions of numbers, letters and lists. Conditions: no more than a thousand letters; the brokers' cells hold them.
-/
import Derived.Test.YtgbcjmpnkejpeaaGreatDoorJRwaa2
import Derived.Test.YtgbcjmpnkejpeaaGreatDoorJWnuma3
import Derived.Test.YtgbcjmpnkejpeaaGreatDoorJSlca2
import Derived.Deep.QuietTactic
import Derived.BigQuiet
import Derived.Test.YtgbcjmpnkejpeaaGreatDoorJRecHasa3
import Derived.Laws.IdiomStrings
namespace Go.Proofs.YtgbcjmpnkejpeaaGreatDoor
open Go.RowKit

theorem info5 : (Tryz.prog.info? 5).map (fun i => (i.zero, i.size, i.bytes)) = some (some (.int .u8 0), 1, 1) := by kernel_rfl
theorem refInt_owns (n : Int) (w : World) (hn : n ≤ 9223372036854775807) : Calls Tryz.prog 108 #[.int .i64 n] w fun e w' =>
    ∃ v, e = .returned v ∧ w'.ownsRow w.heap.size 5 1 v (intL n).length (bv (intL n)) ∧ Below w.heap.size w w' := by
  refine (refInt_any n w hn).mono ?_
  rintro e w' ⟨rfl, rfl⟩
  have h := owns_new w (bv (intL n)) 5 (by have := intL_le n; unfold maxLen; simp [bv]; omega)
  rw [show (bv (intL n)).length = (intL n).length by simp [bv]] at h
  exact ⟨_, rfl, h, (Below.refl _ _).alloc (Nat.le_refl _) _⟩

set_option maxHeartbeats 4000000 in
theorem refText_some (b o cap : Nat) (l : List Int) (w : World) (hl : l.length ≤ 4000) (h3 : ∀ i (h : i < l.length), w.cell? ⟨b, o + i, none⟩ = some (bc l[i])) :
    Calls Tryz.prog 143 #[.slice (some ⟨b, o, none⟩) l.length cap] w fun e w' => ∃ v, e = .returned v ∧ w'.ownsRow w.heap.size 5 1 v ((intL l.length).length + l.length) (bv (intL l.length ++ l)) ∧ Below w.heap.size w w' := by
  obtain ⟨i0, hi, hz0, hz1, hz2⟩ := info_parts info5
  have HC := hide (refInt_owns l.length w (by omega))
  have HL := hide (intL_le l.length)
  have H3 := hide h3
  clear h3
  go_enter Tryz.func143, Tryz.ntmps143
  go_wp2_with fail
  refine (HC.out).mono ?_
  rintro e w1 ⟨v, rfl, hown, hb⟩
  have HN := hide (Sl.news (f := bc) (w := w1) (b := b) (o := o) (l := l) fun i hi => by rw [hb.cell (p := ⟨b, o + i, none⟩) (cell_block (H3.out i hi))]; exact H3.out i hi)
  have hz := hb.size
  generalize hL : intL (l.length : Int) = L at *
  have HLq := hide hL
  clear hL
  go_wp2_with (first
    | (at_builtin; refine wpList_append_own _ rfl _ _ 22 rfl w.heap.size 5 i0 (.int .u8 0) 1 1 Tryz.underlying22 hi hz0 hz1 hz2 rfl (by decide) _ _ _ rfl hown ⟨b, o, none⟩ l.length cap (l.map bc) rfl (by simp) HN.out (Sl.one (fun _ => rfl) l) ?c3 ?c4 ?c5 ?_))
  case c3 => have := HL.out; unfold maxLen; omega
  case c4 => have := HL.out; omega
  case c5 => omega
  · intro v' w2 hown' hgrow _
    have hB : Below w.heap.size w w2 := hb.grown hgrow hz (fun j hj => (hown.lt j hj).1)
    have HO := hide hown'
    clear hown' hgrow hown hb
    go_wp2
    go_ret
    exact ⟨v', rfl, by rw [HLq.out, bv_eq, List.map_append]; exact HO.out, hB⟩

set_option maxHeartbeats 4000000 in
theorem refText_empty (ao : Option Addr) (cap : Nat) (w : World) :
    Calls Tryz.prog 143 #[.slice ao 0 cap] w fun e w' => ∃ v, e = .returned v ∧ w'.ownsRow w.heap.size 5 1 v 1 (bv [0]) ∧ Below w.heap.size w w' := by
  have HC := hide (refInt_any 0 w (by omega))
  rw [show intL 0 = [0] by decide] at HC
  go_enter Tryz.func143, Tryz.ntmps143
  go_wp2_with fail
  refine (HC.out).mono ?_
  rintro e w1 ⟨rfl, rfl⟩
  cases ao with
  | none =>
    go_wp2
    go_ret
    exact ⟨_, rfl, owns_new w (bv [0]) 5 (by decide), (Below.refl _ _).alloc (Nat.le_refl _) _⟩
  | some a =>
    go_wp2
    go_ret
    exact ⟨_, rfl, owns_new w (bv [0]) 5 (by decide), (Below.refl _ _).alloc (Nat.le_refl _) _⟩

theorem refText_any (v : Value) (l : List Int) (w : World) (hv : Sl bc w v l) (hl : l.length ≤ 4000) :
    Calls Tryz.prog 143 #[v] w fun e w' => ∃ v, e = .returned v ∧ w'.ownsRow w.heap.size 5 1 v ((intL l.length).length + l.length) (bv (intL l.length ++ l)) ∧ Below w.heap.size w w' := by
  rcases hv with ⟨ao, cap, rfl, rfl⟩ | ⟨b, o, cap, rfl, h2, h3⟩
  · exact refText_empty ao cap w
  · exact refText_some b o cap l w hl h3

/-- A row's bytes. -/
def rowL (l : List Int) : List Int := l.flatMap intL
theorem rowL_snoc (l : List Int) (j : Nat) (h : j < l.length) : rowL (l.take (j + 1)) = rowL (l.take j) ++ intL l[j] := by
  rw [List.take_succ_eq_append_getElem h]
  simp only [rowL, List.flatMap_append, List.flatMap_cons, List.flatMap_nil, List.append_nil]
theorem rowL_le (l : List Int) : (rowL l).length ≤ 8 * l.length := by
  induction l with
  | nil => simp [rowL]
  | cons a l ih =>
    have h1 := intL_le a
    have h2 : rowL (a :: l) = intL a ++ rowL l := by simp [rowL]
    rw [h2, List.length_append, List.length_cons]
    omega

set_option maxRecDepth 100000 in
set_option maxHeartbeats 4000000 in
theorem refRow_some (b o cap : Nat) (l : List Int) (w : World) (hl : l.length ≤ 4000) (hi64 : ∀ i (h : i < l.length), l[i] ≤ 9223372036854775807) (h3 : ∀ i (h : i < l.length), w.cell? ⟨b, o + i, none⟩ = some (ic l[i])) :
    Calls Tryz.prog 144 #[.slice (some ⟨b, o, none⟩) l.length cap] w fun e w' => ∃ v, e = .returned v ∧ w'.ownsRow w.heap.size 5 1 v (intL l.length ++ rowL l).length (bv (intL l.length ++ rowL l)) ∧ Below w.heap.size w w' := by
  obtain ⟨i0, hi, hz0, hz1, hz2⟩ := info_parts info5
  have HC := hide (refInt_owns l.length w (by omega))
  have HI := hide hi64
  have H3 := hide h3
  clear h3 hi64
  go_enter Tryz.func144, Tryz.ntmps144
  go_wp2_with fail
  refine (HC.out).mono ?_
  rintro e w1 ⟨v, rfl, hown, hb⟩
  have HO := hide hown
  have HB := hide hb
  clear hown hb HC
  go_wp2
  go_loopw [3, 4] (fun v i wr => ∃ j : Nat, j ≤ l.length ∧ i = .int .i64 j ∧ wr.ownsRow w.heap.size 5 1 v (intL l.length ++ rowL (l.take j)).length (bv (intL l.length ++ rowL (l.take j))) ∧ Below w.heap.size w wr ∧ w.heap.size ≤ wr.heap.size) (fun _ i _ => l.length - (intOf i).toNat)
  case atStart => exact ⟨0, Nat.zero_le _, rfl, by simpa [rowL] using HO.out, HB.out, HB.out.size⟩
  case round =>
    obtain ⟨j, hj, rfl, hown, hb, hs⟩ := hrel
    by_cases hlt : j < l.length
    · have hc : wr.cell? ⟨b, o + j, none⟩ = some (.int .i64 l[j]) := by rw [hb.cell (p := ⟨b, o + j, none⟩) (cell_block (H3.out j hlt))]; exact H3.out j hlt
      have HJ := hide (refInt_any l[j] wr (HI.out j hlt))
      have HS := hide (rowL_snoc l j hlt)
      have HL1 := hide (intL_le l[j])
      have HL2 := hide (intL_le l.length)
      have HL3 := hide (rowL_le (l.take j))
      generalize l[j] = x at *
      generalize intL x = X at *
      generalize hLL : intL (l.length : Int) ++ rowL (l.take j) = LL at *
      have HLL := hide hLL
      clear hLL
      go_wp2_with (first
        | (go_at_call 108; refine (HJ.out).mono ?_; rintro e w' ⟨rfl, hw'⟩; have hb' : Below wr.heap.size wr w' := by (rw [hw']; exact (Below.refl _ _).alloc (Nat.le_refl _) _))
        | (at_builtin; refine wpList_append_own _ rfl _ _ 22 rfl w.heap.size 5 i0 (.int .u8 0) 1 1 Tryz.underlying22 hi hz0 hz1 hz2 rfl (by decide) _ _ _ rfl (hown.alloc _) ⟨wr.heap.size, 0, none⟩ X.length X.length (bv X) rfl (by simp [bv]) ?c1 (Sl.one (f := bc) (fun _ => rfl) X) ?c3 ?c4 ?c5 ?_))
      case c1 =>
        intro i u hu
        rw [Addr.add_lit, World.cell?_alloc_at _ _ _ _ rfl]
        simpa using hu
      case c3 => have := HLL.out; have h1 := HL1.out; have h2 := HL2.out; have h3 := HL3.out; have h4 := congrArg List.length this; rw [List.length_append] at h4; rw [List.length_take] at h3; unfold maxLen; omega
      case c4 => have := HLL.out; have h1 := HL1.out; have h2 := HL2.out; have h3 := HL3.out; have h4 := congrArg List.length this; rw [List.length_append] at h4; rw [List.length_take] at h3; omega
      case c5 => simp; omega
      · intro v' w2 hown' hgrow _
        have hB : Below w.heap.size w w2 := (hb.alloc hs _).grown hgrow (by simp; omega) (fun i hi => (hown.lt i hi).1)
        have HO2 := hide hown'
        clear hown' hgrow hown hc
        go_wp2
        go_roundw
        case rel => exact ⟨j + 1, by omega, by go_num, by rw [HS.out, ← List.append_assoc, HLL.out, List.length_append, bv_eq, List.map_append]; exact HO2.out, hB, hB.size⟩
        case measure => simp [intOf]; omega
    · obtain rfl : j = l.length := by omega
      rw [List.take_length] at hown
      go_wp2
      go_ret
      exact ⟨_, rfl, hown, hb⟩

set_option maxHeartbeats 4000000 in
theorem refRow_empty (ao : Option Addr) (cap : Nat) (w : World) :
    Calls Tryz.prog 144 #[.slice ao 0 cap] w fun e w' => ∃ v, e = .returned v ∧ w'.ownsRow w.heap.size 5 1 v 1 (bv [0]) ∧ Below w.heap.size w w' := by
  have HC := hide (refInt_any 0 w (by omega))
  rw [show intL 0 = [0] by decide] at HC
  go_enter Tryz.func144, Tryz.ntmps144
  go_wp2_with fail
  refine (HC.out).mono ?_
  rintro e w1 ⟨rfl, rfl⟩
  go_wp2
  refine wp_loop_rounds 1 ?_
  rw [rounds_succ]
  go_wp2
  go_ret
  exact ⟨_, rfl, owns_new w (bv [0]) 5 (by decide), (Below.refl _ _).alloc (Nat.le_refl _) _⟩

theorem refRow_any (v : Value) (l : List Int) (w : World) (hv : Sl ic w v l) (hl : l.length ≤ 4000) (hi64 : ∀ i (h : i < l.length), l[i] ≤ 9223372036854775807) :
    Calls Tryz.prog 144 #[v] w fun e w' => ∃ v, e = .returned v ∧ w'.ownsRow w.heap.size 5 1 v (intL l.length ++ rowL l).length (bv (intL l.length ++ rowL l)) ∧ Below w.heap.size w w' := by
  rcases hv with ⟨ao, cap, rfl, rfl⟩ | ⟨b, o, cap, rfl, h2, h3⟩
  · exact refRow_empty ao cap w
  · exact refRow_some b o cap l w hl hi64 h3


set_option maxHeartbeats 4000000 in
/-- The two lists are the same: so it is told. -/
theorem same_ints (v u : Value) (a : List Int) (w : World) (hv : Sl ic w v a) (hu : Sl ic w u a) (hl : a.length ≤ 40000) :
    Calls Tryz.prog 45 #[v, u] w fun e w' => e = .returned (.bool true) ∧ Below w.heap.size w w' := by
  rcases hv with ⟨ao, cap, rfl, rfl⟩ | ⟨b, o, cap, rfl, h2, h3⟩
  · rcases hu with ⟨ao', cap', _, rfl⟩ | ⟨b, o, cap', rfl, h2, h3⟩
    all_goals
      go_enter Tryz.func45, Tryz.ntmps45
      go_wp2
      refine wp_loop_rounds 1 ?_
      rw [rounds_succ]
      go_wp2
      go_ret
      exact ⟨rfl, Below.refl _ _⟩
  · rcases hu with ⟨ao', cap', rfl, rfl⟩ | ⟨b', o', cap', rfl, h2', h3'⟩
    · go_enter Tryz.func45, Tryz.ntmps45
      go_wp2
      refine wp_loop_rounds 1 ?_
      rw [rounds_succ]
      go_wp2
      go_ret
      exact ⟨rfl, Below.refl _ _⟩
    · have H3 := hide h3
      have H3' := hide h3'
      clear h3 h3'
      go_enter Tryz.func45, Tryz.ntmps45
      go_wp2
      go_loopw [5] (fun i W => ∃ k : Nat, k ≤ a.length ∧ i = .int .i64 k ∧ Below w.heap.size w W) (fun i _ => a.length - (intOf i).toNat)
      case atStart => exact ⟨0, Nat.zero_le _, rfl, Below.refl _ _⟩
      case round =>
        obtain ⟨k, hk, rfl, hb⟩ := hrel
        by_cases hlt : k < a.length
        · have hc : wr.cell? ⟨b, o + k, none⟩ = some (.int .i64 a[k]) := by rw [hb.cell (p := ⟨b, o + k, none⟩) (cell_block (H3.out k hlt))]; exact H3.out k hlt
          have hc' : wr.cell? ⟨b', o' + k, none⟩ = some (.int .i64 a[k]) := by rw [hb.cell (p := ⟨b', o' + k, none⟩) (cell_block (H3'.out k hlt))]; exact H3'.out k hlt
          generalize a[k] = sk at *
          go_wp2_with fail
          go_quiet (fail)
          go_wp2
          exact ⟨⟨k + 1, by omega, by go_num, below_drewN hb _⟩, by simp [intOf]; omega⟩
        · go_wp2
          go_ret
          exact ⟨rfl, hb⟩
end Go.Proofs.YtgbcjmpnkejpeaaGreatDoor
namespace Go.Proofs.YtgbcjmpnkejpeaaGreatDoor
open Go.RowKit

/-- What a kind is about, bit by bit. -/
def sbj (k : Int) : Int :=
  if k = 2 then 4099 else if k = 3 ∨ k = 4 ∨ k = 5 ∨ k = 6 then 3 else if k = 7 then 516 else if k = 8 then 24604 else if k = 9 then 122910 else if k = 10 then 3332 else if k = 11 then 4 else if k = 12 then 224 else 0
def knd (k : Int) : Bool := decide (1 ≤ k ∧ k ≤ 12)
def bitB (a o : Int) : Bool := (bits .and .u32 a o != 0)
theorem sbj_none {k : Int} (h : ¬ (1 ≤ k ∧ k ≤ 12)) : sbj k = 0 := by
  unfold sbj
  rw [if_neg (by omega), if_neg (by omega), if_neg (by omega), if_neg (by omega), if_neg (by omega), if_neg (by omega), if_neg (by omega), if_neg (by omega)]
theorem kinds {k : Int} (h : 1 ≤ k ∧ k ≤ 12) : k = 1 ∨ k = 2 ∨ k = 3 ∨ k = 4 ∨ k = 5 ∨ k = 6 ∨ k = 7 ∨ k = 8 ∨ k = 9 ∨ k = 10 ∨ k = 11 ∨ k = 12 := by omega
theorem bit_has {k : Int} (h : 1 ≤ k ∧ k ≤ 12) : bitB (sbj k) 1 = hasL k 98 ∧ bitB (sbj k) 2 = hasL k 101 ∧ bitB (sbj k) 4 = hasL k 116 ∧ bitB (sbj k) 8 = hasL k 112 ∧ bitB (sbj k) 16 = hasL k 108 ∧ bitB (sbj k) 32 = hasL k 97 ∧ bitB (sbj k) 64 = hasL k 97 ∧ bitB (sbj k) 128 = hasL k 97 ∧ bitB (sbj k) 256 = hasL k 102 ∧ bitB (sbj k) 512 = hasL k 110 ∧ bitB (sbj k) 1024 = hasL k 107 ∧ bitB (sbj k) 2048 = hasL k 118 ∧ bitB (sbj k) 4096 = hasL k 114 ∧ bitB (sbj k) 8192 = hasL k 105 ∧ bitB (sbj k) 16384 = hasL k 109 ∧ bitB (sbj k) 32768 = hasL k 120 ∧ bitB (sbj k) 65536 = hasL k 120 := by
  rcases kinds h with rfl | rfl | rfl | rfl | rfl | rfl | rfl | rfl | rfl | rfl | rfl | rfl <;> exact ⟨by decide, by decide, by decide, by decide, by decide, by decide, by decide, by decide, by decide, by decide, by decide, by decide, by decide, by decide, by decide, by decide, by decide⟩
set_option maxHeartbeats 4000000 in
theorem subj_any (k : Int) (w : World) : Calls Tryz.prog 47 #[.int .i64 k] w fun e w' => e = .returned (.tuple #[.int .u32 (sbj k), .bool (knd k)]) ∧ w' = w := by
  by_cases hk : 1 ≤ k ∧ k ≤ 12
  · rcases kinds hk with rfl | rfl | rfl | rfl | rfl | rfl | rfl | rfl | rfl | rfl | rfl | rfl
    all_goals
      go_enter Tryz.func47, Tryz.ntmps47
      go_wp2_with fail
      go_ret2
      exact ⟨rfl, rfl⟩
  · rw [sbj_none hk, show knd k = false from decide_eq_false hk]
    have n1 : ¬ k = 1 := by omega
    have n2 : ¬ k = 2 := by omega
    have n3 : ¬ k = 3 := by omega
    have n4 : ¬ k = 4 := by omega
    have n5 : ¬ k = 5 := by omega
    have n6 : ¬ k = 6 := by omega
    have n7 : ¬ k = 7 := by omega
    have n8 : ¬ k = 8 := by omega
    have n9 : ¬ k = 9 := by omega
    have n10 : ¬ k = 10 := by omega
    have n11 : ¬ k = 11 := by omega
    have n12 : ¬ k = 12 := by omega
    clear hk
    go_enter Tryz.func47, Tryz.ntmps47
    go_wp2_with fail
    go_ret2
    exact ⟨rfl, rfl⟩
theorem bhas_any (a o : Int) (w : World) : Calls Tryz.prog 71 #[.int .u32 a, .int .u32 o] w fun e w' => e = .returned (.bool (bitB a o)) ∧ w' = w := by
  go_enter Tryz.func71, Tryz.ntmps71
  go_wp2_with fail
  go_ret
  exact ⟨rfl, rfl⟩
set_option maxHeartbeats 4000000 in
theorem within_any (a o n lo hi : Int) (w : World) : Calls Tryz.prog 77 #[.int .u32 a, .int .u32 o, .int .i64 n, .int .i64 lo, .int .i64 hi] w fun e w' => e = .returned (.bool (numB n (bitB a o) lo hi)) ∧ w' = w := by
  have HC := hide (bhas_any a o w)
  obtain ⟨R, hR⟩ : ∃ R, R = numB n (bitB a o) lo hi := ⟨_, rfl⟩
  rw [← hR]
  have HR := hide hR
  clear hR
  cases hb : bitB a o with
  | true =>
    rw [hb] at HC HR
    by_cases h1 : lo ≤ n
    · by_cases h2 : n ≤ hi
      · have HE : Hid (R = true) := hide (by rw [HR.out]; simp [numB, h1, h2])
        go_enter Tryz.func77, Tryz.ntmps77
        go_wp2_with (first | (go_at_call 71; refine HC.out.mono ?_; rintro e w' ⟨rfl, rfl⟩))
        go_ret
        exact ⟨by rw [HE.out]; rfl, rfl⟩
      · have HE : Hid (R = decide (n ≤ hi)) := hide (by rw [HR.out]; simp [numB, h1])
        go_enter Tryz.func77, Tryz.ntmps77
        go_wp2_with (first | (go_at_call 71; refine HC.out.mono ?_; rintro e w' ⟨rfl, rfl⟩))
        go_ret
        exact ⟨by rw [HE.out]; rfl, rfl⟩
    · have HE : Hid (R = false) := hide (by rw [HR.out]; simp [numB]; omega)
      go_enter Tryz.func77, Tryz.ntmps77
      go_wp2_with (first | (go_at_call 71; refine HC.out.mono ?_; rintro e w' ⟨rfl, rfl⟩))
      go_ret
      exact ⟨by rw [HE.out]; rfl, rfl⟩
  | false =>
    rw [hb] at HC HR
    have HE : Hid (R = (n == 0)) := hide (by rw [HR.out]; simp only [numB]; rfl)
    go_enter Tryz.func77, Tryz.ntmps77
    go_wp2_with (first | (go_at_call 71; refine HC.out.mono ?_; rintro e w' ⟨rfl, rfl⟩))
    go_ret
    exact ⟨by rw [HE.out]; rfl, rfl⟩
theorem least_any (k : Int) (w : World) : Calls Tryz.prog 78 #[.int .i64 k] w fun e w' => e = .returned (.int .i64 (if k = 10 then 0 else 1)) ∧ w' = w := by
  by_cases h : k = 10
  · rw [if_pos h]
    go_enter Tryz.func78, Tryz.ntmps78
    go_wp2_with fail
    go_ret
    exact ⟨rfl, rfl⟩
  · rw [if_neg h]
    go_enter Tryz.func78, Tryz.ntmps78
    go_wp2_with fail
    go_ret
    exact ⟨rfl, rfl⟩
def mostV (h fl : Bool) : Int := if fl = true ∨ h = false then 0 else 256
theorem most_any (a : Int) (fl : Bool) (w : World) : Calls Tryz.prog 81 #[.int .u32 a, .bool fl] w fun e w' => e = .returned (.int .i64 (mostV (bitB a 2048) fl)) ∧ w' = w := by
  have HC := hide (bhas_any a 2048 w)
  cases hb : bitB a 2048 <;> cases fl <;> rw [hb] at HC
  all_goals
    go_enter Tryz.func81, Tryz.ntmps81
    go_wp2_with (first | (go_at_call 71; refine HC.out.mono ?_; rintro e w' ⟨rfl, rfl⟩))
    go_ret
    exact ⟨rfl, rfl⟩
set_option maxHeartbeats 4000000 in
theorem foreign_any (x : UInt8) (w : World) : Calls Tryz.prog 89 #[.int .u8 (x.toNat : Int)] w fun e w' => e = .returned (.bool (!okc x)) ∧ w' = w := by
  obtain ⟨R, hR⟩ : ∃ R, R = okc x := ⟨_, rfl⟩
  rw [← hR]
  rcases okc_cases (x.toNat : Int) with ⟨a, b⟩ | ⟨a, b, c, d, e, f⟩ | ⟨a, b, c⟩ | ⟨a, b, c, e, f⟩ | ⟨a, b, e⟩ | ⟨a, b, e, f⟩ | ⟨a, b, e, f⟩
  · have HE : Hid (R = true) := hide (by rw [hR]; simp [okc]; omega)
    clear hR
    generalize (x.toNat : Int) = n at *
    go_enter Tryz.func89, Tryz.ntmps89
    go_wp2_with fail
    go_ret
    exact ⟨by rw [HE.out]; rfl, rfl⟩
  · have HE : Hid (R = false) := hide (by rw [hR]; simp [okc]; omega)
    clear hR
    generalize (x.toNat : Int) = n at *
    go_enter Tryz.func89, Tryz.ntmps89
    go_wp2_with fail
    go_ret
    exact ⟨by rw [HE.out]; rfl, rfl⟩
  · have HE : Hid (R = true) := hide (by rw [hR]; simp [okc]; omega)
    clear hR
    generalize (x.toNat : Int) = n at *
    go_enter Tryz.func89, Tryz.ntmps89
    go_wp2_with fail
    go_ret
    exact ⟨by rw [HE.out]; rfl, rfl⟩
  · have HE : Hid (R = false) := hide (by rw [hR]; simp [okc]; omega)
    clear hR
    generalize (x.toNat : Int) = n at *
    go_enter Tryz.func89, Tryz.ntmps89
    go_wp2_with fail
    go_ret
    exact ⟨by rw [HE.out]; rfl, rfl⟩
  · have HE : Hid (R = true) := hide (by rw [hR]; simp [okc]; omega)
    clear hR
    generalize (x.toNat : Int) = n at *
    go_enter Tryz.func89, Tryz.ntmps89
    go_wp2_with fail
    go_ret
    exact ⟨by rw [HE.out]; rfl, rfl⟩
  · have HE : Hid (R = true) := hide (by rw [hR]; simp [okc]; omega)
    clear hR
    generalize (x.toNat : Int) = n at *
    go_enter Tryz.func89, Tryz.ntmps89
    go_wp2_with fail
    go_ret
    exact ⟨by rw [HE.out]; rfl, rfl⟩
  · have HE : Hid (R = false) := hide (by rw [hR]; simp [okc]; omega)
    clear hR
    generalize (x.toNat : Int) = n at *
    go_enter Tryz.func89, Tryz.ntmps89
    go_wp2_with fail
    go_ret
    exact ⟨by rw [HE.out]; rfl, rfl⟩
/-- The bytes of a string, as the slice that they are made. -/
def uc (x : UInt8) : Value := .int .u8 (x.toNat : Int)
theorem bytes_of (S : List UInt8) (w : World) : ∃ cap w1, (convert 9 22 (.string ⟨S.toArray⟩)).run Tryz.prog w = .ok (.slice (some ⟨w.heap.size, 0, none⟩) S.length cap) w1 ∧ (∀ i (h : i < S.length), w1.cell? ⟨w.heap.size, 0 + i, none⟩ = some (uc S[i])) ∧ Below w.heap.size w w1 ∧ w1.heap.size = w.heap.size + 1 ∧ S.length ≤ cap := by
  have h := run_bytes_of_string (P := Tryz.prog) w 9 22 5 ⟨S.toArray⟩ Tryz.underlying9 Tryz.underlying22 Tryz.underlying5
  have hz : (⟨S.toArray⟩ : ByteArray).size = S.length := by simp [ByteArray.size]
  rw [hz] at h
  refine ⟨_, _, h, fun i hi => ?_, ?_, ?_, ?_⟩
  · have hi' : i < (⟨S.toArray⟩ : ByteArray).data.size := by simpa using hi
    have := bytesRow_at ⟨S.toArray⟩ (grownCap w S.length 0 5) i hi'
    rw [Nat.zero_add]
    have h2 := World.cell?_alloc_mark w.drew (bytesRow ⟨S.toArray⟩ (grownCap w S.length 0 5)) 5 ((bytesRow ⟨S.toArray⟩ (grownCap w S.length 0 5)).size, (bytesRow ⟨S.toArray⟩ (grownCap w S.length 0 5)).size + 1) i
    refine (h2.trans this).trans ?_
    simp [uc]
  · exact (Below.refl _ _).drew.alloc (Nat.le_refl _) _
  · simp
  · exact Nat.le_trans (Nat.le_refl _) (grownCap_ge w S.length 0 5)
theorem any_snoc {S : List UInt8} {j : Nat} (hj : j < S.length) (h : (S.take j).all okc = true) (hn : okc S[j] = true) : (S.take (j + 1)).all okc = true := all_snoc hj h hn
def alc (S : List UInt8) : Bool := S.all okc
set_option maxRecDepth 100000 in
set_option maxHeartbeats 4000000 in
theorem idxf_some (b o cap : Nat) (S : List UInt8) (w : World) (hl : S.length ≤ 1000) (h3 : ∀ i (h : i < S.length), w.cell? ⟨b, o + i, none⟩ = some (uc S[i])) :
    Calls Tryz.prog 116 #[.slice (some ⟨b, o, none⟩) S.length cap, .func (.func 89) #[] #[]] w fun e w' => (∃ n : Int, e = .returned (.int .i64 n) ∧ ((alc S = false ∧ 0 ≤ n) ∨ (alc S = true ∧ n = -1))) ∧ w' = w := by
  have H3 := hide h3
  clear h3
  go_enter Tryz.func116, Tryz.ntmps116
  go_wp2
  go_loop [8] (fun i => ∃ k : Nat, k ≤ S.length ∧ i = .int .i64 (k : Int) ∧ Hid ((S.take k).all okc = true)) (fun i => S.length - (intOf i).toNat)
  case atStart => exact ⟨0, Nat.zero_le _, rfl, hide rfl⟩
  case round =>
    obtain ⟨k, hk, rfl, HN⟩ := hrel
    by_cases hlt : k < S.length
    · have hltI : (k : Int) < (S.length : Int) := by omega
      have hc := H3.out k hlt
      unfold uc at hc
      have HF := hide (foreign_any S[k] w)
      have HSN := hide (fun hn => all_snoc hlt HN.out hn)
      have HNO := hide (fun hn => (all_no hlt hn : alc S = false))
      generalize S[k] = x at *
      cases hx : okc x with
      | true =>
        rw [hx] at HF
        have HX := hide hx
        clear hx
        go_wp2_with (first | (go_at_call 89; refine HF.out.mono ?_; rintro e w' ⟨rfl, rfl⟩))
        go_round
        case rel => exact ⟨k + 1, by omega, by go_num, hide (HSN.out HX.out)⟩
        case measure => simp [intOf]; omega
      | false =>
        rw [hx] at HF
        have HX := hide hx
        clear hx
        go_wp2_with (first | (go_at_call 89; refine HF.out.mono ?_; rintro e w' ⟨rfl, rfl⟩))
        go_ret
        exact ⟨⟨_, rfl, .inl ⟨HNO.out HX.out, by omega⟩⟩, rfl⟩
    · obtain rfl : k = S.length := by omega
      have HA : Hid (alc S = true) := hide (by have := HN.out; rw [List.take_length] at this; exact this)
      clear hlt
      go_wp2_with fail
      go_ret
      exact ⟨⟨_, rfl, .inr ⟨HA.out, rfl⟩⟩, rfl⟩
set_option maxHeartbeats 4000000 in
theorem ctnf_some (b o cap : Nat) (S : List UInt8) (w : World) (hl : S.length ≤ 1000) (h3 : ∀ i (h : i < S.length), w.cell? ⟨b, o + i, none⟩ = some (uc S[i])) :
    Calls Tryz.prog 88 #[.slice (some ⟨b, o, none⟩) S.length cap, .func (.func 89) #[] #[]] w fun e w' => e = .returned (.bool (!alc S)) ∧ w' = w := by
  have HC := hide (idxf_some b o cap S w hl h3)
  clear h3
  go_enter Tryz.func88, Tryz.ntmps88
  go_wp2_with fail
  refine (HC.out).mono ?_
  rintro e w' ⟨⟨n, rfl, ⟨hy, hn⟩ | ⟨hy, rfl⟩⟩, rfl⟩
  · have HY := hide hy
    clear hy
    go_wp2
    go_ret
    exact ⟨by rw [HY.out]; rfl, rfl⟩
  · have HY := hide hy
    clear hy
    go_wp2
    go_ret
    exact ⟨by rw [HY.out]; rfl, rfl⟩
set_option maxRecDepth 100000 in
set_option maxHeartbeats 4000000 in
theorem cname_any (S : List UInt8) (w : World) (hS : S.length ≤ 1000) : Calls Tryz.prog 43 #[.string ⟨S.toArray⟩] w fun e w' => e = .returned (.bool (nameB S)) ∧ Below w.heap.size w w' := by
  have hdot : (⟨S.toArray⟩ : ByteArray).toList = S := by simp
  obtain ⟨R, hR⟩ : ∃ R, R = nameB S := ⟨_, rfl⟩
  rw [← hR]
  have HR := hide hR
  clear hR
  by_cases h1 : S.length < 1
  · have HE : Hid (R = false) := hide (by rw [HR.out]; simp [nameB]; omega)
    have h1' : (S.length : Int) < 1 := by omega
    go_enter Tryz.func43, Tryz.ntmps43
    go_wp2_with fail
    go_ret
    exact ⟨by rw [HE.out]; rfl, Below.refl _ _⟩
  have h1' : ¬ (S.length : Int) < 1 := by omega
  by_cases h2 : 40 < S.length
  · have HE : Hid (R = false) := hide (by rw [HR.out]; simp [nameB]; omega)
    have h2' : (40 : Int) < (S.length : Int) := by omega
    go_enter Tryz.func43, Tryz.ntmps43
    go_wp2_with fail
    go_ret
    exact ⟨by rw [HE.out]; rfl, Below.refl _ _⟩
  have h2' : ¬ (40 : Int) < (S.length : Int) := by omega
  by_cases h3 : S = [46]
  · have HE : Hid (R = false) := hide (by rw [HR.out]; simp [nameB, h3])
    subst h3
    go_enter Tryz.func43, Tryz.ntmps43
    go_wp2_with fail
    go_ret
    exact ⟨by rw [HE.out]; rfl, Below.refl _ _⟩
  by_cases h4 : S = [46, 46]
  · have HE : Hid (R = false) := hide (by rw [HR.out]; simp [nameB, h4])
    subst h4
    go_enter Tryz.func43, Tryz.ntmps43
    go_wp2_with fail
    go_ret
    exact ⟨by rw [HE.out]; rfl, Below.refl _ _⟩
  have h3' : (S == [46]) = false := by simpa using h3
  have h4' : (S == [46, 46]) = false := by simpa using h4
  have HE : Hid (R = alc S) := hide (by rw [HR.out]; unfold nameB alc; simp [h3, h4]; omega)
  obtain ⟨cap, w1, hcv, hcell, hbl, _⟩ := bytes_of S w
  have HC := hide hcell
  have HB := hide hbl
  clear hcell hbl
  go_enter Tryz.func43, Tryz.ntmps43
  go_wp2_with fail
  refine (ctnf_some _ _ _ S _ hS HC.out).mono ?_
  rintro e w2 ⟨rfl, rfl⟩
  go_wp2_with fail
  go_ret
  exact ⟨by rw [HE.out]; simp, HB.out⟩
end Go.Proofs.YtgbcjmpnkejpeaaGreatDoor
