/-
  FRAMES, on lists alone (no program in sight): a frame's bytes, the frame that bytes begin with, that a frame that is whole, or wrong, stays so whatever comes behind, that what is told was written in just that way, and all frames of bytes, one behind the other. Conditions: bytes are bytes.
-/
import Derived.Test.YtenahnbfaekljaaCrcB
namespace Go.Proofs.Ytenahnbfaekljaa
open Go.RowKit

/-- A frame's bytes ahead of its sum, and with it. -/
def frameB (K : Int) (l : List Int) : List Int := [197, K] ++ (intL l.length ++ l)
def frameL (K : Int) (l : List Int) : List Int := frameB K l ++ le4 (crcL (frameB K l))
theorem intL_byt' (k : Int) : Byt (intL k) := by
  unfold intL
  split
  · unfold Byt; decide
  · refine numL_byt ?_ ?_
    · unfold capN; split <;> omega
    · unfold capN; split <;> omega
theorem frameB_byt {K : Int} {l : List Int} (h0 : 0 ≤ K) (h1 : K ≤ 255) (h : Byt l) : Byt (frameB K l) := by
  intro x hx
  unfold frameB at hx
  rcases List.mem_append.1 hx with hx | hx
  · simp only [List.mem_cons, List.not_mem_nil, or_false] at hx
    rcases hx with rfl | rfl <;> omega
  · rcases List.mem_append.1 hx with hx | hx
    · exact intL_byt' _ x hx
    · exact h x hx
theorem frameL_byt {K : Int} {l : List Int} (h0 : 0 ≤ K) (h1 : K ≤ 255) (h : Byt l) : Byt (frameL K l) := by
  intro x hx
  rcases List.mem_append.1 hx with hx | hx
  · exact frameB_byt h0 h1 h x hx
  · exact le4_byt _ x hx
theorem le4_len (c : Nat) : (le4 c).length = 4 := rfl
theorem frameB_len (K : Int) (l : List Int) : (frameB K l).length = 2 + (intL l.length).length + l.length := by
  simp [frameB]; omega
theorem frameL_len (K : Int) (l : List Int) : (frameL K l).length = 2 + (intL l.length).length + l.length + 4 := by
  rw [frameL, List.length_append, frameB_len, le4_len]
theorem rw_new (w : World) (xs : List Int) (hm : xs.length ≤ maxLen) : Rw w.heap.size (w.alloc (.cells (bv xs).toArray 5)) (.slice (some ⟨w.heap.size, 0, none⟩) xs.length xs.length) xs.length (bv xs) := by
  refine ⟨by simp [bv_eq], by simpa [bv_eq] using hm, .inr ⟨w.heap.size, by simp [bv_eq], Nat.le_refl _, ?_⟩⟩
  exact Array.getElem?_push_size
/-- What is found: a kind, a body, how many bytes (0: none), a code, what was being done, where. -/
structure Fnd where
  K : Int
  body : List Int
  size : Nat
  c : Int
  op : ByteArray
  wh : Nat
def fnd0 : Fnd := ⟨0, [], 0, 0, ⟨#[]⟩, 0⟩
/-- Behind the first two bytes, out of what is told of the length. -/
def nextT (l : List Int) (K : Int) (q : Int × Nat × Int) : Fnd :=
  if q.1 = 3 then fnd0
  else if q.1 ≠ 0 then ⟨0, [], 0, q.1, ⟨#[108, 101, 110, 103, 116, 104]⟩, 2⟩
  else if l.length < 2 + q.2.1 + q.2.2.toNat + 4 then fnd0
  else if l.take (2 + q.2.1 + q.2.2.toNat) ++ le4 (crcL (l.take (2 + q.2.1 + q.2.2.toNat))) = l.take (2 + q.2.1 + q.2.2.toNat + 4) then ⟨K, (l.drop (2 + q.2.1)).take q.2.2.toNat, 2 + q.2.1 + q.2.2.toNat + 4, 0, ⟨#[]⟩, 0⟩
  else ⟨0, [], 0, 4, ⟨#[115, 117, 109]⟩, 2 + q.2.1 + q.2.2.toNat⟩
def nextS (l : List Int) : Fnd :=
  if l.length = 0 then fnd0
  else if l.getD 0 0 ≠ 197 then ⟨0, [], 0, 5, ⟨#[115, 105, 103, 110]⟩, 0⟩
  else if l.length = 1 then fnd0
  else if 63 < l.getD 1 0 then ⟨0, [], 0, 5, ⟨#[107, 105, 110, 100]⟩, 1⟩
  else if l.length = 2 then fnd0
  else nextT l (l.getD 1 0) (numS (l.drop 2) 16384)
theorem numS_app {r s : List Int} {most : Int} (h : (numS r most).1 ≠ 3) : numS (r ++ s) most = numS r most := by
  rcases r with _ | ⟨x0, r⟩
  · simp [numS] at h
  · by_cases k0 : x0 / 64 = 0
    · simp only [List.cons_append, numS, if_pos k0]
    · by_cases k1 : x0 / 64 = 1
      · rcases r with _ | ⟨x1, r⟩
        · simp [numS, if_neg k0] at h
        · simp only [List.cons_append, numS, if_neg k0, if_pos k1]
      · by_cases k2 : x0 / 64 = 2
        · rcases r with _ | ⟨x1, _ | ⟨x2, _ | ⟨x3, r⟩⟩⟩
          · simp [numS, if_neg k0] at h
          · simp [numS, if_neg k0, if_neg k1] at h
          · simp [numS, if_neg k0, if_neg k1] at h
          · simp only [List.cons_append, numS, if_neg k0, if_neg k1, if_pos k2]
        · rcases r with _ | ⟨x1, _ | ⟨x2, _ | ⟨x3, _ | ⟨x4, _ | ⟨x5, _ | ⟨x6, _ | ⟨x7, r⟩⟩⟩⟩⟩⟩⟩
          · simp [numS, if_neg k0] at h
          · simp [numS, if_neg k0, if_neg k1] at h
          · simp [numS, if_neg k0, if_neg k1] at h
          · simp [numS, if_neg k0, if_neg k1, if_neg k2] at h
          · simp [numS, if_neg k0, if_neg k1, if_neg k2] at h
          · simp [numS, if_neg k0, if_neg k1, if_neg k2] at h
          · simp [numS, if_neg k0, if_neg k1, if_neg k2] at h
          · simp only [List.cons_append, numS, if_neg k0, if_neg k1, if_neg k2]
/-- Something is told: a frame, or what is wrong. -/
def Told (f : Fnd) : Prop := f.size ≠ 0 ∨ f.c ≠ 0
theorem fnd0_told : ¬ Told fnd0 := by simp [Told, fnd0]
theorem getD_app {l r : List Int} {i : Nat} (h : i < l.length) : (l ++ r).getD i 0 = l.getD i 0 := by
  simp [List.getD, List.getElem?_append_left h]
theorem nextT_app {l r : List Int} {K : Int} {q : Int × Nat × Int} (h : Told (nextT l K q)) : nextT (l ++ r) K q = nextT l K q := by
  unfold nextT at *
  by_cases h3 : q.1 = 3
  · rw [if_pos h3] at h; exact absurd h fnd0_told
  rw [if_neg h3] at h
  rw [if_neg h3, if_neg h3]
  by_cases h0 : q.1 ≠ 0
  · rw [if_pos h0, if_pos h0]
  rw [if_neg h0] at h
  rw [if_neg h0, if_neg h0]
  by_cases hl : l.length < 2 + q.2.1 + q.2.2.toNat + 4
  · rw [if_pos hl] at h; exact absurd h fnd0_told
  have hl2 : ¬ (l ++ r).length < 2 + q.2.1 + q.2.2.toNat + 4 := by rw [List.length_append]; omega
  rw [if_neg hl, if_neg hl2, List.take_append_of_le_length (by omega), List.take_append_of_le_length (by omega), List.drop_append_of_le_length (by omega), List.take_append_of_le_length (by rw [List.length_drop]; omega)]
/-- What is told stays so, whatever comes behind. -/
theorem nextS_app {l : List Int} (r : List Int) (h : Told (nextS l)) : nextS (l ++ r) = nextS l := by
  unfold nextS at *
  by_cases h0 : l.length = 0
  · rw [if_pos h0] at h; exact absurd h fnd0_told
  rw [if_neg h0] at h
  have g0 : (l ++ r).getD 0 0 = l.getD 0 0 := getD_app (by omega)
  rw [if_neg h0, if_neg (by rw [List.length_append]; omega), g0]
  by_cases h1 : l.getD 0 0 ≠ 197
  · rw [if_pos h1, if_pos h1]
  rw [if_neg h1] at h
  rw [if_neg h1, if_neg h1]
  by_cases h2 : l.length = 1
  · rw [if_pos h2] at h; exact absurd h fnd0_told
  rw [if_neg h2] at h
  have g1 : (l ++ r).getD 1 0 = l.getD 1 0 := getD_app (by omega)
  rw [if_neg h2, if_neg (by rw [List.length_append]; omega), g1]
  by_cases h3 : 63 < l.getD 1 0
  · rw [if_pos h3, if_pos h3]
  rw [if_neg h3] at h
  rw [if_neg h3, if_neg h3]
  by_cases h4 : l.length = 2
  · rw [if_pos h4] at h; exact absurd h fnd0_told
  rw [if_neg h4] at h
  rw [if_neg h4, if_neg (by rw [List.length_append]; omega), List.drop_append_of_le_length (by omega)]
  have h5 : (numS (l.drop 2) 16384).1 ≠ 3 := by
    intro e
    unfold nextT at h
    rw [if_pos e] at h
    exact fnd0_told h
  rw [numS_app h5]
  exact nextT_app h
/-- Where there is a frame: its bytes are those that are written of it. -/
theorem nextS_once {l : List Int} (hb : Byt l) (h : (nextS l).size ≠ 0) : l.take (nextS l).size = frameL (nextS l).K (nextS l).body ∧ 0 ≤ (nextS l).K ∧ (nextS l).K ≤ 63 ∧ (nextS l).size ≤ l.length ∧ (nextS l).c = 0 ∧ (nextS l).body.length ≤ 16384 := by
  have hz : ∀ c op wh, (⟨0, [], 0, c, op, wh⟩ : Fnd).size ≠ 0 → False := fun _ _ _ h => h rfl
  unfold nextS at *
  by_cases h0 : l.length = 0
  · rw [if_pos h0] at h; exact absurd rfl h
  rw [if_neg h0] at h; rw [if_neg h0]
  by_cases h1 : l.getD 0 0 ≠ 197
  · rw [if_pos h1] at h; exact absurd rfl h
  rw [if_neg h1] at h; rw [if_neg h1]
  by_cases h2 : l.length = 1
  · rw [if_pos h2] at h; exact absurd rfl h
  rw [if_neg h2] at h; rw [if_neg h2]
  by_cases h3 : 63 < l.getD 1 0
  · rw [if_pos h3] at h; exact absurd rfl h
  rw [if_neg h3] at h; rw [if_neg h3]
  by_cases h4 : l.length = 2
  · rw [if_pos h4] at h; exact absurd rfl h
  rw [if_neg h4] at h; rw [if_neg h4]
  rcases hq : numS (l.drop 2) 16384 with ⟨c, k, n⟩
  rw [hq] at h
  unfold nextT at *
  simp only at h ⊢
  by_cases h5 : c = 3
  · rw [if_pos h5] at h; exact absurd rfl h
  rw [if_neg h5] at h; rw [if_neg h5]
  by_cases h6 : c ≠ 0
  · rw [if_pos h6] at h; exact absurd rfl h
  rw [if_neg h6] at h; rw [if_neg h6]
  by_cases h7 : l.length < 2 + k + n.toNat + 4
  · rw [if_pos h7] at h; exact absurd rfl h
  rw [if_neg h7] at h; rw [if_neg h7]
  by_cases h8 : l.take (2 + k + n.toNat) ++ le4 (crcL (l.take (2 + k + n.toNat))) = l.take (2 + k + n.toNat + 4)
  · rw [if_pos h8]
    obtain rfl : c = 0 := by omega
    obtain ⟨e1, e2, n0, n1, n2, kl⟩ := numS_once (fun y hy => hb y (List.mem_of_mem_drop (i := 2) hy)) hq
    have hlen : ((l.drop (2 + k)).take n.toNat).length = n.toNat := by rw [List.length_take, List.length_drop]; omega
    have g1 : l.getD 1 0 = l[1]'(by omega) := by simp [List.getD, show 1 < l.length by omega]
    have hK : 0 ≤ l.getD 1 0 := by rw [g1]; exact (hb _ (List.getElem_mem _)).1
    refine ⟨?_, hK, by simp only; omega, by simp only; omega, rfl, by simp only; rw [hlen]; omega⟩
    have hB : l.take (2 + k + n.toNat) = frameB (l.getD 1 0) ((l.drop (2 + k)).take n.toNat) := by
      unfold frameB
      rw [hlen, Int.toNat_of_nonneg n0]
      have hi : intL n = numL n := by unfold intL capN; rw [if_neg (by omega), if_neg (by omega)]
      rw [hi, ← e1]
      match l, h0, h2, h4, h1 with
      | x0 :: x1 :: r, _, _, _, h1 =>
        have : x0 = 197 := by simpa using h1
        subst this
        simp only [List.drop_succ_cons, List.drop_zero, List.getD_cons_succ, List.getD_cons_zero, List.cons_append, List.nil_append]
        have e : 2 + k + n.toNat = (k + n.toNat) + 1 + 1 := by omega
        have e' : 2 + k = k + 1 + 1 := by omega
        rw [e, List.take_succ_cons, List.take_succ_cons, e', List.drop_succ_cons, List.drop_succ_cons, List.take_add]
    simp only
    rw [← h8, hB]
    rfl
  · rw [if_neg h8] at h; exact absurd rfl h
theorem intL_nat {n : Nat} (h : n ≤ 16384) : intL (n : Int) = numL (n : Int) := by
  unfold intL capN; rw [if_neg (by omega), if_neg (by omega)]
/-- What was written is told. -/
theorem nextS_put {K : Int} {l : List Int} (r : List Int) (h0 : 0 ≤ K) (h1 : K ≤ 63) (hl : l.length ≤ 16384) : nextS (frameL K l ++ r) = ⟨K, l, (frameL K l).length, 0, ⟨#[]⟩, 0⟩ := by
  have hL := frameL_len K l
  have hpos : 0 < (intL (l.length : Int)).length := by
    rw [intL_nat hl]; unfold numL; split
    · simp
    · split
      · simp
      · split <;> simp
  have hlen : (frameL K l ++ r).length = (frameL K l).length + r.length := List.length_append
  have g0 : (frameL K l ++ r).getD 0 0 = 197 := rfl
  have g1 : (frameL K l ++ r).getD 1 0 = K := rfl
  have hd : (frameL K l ++ r).drop 2 = numL (l.length : Int) ++ (l ++ (le4 (crcL (frameB K l)) ++ r)) := by
    rw [← intL_nat hl]
    unfold frameL
    simp only [frameB, List.append_assoc, List.cons_append, List.nil_append, List.drop_succ_cons, List.drop_zero]
  unfold nextS
  rw [if_neg (by omega), g0, if_neg (by simp), if_neg (by omega), g1, if_neg (by omega), if_neg (by omega), hd, numS_numL _ (by omega) (by omega) (by omega)]
  unfold nextT
  simp only [Int.toNat_natCast]
  have hS : 2 + (numL (l.length : Int)).length + l.length = (frameB K l).length := by rw [frameB_len, intL_nat hl]
  have hT : (frameB K l).length + 4 = (frameL K l).length := by rw [hL, frameB_len]
  rw [if_neg (by decide), if_neg (by simp), hS, hT, if_neg (by omega)]
  have e1 : (frameL K l ++ r).take (frameB K l).length = frameB K l := by
    unfold frameL
    rw [List.append_assoc, List.take_left]
  have e2 : (frameL K l ++ r).take (frameL K l).length = frameL K l := List.take_left
  have e3 : (frameL K l ++ r).drop (2 + (numL (l.length : Int)).length) = l ++ (le4 (crcL (frameB K l)) ++ r) := by
    rw [← List.drop_drop, hd, List.drop_left]
  rw [e1, e2, e3, List.take_left]
  exact if_pos rfl

/-- All frames, one behind the other: the first k of them, and how many bytes they have. -/
def it (l : List Int) : Nat → List (Int × List Int) × Nat
  | 0 => ([], 0)
  | k + 1 => ((it l k).1 ++ [((nextS (l.drop (it l k).2)).K, (nextS (l.drop (it l k).2)).body)], (it l k).2 + (nextS (l.drop (it l k).2)).size)
/-- There are k whole frames. -/
def Its (l : List Int) (k : Nat) : Prop := ∀ j, j < k → (nextS (l.drop (it l j).2)).size ≠ 0
theorem nextS_size (l : List Int) : (nextS l).size ≤ l.length := by
  unfold nextS
  split
  · exact Nat.zero_le _
  split
  · exact Nat.zero_le _
  split
  · exact Nat.zero_le _
  split
  · exact Nat.zero_le _
  split
  · exact Nat.zero_le _
  unfold nextT
  split
  · exact Nat.zero_le _
  split
  · exact Nat.zero_le _
  split
  · exact Nat.zero_le _
  split
  · simp only; omega
  · exact Nat.zero_le _
theorem nextS_c {l : List Int} (h : (nextS l).size ≠ 0) : (nextS l).c = 0 := by
  unfold nextS at *
  split at h
  · exact absurd rfl h
  split at h
  · exact absurd rfl h
  split at h
  · exact absurd rfl h
  split at h
  · exact absurd rfl h
  split at h
  · exact absurd rfl h
  simp only [*, if_false]
  unfold nextT at *
  split at h
  · exact absurd rfl h
  split at h
  · exact absurd rfl h
  split at h
  · exact absurd rfl h
  split at h
  · simp only [*, if_false, if_true]
  · exact absurd rfl h
theorem it_len (l : List Int) (k : Nat) : (it l k).1.length = k := by
  induction k with
  | zero => rfl
  | succ k ih => simp [it, ih]
theorem it_le (l : List Int) (k : Nat) : (it l k).2 ≤ l.length := by
  induction k with
  | zero => exact Nat.zero_le _
  | succ k ih =>
    have := nextS_size (l.drop (it l k).2)
    rw [List.length_drop] at this
    simp only [it]
    omega
theorem its_le {l : List Int} {k : Nat} (h : Its l k) : k ≤ (it l k).2 := by
  induction k with
  | zero => exact Nat.zero_le _
  | succ k ih =>
    have h1 := ih (fun j hj => h j (by omega))
    have h2 := h k (by omega)
    simp only [it]
    omega
theorem its_succ {l : List Int} {k : Nat} (h : Its l k) (hs : (nextS (l.drop (it l k).2)).size ≠ 0) : Its l (k + 1) := by
  intro j hj
  by_cases e : j = k
  · subst e; exact hs
  · exact h j (by omega)
theorem it_app {l : List Int} (r : List Int) {k : Nat} (h : Its l k) : it (l ++ r) k = it l k := by
  induction k with
  | zero => rfl
  | succ k ih =>
    have h1 := ih (fun j hj => h j (by omega))
    have h2 : nextS ((l ++ r).drop (it l k).2) = nextS (l.drop (it l k).2) := by
      rw [List.drop_append_of_le_length (it_le l k)]
      exact nextS_app r (.inl (h k (by omega)))
    simp only [it, h1, h2]
theorem its_app {l : List Int} (r : List Int) {k : Nat} (h : Its l k) : Its (l ++ r) k := by
  intro j hj
  rw [it_app r (fun i hi => h i (by omega)), List.drop_append_of_le_length (it_le l j), nextS_app r (.inl (h j hj))]
  exact h j hj
theorem it_shift (l : List Int) (k j : Nat) : it l (k + j) = ((it l k).1 ++ (it (l.drop (it l k).2) j).1, (it l k).2 + (it (l.drop (it l k).2) j).2) := by
  induction j with
  | zero => simp [it]
  | succ j ih =>
    rw [← Nat.add_assoc]
    simp only [it, ih, List.drop_drop, List.append_assoc, Nat.add_assoc]
theorem its_shift {l : List Int} {k j : Nat} (h : Its l k) (hj : Its (l.drop (it l k).2) j) : Its l (k + j) := by
  intro i hi
  by_cases e : i < k
  · exact h i e
  · obtain ⟨m, rfl⟩ : ∃ m, i = k + m := ⟨i - k, by omega⟩
    have := hj m (by omega)
    rw [List.drop_drop] at this
    rw [it_shift]
    exact this
theorem its_one {l : List Int} {k k' : Nat} (h : Its l k) (h' : Its l k') (s : (nextS (l.drop (it l k).2)).size = 0) (s' : (nextS (l.drop (it l k').2)).size = 0) : k = k' := by
  rcases Nat.lt_trichotomy k k' with q | q | q
  · exact absurd s (h' k q)
  · exact q
  · exact absurd s' (h k' q)
/-- Frames as bytes, one behind the other. -/
def allL (fs : List (Int × List Int)) : List Int := fs.flatMap fun f => frameL f.1 f.2
theorem allL_snoc (fs : List (Int × List Int)) (k : Nat) (h : k < fs.length) : allL (fs.take (k + 1)) = allL (fs.take k) ++ frameL fs[k].1 fs[k].2 := by
  rw [List.take_add_one, List.getElem?_eq_getElem h]
  unfold allL
  rw [List.flatMap_append]
  simp only [Option.toList, List.flatMap_cons, List.flatMap_nil, List.append_nil]
theorem allL_split (fs : List (Int × List Int)) (k : Nat) : allL fs = allL (fs.take k) ++ allL (fs.drop k) := by
  unfold allL
  rw [← List.flatMap_append, List.take_append_drop]
/-- A frame that may be. -/
def Ok (f : Int × List Int) : Prop := 0 ≤ f.1 ∧ f.1 ≤ 63 ∧ f.2.length ≤ 16384
theorem all_next {fs : List (Int × List Int)} (h : ∀ f ∈ fs, Ok f) {k : Nat} (hk : k < fs.length) : nextS ((allL fs).drop (allL (fs.take k)).length) = ⟨fs[k].1, fs[k].2, (frameL fs[k].1 fs[k].2).length, 0, ⟨#[]⟩, 0⟩ := by
  rw [allL_split fs k, List.drop_left]
  have e : fs.drop k = fs[k] :: fs.drop (k + 1) := List.drop_eq_getElem_cons hk
  rw [e]
  obtain ⟨a, b, c⟩ := h fs[k] (List.getElem_mem hk)
  exact nextS_put _ a b c
theorem it_all {fs : List (Int × List Int)} (h : ∀ f ∈ fs, Ok f) (k : Nat) (hk : k ≤ fs.length) : it (allL fs) k = (fs.take k, (allL (fs.take k)).length) := by
  induction k with
  | zero => simp [it, allL]
  | succ k ih =>
    simp only [it, ih (by omega), all_next h (show k < fs.length by omega)]
    rw [allL_snoc fs k (by omega), List.length_append, List.take_add_one, List.getElem?_eq_getElem (show k < fs.length by omega)]
    rfl
theorem its_all {fs : List (Int × List Int)} (h : ∀ f ∈ fs, Ok f) : Its (allL fs) fs.length := by
  intro j hj
  rw [it_all h j (by omega)]
  simp only [all_next h hj]
  rw [frameL_len]
  omega
theorem nextS_nil : nextS [] = fnd0 := rfl
/-- Of bytes cut short the first frames are told, and nothing is wrong. -/
theorem it_cut {fs : List (Int × List Int)} (h : ∀ f ∈ fs, Ok f) {n k : Nat} (hi : Its ((allL fs).take n) k) (hs : (nextS (((allL fs).take n).drop (it ((allL fs).take n) k).2)).size = 0) :
    k ≤ fs.length ∧ (it ((allL fs).take n) k).1 = fs.take k ∧ (nextS (((allL fs).take n).drop (it ((allL fs).take n) k).2)).c = 0 := by
  generalize hA : (allL fs).take n = A at *
  have hAB : allL fs = A ++ (allL fs).drop n := by rw [← hA]; exact (List.take_append_drop _ _).symm
  have hi2 : Its (allL fs) k := by rw [hAB]; exact its_app _ hi
  have he : it (allL fs) k = it A k := by rw [hAB]; exact it_app _ hi
  have hfin : (nextS ((allL fs).drop (it (allL fs) fs.length).2)).size = 0 := by
    rw [it_all h _ (Nat.le_refl _), List.take_length, List.drop_length]
    rfl
  have hk : k ≤ fs.length := by
    rcases Nat.lt_or_ge fs.length k with q | q
    · exact absurd hfin (hi2 _ q)
    · exact q
  have e2 := it_all h k hk
  rw [he] at e2
  refine ⟨hk, by rw [e2], ?_⟩
  by_cases hc : (nextS (A.drop (it A k).2)).c = 0
  · exact hc
  · exfalso
    have h3 : nextS ((allL fs).drop (it A k).2) = nextS (A.drop (it A k).2) := by
      rw [hAB, List.drop_append_of_le_length (it_le A k)]
      exact nextS_app _ (.inr hc)
    rw [e2] at h3 hc
    simp only at h3 hc
    by_cases q : k < fs.length
    · rw [all_next h q] at h3
      rw [← h3] at hc
      exact hc rfl
    · obtain rfl : k = fs.length := by omega
      rw [List.take_length, List.drop_length, nextS_nil] at h3
      rw [List.take_length, ← h3] at hc
      exact hc rfl
end Go.Proofs.Ytenahnbfaekljaa
