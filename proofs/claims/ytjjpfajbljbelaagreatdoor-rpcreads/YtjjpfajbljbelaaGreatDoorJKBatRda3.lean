/-
  THE BATCH THAT BYTES ARE (batch.Read): what the mathematics says. Conditions: the bytes' cells hold them, each is a byte, no more than a hundred thousand; errors.errorType is laid.
  MESSAGES: what is wrong with one first, what is read of a frame, there and back (layer rpc, mathematics).
  WHAT A KIND OF MESSAGE IS ABOUT (rpc.subjects, has, most, within, member; castellanref07.has, num): as functions of numbers. No condition.
-/
import Derived.Test.YtjjpfajbljbelaaGreatDoorJKBatCla5
import Derived.Test.YtjjpfajbljbelaaGreatDoorJKRefAska3
namespace Go.Proofs.YtjjpfajbljbelaaGreatDoor
open Go.RowKit
theorem endS_c {l : List Int} {s : Gs} (h : (endS l s).c = 0) : s.c = 0 ∧ l.length ≤ s.pt ∧ endS l s = s := by
 unfold endS at h ⊢
 by_cases hp : s.pt < l.length
 ·rw [if_pos hp] at h; exact absurd h (refS_bad _ _ (by decide))
 ·rw [if_neg hp] at h ⊢; exact ⟨h, by omega, rfl⟩
def chkBs : List Bt → Nat → Option (Nat × ByteArray × Int)
 | [], _ => none
 | x :: xs, i => if (bw x).c = 0 then chkBs xs (i + 1) else some (i, (bw x).op, (bw x).c)
theorem chkBs_ok : ∀ (xs : List Bt) (i : Nat), chkBs xs i = none → ∀ x ∈ xs, (bw x).c = 0
 | [], _, _, x, hx => by simp at hx
 | y :: xs, i, h, x, hx => by
  unfold chkBs at h
  split at h
  ·rcases List.mem_cons.1 hx with rfl | hx
   ·assumption
   ·exact chkBs_ok xs (i + 1) h x hx
  ·simp at h
theorem chkBs_none : ∀ (xs : List Bt) (i : Nat), (∀ x ∈ xs, (bw x).c = 0) → chkBs xs i = none
 | [], _, _ => rfl
 | y :: xs, i, h => by
  unfold chkBs
  rw [if_pos (h y (List.mem_cons_self ..))]
  exact chkBs_none xs (i + 1) (fun x hx => h x (List.mem_cons_of_mem _ hx))
theorem chkBs_code : ∀ (xs : List Bt) (i : Nat) (q : Nat × ByteArray × Int), chkBs xs i = some q → q.2.2 ≠ 0
 | [], _, q, h => by simp [chkBs] at h
 | y :: xs, i, q, h => by
  unfold chkBs at h
  split at h
  ·exact chkBs_code xs (i + 1) q h
  ·cases h; assumption
def chkM (m : Ms) : ByteArray × Int × Int :=
 if m.k < 1 ∨ 8 < m.k then (⟨#[107, 105, 110, 100]⟩, m.k, 5)
 else if m.fr < 1 ∨ 1073741824 < m.fr ∨ m.tn < 1 ∨ 1073741824 < m.tn ∨ m.fr = m.tn then (⟨#[102, 114, 111, 109]⟩, m.fr, 2)
 else if m.t < 0 ∨ 1073741824 < m.t then (⟨#[116, 101, 114, 109]⟩, m.t, 2)
 else if (m.pre = true ∧ hasM m.k 97 = false) ∨ (m.ok = true ∧ hasM m.k 103 = false) then (⟨#[102, 108, 97, 103]⟩, 1, 1)
 else if numB m.ld (hasM m.k 108) 0 1073741824 = false then (⟨#[108, 101, 97, 100, 101, 114]⟩, m.ld, 2)
 else if numB m.pa (hasM m.k 112) 0 1073741824 = false ∨ numB m.pt (hasM m.k 112) 0 1073741824 = false then (⟨#[112, 108, 97, 99, 101]⟩, m.pa, 2)
 else if numB m.hi (hasM m.k 104) 0 1073741824 = false then (⟨#[104, 105, 103, 104]⟩, m.hi, 2)
 else if numB m.co (hasM m.k 99) 0 21 = false then (⟨#[99, 111, 100, 101]⟩, m.co, 2)
 else if numB m.sz (hasM m.k 115) 0 1073741824 = false ∨ numB m.po (hasM m.k 111) 0 1073741824 = false then (⟨#[115, 105, 122, 101]⟩, m.sz, 2)
 else if 512 < m.da.length ∨ (0 < m.da.length ∧ hasM m.k 100 = false) then (⟨#[100, 97, 116, 97]⟩, (m.da.length : Int), 6)
 else if 8 < m.bs.length ∨ (0 < m.bs.length ∧ hasM m.k 98 = false) then (⟨#[98, 97, 116, 99, 104, 101, 115]⟩, (m.bs.length : Int), 6)
 else match chkBs m.bs 0 with
  | none => (⟨#[]⟩, 0, 0)
  | some q => (q.2.1, (q.1 : Int), q.2.2)
theorem numB_yes {n lo hi : Int} {h : Bool} (e : ¬ numB n h lo hi = false) : numB n h lo hi = true := by simpa using e
theorem chkM_ok {m : Ms} (h : (chkM m).2.2 = 0) (hby : Byt m.da) (hl : ∀ x ∈ m.bs, (bytL x).length ≤ 16384) : (1 ≤ m.k ∧ m.k ≤ 8) ∧ MsOk m := by
 unfold chkM at h
 by_cases c0 : m.k < 1 ∨ 8 < m.k
 ·rw [if_pos c0] at h; exact absurd (show (5 : Int) = 0 from h) (by decide)
 rw [if_neg c0] at h
 by_cases c1 : m.fr < 1 ∨ 1073741824 < m.fr ∨ m.tn < 1 ∨ 1073741824 < m.tn ∨ m.fr = m.tn
 ·rw [if_pos c1] at h; exact absurd (show (2 : Int) = 0 from h) (by decide)
 rw [if_neg c1] at h
 by_cases c2 : m.t < 0 ∨ 1073741824 < m.t
 ·rw [if_pos c2] at h; exact absurd (show (2 : Int) = 0 from h) (by decide)
 rw [if_neg c2] at h
 by_cases c3 : (m.pre = true ∧ hasM m.k 97 = false) ∨ (m.ok = true ∧ hasM m.k 103 = false)
 ·rw [if_pos c3] at h; exact absurd (show (1 : Int) = 0 from h) (by decide)
 rw [if_neg c3] at h
 by_cases c4 : numB m.ld (hasM m.k 108) 0 1073741824 = false
 ·rw [if_pos c4] at h; exact absurd (show (2 : Int) = 0 from h) (by decide)
 rw [if_neg c4] at h
 by_cases c5 : numB m.pa (hasM m.k 112) 0 1073741824 = false ∨ numB m.pt (hasM m.k 112) 0 1073741824 = false
 ·rw [if_pos c5] at h; exact absurd (show (2 : Int) = 0 from h) (by decide)
 rw [if_neg c5] at h
 by_cases c6 : numB m.hi (hasM m.k 104) 0 1073741824 = false
 ·rw [if_pos c6] at h; exact absurd (show (2 : Int) = 0 from h) (by decide)
 rw [if_neg c6] at h
 by_cases c7 : numB m.co (hasM m.k 99) 0 21 = false
 ·rw [if_pos c7] at h; exact absurd (show (2 : Int) = 0 from h) (by decide)
 rw [if_neg c7] at h
 by_cases c8 : numB m.sz (hasM m.k 115) 0 1073741824 = false ∨ numB m.po (hasM m.k 111) 0 1073741824 = false
 ·rw [if_pos c8] at h; exact absurd (show (2 : Int) = 0 from h) (by decide)
 rw [if_neg c8] at h
 by_cases c9 : 512 < m.da.length ∨ (0 < m.da.length ∧ hasM m.k 100 = false)
 ·rw [if_pos c9] at h; exact absurd (show (6 : Int) = 0 from h) (by decide)
 rw [if_neg c9] at h
 by_cases c10 : 8 < m.bs.length ∨ (0 < m.bs.length ∧ hasM m.k 98 = false)
 ·rw [if_pos c10] at h; exact absurd (show (6 : Int) = 0 from h) (by decide)
 rw [if_neg c10] at h
 have hb : ∀ x ∈ m.bs, (bw x).c = 0 := by
  cases hq : chkBs m.bs 0 with
  | none => exact chkBs_ok m.bs 0 hq
  | some q => rw [hq] at h; exact absurd h (chkBs_code m.bs 0 q hq)
 have e4 := ok2_num (numB_yes c4) (by decide) (by decide)
 have e5 := ok2_num (numB_yes (fun e => c5 (.inl e))) (by decide) (by decide)
 have e6 := ok2_num (numB_yes (fun e => c5 (.inr e))) (by decide) (by decide)
 have e7 := ok2_num (numB_yes c6) (by decide) (by decide)
 have e8 := ok2_num (numB_yes c7) (by decide) (by decide)
 have e9 := ok2_num (numB_yes (fun e => c8 (.inl e))) (by decide) (by decide)
 have e10 := ok2_num (numB_yes (fun e => c8 (.inr e))) (by decide) (by decide)
 refine ⟨by omega, ⟨⟨?_, ?_, ?_, trivial⟩, ⟨?_, ?_, trivial⟩, ⟨e4, e5, e6, e7, e8, e9, e10, trivial⟩, ⟨?_, trivial⟩, ⟨?_, trivial⟩, fun x hx => ⟨hb x hx, hl x hx⟩⟩⟩
 ·show if true = true then _ else _
  rw [if_pos rfl]; omega
 ·show if true = true then _ else _
  rw [if_pos rfl]; omega
 ·show if true = true then _ else _
  rw [if_pos rfl]; omega
 ·cases hh : hasM m.k 97 with
  | true => trivial
  | false => cases hp : m.pre with
   | true => exact absurd (.inl ⟨hp, hh⟩) c3
   | false => rfl
 ·cases hh : hasM m.k 103 with
  | true => trivial
  | false => cases hp : m.ok with
   | true => exact absurd (.inr ⟨hp, hh⟩) c3
   | false => rfl
 ·cases hh : hasM m.k 100 with
  | true => exact ⟨by omega, hby⟩
  | false => exact List.length_eq_zero_iff.1 (by
    rcases Nat.eq_zero_or_pos m.da.length with e | e
    ·exact e
    ·exact absurd (.inr ⟨e, hh⟩) c9)
 ·cases hh : hasM m.k 98 with
  | true => exact ⟨by omega, by omega⟩
  | false =>
   rcases Nat.eq_zero_or_pos m.bs.length with e | e
   ·show (m.bs.length : Int) = 0
    omega
   ·exact absurd (.inr ⟨e, hh⟩) c10
def readM (k : Int) (l : List Int) : (ByteArray × Int × Int) × Ms :=
 if k < 1 ∨ 8 < k then ((⟨#[107, 105, 110, 100]⟩, k, 5), Ms.zero)
 else
  let q := bodyM l k (okS 0)
  let s := endS l q.1
  if s.c ≠ 0 then ((s.op, whS s, s.c), Ms.zero)
  else if (chkM q.2).2.2 ≠ 0 then (chkM q.2, Ms.zero)
  else ((⟨#[]⟩, 0, 0), q.2)
theorem readM_back (m : Ms) (h : (chkM m).2.2 = 0) (hby : Byt m.da) (hl : ∀ x ∈ m.bs, (bytL x).length ≤ 16384) : readM m.k (tailM m) = ((⟨#[]⟩, 0, 0), m) := by
 obtain ⟨hk, hok⟩ := chkM_ok h hby hl
 have e := bodyM_back m hok [] []
 simp only [List.nil_append, List.append_nil, List.length_nil, Nat.zero_add] at e
 have hend : endS (tailM m) (okS (tailM m).length) = okS (tailM m).length := by
  unfold endS
  rw [if_neg (show ¬ (okS (tailM m).length).pt < (tailM m).length from Nat.lt_irrefl _)]
 unfold readM
 rw [if_neg (by omega)]
 simp only
 rw [e]
 simp only
 rw [hend, if_neg (show ¬ (okS (tailM m).length).c ≠ 0 from fun q => q rfl), if_neg (fun q => q h)]
theorem readM_zero {k : Int} {l : List Int} (h : (readM k l).1.2.2 ≠ 0) : (readM k l).2 = Ms.zero := by
 unfold readM at h ⊢
 split
 ·rfl
 ·rename_i hk
  rw [if_neg hk] at h
  simp only at h ⊢
  split
  ·rfl
  ·rename_i h1
   rw [if_neg h1] at h
   split
   ·rfl
   ·rename_i h2
    rw [if_neg h2] at h
    exact absurd rfl h
theorem readM_once (k : Int) (l : List Int) (hb : Byt l) (h : (readM k l).1.2.2 = 0) : (readM k l).2.k = k ∧ (chkM (readM k l).2).2.2 = 0 ∧ MsOk (readM k l).2 ∧ tailM (readM k l).2 = l := by
 unfold readM at h ⊢
 by_cases hk : k < 1 ∨ 8 < k
 ·rw [if_pos hk] at h; simp at h
 rw [if_neg hk] at h ⊢
 simp only at h ⊢
 by_cases h1 : (endS l (bodyM l k (okS 0)).1).c ≠ 0
 ·rw [if_pos h1] at h; exact absurd h h1
 rw [if_neg h1] at h ⊢
 by_cases h2 : (chkM (bodyM l k (okS 0)).2).2.2 ≠ 0
 ·rw [if_pos h2] at h; exact absurd h h2
 rw [if_neg h2] at h ⊢
 obtain ⟨e1, e2, _⟩ := endS_c (Classical.not_not.1 h1)
 obtain ⟨b, o0, o1, o2, o3, o4, o5⟩ := bodyM_run l hb k 0 (Nat.zero_le _) e1
 rw [o0] at e2
 have e2' : l.length ≤ b := e2
 refine ⟨o1, Classical.not_not.1 h2, o5, ?_⟩
 rw [List.drop_zero] at o4
 conv => rhs; rw [o4]
 rw [List.drop_eq_nil_of_le (by omega), List.append_nil]
set_option maxRecDepth 100000
set_option maxHeartbeats 4000000
theorem lettersM_none {k : Int} (h : ¬ (1 ≤ k ∧ k ≤ 8)) : lettersM k = [] := by
 unfold lettersM
 rw [if_neg (by omega), if_neg (by omega), if_neg (by omega), if_neg (by omega), if_neg (by omega), if_neg (by omega), if_neg (by omega), if_neg (by omega)]
theorem kindsM {k : Int} (h : 1 ≤ k ∧ k ≤ 8) : k = 1 ∨ k = 2 ∨ k = 3 ∨ k = 4 ∨ k = 5 ∨ k = 6 ∨ k = 7 ∨ k = 8 := by omega
def sbjM (k : Int) : Int :=
 if k = 1 then 25 else if k = 2 then 7 else if k = 3 then 24 else if k = 4 then 1148 else if k = 5 then 4 else if k = 6 then 4 else if k = 7 then 280 else if k = 8 then 988 else 0
def kndM (k : Int) : Bool := decide (1 ≤ k ∧ k ≤ 8)
def bitM (a o : Int) : Bool := (bits .and .u16 a o != 0)
theorem sbjM_none {k : Int} (h : ¬ (1 ≤ k ∧ k ≤ 8)) : sbjM k = 0 := by
 unfold sbjM
 rw [if_neg (by omega), if_neg (by omega), if_neg (by omega), if_neg (by omega), if_neg (by omega), if_neg (by omega), if_neg (by omega), if_neg (by omega)]
theorem bitM_has {k : Int} (h : 1 ≤ k ∧ k ≤ 8) : bitM (sbjM k) 1 = hasM k 97 ∧ bitM (sbjM k) 2 = hasM k 103 ∧ bitM (sbjM k) 4 = hasM k 108 ∧ bitM (sbjM k) 8 = hasM k 112 ∧ bitM (sbjM k) 16 = hasM k 112 ∧ bitM (sbjM k) 32 = hasM k 104 ∧ bitM (sbjM k) 64 = hasM k 99 ∧ bitM (sbjM k) 128 = hasM k 115 ∧ bitM (sbjM k) 256 = hasM k 111 ∧ bitM (sbjM k) 512 = hasM k 100 ∧ bitM (sbjM k) 1024 = hasM k 98 := by
 rcases kindsM h with rfl | rfl | rfl | rfl | rfl | rfl | rfl | rfl <;> exact ⟨by decide, by decide, by decide, by decide, by decide, by decide, by decide, by decide, by decide, by decide, by decide⟩
theorem msubj_any (k : Int) (w : World) : Calls Tryz.prog 14 #[.int .i64 k] w fun e w' => e = .returned (.tuple #[.int .u16 (sbjM k), .bool (kndM k)]) ∧ w' = w := by
 by_cases hk : 1 ≤ k ∧ k ≤ 8
 ·rcases kindsM hk with rfl | rfl | rfl | rfl | rfl | rfl | rfl | rfl
  all_goals
   go_enter Tryz.func14, Tryz.ntmps14
   go_wp2_with fail
   go_ret2
   exact ⟨rfl, rfl⟩
 ·rw [sbjM_none hk, show kndM k = false from decide_eq_false hk]
  have n1 : ¬ k = 1 := by omega
  have n2 : ¬ k = 2 := by omega
  have n3 : ¬ k = 3 := by omega
  have n4 : ¬ k = 4 := by omega
  have n5 : ¬ k = 5 := by omega
  have n6 : ¬ k = 6 := by omega
  have n7 : ¬ k = 7 := by omega
  have n8 : ¬ k = 8 := by omega
  clear hk
  go_enter Tryz.func14, Tryz.ntmps14
  go_wp2_with fail
  go_ret2
  exact ⟨rfl, rfl⟩
theorem mhas_any (a o : Int) (w : World) : Calls Tryz.prog 34 #[.int .u16 a, .int .u16 o] w fun e w' => e = .returned (.bool (bitM a o)) ∧ w' = w := by
 go_enter Tryz.func34, Tryz.ntmps34
 go_wp2_with fail
 go_ret
 exact ⟨rfl, rfl⟩
theorem mmost_any (a o n : Int) (w : World) : Calls Tryz.prog 44 #[.int .u16 a, .int .u16 o, .int .i64 n] w fun e w' => e = .returned (.int .i64 (if bitM a o then n else 0)) ∧ w' = w := by
 have HC := hide (mhas_any a o w)
 cases hb : bitM a o <;> rw [hb] at HC
 all_goals
  go_enter Tryz.func44, Tryz.ntmps44
  go_wp2_with (first | (go_at_call 34; refine HC.out.mono ?_; rintro e w' ⟨rfl, rfl⟩))
  go_ret
  exact ⟨rfl, rfl⟩
theorem mwithin_dec (a o n hi : Int) (w : World) : Calls Tryz.prog 43 #[.int .u16 a, .int .u16 o, .int .i64 n, .int .i64 hi] w fun e w' => e = .returned (.bool (decide (0 ≤ n ∧ n ≤ if bitM a o then hi else 0))) ∧ w' = w := by
 have HC := hide (fun W => mmost_any a o hi W)
 generalize (if bitM a o then hi else 0) = M at *
 obtain ⟨R, hR⟩ : ∃ R, R = decide (0 ≤ n ∧ n ≤ M) := ⟨_, rfl⟩
 rw [← hR]
 have HR := hide hR
 clear hR
 by_cases h1 : 0 ≤ n
 ·have HE : Hid (R = decide (n ≤ M)) := hide (by rw [HR.out]; simp [h1])
  go_enter Tryz.func43, Tryz.ntmps43
  go_wp2_with (first | (go_at_call 44; refine (HC.out _).mono ?_; rintro e w' ⟨rfl, rfl⟩))
  go_ret
  exact ⟨by rw [HE.out]; rfl, rfl⟩
 ·have HE : Hid (R = false) := hide (by rw [HR.out]; simp [h1])
  go_enter Tryz.func43, Tryz.ntmps43
  go_wp2_with (first | (go_at_call 44; refine (HC.out _).mono ?_; rintro e w' ⟨rfl, rfl⟩))
  go_ret
  exact ⟨by rw [HE.out]; rfl, rfl⟩
theorem numB_not (n : Int) (h : Bool) (hi : Int) : decide (numB n h 0 hi = false) = !decide (0 ≤ n ∧ n ≤ if h then hi else 0) := by
 have e : numB n h 0 hi = decide (0 ≤ n ∧ n ≤ if h then hi else 0) := by
  unfold numB
  cases h
  ·exact decide_eq_decide.2 (by simp; omega)
  ·rfl
 rw [e]
 generalize decide (0 ≤ n ∧ n ≤ if h then hi else 0) = b
 cases b <;> rfl
def memB (n : Int) : Bool := decide (1 ≤ n ∧ n ≤ 1073741824)
theorem member_any (n : Int) (w : World) : Calls Tryz.prog 42 #[.int .i64 n] w fun e w' => e = .returned (.bool (memB n)) ∧ w' = w := by
 obtain ⟨R, hR⟩ : ∃ R, R = memB n := ⟨_, rfl⟩
 rw [← hR]
 have HR : Hid (R = decide (1 ≤ n ∧ n ≤ 1073741824)) := hide hR
 clear hR
 by_cases h1 : 1 ≤ n
 ·have HE : Hid (R = decide (n ≤ 1073741824)) := hide (by rw [HR.out]; simp [h1])
  go_enter Tryz.func42, Tryz.ntmps42
  go_wp2_with fail
  go_ret
  exact ⟨by rw [HE.out]; rfl, rfl⟩
 ·have HE : Hid (R = false) := hide (by rw [HR.out]; simp [h1])
  go_enter Tryz.func42, Tryz.ntmps42
  go_wp2_with fail
  go_ret
  exact ⟨by rw [HE.out]; rfl, rfl⟩
theorem rmhas_any (k : Int) (c : Int) (w : World) : Calls Tryz.prog 22 #[.int .i64 k, .int .u8 c] w fun e w' => e = .returned (.bool (hasM k c)) ∧ w' = w := by
 by_cases hk : 1 ≤ k ∧ k ≤ 8
 ·have hk' := kindsM hk
  clear hk
  rcases hk' with rfl | rfl | rfl | rfl | rfl | rfl | rfl | rfl
  all_goals
   generalize hR : hasM _ c = R
   unfold hasM at hR
   try rw [show lettersM 6 = lettersM 5 from rfl] at hR
   have HR := hide hR
   clear hR
   go_enter Tryz.func22, Tryz.ntmps22
   go_wp2_with fail
   first | (rw [show (⟨#[97, 112]⟩ : ByteArray) = ⟨(lettersM 1).toArray⟩ from rfl]) | (rw [show (⟨#[97, 103, 108]⟩ : ByteArray) = ⟨(lettersM 2).toArray⟩ from rfl]) | (rw [show (⟨#[108, 112, 104, 99, 98]⟩ : ByteArray) = ⟨(lettersM 4).toArray⟩ from rfl]) | (rw [show (⟨#[112, 111]⟩ : ByteArray) = ⟨(lettersM 7).toArray⟩ from rfl]) | (rw [show (⟨#[108, 112, 99, 115, 111, 100]⟩ : ByteArray) = ⟨(lettersM 8).toArray⟩ from rfl]) | (rw [show (⟨#[112]⟩ : ByteArray) = ⟨(lettersM 3).toArray⟩ from rfl]) | (rw [show (⟨#[108]⟩ : ByteArray) = ⟨(lettersM 5).toArray⟩ from rfl])
   generalize hS : lettersM _ = S
   have HS := hide hS
   have hSl : S.length ≤ 7 := by rw [← hS]; decide
   have hidx : ∀ (j : Nat) (hj : j < S.length) h, (⟨S.toArray⟩ : ByteArray)[j]'h = S[j]'hj := fun _ _ _ => rfl
   clear hS
   go_loop [6] (fun i => ∃ j : Nat, j ≤ S.length ∧ i = .int .i64 (j : Int) ∧ Hid (∀ x ∈ S.take j, ¬ ((x.toNat : Int) = c))) (fun i => S.length - (intOf i).toNat)
   case atStart => exact ⟨0, Nat.zero_le _, rfl, hide (fun x hx => by simp at hx)⟩
   case round =>
    obtain ⟨j, hj, rfl, HN⟩ := hrel
    by_cases hlt : j < S.length
    ·have hltI : (j : Int) < (S.length : Int) := by omega
     have hix : ∀ h, (⟨S.toArray⟩ : ByteArray)[j]'h = S[j] := hidx j hlt
     have HSN := hide (fun hn => let_snoc hlt HN.out hn)
     have HSY := hide (fun he => let_yes (c := c) hlt he)
     clear hidx
     by_cases he : (S[j].toNat : Int) = c
     ·go_wp2_with fail
      go_ret
      exact ⟨by rw [show R = true by rw [← HR.out, HS.out, HSY.out he]]; rfl, rfl⟩
     ·go_wp2_with fail
      go_round
      case rel => exact ⟨j + 1, by omega, by go_num, hide (HSN.out he)⟩
      case measure => simp [intOf]; omega
    ·obtain rfl : j = S.length := by omega
     clear hlt
     go_wp2_with fail
     go_ret
     exact ⟨by rw [show R = false by rw [← HR.out, HS.out, let_no (by have := HN.out; rw [List.take_length] at this; exact this)]]; rfl, rfl⟩
 ·generalize hR : hasM k c = R
  have HR := hide (show R = false by rw [← hR]; unfold hasM; rw [lettersM_none hk]; simp)
  clear hR
  have n1 : ¬ k = 1 := by omega
  have n2 : ¬ k = 2 := by omega
  have n3 : ¬ k = 3 := by omega
  have n4 : ¬ k = 4 := by omega
  have n5 : ¬ k = 5 := by omega
  have n6 : ¬ k = 6 := by omega
  have n7 : ¬ k = 7 := by omega
  have n8 : ¬ k = 8 := by omega
  clear hk
  go_enter Tryz.func22, Tryz.ntmps22
  go_wp2_with fail
  refine wp_loop_rounds 1 ?_
  rw [rounds_succ]
  go_wp2_with fail
  go_ret
  exact ⟨by rw [HR.out]; rfl, rfl⟩
theorem rmnum_any (n : Int) (asks : Bool) (hi : Int) (w : World) : Calls Tryz.prog 61 #[.int .i64 n, .bool asks, .int .i64 hi] w fun e w' => e = .returned (.bool (numB n asks 0 hi)) ∧ w' = w := by
 obtain ⟨R, hR⟩ : ∃ R, R = numB n asks 0 hi := ⟨_, rfl⟩
 rw [← hR]
 have HR := hide hR
 clear hR
 cases asks with
 | true =>
  by_cases h1 : 0 ≤ n
  ·have HE : Hid (R = decide (n ≤ hi)) := hide (by rw [HR.out]; simp [numB, h1])
   go_enter Tryz.func61, Tryz.ntmps61
   go_wp2_with fail
   go_ret
   exact ⟨by rw [HE.out]; rfl, rfl⟩
  ·have HE : Hid (R = false) := hide (by rw [HR.out]; simp [numB]; omega)
   go_enter Tryz.func61, Tryz.ntmps61
   go_wp2_with fail
   go_ret
   exact ⟨by rw [HE.out]; rfl, rfl⟩
 | false =>
  have HE : Hid (R = (n == 0)) := hide (by rw [HR.out]; simp only [numB]; rfl)
  go_enter Tryz.func61, Tryz.ntmps61
  go_wp2_with fail
  go_ret
  exact ⟨by rw [HE.out]; rfl, rfl⟩
end Go.Proofs.YtjjpfajbljbelaaGreatDoor
