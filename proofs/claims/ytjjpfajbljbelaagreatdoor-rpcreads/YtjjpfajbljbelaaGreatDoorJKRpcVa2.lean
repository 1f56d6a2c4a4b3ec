/-
  A MESSAGE AS A VALUE, AND IN ITS CELLS; what is wrong with it first, as the program's error; whether two are the same, whether one is no more than is waited for. No condition.
  RECORDS AS BATCHES OF SO MANY (batch.Split): what the mathematics says. Conditions: the records' cells hold them, no more than a thousand, their rows are not too long; the base is not too great.
-/
import Derived.Test.YtjjpfajbljbelaaGreatDoorJKBatRda3
import Derived.Test.YtjjpfajbljbelaaGreatDoorJKBatOfa2
namespace Go.Proofs.YtjjpfajbljbelaaGreatDoor
open Go.RowKit
def cellsM (m : Ms) (ub ud : Value) : List Value :=
 [.int .i64 m.k, .int .i64 m.fr, .int .i64 m.tn, .int .i64 m.t, .bool m.pre, .bool m.ok, .int .i64 m.ld, .int .i64 m.pa, .int .i64 m.pt, .int .i64 m.hi, .int .i64 m.co, ub, .int .i64 m.sz, .int .i64 m.po, ud]
structure MemM (W : World) (m : Ms) (ub ud : Value) (qs : List Bq) : Prop where
 bl : Bl W ub qs
 bs : bts qs = m.bs
 da : Sl bc W ud m.da
theorem MemM.below {W W' : World} {m : Ms} {ub ud : Value} {qs : List Bq} (h : MemM W m ub ud qs) (hb : Below W.heap.size W W') : MemM W' m ub ud qs := ⟨h.bl.below hb, h.bs, h.da.below hb⟩
theorem bts_len (qs : List Bq) : (bts qs).length = qs.length := by simp [bts]
theorem MemM.len {W : World} {m : Ms} {ub ud : Value} {qs : List Bq} (h : MemM W m ub ud qs) : qs.length = m.bs.length := by rw [← h.bs, bts_len]
def IsM (W : World) (v : Value) (m : Ms) : Prop := ∃ ub ud qs, v = .agg (cellsM m ub ud).toArray ∧ MemM W m ub ud qs
theorem IsM.below {W W' : World} {v : Value} {m : Ms} (h : IsM W v m) (hb : Below W.heap.size W W') : IsM W' v m := by
 obtain ⟨ub, ud, qs, h1, h2⟩ := h
 exact ⟨ub, ud, qs, h1, h2.below hb⟩
theorem isM_form {W : World} {v : Value} {m : Ms} (h : IsM W v m) : ∃ ab cb ad cd qs, v = .agg (cellsM m (.slice ab m.bs.length cb) (.slice ad m.da.length cd)).toArray ∧ MemM W m (.slice ab m.bs.length cb) (.slice ad m.da.length cd) qs := by
 obtain ⟨ub, ud, qs, h1, h2⟩ := h
 have hl := h2.len
 obtain ⟨ab, cb, e1⟩ := h2.bl.form
 obtain ⟨ad, cd, e2⟩ := h2.da.form
 rw [hl] at e1
 subst e1 e2
 exact ⟨_, _, _, _, _, h1, h2⟩
theorem isM_zero (W : World) : IsM W (.agg (cellsM Ms.zero (.slice none 0 0) (.slice none 0 0)).toArray) Ms.zero := ⟨_, _, [], rfl, ⟨⟨.inl ⟨_, _, rfl, rfl⟩, fun q hq => by simp at hq⟩, rfl, .inl ⟨_, _, rfl, rfl⟩⟩⟩
structure C15 (W : World) (p : Nat) (x0 x1 x2 x3 x4 x5 x6 x7 x8 x9 x10 x11 x12 x13 x14 : Value) : Prop where
 c0 : W.cell? ⟨p, 0, none⟩ = some x0
 c1 : W.cell? ⟨p, 1, none⟩ = some x1
 c2 : W.cell? ⟨p, 2, none⟩ = some x2
 c3 : W.cell? ⟨p, 3, none⟩ = some x3
 c4 : W.cell? ⟨p, 4, none⟩ = some x4
 c5 : W.cell? ⟨p, 5, none⟩ = some x5
 c6 : W.cell? ⟨p, 6, none⟩ = some x6
 c7 : W.cell? ⟨p, 7, none⟩ = some x7
 c8 : W.cell? ⟨p, 8, none⟩ = some x8
 c9 : W.cell? ⟨p, 9, none⟩ = some x9
 c10 : W.cell? ⟨p, 10, none⟩ = some x10
 c11 : W.cell? ⟨p, 11, none⟩ = some x11
 c12 : W.cell? ⟨p, 12, none⟩ = some x12
 c13 : W.cell? ⟨p, 13, none⟩ = some x13
 c14 : W.cell? ⟨p, 14, none⟩ = some x14
theorem C15.of {W : World} {p : Nat} {x0 x1 x2 x3 x4 x5 x6 x7 x8 x9 x10 x11 x12 x13 x14 : Value} (h : W.rangeAt p 0 [x0, x1, x2, x3, x4, x5, x6, x7, x8, x9, x10, x11, x12, x13, x14]) : C15 W p x0 x1 x2 x3 x4 x5 x6 x7 x8 x9 x10 x11 x12 x13 x14 :=
 ⟨h 0 _ rfl, h 1 _ rfl, h 2 _ rfl, h 3 _ rfl, h 4 _ rfl, h 5 _ rfl, h 6 _ rfl, h 7 _ rfl, h 8 _ rfl, h 9 _ rfl, h 10 _ rfl, h 11 _ rfl, h 12 _ rfl, h 13 _ rfl, h 14 _ rfl⟩
def TxM (m : Ms) : Prop := ∀ x ∈ m.bs, ∀ r ∈ x.rs, TxR r
def LnM (m : Ms) : Prop := ∀ x ∈ m.bs, x.rs.length ≤ 100000 ∧ ∀ r ∈ x.rs, LnR r
def sameBs (a b : List Bt) : Bool := decide (a.length = b.length) && (List.range a.length).all fun i => sameBt (a.getD i Bt.zero) (b.getD i Bt.zero)
theorem sameBs_self (a : List Bt) : sameBs a a = true := by
 unfold sameBs
 rw [decide_eq_true rfl, Bool.true_and, List.all_eq_true]
 exact fun i _ => sameBt_self _
theorem sameBs_len {a b : List Bt} (h : ¬ a.length = b.length) : sameBs a b = false := by
 unfold sameBs
 rw [decide_eq_false h, Bool.false_and]
theorem bts_at {qs : List Bq} {j : Nat} (h : j < qs.length) : (bts qs).getD j Bt.zero = btq qs[j] := by
 simp [bts, List.getD, h]
theorem sameBs_no {qs rs : List Bq} {j : Nat} (hj : j < qs.length) (hk : j < rs.length) (h : sameBt (btq qs[j]) (btq rs[j]) = false) : sameBs (bts qs) (bts rs) = false := by
 unfold sameBs
 have : ((List.range (bts qs).length).all fun i => sameBt ((bts qs).getD i Bt.zero) ((bts rs).getD i Bt.zero)) = false := by
  rw [List.all_eq_false]
  exact ⟨j, List.mem_range.2 (by rw [bts_len]; exact hj), by rw [bts_at hj, bts_at hk, h]; simp⟩
 rw [this, Bool.and_false]
theorem sameBs_yes {qs rs : List Bq} (hl : qs.length = rs.length) (h : ∀ i, i < qs.length → sameBt ((bts qs).getD i Bt.zero) ((bts rs).getD i Bt.zero) = true) : sameBs (bts qs) (bts rs) = true := by
 unfold sameBs
 rw [decide_eq_true (by rw [bts_len, bts_len]; exact hl), Bool.true_and, List.all_eq_true]
 exact fun i hi => h i (by have := List.mem_range.1 hi; rwa [bts_len] at this)
def checkMB (k fr t ld pa hi co sz dl bl : Int) (c0 c1 c2 c3 c4 c5 c6 c7 c8 c9 c10 : Bool) : ByteArray × Int × Int :=
 if c0 = true then (⟨#[107, 105, 110, 100]⟩, k, 5)
 else if c1 = true then (⟨#[102, 114, 111, 109]⟩, fr, 2)
 else if c2 = true then (⟨#[116, 101, 114, 109]⟩, t, 2)
 else if c3 = true then (⟨#[102, 108, 97, 103]⟩, 1, 1)
 else if c4 = true then (⟨#[108, 101, 97, 100, 101, 114]⟩, ld, 2)
 else if c5 = true then (⟨#[112, 108, 97, 99, 101]⟩, pa, 2)
 else if c6 = true then (⟨#[104, 105, 103, 104]⟩, hi, 2)
 else if c7 = true then (⟨#[99, 111, 100, 101]⟩, co, 2)
 else if c8 = true then (⟨#[115, 105, 122, 101]⟩, sz, 2)
 else if c9 = true then (⟨#[100, 97, 116, 97]⟩, dl, 6)
 else if c10 = true then (⟨#[98, 97, 116, 99, 104, 101, 115]⟩, bl, 6)
 else (⟨#[]⟩, 0, 0)
def headM (m : Ms) : ByteArray × Int × Int := checkMB m.k m.fr m.t m.ld m.pa m.hi m.co m.sz m.da.length m.bs.length (decide (m.k < 1 ∨ 8 < m.k)) (decide (m.fr < 1 ∨ 1073741824 < m.fr ∨ m.tn < 1 ∨ 1073741824 < m.tn ∨ m.fr = m.tn)) (decide (m.t < 0 ∨ 1073741824 < m.t)) (decide ((m.pre = true ∧ hasM m.k 97 = false) ∨ (m.ok = true ∧ hasM m.k 103 = false))) (decide (numB m.ld (hasM m.k 108) 0 1073741824 = false)) (decide (numB m.pa (hasM m.k 112) 0 1073741824 = false ∨ numB m.pt (hasM m.k 112) 0 1073741824 = false)) (decide (numB m.hi (hasM m.k 104) 0 1073741824 = false)) (decide (numB m.co (hasM m.k 99) 0 21 = false)) (decide (numB m.sz (hasM m.k 115) 0 1073741824 = false ∨ numB m.po (hasM m.k 111) 0 1073741824 = false)) (decide (512 < m.da.length ∨ (0 < m.da.length ∧ hasM m.k 100 = false))) (decide (8 < m.bs.length ∨ (0 < m.bs.length ∧ hasM m.k 98 = false)))
theorem chkM_head (m : Ms) : chkM m = if (headM m).2.2 = 0 then (match chkBs m.bs 0 with | none => (⟨#[]⟩, 0, 0) | some q => (q.2.1, (q.1 : Int), q.2.2)) else headM m := by
 unfold chkM headM checkMB
 simp only [decide_eq_true_eq]
 by_cases h0 : (m.k < 1 ∨ 8 < m.k)
 ·rw [if_pos h0, if_pos h0]; rfl
 rw [if_neg h0, if_neg h0]
 by_cases h1 : (m.fr < 1 ∨ 1073741824 < m.fr ∨ m.tn < 1 ∨ 1073741824 < m.tn ∨ m.fr = m.tn)
 ·rw [if_pos h1, if_pos h1]; rfl
 rw [if_neg h1, if_neg h1]
 by_cases h2 : (m.t < 0 ∨ 1073741824 < m.t)
 ·rw [if_pos h2, if_pos h2]; rfl
 rw [if_neg h2, if_neg h2]
 by_cases h3 : ((m.pre = true ∧ hasM m.k 97 = false) ∨ (m.ok = true ∧ hasM m.k 103 = false))
 ·rw [if_pos h3, if_pos h3]; rfl
 rw [if_neg h3, if_neg h3]
 by_cases h4 : (numB m.ld (hasM m.k 108) 0 1073741824 = false)
 ·rw [if_pos h4, if_pos h4]; rfl
 rw [if_neg h4, if_neg h4]
 by_cases h5 : (numB m.pa (hasM m.k 112) 0 1073741824 = false ∨ numB m.pt (hasM m.k 112) 0 1073741824 = false)
 ·rw [if_pos h5, if_pos h5]; rfl
 rw [if_neg h5, if_neg h5]
 by_cases h6 : (numB m.hi (hasM m.k 104) 0 1073741824 = false)
 ·rw [if_pos h6, if_pos h6]; rfl
 rw [if_neg h6, if_neg h6]
 by_cases h7 : (numB m.co (hasM m.k 99) 0 21 = false)
 ·rw [if_pos h7, if_pos h7]; rfl
 rw [if_neg h7, if_neg h7]
 by_cases h8 : (numB m.sz (hasM m.k 115) 0 1073741824 = false ∨ numB m.po (hasM m.k 111) 0 1073741824 = false)
 ·rw [if_pos h8, if_pos h8]; rfl
 rw [if_neg h8, if_neg h8]
 by_cases h9 : (512 < m.da.length ∨ (0 < m.da.length ∧ hasM m.k 100 = false))
 ·rw [if_pos h9, if_pos h9]; rfl
 rw [if_neg h9, if_neg h9]
 by_cases h10 : (8 < m.bs.length ∨ (0 < m.bs.length ∧ hasM m.k 98 = false))
 ·rw [if_pos h10, if_pos h10]; rfl
 rw [if_neg h10, if_neg h10]
 rfl
def evB (b : Bw) : Option (List (ByteArray × Int) × Int) := if b.c = 0 then none else if b.r < 0 then some ([(b.op, b.pt)], b.c) else some ([(⟨#[114, 101, 99, 111, 114, 100]⟩, b.r), (b.op, b.i)], b.c)
theorem erB_ev (b : Bw) : erB b = ev (evB b) := by
 unfold erB evB
 split
 ·rfl
 split
 ·rfl
 ·rfl
theorem evB_none {b : Bw} : evB b = none ↔ b.c = 0 := by
 unfold evB
 split
 ·rename_i h; simp [h]
 ·rename_i h
  split <;> simp [h]
def evBs : List Bt → Nat → Option (List (ByteArray × Int) × Int)
 | [], _ => none
 | x :: xs, i => match evB (bw x) with
  | none => evBs xs (i + 1)
  | some q => some ((⟨#[98, 97, 116, 99, 104]⟩, (i : Int)) :: q.1, q.2)
theorem evBs_none : ∀ (xs : List Bt) (i : Nat), (∀ x ∈ xs, (bw x).c = 0) → evBs xs i = none
 | [], _, _ => rfl
 | x :: xs, i, h => by
  unfold evBs
  rw [evB_none.2 (h x (by simp))]
  exact evBs_none xs (i + 1) fun y hy => h y (by simp [hy])
theorem evBs_some : ∀ (xs : List Bt) (i j : Nat) (hj : j < xs.length) (q : List (ByteArray × Int) × Int), (∀ x ∈ xs.take j, (bw x).c = 0) → evB (bw xs[j]) = some q → evBs xs i = some ((⟨#[98, 97, 116, 99, 104]⟩, ((i + j : Nat) : Int)) :: q.1, q.2)
 | [], _, j, hj, _, _, _ => by simp at hj
 | x :: xs, i, 0, _, q, _, h => by
  have h' : evB (bw x) = some q := h
  unfold evBs
  rw [h']
  rfl
 | x :: xs, i, j + 1, hj, q, h, hn => by
  unfold evBs
  rw [evB_none.2 (h x (by simp))]
  have := evBs_some xs (i + 1) j (by simpa using hj) q (fun y hy => h y (by simp [hy])) hn
  simp only
  rw [this, show i + 1 + j = i + (j + 1) by omega]
def evM (m : Ms) : Option (List (ByteArray × Int) × Int) := if (headM m).2.2 = 0 then evBs m.bs 0 else some ([((headM m).1, (headM m).2.1)], (headM m).2.2)
def Tells (X : Option (List (ByteArray × Int) × Int)) (T : ByteArray × Int × Int) : Prop := match X with
 | none => T.2.2 = 0
 | some (l, c) => c = T.2.2 ∧ c ≠ 0 ∧ atV l = T.2.1 ∧ inV l = true ∧ hasB (l.map (·.1)) T.1 = true ∧ l.length ≤ 3
theorem tells_one (op : ByteArray) (n c : Int) (hc : c ≠ 0) : Tells (some ([(op, n)], c)) (op, n, c) := ⟨rfl, hc, rfl, rfl, by simp [hasB], by simp⟩
theorem tells_bs : ∀ (xs : List Bt) (i : Nat), Tells (evBs xs i) (match chkBs xs i with | none => (⟨#[]⟩, 0, 0) | some q => (q.2.1, (q.1 : Int), q.2.2))
 | [], _ => rfl
 | x :: xs, i => by
  unfold evBs chkBs
  by_cases h : (bw x).c = 0
  ·rw [evB_none.2 h, if_pos h]
   exact tells_bs xs (i + 1)
  ·rw [if_neg h]
   unfold evB
   rw [if_neg h]
   split
   ·rename_i hq; split at hq <;> simp at hq
   ·rename_i hq
    split at hq
    ·cases hq
     exact ⟨rfl, h, rfl, rfl, by simp [hasB], by simp⟩
    ·cases hq
     exact ⟨rfl, h, rfl, rfl, by simp [hasB], by simp⟩
theorem tells_M (m : Ms) : Tells (evM m) (chkM m) := by
 rw [chkM_head]
 unfold evM
 split
 ·exact tells_bs m.bs 0
 ·rename_i h
  exact tells_one _ _ _ h
theorem evM_none {m : Ms} : evM m = none ↔ (chkM m).2.2 = 0 := by
 have := tells_M m
 constructor
 ·intro h; rw [h] at this; exact this
 ·intro h
  cases hq : evM m with
  | none => rfl
  | some q =>
   rw [hq] at this
   exact absurd (this.1.trans h) this.2.1
end Go.Proofs.YtjjpfajbljbelaaGreatDoor
