/-
  A MESSAGE AS A VALUE, AND IN ITS CELLS; what is wrong with it first, as the program's error; whether two are the same, whether one is no more than is waited for. No condition.
  ROWS OF BATCHES, AND A MESSAGE, THAT CAME IN, OPENED: they lie in their cells. No condition of its own.
  WHETHER TWO ROWS OF BATCHES ARE THE SAME, BY THE DOCUMENT (castellanref06.All): those that are. Conditions: the batches' cells hold them, their records' rows are not too long.
  WHAT IS WRONG WITH A MESSAGE FIRST (rpc.checkBatches, rpc.Check): what the mathematics says. Conditions: its slices' cells hold what they hold, its records' texts are not too long.
-/
import Derived.Test.YtoioddnlkbjljaaGreatDoorJKRpcNa2
import Derived.Test.YtoioddnlkbjljaaGreatDoorJKBatOfa3
import Derived.Test.YtoioddnlkbjljaaGreatDoorJKBatCka2
import Derived.Test.YtoioddnlkbjljaaGreatDoorJKRecSma3
import Derived.Test.YtoioddnlkbjljaaGreatDoorJKBatMa4
import Derived.Test.YtoioddnlkbjljaaGreatDoorJKBatSr
namespace Go.Proofs.YtoioddnlkbjljaaGreatDoor
open Go.RowKit

def cellsM (m : Ms) (ub ud : Value) : List Value :=
  [.int .i64 m.k, .int .i64 m.fr, .int .i64 m.tn, .int .i64 m.t, .bool m.pre, .bool m.ok, .int .i64 m.ld, .int .i64 m.pa, .int .i64 m.pt, .int .i64 m.hi, .int .i64 m.co, ub, .int .i64 m.sz, .int .i64 m.po, ud]
/-- What a message's slices hold. -/
structure MemM (W : World) (m : Ms) (ub ud : Value) (qs : List Bq) : Prop where
  bl : Bl W ub qs
  bs : bts qs = m.bs
  da : Sl bc W ud m.da
theorem MemM.below {W W' : World} {m : Ms} {ub ud : Value} {qs : List Bq} (h : MemM W m ub ud qs) (hb : Below W.heap.size W W') : MemM W' m ub ud qs := ⟨h.bl.below hb, h.bs, h.da.below hb⟩
theorem bts_len (qs : List Bq) : (bts qs).length = qs.length := by simp [bts]
theorem MemM.len {W : World} {m : Ms} {ub ud : Value} {qs : List Bq} (h : MemM W m ub ud qs) : qs.length = m.bs.length := by rw [← h.bs, bts_len]
/-- The value v is the message m. -/
def IsM (W : World) (v : Value) (m : Ms) : Prop := ∃ ub ud qs, v = .agg (cellsM m ub ud).toArray ∧ MemM W m ub ud qs
theorem IsM.below {W W' : World} {v : Value} {m : Ms} (h : IsM W v m) (hb : Below W.heap.size W W') : IsM W' v m := by
  obtain ⟨ub, ud, qs, h1, h2⟩ := h
  exact ⟨ub, ud, qs, h1, h2.below hb⟩
theorem isM_form {W : World} {v : Value} {m : Ms} (h : IsM W v m) : ∃ ab cb ad cd qs, v = .agg (cellsM m (.slice ab m.bs.length cb) (.slice ad m.da.length cd)).toArray ∧ MemM W m (.slice ab m.bs.length cb) (.slice ad m.da.length cd) qs := by
  obtain ⟨ub, ud, qs, h1, h2⟩ := h
  have hl := h2.len
  obtain ⟨ab, cb, e1⟩ := h2.bl.form
  obtain ⟨ad, cd, e2⟩ := h2.da.form
  rw [hl] at e1
  subst e1 e2
  exact ⟨_, _, _, _, _, h1, h2⟩
theorem isM_zero (W : World) : IsM W (.agg (cellsM Ms.zero (.slice none 0 0) (.slice none 0 0)).toArray) Ms.zero := ⟨_, _, [], rfl, ⟨⟨.inl ⟨_, _, rfl, rfl⟩, fun q hq => by simp at hq⟩, rfl, .inl ⟨_, _, rfl, rfl⟩⟩⟩
/-- Fifteen cells. -/
structure C15 (W : World) (p : Nat) (x0 x1 x2 x3 x4 x5 x6 x7 x8 x9 x10 x11 x12 x13 x14 : Value) : Prop where
  c0 : W.cell? ⟨p, 0, none⟩ = some x0
  c1 : W.cell? ⟨p, 1, none⟩ = some x1
  c2 : W.cell? ⟨p, 2, none⟩ = some x2
  c3 : W.cell? ⟨p, 3, none⟩ = some x3
  c4 : W.cell? ⟨p, 4, none⟩ = some x4
  c5 : W.cell? ⟨p, 5, none⟩ = some x5
  c6 : W.cell? ⟨p, 6, none⟩ = some x6
  c7 : W.cell? ⟨p, 7, none⟩ = some x7
  c8 : W.cell? ⟨p, 8, none⟩ = some x8
  c9 : W.cell? ⟨p, 9, none⟩ = some x9
  c10 : W.cell? ⟨p, 10, none⟩ = some x10
  c11 : W.cell? ⟨p, 11, none⟩ = some x11
  c12 : W.cell? ⟨p, 12, none⟩ = some x12
  c13 : W.cell? ⟨p, 13, none⟩ = some x13
  c14 : W.cell? ⟨p, 14, none⟩ = some x14
theorem C15.of {W : World} {p : Nat} {x0 x1 x2 x3 x4 x5 x6 x7 x8 x9 x10 x11 x12 x13 x14 : Value} (h : W.rangeAt p 0 [x0, x1, x2, x3, x4, x5, x6, x7, x8, x9, x10, x11, x12, x13, x14]) : C15 W p x0 x1 x2 x3 x4 x5 x6 x7 x8 x9 x10 x11 x12 x13 x14 :=
  ⟨h 0 _ rfl, h 1 _ rfl, h 2 _ rfl, h 3 _ rfl, h 4 _ rfl, h 5 _ rfl, h 6 _ rfl, h 7 _ rfl, h 8 _ rfl, h 9 _ rfl, h 10 _ rfl, h 11 _ rfl, h 12 _ rfl, h 13 _ rfl, h 14 _ rfl⟩
/-- Its records' texts, and their rows, are not too long. -/
def TxM (m : Ms) : Prop := ∀ x ∈ m.bs, ∀ r ∈ x.rs, TxR r
def LnM (m : Ms) : Prop := ∀ x ∈ m.bs, x.rs.length ≤ 100000 ∧ ∀ r ∈ x.rs, LnR r
/-- Is a message no more than is waited for? -/
def shM (m : Ms) : Bool := decide (m.da.length ≤ 800) && (decide (m.bs.length ≤ 12) && m.bs.all fun x => shL x.rs)
theorem shM_is {m : Ms} (h : shM m = true) : m.da.length ≤ 800 ∧ m.bs.length ≤ 12 ∧ ∀ x ∈ m.bs, shL x.rs = true := by
  unfold shM at h
  simp only [Bool.and_eq_true, decide_eq_true_eq, List.all_eq_true] at h
  exact ⟨h.1, h.2.1, h.2.2⟩
/-- Are two messages the same? -/
def sameBs (a b : List Bt) : Bool := decide (a.length = b.length) && (List.range a.length).all fun i => sameBt (a.getD i Bt.zero) (b.getD i Bt.zero)
theorem sameBs_self (a : List Bt) : sameBs a a = true := by
  unfold sameBs
  rw [decide_eq_true rfl, Bool.true_and, List.all_eq_true]
  exact fun i _ => sameBt_self _
theorem sameBs_len {a b : List Bt} (h : ¬ a.length = b.length) : sameBs a b = false := by
  unfold sameBs
  rw [decide_eq_false h, Bool.false_and]
theorem bts_at {qs : List Bq} {j : Nat} (h : j < qs.length) : (bts qs).getD j Bt.zero = btq qs[j] := by
  simp [bts, List.getD, h]
theorem sameBs_no {qs rs : List Bq} {j : Nat} (hj : j < qs.length) (hk : j < rs.length) (h : sameBt (btq qs[j]) (btq rs[j]) = false) : sameBs (bts qs) (bts rs) = false := by
  unfold sameBs
  have : ((List.range (bts qs).length).all fun i => sameBt ((bts qs).getD i Bt.zero) ((bts rs).getD i Bt.zero)) = false := by
    rw [List.all_eq_false]
    exact ⟨j, List.mem_range.2 (by rw [bts_len]; exact hj), by rw [bts_at hj, bts_at hk, h]; simp⟩
  rw [this, Bool.and_false]
theorem sameBs_yes {qs rs : List Bq} (hl : qs.length = rs.length) (h : ∀ i, i < qs.length → sameBt ((bts qs).getD i Bt.zero) ((bts rs).getD i Bt.zero) = true) : sameBs (bts qs) (bts rs) = true := by
  unfold sameBs
  rw [decide_eq_true (by rw [bts_len, bts_len]; exact hl), Bool.true_and, List.all_eq_true]
  exact fun i hi => h i (by have := List.mem_range.1 hi; rwa [bts_len] at this)
/-- What is wrong first ahead of the batches, by what each thing comes to. -/
def checkMB (k fr t ld pa hi co sz dl bl : Int) (c0 c1 c2 c3 c4 c5 c6 c7 c8 c9 c10 : Bool) : ByteArray × Int × Int :=
  if c0 = true then (⟨#[107, 105, 110, 100]⟩, k, 5)
  else if c1 = true then (⟨#[102, 114, 111, 109]⟩, fr, 2)
  else if c2 = true then (⟨#[116, 101, 114, 109]⟩, t, 2)
  else if c3 = true then (⟨#[102, 108, 97, 103]⟩, 1, 1)
  else if c4 = true then (⟨#[108, 101, 97, 100, 101, 114]⟩, ld, 2)
  else if c5 = true then (⟨#[112, 108, 97, 99, 101]⟩, pa, 2)
  else if c6 = true then (⟨#[104, 105, 103, 104]⟩, hi, 2)
  else if c7 = true then (⟨#[99, 111, 100, 101]⟩, co, 2)
  else if c8 = true then (⟨#[115, 105, 122, 101]⟩, sz, 2)
  else if c9 = true then (⟨#[100, 97, 116, 97]⟩, dl, 6)
  else if c10 = true then (⟨#[98, 97, 116, 99, 104, 101, 115]⟩, bl, 6)
  else (⟨#[]⟩, 0, 0)
def headM (m : Ms) : ByteArray × Int × Int := checkMB m.k m.fr m.t m.ld m.pa m.hi m.co m.sz m.da.length m.bs.length (decide (m.k < 1 ∨ 8 < m.k)) (decide (m.fr < 1 ∨ 1073741824 < m.fr ∨ m.tn < 1 ∨ 1073741824 < m.tn ∨ m.fr = m.tn)) (decide (m.t < 0 ∨ 1073741824 < m.t)) (decide ((m.pre = true ∧ hasM m.k 97 = false) ∨ (m.ok = true ∧ hasM m.k 103 = false))) (decide (numB m.ld (hasM m.k 108) 0 1073741824 = false)) (decide (numB m.pa (hasM m.k 112) 0 1073741824 = false ∨ numB m.pt (hasM m.k 112) 0 1073741824 = false)) (decide (numB m.hi (hasM m.k 104) 0 1073741824 = false)) (decide (numB m.co (hasM m.k 99) 0 21 = false)) (decide (numB m.sz (hasM m.k 115) 0 1073741824 = false ∨ numB m.po (hasM m.k 111) 0 1073741824 = false)) (decide (512 < m.da.length ∨ (0 < m.da.length ∧ hasM m.k 100 = false))) (decide (8 < m.bs.length ∨ (0 < m.bs.length ∧ hasM m.k 98 = false)))
theorem chkM_head (m : Ms) : chkM m = if (headM m).2.2 = 0 then (match chkBs m.bs 0 with | none => (⟨#[]⟩, 0, 0) | some q => (q.2.1, (q.1 : Int), q.2.2)) else headM m := by
  unfold chkM headM checkMB
  simp only [decide_eq_true_eq]
  by_cases h0 : (m.k < 1 ∨ 8 < m.k)
  · rw [if_pos h0, if_pos h0]; rfl
  rw [if_neg h0, if_neg h0]
  by_cases h1 : (m.fr < 1 ∨ 1073741824 < m.fr ∨ m.tn < 1 ∨ 1073741824 < m.tn ∨ m.fr = m.tn)
  · rw [if_pos h1, if_pos h1]; rfl
  rw [if_neg h1, if_neg h1]
  by_cases h2 : (m.t < 0 ∨ 1073741824 < m.t)
  · rw [if_pos h2, if_pos h2]; rfl
  rw [if_neg h2, if_neg h2]
  by_cases h3 : ((m.pre = true ∧ hasM m.k 97 = false) ∨ (m.ok = true ∧ hasM m.k 103 = false))
  · rw [if_pos h3, if_pos h3]; rfl
  rw [if_neg h3, if_neg h3]
  by_cases h4 : (numB m.ld (hasM m.k 108) 0 1073741824 = false)
  · rw [if_pos h4, if_pos h4]; rfl
  rw [if_neg h4, if_neg h4]
  by_cases h5 : (numB m.pa (hasM m.k 112) 0 1073741824 = false ∨ numB m.pt (hasM m.k 112) 0 1073741824 = false)
  · rw [if_pos h5, if_pos h5]; rfl
  rw [if_neg h5, if_neg h5]
  by_cases h6 : (numB m.hi (hasM m.k 104) 0 1073741824 = false)
  · rw [if_pos h6, if_pos h6]; rfl
  rw [if_neg h6, if_neg h6]
  by_cases h7 : (numB m.co (hasM m.k 99) 0 21 = false)
  · rw [if_pos h7, if_pos h7]; rfl
  rw [if_neg h7, if_neg h7]
  by_cases h8 : (numB m.sz (hasM m.k 115) 0 1073741824 = false ∨ numB m.po (hasM m.k 111) 0 1073741824 = false)
  · rw [if_pos h8, if_pos h8]; rfl
  rw [if_neg h8, if_neg h8]
  by_cases h9 : (512 < m.da.length ∨ (0 < m.da.length ∧ hasM m.k 100 = false))
  · rw [if_pos h9, if_pos h9]; rfl
  rw [if_neg h9, if_neg h9]
  by_cases h10 : (8 < m.bs.length ∨ (0 < m.bs.length ∧ hasM m.k 98 = false))
  · rw [if_pos h10, if_pos h10]; rfl
  rw [if_neg h10, if_neg h10]
  rfl
/-- What is wrong with a batch, as an error. -/
def evB (b : Bw) : Option (List (ByteArray × Int) × Int) := if b.c = 0 then none else if b.r < 0 then some ([(b.op, b.pt)], b.c) else some ([(⟨#[114, 101, 99, 111, 114, 100]⟩, b.r), (b.op, b.i)], b.c)
theorem erB_ev (b : Bw) : erB b = ev (evB b) := by
  unfold erB evB
  split
  · rfl
  split
  · rfl
  · rfl
theorem evB_none {b : Bw} : evB b = none ↔ b.c = 0 := by
  unfold evB
  split
  · rename_i h; simp [h]
  · rename_i h
    split <;> simp [h]
/-- What is wrong with a row of batches. -/
def evBs : List Bt → Nat → Option (List (ByteArray × Int) × Int)
  | [], _ => none
  | x :: xs, i => match evB (bw x) with
    | none => evBs xs (i + 1)
    | some q => some ((⟨#[98, 97, 116, 99, 104]⟩, (i : Int)) :: q.1, q.2)
theorem evBs_none : ∀ (xs : List Bt) (i : Nat), (∀ x ∈ xs, (bw x).c = 0) → evBs xs i = none
  | [], _, _ => rfl
  | x :: xs, i, h => by
    unfold evBs
    rw [evB_none.2 (h x (by simp))]
    exact evBs_none xs (i + 1) fun y hy => h y (by simp [hy])
theorem evBs_some : ∀ (xs : List Bt) (i j : Nat) (hj : j < xs.length) (q : List (ByteArray × Int) × Int), (∀ x ∈ xs.take j, (bw x).c = 0) → evB (bw xs[j]) = some q → evBs xs i = some ((⟨#[98, 97, 116, 99, 104]⟩, ((i + j : Nat) : Int)) :: q.1, q.2)
  | [], _, j, hj, _, _, _ => by simp at hj
  | x :: xs, i, 0, _, q, _, h => by
    have h' : evB (bw x) = some q := h
    unfold evBs
    rw [h']
    rfl
  | x :: xs, i, j + 1, hj, q, h, hn => by
    unfold evBs
    rw [evB_none.2 (h x (by simp))]
    have := evBs_some xs (i + 1) j (by simpa using hj) q (fun y hy => h y (by simp [hy])) hn
    simp only
    rw [this, show i + 1 + j = i + (j + 1) by omega]
/-- What is wrong with a message, as an error. -/
def evM (m : Ms) : Option (List (ByteArray × Int) × Int) := if (headM m).2.2 = 0 then evBs m.bs 0 else some ([((headM m).1, (headM m).2.1)], (headM m).2.2)
/-- An error tells what is wrong: of what, where, a code. -/
def Tells (X : Option (List (ByteArray × Int) × Int)) (T : ByteArray × Int × Int) : Prop := match X with
  | none => T.2.2 = 0
  | some (l, c) => c = T.2.2 ∧ c ≠ 0 ∧ atV l = T.2.1 ∧ inV l = true ∧ hasB (l.map (·.1)) T.1 = true ∧ l.length ≤ 3
theorem tells_one (op : ByteArray) (n c : Int) (hc : c ≠ 0) : Tells (some ([(op, n)], c)) (op, n, c) := ⟨rfl, hc, rfl, rfl, by simp [hasB], by simp⟩
theorem tells_bs : ∀ (xs : List Bt) (i : Nat), Tells (evBs xs i) (match chkBs xs i with | none => (⟨#[]⟩, 0, 0) | some q => (q.2.1, (q.1 : Int), q.2.2))
  | [], _ => rfl
  | x :: xs, i => by
    unfold evBs chkBs
    by_cases h : (bw x).c = 0
    · rw [evB_none.2 h, if_pos h]
      exact tells_bs xs (i + 1)
    · rw [if_neg h]
      unfold evB
      rw [if_neg h]
      split
      · rename_i hq; split at hq <;> simp at hq
      · rename_i hq
        split at hq
        · cases hq
          exact ⟨rfl, h, rfl, rfl, by simp [hasB], by simp⟩
        · cases hq
          exact ⟨rfl, h, rfl, rfl, by simp [hasB], by simp⟩
theorem tells_M (m : Ms) : Tells (evM m) (chkM m) := by
  rw [chkM_head]
  unfold evM
  split
  · exact tells_bs m.bs 0
  · rename_i h
    exact tells_one _ _ _ h
theorem evM_none {m : Ms} : evM m = none ↔ (chkM m).2.2 = 0 := by
  have := tells_M m
  constructor
  · intro h; rw [h] at this; exact this
  · intro h
    cases hq : evM m with
    | none => rfl
    | some q =>
      rw [hq] at this
      exact absurd (this.1.trans h) this.2.1
end Go.Proofs.YtoioddnlkbjljaaGreatDoor
namespace Go.Proofs.YtoioddnlkbjljaaGreatDoor
open Go.ChangeShapes Go.WideShapes Go.ChangeAt Go.RowKit Go.Joins
set_option maxRecDepth 100000

theorem cellsRpc : Tryz.prog.cellsOf 25 = 15 := by kernel_rfl
theorem cellsBs : Tryz.prog.cellsOf 22 = 1 := by kernel_rfl
theorem cellsBy : Tryz.prog.cellsOf 23 = 1 := by kernel_rfl
theorem array15 {α : Type} {cs : Array α} (h : cs.size = 15) : ∃ c0 c1 c2 c3 c4 c5 c6 c7 c8 c9 c10 c11 c12 c13 c14, cs = #[c0, c1, c2, c3, c4, c5, c6, c7, c8, c9, c10, c11, c12, c13, c14] := by
  obtain ⟨l⟩ := cs
  rcases l with _ | ⟨c0, _ | ⟨c1, _ | ⟨c2, _ | ⟨c3, _ | ⟨c4, _ | ⟨c5, _ | ⟨c6, _ | ⟨c7, _ | ⟨c8, _ | ⟨c9, _ | ⟨c10, _ | ⟨c11, _ | ⟨c12, _ | ⟨c13, _ | ⟨c14, _ | ⟨c15, l⟩⟩⟩⟩⟩⟩⟩⟩⟩⟩⟩⟩⟩⟩⟩⟩ <;> simp at h
  exact ⟨c0, c1, c2, c3, c4, c5, c6, c7, c8, c9, c10, c11, c12, c13, c14, rfl⟩
section
variable {H : Type} {enc : TypeId × Value → H}
/-- Bytes that came in. -/
theorem open_byt {W : World} {n : Nat} {u : Value} {x : DataW H × List MemPlace} (h : DataW.trod enc Tryz.prog W 0 (fun _ => true) true n 23 [u] = some x) : ∃ l : List Int, Sl bc W u l ∧ Byt l := by
  rcases open_ints Tryz.underlying23 Tryz.underlying5 (by kernel_rfl) h with ⟨hcs, rfl⟩ | ⟨a, len, cap, zs, hcs, _, hle, hmax, hall, rfl, hcell, hwf⟩
  · simp at hcs
    subst hcs
    exact ⟨[], .inl ⟨_, _, rfl, rfl⟩, fun x hx => by simp at hx⟩
  · simp at hcs
    subst hcs
    rw [if_pos rfl] at hall
    have hl : (zs.take len).length = len := by rw [List.length_take]; omega
    refine ⟨zs.take len, ?_, fun x hx => u8_of (hwf x (List.mem_of_mem_take hx))⟩
    by_cases h0 : len = 0
    · subst h0
      exact .inl ⟨some a, cap, by simp, by simp⟩
    · obtain ⟨b, off, rfl, hcc⟩ := ints_at hcell (by omega)
      exact .inr ⟨b, off, cap, by rw [hl], by omega, fun i hi => by
        rw [hl] at hi
        rw [hcc i (by omega), List.getElem_take]
        simp [List.getD, show i < zs.length by omega, bc]⟩
/-- A batch's three cells. -/
theorem open_bq {W : World} {n : Nat} {a : Addr} {cs : List Value} {x : DataW H × List MemPlace} (hc : W.cells? 0 a (Tryz.prog.cellsOf 52) = some cs)
    (hf : DataW.trod enc Tryz.prog W 0 (fun _ => true) true n 52 cs = some x) : ∃ q : Bq, (∀ j u, (bce q)[j]? = some u → W.cell? (a.add j) = some u) ∧ Rl (fun _ => True) (fun _ => True) W q.u q.ps := by
  rw [cellsBat] at hc
  obtain ⟨_, hl, hcell⟩ := World.cells?_some hc
  obtain ⟨c0, c1, c2, rfl⟩ : ∃ c0 c1 c2, cs = [c0, c1, c2] := by
    rcases cs with _ | ⟨c0, _ | ⟨c1, _ | ⟨c2, _ | ⟨c3, l⟩⟩⟩⟩ <;> simp at hl
    exact ⟨c0, c1, c2, rfl⟩
  obtain ⟨y0, y1, y2, m, _, _, h0, h1, h2⟩ := Deep.trod_struct3 Tryz.underlying52 hf
  obtain ⟨k0, e0, _, _⟩ := DataW.trod_int (t := 3) Tryz.underlying3 h0
  obtain ⟨k1, e1, _, _⟩ := DataW.trod_int (t := 3) Tryz.underlying3 h1
  have e0' : List.take (Tryz.prog.cellsOf 3) [c0, c1, c2] = [.int .i64 k0] := e0
  have e1' : List.take (Tryz.prog.cellsOf 3) [c1, c2] = [.int .i64 k1] := e1
  have h2' : DataW.trod enc Tryz.prog W 0 (fun _ => true) true m 50 (List.take (Tryz.prog.cellsOf 50) [c2]) = some y2 := h2
  rw [cellsI] at e0' e1'
  rw [cellsRs] at h2'
  obtain rfl : c0 = .int .i64 k0 := List.head_eq_of_cons_eq e0'
  obtain rfl : c1 = .int .i64 k1 := List.head_eq_of_cons_eq e1'
  have hsl : ∃ a0 len cap, c2 = .slice a0 len cap := by
    rcases Deep.open_slice (t := 50) Tryz.underlying50 h2' with ⟨e, _⟩ | ⟨a, len', cap', q, n, D, Pl, e, _⟩
    · exact ⟨_, _, _, List.head_eq_of_cons_eq e⟩
    · exact ⟨_, _, _, List.head_eq_of_cons_eq e⟩
  obtain ⟨ps, hps, _⟩ := open_rps hsl h2'
  refine ⟨⟨k0, k1, c2, ps⟩, fun j u hj => ?_, hps.any⟩
  obtain ⟨hlt, hv⟩ := List.getElem?_eq_some_iff.1 hj
  rw [hcell j (by simpa [bce] using hlt)]
  exact hj
/-- Batches that came in. -/
theorem open_bqs {W : World} {fuel : Nat} {u : Value} {x : DataW H × List MemPlace} (hf : DataW.trod enc Tryz.prog W 0 (fun _ => true) true fuel 22 [u] = some x) : ∃ qs : List Bq, Bl W u qs := by
  rcases Deep.open_slice (t := 22) Tryz.underlying22 hf with ⟨e0, _⟩ | ⟨a, len, cap, q, n, D, Pl, e0, _, hlen, hcap, hq, hx, hel⟩
  · simp at e0
    subst e0
    exact ⟨[], .inl ⟨_, _, rfl, rfl⟩, fun q hq => by simp at hq⟩
  · simp at e0
    subst e0
    rw [if_pos rfl] at hq
    subst hq
    have hs : ∀ i, i < len → ∃ q : Bq, (∀ j u, (bce q)[j]? = some u → W.cell? ((a.add (i * 3)).add j) = some u) ∧ Rl (fun _ => True) (fun _ => True) W q.u q.ps := by
      intro i hi
      obtain ⟨cs', hc, ht⟩ := hel i (by omega)
      have := open_bq hc ht
      rwa [cellsBat] at this
    haveI : Inhabited Bq := ⟨⟨0, 0, .nilIface, []⟩⟩
    obtain ⟨f, hf⟩ := Deep.choose_lt hs
    have hl : ((List.range len).map f).length = len := by simp
    refine ⟨(List.range len).map f, ?_, fun p hp => ?_⟩
    · by_cases h0 : len = 0
      · subst h0
        exact .inl ⟨_, _, rfl, rfl⟩
      · obtain ⟨b, o, sp⟩ := a
        have hsp : sp = none := by simpa [Addr.add] using World.cell?_spot ((hf 0 (by omega)).1 0 _ rfl)
        subst hsp
        refine .inr ⟨b, o, _, by rw [hl], by rw [hl]; exact hlen, by omega, fun j u hj => ?_⟩
        have hjl : j < ((List.range len).map f).length * 3 := by have := (List.getElem?_eq_some_iff.1 hj).1; rwa [bcs_len] at this
        rw [hl] at hjl
        have hi : j / 3 < len := by omega
        have hget : ((List.range len).map f)[j / 3]'(by rw [hl]; exact hi) = f (j / 3) := by simp
        have hm : j % 3 < 3 := by omega
        obtain ⟨u', hu'⟩ : ∃ u', (bce (f (j / 3)))[j % 3]? = some u' := ⟨_, List.getElem?_eq_getElem (show j % 3 < 3 from hm)⟩
        have h2 := bcs_get ((List.range len).map f) (j / 3) (by rw [hl]; exact hi) (j % 3) u' (by rw [hget]; exact hu')
        rw [show j / 3 * 3 + j % 3 = j by omega, hj] at h2
        cases h2
        have h3 := (hf (j / 3) hi).1 (j % 3) u hu'
        rw [Addr.add_lit, Addr.add_lit, Nat.add_assoc, show j / 3 * 3 + j % 3 = j by omega] at h3
        exact h3
    · obtain ⟨i, hi, rfl⟩ := List.mem_map.1 hp
      exact (hf i (List.mem_range.1 hi)).2
/-- A message that came in. -/
theorem open_rpc {W : World} {base : Nat} {v : Value} {d : DataW H} {p : List MemPlace} (hv : Value.okWide Tryz.prog W .any base 25 v) (h : DataW.Trod enc Tryz.prog W 0 (fun _ => true) true 25 v d p) : ∃ m : Ms, IsM W v m ∧ Byt m.da := by
  obtain ⟨cs, rfl, hsz⟩ := okWide_struct Tryz.underlying25 hv
  obtain ⟨c0, c1, c2, c3, c4, c5, c6, c7, c8, c9, c10, c11, c12, c13, c14, rfl⟩ := array15 (hsz.trans cellsRpc)
  obtain ⟨fuel, hf⟩ := h
  obtain ⟨xs, n, _, _, _, hlen, hfi⟩ := DataW.trod_struct Tryz.underlying25 hf
  have hlen' : xs.length = 15 := hlen
  have t0 : DataW.trod enc Tryz.prog W 0 (fun _ => true) true n 3 [c0] = some (xs[0]'(by omega)) := by
    have q := hfi 0 _ rfl
    rw [List.getElem?_eq_getElem (show 0 < xs.length by omega)] at q
    change DataW.trod enc Tryz.prog W 0 (fun _ => true) true n 3 (List.take (Tryz.prog.cellsOf 3) (List.drop 0 [c0, c1, c2, c3, c4, c5, c6, c7, c8, c9, c10, c11, c12, c13, c14])) = _ at q
    rw [cellsI] at q
    exact q
  have t1 : DataW.trod enc Tryz.prog W 0 (fun _ => true) true n 3 [c1] = some (xs[1]'(by omega)) := by
    have q := hfi 1 _ rfl
    rw [List.getElem?_eq_getElem (show 1 < xs.length by omega)] at q
    change DataW.trod enc Tryz.prog W 0 (fun _ => true) true n 3 (List.take (Tryz.prog.cellsOf 3) (List.drop 1 [c0, c1, c2, c3, c4, c5, c6, c7, c8, c9, c10, c11, c12, c13, c14])) = _ at q
    rw [cellsI] at q
    exact q
  have t2 : DataW.trod enc Tryz.prog W 0 (fun _ => true) true n 3 [c2] = some (xs[2]'(by omega)) := by
    have q := hfi 2 _ rfl
    rw [List.getElem?_eq_getElem (show 2 < xs.length by omega)] at q
    change DataW.trod enc Tryz.prog W 0 (fun _ => true) true n 3 (List.take (Tryz.prog.cellsOf 3) (List.drop 2 [c0, c1, c2, c3, c4, c5, c6, c7, c8, c9, c10, c11, c12, c13, c14])) = _ at q
    rw [cellsI] at q
    exact q
  have t3 : DataW.trod enc Tryz.prog W 0 (fun _ => true) true n 3 [c3] = some (xs[3]'(by omega)) := by
    have q := hfi 3 _ rfl
    rw [List.getElem?_eq_getElem (show 3 < xs.length by omega)] at q
    change DataW.trod enc Tryz.prog W 0 (fun _ => true) true n 3 (List.take (Tryz.prog.cellsOf 3) (List.drop 3 [c0, c1, c2, c3, c4, c5, c6, c7, c8, c9, c10, c11, c12, c13, c14])) = _ at q
    rw [cellsI] at q
    exact q
  have t4 : DataW.trod enc Tryz.prog W 0 (fun _ => true) true n 4 [c4] = some (xs[4]'(by omega)) := by
    have q := hfi 4 _ rfl
    rw [List.getElem?_eq_getElem (show 4 < xs.length by omega)] at q
    change DataW.trod enc Tryz.prog W 0 (fun _ => true) true n 4 (List.take (Tryz.prog.cellsOf 4) (List.drop 4 [c0, c1, c2, c3, c4, c5, c6, c7, c8, c9, c10, c11, c12, c13, c14])) = _ at q
    rw [cellsBo] at q
    exact q
  have t5 : DataW.trod enc Tryz.prog W 0 (fun _ => true) true n 4 [c5] = some (xs[5]'(by omega)) := by
    have q := hfi 5 _ rfl
    rw [List.getElem?_eq_getElem (show 5 < xs.length by omega)] at q
    change DataW.trod enc Tryz.prog W 0 (fun _ => true) true n 4 (List.take (Tryz.prog.cellsOf 4) (List.drop 5 [c0, c1, c2, c3, c4, c5, c6, c7, c8, c9, c10, c11, c12, c13, c14])) = _ at q
    rw [cellsBo] at q
    exact q
  have t6 : DataW.trod enc Tryz.prog W 0 (fun _ => true) true n 3 [c6] = some (xs[6]'(by omega)) := by
    have q := hfi 6 _ rfl
    rw [List.getElem?_eq_getElem (show 6 < xs.length by omega)] at q
    change DataW.trod enc Tryz.prog W 0 (fun _ => true) true n 3 (List.take (Tryz.prog.cellsOf 3) (List.drop 6 [c0, c1, c2, c3, c4, c5, c6, c7, c8, c9, c10, c11, c12, c13, c14])) = _ at q
    rw [cellsI] at q
    exact q
  have t7 : DataW.trod enc Tryz.prog W 0 (fun _ => true) true n 3 [c7] = some (xs[7]'(by omega)) := by
    have q := hfi 7 _ rfl
    rw [List.getElem?_eq_getElem (show 7 < xs.length by omega)] at q
    change DataW.trod enc Tryz.prog W 0 (fun _ => true) true n 3 (List.take (Tryz.prog.cellsOf 3) (List.drop 7 [c0, c1, c2, c3, c4, c5, c6, c7, c8, c9, c10, c11, c12, c13, c14])) = _ at q
    rw [cellsI] at q
    exact q
  have t8 : DataW.trod enc Tryz.prog W 0 (fun _ => true) true n 3 [c8] = some (xs[8]'(by omega)) := by
    have q := hfi 8 _ rfl
    rw [List.getElem?_eq_getElem (show 8 < xs.length by omega)] at q
    change DataW.trod enc Tryz.prog W 0 (fun _ => true) true n 3 (List.take (Tryz.prog.cellsOf 3) (List.drop 8 [c0, c1, c2, c3, c4, c5, c6, c7, c8, c9, c10, c11, c12, c13, c14])) = _ at q
    rw [cellsI] at q
    exact q
  have t9 : DataW.trod enc Tryz.prog W 0 (fun _ => true) true n 3 [c9] = some (xs[9]'(by omega)) := by
    have q := hfi 9 _ rfl
    rw [List.getElem?_eq_getElem (show 9 < xs.length by omega)] at q
    change DataW.trod enc Tryz.prog W 0 (fun _ => true) true n 3 (List.take (Tryz.prog.cellsOf 3) (List.drop 9 [c0, c1, c2, c3, c4, c5, c6, c7, c8, c9, c10, c11, c12, c13, c14])) = _ at q
    rw [cellsI] at q
    exact q
  have t10 : DataW.trod enc Tryz.prog W 0 (fun _ => true) true n 3 [c10] = some (xs[10]'(by omega)) := by
    have q := hfi 10 _ rfl
    rw [List.getElem?_eq_getElem (show 10 < xs.length by omega)] at q
    change DataW.trod enc Tryz.prog W 0 (fun _ => true) true n 3 (List.take (Tryz.prog.cellsOf 3) (List.drop 10 [c0, c1, c2, c3, c4, c5, c6, c7, c8, c9, c10, c11, c12, c13, c14])) = _ at q
    rw [cellsI] at q
    exact q
  have t11 : DataW.trod enc Tryz.prog W 0 (fun _ => true) true n 22 [c11] = some (xs[11]'(by omega)) := by
    have q := hfi 11 _ rfl
    rw [List.getElem?_eq_getElem (show 11 < xs.length by omega)] at q
    change DataW.trod enc Tryz.prog W 0 (fun _ => true) true n 22 (List.take (Tryz.prog.cellsOf 22) (List.drop 11 [c0, c1, c2, c3, c4, c5, c6, c7, c8, c9, c10, c11, c12, c13, c14])) = _ at q
    rw [cellsBs] at q
    exact q
  have t12 : DataW.trod enc Tryz.prog W 0 (fun _ => true) true n 3 [c12] = some (xs[12]'(by omega)) := by
    have q := hfi 12 _ rfl
    rw [List.getElem?_eq_getElem (show 12 < xs.length by omega)] at q
    change DataW.trod enc Tryz.prog W 0 (fun _ => true) true n 3 (List.take (Tryz.prog.cellsOf 3) (List.drop 12 [c0, c1, c2, c3, c4, c5, c6, c7, c8, c9, c10, c11, c12, c13, c14])) = _ at q
    rw [cellsI] at q
    exact q
  have t13 : DataW.trod enc Tryz.prog W 0 (fun _ => true) true n 3 [c13] = some (xs[13]'(by omega)) := by
    have q := hfi 13 _ rfl
    rw [List.getElem?_eq_getElem (show 13 < xs.length by omega)] at q
    change DataW.trod enc Tryz.prog W 0 (fun _ => true) true n 3 (List.take (Tryz.prog.cellsOf 3) (List.drop 13 [c0, c1, c2, c3, c4, c5, c6, c7, c8, c9, c10, c11, c12, c13, c14])) = _ at q
    rw [cellsI] at q
    exact q
  have t14 : DataW.trod enc Tryz.prog W 0 (fun _ => true) true n 23 [c14] = some (xs[14]'(by omega)) := by
    have q := hfi 14 _ rfl
    rw [List.getElem?_eq_getElem (show 14 < xs.length by omega)] at q
    change DataW.trod enc Tryz.prog W 0 (fun _ => true) true n 23 (List.take (Tryz.prog.cellsOf 23) (List.drop 14 [c0, c1, c2, c3, c4, c5, c6, c7, c8, c9, c10, c11, c12, c13, c14])) = _ at q
    rw [cellsBy] at q
    exact q
  obtain ⟨k0, e0, _, _⟩ := DataW.trod_int (t := 3) Tryz.underlying3 t0
  simp only [List.cons.injEq, and_true] at e0
  subst e0
  obtain ⟨k1, e1, _, _⟩ := DataW.trod_int (t := 3) Tryz.underlying3 t1
  simp only [List.cons.injEq, and_true] at e1
  subst e1
  obtain ⟨k2, e2, _, _⟩ := DataW.trod_int (t := 3) Tryz.underlying3 t2
  simp only [List.cons.injEq, and_true] at e2
  subst e2
  obtain ⟨k3, e3, _, _⟩ := DataW.trod_int (t := 3) Tryz.underlying3 t3
  simp only [List.cons.injEq, and_true] at e3
  subst e3
  obtain ⟨k4, e4, _⟩ := DataW.trod_bool (t := 4) Tryz.underlying4 t4
  simp only [List.cons.injEq, and_true] at e4
  subst e4
  obtain ⟨k5, e5, _⟩ := DataW.trod_bool (t := 4) Tryz.underlying4 t5
  simp only [List.cons.injEq, and_true] at e5
  subst e5
  obtain ⟨k6, e6, _, _⟩ := DataW.trod_int (t := 3) Tryz.underlying3 t6
  simp only [List.cons.injEq, and_true] at e6
  subst e6
  obtain ⟨k7, e7, _, _⟩ := DataW.trod_int (t := 3) Tryz.underlying3 t7
  simp only [List.cons.injEq, and_true] at e7
  subst e7
  obtain ⟨k8, e8, _, _⟩ := DataW.trod_int (t := 3) Tryz.underlying3 t8
  simp only [List.cons.injEq, and_true] at e8
  subst e8
  obtain ⟨k9, e9, _, _⟩ := DataW.trod_int (t := 3) Tryz.underlying3 t9
  simp only [List.cons.injEq, and_true] at e9
  subst e9
  obtain ⟨k10, e10, _, _⟩ := DataW.trod_int (t := 3) Tryz.underlying3 t10
  simp only [List.cons.injEq, and_true] at e10
  subst e10
  obtain ⟨k12, e12, _, _⟩ := DataW.trod_int (t := 3) Tryz.underlying3 t12
  simp only [List.cons.injEq, and_true] at e12
  subst e12
  obtain ⟨k13, e13, _, _⟩ := DataW.trod_int (t := 3) Tryz.underlying3 t13
  simp only [List.cons.injEq, and_true] at e13
  subst e13
  obtain ⟨qs, hq⟩ := open_bqs t11
  obtain ⟨l, hl, hb⟩ := open_byt t14
  exact ⟨⟨k0, k1, k2, k3, k4, k5, k6, k7, k8, k9, k10, k12, k13, l, bts qs⟩, ⟨c11, c14, qs, rfl, ⟨hq, rfl, hl⟩⟩, hb⟩
end
end Go.Proofs.YtoioddnlkbjljaaGreatDoor
namespace Go.Proofs.YtoioddnlkbjljaaGreatDoor
open Go.RowKit

theorem brange_at {W : World} {b o : Nat} {qs : List Bq} (h : W.rangeAt b o (bcs qs)) {i : Nat} (hi : i < qs.length) : W.rangeAt b (o + i * 3) (bce qs[i]) := fun j u hu => by
  have := h (i * 3 + j) u (bcs_get qs i hi j u hu)
  rwa [← Nat.add_assoc] at this
end Go.Proofs.YtoioddnlkbjljaaGreatDoor
namespace Go.Proofs.YtoioddnlkbjljaaGreatDoor
open Go.RowKit

theorem bce_all {q : Bq} (h : ∃ ao n cap, q.u = .slice ao n cap) : (bce q).toArray.all (·.oneCell') = true := by
  obtain ⟨ao, n, cap, e⟩ := h
  refine all_oneCell_toArray (fun v hv => ?_)
  simp only [bce, List.mem_cons, List.not_mem_nil, or_false] at hv
  rcases hv with rfl | rfl | rfl
  · rfl
  · rfl
  · rw [e]; rfl
theorem Rl.form3 {okb ok : Nat → Prop} {W : World} {v : Value} {ps : List Rp} (h : Rl okb ok W v ps) : ∃ ao n cap, v = .slice ao n cap := by
  obtain ⟨ao, cap, e⟩ := h.form
  exact ⟨ao, _, cap, e⟩
theorem there_newB (w : World) : (w.alloc (.cells #[.int .i64 0, .int .i64 0, .slice none 0 0] 52)).there w.heap.size 0 3 := by
  exact fun j hj => ⟨(range_new w [.int .i64 0, .int .i64 0, .slice none 0 0] 52).isSome j hj, by simp⟩
/-- A batch laid into new cells. -/
theorem laidB (W : World) (q : Bq) {W1 : World} (h1 : W1 = (W.alloc (.cells #[.int .i64 0, .int .i64 0, .slice none 0 0] 52)).setCells W.heap.size 0 (bce q)) : Below W.heap.size W W1 ∧ W1.rangeAt W.heap.size 0 (bce q) ∧ W.heap.size < W1.heap.size := by
  have hbl : Below W.heap.size W (W.alloc (.cells #[.int .i64 0, .int .i64 0, .slice none 0 0] 52)) := (Below.refl _ _).alloc (Nat.le_refl _) _
  have hrg : W1.rangeAt W.heap.size 0 (bce q) := by rw [h1]; exact World.rangeAt_setCells_same _ _ _ _ (there_newB W)
  exact ⟨by rw [h1]; exact below_many (Nat.le_refl _) _ _ hbl, hrg, cell_block (hrg 0 _ rfl)⟩
theorem okb_take {qs : List Bq} {j : Nat} (hj : j < qs.length) (h : ∀ x ∈ (bts qs).take j, (bw x).c = 0) (hn : (bw (btq qs[j])).c = 0) : ∀ x ∈ (bts qs).take (j + 1), (bw x).c = 0 := by
  have hl : j < (bts qs).length := by rw [bts_len]; exact hj
  have e : (bts qs)[j] = btq qs[j] := by simp [bts]
  rw [List.take_succ_eq_append_getElem hl, e]
  intro r hr
  rcases List.mem_append.1 hr with q | q
  · exact h r q
  · simp at q; subst q; exact hn
theorem ev_form (q : List (ByteArray × Int) × Int) : ∃ F U, ev (some q) = .iface F U := by
  obtain ⟨l, c⟩ := q
  exact chn_form l c
set_option maxRecDepth 100000 in
set_option maxHeartbeats 16000000 in
theorem mbats_any (v : Value) (qs : List Bq) (w : World) (hv : Bl w v qs) (htx : ∀ x ∈ bts qs, ∀ r ∈ x.rs, TxR r) (hn : qs.length ≤ 100000) :
    Calls Tryz.prog 52 #[v] w fun e w' => e = .returned (ev (evBs (bts qs) 0)) ∧ Below w.heap.size w w' := by
  obtain ⟨h1, h2⟩ := hv
  rcases h1 with ⟨ao, cap, rfl, rfl⟩ | ⟨b, o, cap, rfl, _, h0, hrg⟩
  · go_enter Tryz.func52, Tryz.ntmps52
    go_wp2_with fail
    refine wp_loop_rounds 1 ?_
    rw [rounds_succ]
    go_wp2_with fail
    go_ret
    exact ⟨rfl, Below.refl _ _⟩
  have HR := hide hrg
  have HW := hide h2
  have HT := hide htx
  clear hrg h2 htx h0
  go_enter Tryz.func52, Tryz.ntmps52
  go_wp2_with fail
  go_loopw [8] (fun i wr => ∃ j : Nat, j ≤ qs.length ∧ i = .int .i64 (j : Int) ∧ (∀ x ∈ (bts qs).take j, (bw x).c = 0) ∧ Below w.heap.size w wr) (fun i _ => qs.length - (intOf i).toNat)
  case atStart => exact ⟨0, Nat.zero_le _, rfl, fun r hr => by simp at hr, Below.refl _ _⟩
  case round =>
    obtain ⟨j, hj, rfl, hall, hb⟩ := hrel
    have HA := hide hall
    have HB := hide hb
    clear hall hb
    by_cases hlt : j < qs.length
    · have hltI : (j : Int) < (qs.length : Int) := by omega
      have HE := hide (range_bel (brange_at HR.out hlt) HB.out)
      have HP := hide (HW.out _ (List.getElem_mem hlt))
      have HX := hide (HT.out (btq qs[j]) (List.mem_map.2 ⟨_, List.getElem_mem hlt, rfl⟩))
      have HN : Hid (∀ q, evB (bw (btq qs[j])) = some q → evBs (bts qs) 0 = some ((⟨#[98, 97, 116, 99, 104]⟩, (j : Int)) :: q.1, q.2)) := hide (fun q h => by
        have := evBs_some (bts qs) 0 j (by rw [bts_len]; exact hlt) q HA.out (by simpa [bts] using h)
        rw [this, Nat.zero_add])
      have HK := hide (fun h => okb_take hlt HA.out h)
      have HTN := hide (there_newB wr)
      generalize qs[j] = p at *
      have HOC := hide (bce_all HP.out.form3)
      go_upto_region 4 with (first | (refine wpList_load_mid rfl _ _ rfl _ _ rfl _ _ HE.out Tryz.underlying52 rfl (by kernel_rfl) ?_) | (refine wpList_store_mid rfl _ _ _ rfl wr.heap.size 0 (bce p).toArray rfl rfl HTN.out (by kernel_rfl) HOC.out ?_))
      obtain ⟨V, hV⟩ : ∃ V, V = (wr.alloc (.cells #[.int .i64 0, .int .i64 0, .slice none 0 0] 52)).setCells wr.heap.size 0 (bce p) := ⟨_, rfl⟩
      obtain ⟨hbV, hrV, _⟩ := laidB wr p hV
      rw [← hV]
      have HRV := hide hrV
      have HBV := hide (HB.out.trans (hbV.mono HB.out.size))
      have HC := hide (bcheck_any (btq p) (.agg (bce p).toArray) V (okb := fun _ => True) (ok := fun _ => True) ⟨p.u, p.ps, rfl, HP.out.below HBV.out, rfl⟩ HX.out)
      rw [erB_ev] at HC
      clear hV hrV hbV HTN HE HB HP HX HT HW HR HOC
      have hz := evB_none (b := bw (btq p))
      generalize evB (bw (btq p)) = q at *
      rcases q with _ | q
      · have hc := hz.1 rfl
        clear hz
        rw [show ev none = .nilIface from rfl] at HC
        go_wp2_with (first | (refine wpList_load_mid rfl _ _ rfl _ _ rfl _ _ HRV.out Tryz.underlying52 rfl (by kernel_rfl) ?_) | (go_at_call 89; refine HC.out.mono ?_; rintro e w5 ⟨rfl, hb5⟩; have HB5 := hide (HBV.out.trans (hb5.mono HBV.out.size)); clear hb5))
        go_roundw
        case rel => exact ⟨j + 1, by omega, by go_num, HK.out hc, HB5.out⟩
        case measure => simp [intOf]; omega
      · have hw := HN.out q rfl
        clear HN hz HK
        obtain ⟨F, U, hFU⟩ := ev_form q
        rw [hFU] at HC
        have hE : ev (some ((⟨#[98, 97, 116, 99, 104]⟩, (j : Int)) :: q.1, q.2)) = .iface 116 (.agg #[.string ⟨#[98, 97, 116, 99, 104]⟩, .int .i64 (j : Int), .iface F U]) := by
          rw [← hFU]; rfl
        have HE2 := hide (hw.trans rfl)
        have HE3 := hide hE
        clear hw hE hFU
        go_wp2_with (first | (refine wpList_load_mid rfl _ _ rfl _ _ rfl _ _ HRV.out Tryz.underlying52 rfl (by kernel_rfl) ?_) | (go_at_call 89; refine HC.out.mono ?_; rintro e w5 ⟨rfl, hb5⟩; have HB5 := hide (HBV.out.trans (hb5.mono HBV.out.size)); clear hb5) | (go_at_call 62; refine (wrap_some _ _ _ _ _).mono ?_; rintro e w9 ⟨rfl, hw9⟩; rw [hw9]; clear hw9 w9))
        go_ret
        exact ⟨by rw [HE2.out, HE3.out]; rfl, HB5.out⟩
    · obtain rfl : j = qs.length := by omega
      have hf := evBs_none (bts qs) 0 (by have := HA.out; rw [← bts_len, List.take_length] at this; exact this)
      have HF := hide hf
      clear hlt HR HW HT hf
      go_wp2_with fail
      go_ret
      exact ⟨by rw [HF.out]; rfl, HB.out⟩
/-- What is wrong with a message ahead of its batches, by what each thing comes to. -/
def headB (k fr tn t ld pa pt hi co sz po dl bl : Int) (pre ok : Bool) (MB : Int → Bool) (HA : Int → Bool) (NB : Int → Int → Int → Bool) (MO : Int → Int → Int) : ByteArray × Int × Int :=
  checkMB k fr t ld pa hi co sz dl bl false (!MB fr || (!MB tn || (fr == tn))) (decide (t < 0) || decide (1073741824 < t)) ((pre && !HA 1) || (ok && !HA 2)) (!NB 4 ld 1073741824) (!NB 8 pa 1073741824 || !NB 16 pt 1073741824) (!NB 32 hi 1073741824) (!NB 64 co 21) (!NB 128 sz 1073741824 || !NB 256 po 1073741824) (decide (MO 512 512 < dl)) (decide (MO 1024 8 < bl))
def erH (EB : Value) (T : ByteArray × Int × Int) : Value := if T.2.2 = 0 then EB else ft T.1 T.2.1 T.2.2
set_option maxRecDepth 100000 in
set_option maxHeartbeats 32000000 in
theorem mcheck_go (k fr tn t ld pa pt hi co sz po : Int) (pre ok : Bool) (ab ad : Option Addr) (nb cb nd cd : Nat) (a : Int) (EB : Value) (MB : Int → Bool) (HA : Int → Bool) (NB : Int → Int → Int → Bool) (MO : Int → Int → Int) (w : World)
    (HS : Hid (∀ W, Calls Tryz.prog 19 #[.int .i64 k] W fun e w' => e = .returned (.tuple #[.int .u16 a, .bool true]) ∧ w' = W))
    (HME : Hid (∀ n W, Calls Tryz.prog 49 #[.int .i64 n] W fun e w' => e = .returned (.bool (MB n)) ∧ w' = W))
    (HH : Hid (∀ x W, Calls Tryz.prog 21 #[.int .u16 a, .int .u16 x] W fun e w' => e = .returned (.bool (HA x)) ∧ w' = W))
    (HW : Hid (∀ x n m W, Calls Tryz.prog 50 #[.int .u16 a, .int .u16 x, .int .i64 n, .int .i64 m] W fun e w' => e = .returned (.bool (NB x n m)) ∧ w' = W))
    (HM : Hid (∀ x n W, Calls Tryz.prog 51 #[.int .u16 a, .int .u16 x, .int .i64 n] W fun e w' => e = .returned (.int .i64 (MO x n)) ∧ w' = W))
    (HCB : Hid (∀ W, Below w.heap.size w W → Calls Tryz.prog 52 #[.slice ab nb cb] W fun e w' => e = .returned EB ∧ Below W.heap.size W w'))
    (ANS : Value) (hT : ANS = erH EB (headB k fr tn t ld pa pt hi co sz po nd nb pre ok MB HA NB MO)) :
    Calls Tryz.prog 17 #[.agg #[.int .i64 k, .int .i64 fr, .int .i64 tn, .int .i64 t, .bool pre, .bool ok, .int .i64 ld, .int .i64 pa, .int .i64 pt, .int .i64 hi, .int .i64 co, .slice ab nb cb, .int .i64 sz, .int .i64 po, .slice ad nd cd]] w fun e w' => e = .returned ANS ∧ Below w.heap.size w w' := by
  have HT := hide hT
  clear hT
  have HQ : Hid ((w.alloc (.cells #[.int .i64 k, .int .i64 fr, .int .i64 tn, .int .i64 t, .bool pre, .bool ok, .int .i64 ld, .int .i64 pa, .int .i64 pt, .int .i64 hi, .int .i64 co, .slice ab nb cb, .int .i64 sz, .int .i64 po, .slice ad nd cd] 25)).rangeAt w.heap.size 0 [.int .i64 k, .int .i64 fr, .int .i64 tn, .int .i64 t, .bool pre, .bool ok, .int .i64 ld, .int .i64 pa, .int .i64 pt, .int .i64 hi, .int .i64 co, .slice ab nb cb, .int .i64 sz, .int .i64 po, .slice ad nd cd]) := hide (range_new w _ _)
  have HB : Hid (Below w.heap.size w (w.alloc (.cells #[.int .i64 k, .int .i64 fr, .int .i64 tn, .int .i64 t, .bool pre, .bool ok, .int .i64 ld, .int .i64 pa, .int .i64 pt, .int .i64 hi, .int .i64 co, .slice ab nb cb, .int .i64 sz, .int .i64 po, .slice ad nd cd] 25))) := hide ((Below.refl _ _).alloc (Nat.le_refl _) _)
  go_enter Tryz.func17, Tryz.ntmps17
  go_upto_region 1 with fail
  generalize w.alloc (.cells #[.int .i64 k, .int .i64 fr, .int .i64 tn, .int .i64 t, .bool pre, .bool ok, .int .i64 ld, .int .i64 pa, .int .i64 pt, .int .i64 hi, .int .i64 co, .slice ab nb cb, .int .i64 sz, .int .i64 po, .slice ad nd cd] 25) = X at HQ HB ⊢
  obtain ⟨g0, g1, g2, g3, g4, g5, g6, g7, g8, g9, g10, g11, g12, g13, g14⟩ := C15.of HQ.out
  go_upto_region 4 with ((first | (go_at_call 19; refine (HS.out _).mono ?_) | (go_at_call 23; refine (new_any _ _ _ _).mono ?_) | (go_at_call 49; refine (HME.out _ _).mono ?_) | (go_at_call 21; refine (HH.out _ _).mono ?_) | (go_at_call 50; refine (HW.out _ _ _ _).mono ?_)); rintro e w1 ⟨rfl, hw1⟩; rw [hw1]; clear hw1 w1)
  cases e1 : MB fr
  rotate_left
  cases e2 : MB tn
  rotate_left
  cases e3 : (fr == tn)
  go_upto_region 6 with ((first | (go_at_call 19; refine (HS.out _).mono ?_) | (go_at_call 23; refine (new_any _ _ _ _).mono ?_) | (go_at_call 49; refine (HME.out _ _).mono ?_) | (go_at_call 21; refine (HH.out _ _).mono ?_) | (go_at_call 50; refine (HW.out _ _ _ _).mono ?_)); rintro e w1 ⟨rfl, hw1⟩; rw [hw1]; clear hw1 w1)
  cases e4 : decide (t < 0)
  cases e5 : decide (1073741824 < t)
  go_upto_region 8 with ((first | (go_at_call 19; refine (HS.out _).mono ?_) | (go_at_call 23; refine (new_any _ _ _ _).mono ?_) | (go_at_call 49; refine (HME.out _ _).mono ?_) | (go_at_call 21; refine (HH.out _ _).mono ?_) | (go_at_call 50; refine (HW.out _ _ _ _).mono ?_)); rintro e w1 ⟨rfl, hw1⟩; rw [hw1]; clear hw1 w1)
  obtain ⟨F, HF⟩ : ∃ F, Hid (F = ((pre && !HA 1) || (ok && !HA 2))) := ⟨_, hide rfl⟩
  focus
    go_cut [50] (fun b W => b = .bool F ∧ W = X)
  case first =>
    cases pre <;> cases ok <;> cases h1 : HA 1 <;> cases h2 : HA 2
    all_goals
      go_wp2_with ((first | (go_at_call 19; refine (HS.out _).mono ?_) | (go_at_call 23; refine (new_any _ _ _ _).mono ?_) | (go_at_call 49; refine (HME.out _ _).mono ?_) | (go_at_call 21; refine (HH.out _ _).mono ?_) | (go_at_call 50; refine (HW.out _ _ _ _).mono ?_)); rintro e w1 ⟨rfl, hw1⟩; rw [hw1]; clear hw1 w1)
      go_meet
      exact ⟨by rw [HF.out, h1, h2]; rfl, rfl⟩
  obtain ⟨rfl, rfl⟩ := hcut
  obtain ⟨X, rfl⟩ : ∃ x : World, x = wc := ⟨_, rfl⟩
  cases F
  go_upto_region 10 with ((first | (go_at_call 19; refine (HS.out _).mono ?_) | (go_at_call 23; refine (new_any _ _ _ _).mono ?_) | (go_at_call 49; refine (HME.out _ _).mono ?_) | (go_at_call 21; refine (HH.out _ _).mono ?_) | (go_at_call 50; refine (HW.out _ _ _ _).mono ?_)); rintro e w1 ⟨rfl, hw1⟩; rw [hw1]; clear hw1 w1)
  cases e8 : NB 4 ld 1073741824
  rotate_left
  go_upto_region 12 with ((first | (go_at_call 19; refine (HS.out _).mono ?_) | (go_at_call 23; refine (new_any _ _ _ _).mono ?_) | (go_at_call 49; refine (HME.out _ _).mono ?_) | (go_at_call 21; refine (HH.out _ _).mono ?_) | (go_at_call 50; refine (HW.out _ _ _ _).mono ?_)); rintro e w1 ⟨rfl, hw1⟩; rw [hw1]; clear hw1 w1)
  cases e9 : NB 8 pa 1073741824
  rotate_left
  cases e10 : NB 16 pt 1073741824
  rotate_left
  go_upto_region 14 with ((first | (go_at_call 19; refine (HS.out _).mono ?_) | (go_at_call 23; refine (new_any _ _ _ _).mono ?_) | (go_at_call 49; refine (HME.out _ _).mono ?_) | (go_at_call 21; refine (HH.out _ _).mono ?_) | (go_at_call 50; refine (HW.out _ _ _ _).mono ?_)); rintro e w1 ⟨rfl, hw1⟩; rw [hw1]; clear hw1 w1)
  cases e11 : NB 32 hi 1073741824
  rotate_left
  go_upto_region 16 with ((first | (go_at_call 19; refine (HS.out _).mono ?_) | (go_at_call 23; refine (new_any _ _ _ _).mono ?_) | (go_at_call 49; refine (HME.out _ _).mono ?_) | (go_at_call 21; refine (HH.out _ _).mono ?_) | (go_at_call 50; refine (HW.out _ _ _ _).mono ?_)); rintro e w1 ⟨rfl, hw1⟩; rw [hw1]; clear hw1 w1)
  cases e12 : NB 64 co 21
  rotate_left
  go_upto_region 18 with ((first | (go_at_call 19; refine (HS.out _).mono ?_) | (go_at_call 23; refine (new_any _ _ _ _).mono ?_) | (go_at_call 49; refine (HME.out _ _).mono ?_) | (go_at_call 21; refine (HH.out _ _).mono ?_) | (go_at_call 50; refine (HW.out _ _ _ _).mono ?_)); rintro e w1 ⟨rfl, hw1⟩; rw [hw1]; clear hw1 w1)
  cases e13 : NB 128 sz 1073741824
  rotate_left
  cases e14 : NB 256 po 1073741824
  rotate_left
  go_upto_region 20 with ((first | (go_at_call 19; refine (HS.out _).mono ?_) | (go_at_call 23; refine (new_any _ _ _ _).mono ?_) | (go_at_call 49; refine (HME.out _ _).mono ?_) | (go_at_call 21; refine (HH.out _ _).mono ?_) | (go_at_call 50; refine (HW.out _ _ _ _).mono ?_)); rintro e w1 ⟨rfl, hw1⟩; rw [hw1]; clear hw1 w1)
  focus
    cases e15 : decide (MO 512 512 < (nd : Int))
    all_goals
      go_quiet (first | (go_at_call 51; exact Calls.quiet_of_same (HM.out _ _ _)))
      replace HQ := hide (range_below HQ.out (below_drewN (Below.refl _ _) nq))
      replace HB := hide (below_drewN HB.out nq)
      clear g0 g1 g2 g3 g4 g5 g6 g7 g8 g9 g10 g11 g12 g13 g14
      obtain ⟨X, hX⟩ : ∃ X', X' = X.drewN nq := ⟨_, rfl⟩
      rw [← hX] at HQ HB ⊢
      clear hX
      obtain ⟨g0, g1, g2, g3, g4, g5, g6, g7, g8, g9, g10, g11, g12, g13, g14⟩ := C15.of HQ.out
  go_upto_region 22 with fail
  focus
    cases e16 : decide (MO 1024 8 < (nb : Int))
    all_goals
      go_quiet (first | (go_at_call 51; exact Calls.quiet_of_same (HM.out _ _ _)))
      replace HQ := hide (range_below HQ.out (below_drewN (Below.refl _ _) nq))
      replace HB := hide (below_drewN HB.out nq)
      clear g0 g1 g2 g3 g4 g5 g6 g7 g8 g9 g10 g11 g12 g13 g14
      obtain ⟨X, hX⟩ : ∃ X', X' = X.drewN nq := ⟨_, rfl⟩
      rw [← hX] at HQ HB ⊢
      clear hX
      obtain ⟨g0, g1, g2, g3, g4, g5, g6, g7, g8, g9, g10, g11, g12, g13, g14⟩ := C15.of HQ.out
  focus
    go_wp2_with (first | (go_at_call 52; refine (HCB.out _ HB.out).mono ?_; rintro e w5 ⟨rfl, hb5⟩; have HB5 := hide (HB.out.trans (hb5.mono HB.out.size)); clear hb5))
    go_ret
    refine ⟨?_, HB5.out⟩
    rw [HT.out]
    have hF := HF.out.symm
    simp [erH, headB, checkMB, *]
  all_goals
    go_wp2_with ((first | (go_at_call 19; refine (HS.out _).mono ?_) | (go_at_call 23; refine (new_any _ _ _ _).mono ?_) | (go_at_call 49; refine (HME.out _ _).mono ?_) | (go_at_call 21; refine (HH.out _ _).mono ?_) | (go_at_call 50; refine (HW.out _ _ _ _).mono ?_)); rintro e w1 ⟨rfl, hw1⟩; rw [hw1]; clear hw1 w1)
    go_ret
    refine ⟨?_, HB.out⟩
    rw [HT.out]
    first | (simp [erH, headB, checkMB, ft, *]; done) | (have hF := HF.out.symm; simp [erH, headB, checkMB, ft, *]; done)
theorem mcheck_any (m : Ms) (v : Value) (w : World) (hv : IsM w v m) (htx : TxM m) (hn : m.bs.length ≤ 100000) : Calls Tryz.prog 17 #[v] w fun e w' => e = .returned (ev (evM m)) ∧ Below w.heap.size w w' := by
  obtain ⟨ab, cb, ad, cd, qs, rfl, hm⟩ := isM_form hv
  have hcb := fun W (h : Below w.heap.size w W) => mbats_any (.slice ab m.bs.length cb) qs W (hm.bl.below h) (by rw [hm.bs]; exact htx) (by rw [hm.len]; exact hn)
  rw [hm.bs] at hcb
  by_cases hk : 1 ≤ m.k ∧ m.k ≤ 8
  · have hs := fun W => msubj_any m.k W
    rw [show kndM m.k = true from decide_eq_true hk] at hs
    obtain ⟨q0, q1, q2, q3, q4, q5, q6, q7, q8, q9, q10⟩ := bitM_has hk
    have hT : headM m = headB m.k m.fr m.tn m.t m.ld m.pa m.pt m.hi m.co m.sz m.po m.da.length m.bs.length m.pre m.ok memB (fun x => bitM (sbjM m.k) x) (fun x n h => decide (0 ≤ n ∧ n ≤ if bitM (sbjM m.k) x then h else 0)) (fun x n => if bitM (sbjM m.k) x then n else 0) := by
      unfold headM headB
      simp only [q0, q1, q2, q3, q4, q5, q6, q7, q8, q9, q10]
      congr 1
      · exact decide_eq_false (by omega)
      · rw [← Bool.coe_iff_coe]; simp [memB]; omega
      · exact Bool.decide_or ..
      · rw [← Bool.coe_iff_coe]; simp
      · rw [numB_not]
      · rw [Bool.decide_or, numB_not, numB_not]
      · rw [numB_not]
      · rw [numB_not]
      · rw [Bool.decide_or, numB_not, numB_not]
      · exact decide_eq_decide.2 (by cases hasM m.k 100 <;> simp <;> omega)
      · exact decide_eq_decide.2 (by cases hasM m.k 98 <;> simp <;> omega)
    refine (mcheck_go m.k m.fr m.tn m.t m.ld m.pa m.pt m.hi m.co m.sz m.po m.pre m.ok ab ad m.bs.length cb m.da.length cd (sbjM m.k) _ _ _ _ _ w (hide hs) (hide (fun n W => member_any n W)) (hide (fun x W => mhas_any _ x W)) (hide (fun x n h W => mwithin_dec _ x n h W)) (hide (fun x n W => mmost_any _ x n W)) (hide hcb) _ (by rw [← hT])).mono ?_
    rintro e w' ⟨rfl, hb⟩
    refine ⟨?_, hb⟩
    unfold evM erH
    split
    · rfl
    · rfl
  · have e : evM m = some ([(⟨#[107, 105, 110, 100]⟩, m.k)], 5) := by
      have hh : headM m = (⟨#[107, 105, 110, 100]⟩, m.k, 5) := by
        unfold headM checkMB
        rw [if_pos (decide_eq_true (by omega))]
      unfold evM
      rw [hh]
      rfl
    rw [e, show ev (some ([((⟨#[107, 105, 110, 100]⟩ : ByteArray), m.k)], 5)) = ft ⟨#[107, 105, 110, 100]⟩ m.k 5 from rfl]
    have HS := hide (fun W => msubj_any m.k W)
    rw [show kndM m.k = false from decide_eq_false hk] at HS
    clear e hcb hk hm hv htx hn
    obtain ⟨k, fr, tn, t, pre, ok, ld, pa, pt, hi, co, sz, po, da, bs⟩ := m
    unfold cellsM ft
    simp only at HS ⊢
    go_enter Tryz.func17, Tryz.ntmps17
    go_wp2_with ((first | (go_at_call 19; refine (HS.out _).mono ?_) | (go_at_call 23; refine (new_any _ _ _ _).mono ?_)); rintro e w1 ⟨rfl, hw1⟩; rw [hw1]; clear hw1 w1)
    go_ret
    exact ⟨rfl, (Below.refl _ _).alloc (Nat.le_refl _) _⟩
end Go.Proofs.YtoioddnlkbjljaaGreatDoor
