/-
  SLICES WHOSE ELEMENTS ARE ONE CELL EACH, as lists: what a slice holds, that it stays behind whatever makes memory and turns nothing old, and how it comes of an owned row. No program in sight; no condition.
  NUMBERS AS BYTES, on lists alone (no program in sight): how a number is written, what is read at the head of bytes, that what is written is read as what it was, and that what is read was written in just that way. Conditions: bytes are bytes, numbers are at most 2^62 - 1.
  THE REMAINDER OF CRC-32C OVER NUMBERS: one step, its linearity, that it loses nothing; a text's bits taken at the top with 32 noughts behind are the same as the bits taken at the bottom; bytes, half bytes, bursts. No program in it.
  WHAT A DRAWN REGION WITH CALLS KEEPS, FOR ANY FACTS ON CELLS OF OLD MEMORY: no program in it. Conditions: a call writes only new memory.
-/
import Derived.WalkKit
import Derived.Below
namespace Go.Proofs.YtenahnbfaekljaaDoor
open Go.RowKit

theorem hide {p : Prop} (h : p) : Hid p := h
theorem cell_block {w : World} {v : Value} {a : Addr} (h : w.cell? a = some v) : a.block < w.heap.size := by
  rcases Nat.lt_or_ge a.block w.heap.size with hl | hl
  · exact hl
  · simp [World.cell?, Array.getElem?_eq_none hl] at h

/-- The slice v holds the list l, each element as f says. -/
def Sl {α : Type} (f : α → Value) (W : World) (v : Value) (l : List α) : Prop :=
  (∃ ao cap, l = [] ∧ v = .slice ao 0 cap) ∨
  (∃ b o cap, v = .slice (some ⟨b, o, none⟩) l.length cap ∧ l.length ≤ cap ∧ ∀ i (h : i < l.length), W.cell? ⟨b, o + i, none⟩ = some (f l[i]))
theorem Sl.below {α : Type} {f : α → Value} {w w' : World} {v : Value} {l : List α} (h : Sl f w v l) (hb : Below w.heap.size w w') : Sl f w' v l := by
  rcases h with h | ⟨b, o, cap, h1, h2, h3⟩
  · exact .inl h
  · refine .inr ⟨b, o, cap, h1, h2, fun i hi => ?_⟩
    rw [hb.cell (p := ⟨b, o + i, none⟩) (cell_block (h3 i hi))]
    exact h3 i hi
theorem Sl.form {α : Type} {f : α → Value} {w : World} {v : Value} {l : List α} (h : Sl f w v l) : ∃ ao cap, v = .slice ao l.length cap := by
  rcases h with ⟨ao, cap, rfl, rfl⟩ | ⟨b, o, cap, rfl, h2, h3⟩ <;> exact ⟨_, _, rfl⟩
theorem Sl.nil {α : Type} (f : α → Value) (w : World) (ao : Option Addr) (cap : Nat) : Sl f w (.slice ao 0 cap) [] := .inl ⟨_, _, rfl, rfl⟩
theorem sl_of_owns {α : Type} {f : α → Value} {w : World} {base : Nat} {e : TypeId} {v : Value} {l : List α} (h : w.ownsRow base e 1 v l.length (l.map f)) : Sl f w v l := by
  obtain ⟨h1, h2⟩ := h
  rcases h2 with ⟨rfl, hn⟩ | ⟨g, cap, cur, rfl, a2, a3, a4, a5, a6, a7⟩
  · exact .inl ⟨_, _, List.length_eq_zero_iff.1 hn, rfl⟩
  · refine .inr ⟨g, 0, cap, rfl, a4, fun i hi => ?_⟩
    have e1 : (cur.toList.take (l.length * 1))[i]? = (l.map f)[i]? := by rw [a7]
    rw [List.getElem?_take_of_lt (by omega)] at e1
    rw [List.getElem?_map, List.getElem?_eq_getElem hi] at e1
    simp only [World.cell?, a3, Nat.zero_add]
    simpa using e1
/-- A slice's cells as the source of an append. -/
theorem Sl.news {α : Type} {f : α → Value} {w : World} {b o : Nat} {l : List α} (h : ∀ i (h : i < l.length), w.cell? ⟨b, o + i, none⟩ = some (f l[i])) :
    ∀ j u, (l.map f)[j]? = some u → w.cell? ((⟨b, o, none⟩ : Addr).add j) = some u := by
  intro j u hj
  have hlt : j < l.length := by simpa using (List.getElem?_eq_some_iff.1 hj).1
  rw [Addr.add_lit, h j hlt]
  rw [List.getElem?_map, List.getElem?_eq_getElem hlt] at hj
  exact hj
theorem Sl.one {α : Type} {f : α → Value} (hf : ∀ x, (f x).oneCell' = true) (l : List α) : ∀ u ∈ l.map f, u.oneCell' = true := by
  intro u hu
  obtain ⟨x, _, rfl⟩ := List.mem_map.1 hu
  exact hf x
theorem owns_below {w w' : World} {base n size : Nat} {e : TypeId} {v : Value} {xs : List Value} (h : w.ownsRow base e size v n xs) (hb : Below w.heap.size w w') : w'.ownsRow base e size v n xs := by
  obtain ⟨h1, h2⟩ := h
  refine ⟨h1, ?_⟩
  rcases h2 with h2 | ⟨g, cap, cur, a1, a2, a3, a4⟩
  · exact .inl h2
  · refine .inr ⟨g, cap, cur, a1, a2, ?_, a4⟩
    rw [hb.block g (Array.getElem?_eq_some_iff.1 a3).1]
    exact a3
theorem owns_mono {w : World} {base base' n size : Nat} {e : TypeId} {v : Value} {xs : List Value} (h : w.ownsRow base e size v n xs) (hb : base' ≤ base) : w.ownsRow base' e size v n xs := by
  obtain ⟨h1, h2⟩ := h
  refine ⟨h1, ?_⟩
  rcases h2 with h2 | ⟨g, cap, cur, a1, a2, a3⟩
  · exact .inl h2
  · exact .inr ⟨g, cap, cur, a1, Nat.le_trans hb a2, a3⟩
/-- A row that was just made is owned. -/
theorem owns_new (w : World) (xs : List Value) (e : TypeId) (hm : xs.length ≤ maxLen) : (w.alloc (.cells xs.toArray e)).ownsRow w.heap.size e 1 (.slice (some ⟨w.heap.size, 0, none⟩) xs.length xs.length) xs.length xs :=
  ⟨by simp, .inr ⟨w.heap.size, xs.length, xs.toArray, rfl, Nat.le_refl _, Array.getElem?_push_size, Nat.le_refl _, hm, by simp, by simp⟩⟩
theorem bt {a b c : World} (h1 : Below a.heap.size a b) (h2 : Below b.heap.size b c) : Below a.heap.size a c := h1.trans (h2.mono h1.size)
theorem bcell {W w1 : World} (hb : Below W.heap.size W w1) : (∀ b o, b < W.heap.size → w1.cell? ⟨b, o, none⟩ = W.cell? ⟨b, o, none⟩) ∧ (∀ b o, b < W.heap.size → w1.frozen? ⟨b, o, none⟩ = W.frozen? ⟨b, o, none⟩) :=
  ⟨fun b o h => hb.cell (p := ⟨b, o, none⟩) h, fun b o h => hb.frozen (p := ⟨b, o, none⟩) h⟩
end Go.Proofs.YtenahnbfaekljaaDoor
namespace Go.Proofs.YtenahnbfaekljaaDoor
open Go.RowKit
/-- A byte, an int as a cell. -/
def bc (x : Int) : Value := .int .u8 x
def ic (x : Int) : Value := .int .i64 x
/-- Bytes as cells. -/
def bv (l : List Int) : List Value := l.map fun x => Value.int .u8 x
theorem bv_eq (l : List Int) : bv l = l.map bc := rfl
/-- A number's bytes, the highest first. -/
def numL (n : Int) : List Int :=
  if n < 64 then [n] else if n < 16384 then [n / 256 + 64, n % 256] else if n < 1073741824 then [n / 16777216 + 128, n / 65536 % 256, n / 256 % 256, n % 256]
  else [n / 72057594037927936 + 192, n / 281474976710656 % 256, n / 1099511627776 % 256, n / 4294967296 % 256, n / 16777216 % 256, n / 65536 % 256, n / 256 % 256, n % 256]
/-- The greatest number is 2^62 - 1. -/
def capN (n : Int) : Int := if 4611686018427387903 < n then 4611686018427387903 else n
/-- An int's bytes: of 0, if it is below 0. -/
def intL (n : Int) : List Int := if n < 0 then [0] else numL (capN n)
/-- What a number of k bytes comes to: 5, it could stand in fewer; 6, it is above the most; 0, it is read. -/
def finN (k : Nat) (lo n most : Int) : Int × Nat × Int := if n < lo then (5, 0, 0) else if most < n then (6, 0, 0) else (0, k, n)
/-- The next number at the head of the bytes r: a code (3: too short), how many bytes, the number. -/
def numS (r : List Int) (most : Int) : Int × Nat × Int := match r with
  | [] => (3, 0, 0)
  | x0 :: r =>
    if x0 / 64 = 0 then finN 1 0 (x0 % 64) most
    else if x0 / 64 = 1 then (match r with
      | x1 :: _ => finN 2 64 (x0 % 64 * 256 + x1) most
      | _ => (3, 0, 0))
    else if x0 / 64 = 2 then (match r with
      | x1 :: x2 :: x3 :: _ => finN 4 16384 (((x0 % 64 * 256 + x1) * 256 + x2) * 256 + x3) most
      | _ => (3, 0, 0))
    else (match r with
      | x1 :: x2 :: x3 :: x4 :: x5 :: x6 :: x7 :: _ => finN 8 1073741824 (((((((x0 % 64 * 256 + x1) * 256 + x2) * 256 + x3) * 256 + x4) * 256 + x5) * 256 + x6) * 256 + x7) most
      | _ => (3, 0, 0))
theorem numL_le (n : Int) : (numL n).length ≤ 8 := by
  unfold numL; split
  · simp
  · split
    · simp
    · split <;> simp
theorem intL_le (n : Int) : (intL n).length ≤ 8 := by
  unfold intL; split
  · simp
  · exact numL_le _

/-- All are bytes. -/
def Byt (l : List Int) : Prop := ∀ x ∈ l, 0 ≤ x ∧ x ≤ 255
theorem numL_byt {n : Int} (h0 : 0 ≤ n) (h1 : n ≤ 4611686018427387903) : Byt (numL n) := by
  unfold numL Byt
  intro x hx
  split at hx
  · simp at hx; omega
  · split at hx
    · simp at hx; rcases hx with rfl | rfl <;> omega
    · split at hx
      · simp at hx; rcases hx with rfl | rfl | rfl | rfl <;> omega
      · simp at hx; rcases hx with rfl | rfl | rfl | rfl | rfl | rfl | rfl | rfl <;> omega
theorem fin_ok {k : Nat} {lo n m most : Int} (h : n = m) (h0 : lo ≤ m) (h1 : m ≤ most) : finN k lo n most = (0, k, m) := by
  subst h
  rw [finN, if_neg (by omega), if_neg (by omega)]
/-- What was written is read. -/
theorem numS_numL {n most : Int} (r : List Int) (h0 : 0 ≤ n) (h1 : n ≤ 4611686018427387903) (hm : n ≤ most) : numS (numL n ++ r) most = (0, (numL n).length, n) := by
  by_cases a : n < 64
  · simp only [numL, if_pos a, List.cons_append, List.nil_append, numS, List.length_cons, List.length_nil]
    rw [if_pos (by omega)]
    exact fin_ok (by omega) (by omega) hm
  · by_cases b : n < 16384
    · simp only [numL, if_neg a, if_pos b, List.cons_append, List.nil_append, numS, List.length_cons, List.length_nil]
      rw [if_neg (by omega), if_pos (by omega)]
      exact fin_ok (by omega) (by omega) hm
    · by_cases c : n < 1073741824
      · simp only [numL, if_neg a, if_neg b, if_pos c, List.cons_append, List.nil_append, numS, List.length_cons, List.length_nil]
        rw [if_neg (by omega), if_neg (by omega), if_pos (by omega)]
        exact fin_ok (by omega) (by omega) hm
      · simp only [numL, if_neg a, if_neg b, if_neg c, List.cons_append, List.nil_append, numS, List.length_cons, List.length_nil]
        rw [if_neg (by omega), if_neg (by omega), if_neg (by omega)]
        exact fin_ok (by omega) (by omega) hm
theorem fin_inv {k : Nat} {lo n most : Int} {j : Nat} {m : Int} (h : finN k lo n most = (0, j, m)) : j = k ∧ m = n ∧ lo ≤ n ∧ n ≤ most := by
  unfold finN at h
  split at h
  · simp at h
  · split at h
    · simp at h
    · simp at h; omega
/-- What is read was written in just that way. -/
theorem numS_once {r : List Int} {most : Int} {k : Nat} {n : Int} (hb : Byt r) (h : numS r most = (0, k, n)) : r.take k = numL n ∧ k = (numL n).length ∧ 0 ≤ n ∧ n ≤ 4611686018427387903 ∧ n ≤ most ∧ k ≤ r.length := by
  rcases r with _ | ⟨x0, r⟩
  · simp [numS] at h
  have b0 := hb x0 (by simp)
  unfold numS at h
  simp only at h
  split at h
  · obtain ⟨rfl, rfl, h1, h2⟩ := fin_inv h
    have e : numL (x0 % 64) = [x0] := by rw [numL, if_pos (by omega)]; congr 1; omega
    rw [e]
    refine ⟨by simp, by simp, by omega, by omega, h2, by simp⟩
  · split at h
    · rcases r with _ | ⟨x1, r⟩
      · simp at h
      have b1 := hb x1 (by simp)
      obtain ⟨rfl, rfl, h1, h2⟩ := fin_inv h
      have e : numL (x0 % 64 * 256 + x1) = [x0, x1] := by
        rw [numL, if_neg (by omega), if_pos (by omega)]
        simp only [List.cons.injEq, and_true]; refine ⟨?_, ?_⟩ <;> omega
      rw [e]
      refine ⟨by simp, by simp, by omega, by omega, h2, by simp⟩
    · split at h
      · rcases r with _ | ⟨x1, _ | ⟨x2, _ | ⟨x3, r⟩⟩⟩
        · simp at h
        · simp at h
        · simp at h
        have b1 := hb x1 (by simp)
        have b2 := hb x2 (by simp)
        have b3 := hb x3 (by simp)
        obtain ⟨rfl, rfl, h1, h2⟩ := fin_inv h
        have e : numL (((x0 % 64 * 256 + x1) * 256 + x2) * 256 + x3) = [x0, x1, x2, x3] := by
          rw [numL, if_neg (by omega), if_neg (by omega), if_pos (by omega)]
          simp only [List.cons.injEq, and_true]; refine ⟨?_, ?_, ?_, ?_⟩ <;> omega
        rw [e]
        refine ⟨by simp, by simp, by omega, by omega, h2, by simp⟩
      · rcases r with _ | ⟨x1, _ | ⟨x2, _ | ⟨x3, _ | ⟨x4, _ | ⟨x5, _ | ⟨x6, _ | ⟨x7, r⟩⟩⟩⟩⟩⟩⟩
        · simp at h
        · simp at h
        · simp at h
        · simp at h
        · simp at h
        · simp at h
        · simp at h
        have b1 := hb x1 (by simp)
        have b2 := hb x2 (by simp)
        have b3 := hb x3 (by simp)
        have b4 := hb x4 (by simp)
        have b5 := hb x5 (by simp)
        have b6 := hb x6 (by simp)
        have b7 := hb x7 (by simp)
        obtain ⟨rfl, rfl, h1, h2⟩ := fin_inv h
        have e : numL (((((((x0 % 64 * 256 + x1) * 256 + x2) * 256 + x3) * 256 + x4) * 256 + x5) * 256 + x6) * 256 + x7) = [x0, x1, x2, x3, x4, x5, x6, x7] := by
          rw [numL, if_neg (by omega), if_neg (by omega), if_neg (by omega)]
          simp only [List.cons.injEq, and_true]; refine ⟨?_, ?_, ?_, ?_, ?_, ?_, ?_, ?_⟩ <;> omega
        rw [e]
        refine ⟨by simp, by simp, by omega, by omega, h2, by simp⟩
end Go.Proofs.YtenahnbfaekljaaDoor
namespace Go.Proofs.YtenahnbfaekljaaDoor

theorem xor_four (a b c d : Nat) : (a ^^^ b) ^^^ (c ^^^ d) = (a ^^^ c) ^^^ (b ^^^ d) := by
  rw [Nat.xor_assoc, Nat.xor_assoc, ← Nat.xor_assoc b c d, Nat.xor_comm b c, Nat.xor_assoc c b d]
theorem xor_zero_eq {a b : Nat} (h : a ^^^ b = 0) : a = b := by
  have : a ^^^ b ^^^ b = 0 ^^^ b := by rw [h]
  rw [Nat.xor_assoc, Nat.xor_self, Nat.xor_zero, Nat.zero_xor] at this
  exact this
/-- One step without a bit. -/
def cs (r : Nat) : Nat := (r / 2) ^^^ (if r % 2 = 1 then 2197175160 else 0)
theorem cs_xor (a b : Nat) : cs (a ^^^ b) = cs a ^^^ cs b := by
  unfold cs
  rw [xor_four, Nat.xor_div_two]
  congr 1
  have h := @Nat.xor_mod_two_eq_one a b
  have ha : a % 2 = 0 ∨ a % 2 = 1 := by omega
  have hb : b % 2 = 0 ∨ b % 2 = 1 := by omega
  rcases ha with ha | ha <;> rcases hb with hb | hb
  · rw [if_neg (by rw [h]; omega), if_neg (by omega), if_neg (by omega)]; rfl
  · rw [if_pos (by rw [h]; omega), if_neg (by omega), if_pos hb, Nat.zero_xor]
  · rw [if_pos (by rw [h]; omega), if_pos ha, if_neg (by omega), Nat.xor_zero]
  · rw [if_neg (by rw [h]; omega), if_pos ha, if_pos hb, Nat.xor_self]
theorem cs_zero : cs 0 = 0 := rfl
theorem cs_lt {r : Nat} (h : r < 4294967296) : cs r < 4294967296 := by
  unfold cs
  refine Nat.xor_lt_two_pow (n := 32) (by omega) ?_
  split <;> omega
theorem cs_none {r : Nat} (h : r < 4294967296) (h0 : cs r = 0) : r = 0 := by
  unfold cs at h0
  have h1 := xor_zero_eq h0
  split at h1 <;> omega
/-- Some steps without bits. -/
def cF : Nat → Nat → Nat
  | 0, r => r
  | k + 1, r => cs (cF k r)
theorem cF_xor (k a b : Nat) : cF k (a ^^^ b) = cF k a ^^^ cF k b := by
  induction k with
  | zero => rfl
  | succ k ih => rw [cF, ih, cs_xor]; rfl
theorem cF_zero (k : Nat) : cF k 0 = 0 := by
  induction k with
  | zero => rfl
  | succ k ih => rw [cF, ih]; rfl
theorem cF_lt (k : Nat) {r : Nat} (h : r < 4294967296) : cF k r < 4294967296 := by
  induction k with
  | zero => exact h
  | succ k ih => exact cs_lt ih
theorem cF_none (k : Nat) {r : Nat} (h : r < 4294967296) (h0 : cF k r = 0) : r = 0 := by
  induction k with
  | zero => exact h0
  | succ k ih => exact ih (cs_none (cF_lt k h) h0)
theorem cF_add (j k r : Nat) : cF (j + k) r = cF j (cF k r) := by
  induction j with
  | zero => rw [Nat.zero_add]; rfl
  | succ j ih => rw [Nat.succ_add]; show cs (cF (j + k) r) = cs (cF j (cF k r)); rw [ih]
theorem cF_inj (k : Nat) {a b : Nat} (ha : a < 4294967296) (hb : b < 4294967296) (h : cF k a = cF k b) : a = b := by
  refine xor_zero_eq (cF_none k (Nat.xor_lt_two_pow (n := 32) ha hb) ?_)
  rw [cF_xor, h, Nat.xor_self]
/-- A bit that lies k places up comes down in k steps. -/
theorem cF_pow {k : Nat} (h : k < 32) : cF k (2 ^ k) = 1 := by
  have : ∀ k : Fin 32, cF k (2 ^ (k : Nat)) = 1 := by decide
  exact this ⟨k, h⟩
theorem cF_top : cF 31 2147483648 = 1 := cF_pow (k := 31) (by decide)
/-- Bits g taken at the top, one by one. -/
def cT (g : Nat → Nat) : Nat → Nat
  | 0 => 0
  | i + 1 => cs (cT g i) ^^^ (g i * 2147483648)
/-- Bits g taken at the bottom, one by one, from s on. -/
def cB (s : Nat) (g : Nat → Nat) : Nat → Nat
  | 0 => s
  | i + 1 => cs (cB s g i ^^^ g i)
def Bit (g : Nat → Nat) : Prop := ∀ i, g i = 0 ∨ g i = 1
theorem bit_top {x : Nat} (h : x = 0 ∨ x = 1) : cF 32 (x * 2147483648) = cs x := by
  rcases h with rfl | rfl
  · rw [Nat.zero_mul, cF_zero]; rfl
  · rw [Nat.one_mul]; show cs (cF 31 2147483648) = cs 1; rw [cF_top]
theorem cT_cB {g : Nat → Nat} (hg : Bit g) (i : Nat) : cF 32 (cT g i) = cB 0 g i := by
  induction i with
  | zero => exact cF_zero 32
  | succ i ih =>
    show cF 32 (cs (cT g i) ^^^ (g i * 2147483648)) = cs (cB 0 g i ^^^ g i)
    rw [cF_xor, bit_top (hg i), cs_xor, ← ih]
    congr 1
theorem cT_noughts {g : Nat → Nat} {K : Nat} (h : ∀ i, K ≤ i → g i = 0) (j : Nat) : cT g (K + j) = cF j (cT g K) := by
  induction j with
  | zero => rfl
  | succ j ih =>
    show cs (cT g (K + j)) ^^^ (g (K + j) * 2147483648) = cs (cF j (cT g K))
    rw [h _ (by omega), Nat.zero_mul, Nat.xor_zero, ih]
theorem cT_xor {g h k : Nat → Nat} (hk : ∀ i, k i * 2147483648 = (g i * 2147483648) ^^^ (h i * 2147483648)) (i : Nat) : cT k i = cT g i ^^^ cT h i := by
  induction i with
  | zero => exact (Nat.xor_self 0).symm
  | succ i ih =>
    show cs (cT k i) ^^^ (k i * 2147483648) = (cs (cT g i) ^^^ (g i * 2147483648)) ^^^ (cs (cT h i) ^^^ (h i * 2147483648))
    rw [ih, cs_xor, hk, xor_four]
theorem cB_split (s : Nat) (g : Nat → Nat) (i : Nat) : cB s g i = cB 0 g i ^^^ cF i s := by
  induction i with
  | zero => exact (Nat.zero_xor s).symm
  | succ i ih =>
    show cs (cB s g i ^^^ g i) = cs (cB 0 g i ^^^ g i) ^^^ cs (cF i s)
    rw [ih, ← cs_xor]
    congr 1
    rw [Nat.xor_assoc, Nat.xor_comm (cF i s) (g i), ← Nat.xor_assoc]
/-- The first 32 bits, turned. -/
def ones (i : Nat) : Nat := if i < 32 then 1 else 0
theorem cT_ones : cT ones 32 = 4294967295 := by decide
def flip (g : Nat → Nat) (i : Nat) : Nat := if i < 32 then 1 - g i else g i
/-- The chapter's remainder: of K bits g, the first 32 turned, 32 noughts behind. -/
theorem cT_sum {g : Nat → Nat} (hg : Bit g) {K : Nat} (h : ∀ i, K ≤ i → g i = 0) : cT (flip g) (K + 32) = cB 4294967295 g K := by
  have hk : ∀ i, flip g i * 2147483648 = (g i * 2147483648) ^^^ (ones i * 2147483648) := by
    intro i
    unfold flip ones
    rcases hg i with e | e <;> rw [e] <;> split <;> decide
  rw [cT_xor hk, cT_noughts h 32, cT_cB hg, cB_split 4294967295]
  congr 1
  have := cT_noughts (g := ones) (K := 32) (fun i hi => by unfold ones; rw [if_neg (by omega)]) K
  rw [Nat.add_comm K 32, this, cT_ones]
/-- The number of the first m bits, the lowest first. -/
def cV (g : Nat → Nat) : Nat → Nat
  | 0 => 0
  | m + 1 => cV g m ^^^ (g m * 2 ^ m)
theorem cB_few {g : Nat → Nat} (hg : Bit g) (s : Nat) {m : Nat} (hm : m ≤ 32) : cB s g m = cF m (s ^^^ cV g m) := by
  induction m with
  | zero => rw [cV, Nat.xor_zero]; rfl
  | succ m ih =>
    show cs (cB s g m ^^^ g m) = cs (cF m (s ^^^ (cV g m ^^^ (g m * 2 ^ m))))
    rw [ih (by omega), ← Nat.xor_assoc, cF_xor m (s ^^^ cV g m)]
    congr 2
    rcases hg m with e | e
    · rw [e, Nat.zero_mul, cF_zero]
    · rw [e, Nat.one_mul, cF_pow (by omega)]
theorem cB_shift (s : Nat) (g : Nat → Nat) (j k : Nat) : cB s g (j + k) = cB (cB s g j) (fun i => g (j + i)) k := by
  induction k with
  | zero => rfl
  | succ k ih =>
    show cs (cB s g (j + k) ^^^ g (j + k)) = cs (cB (cB s g j) (fun i => g (j + i)) k ^^^ g (j + k))
    rw [ih]
theorem cB_noughts (s : Nat) (g : Nat → Nat) (k : Nat) (h : ∀ i, i < k → g i = 0) : cB s g k = cF k s := by
  induction k with
  | zero => rfl
  | succ k ih =>
    show cs (cB s g k ^^^ g k) = cs (cF k s)
    rw [h k (by omega), Nat.xor_zero, ih (fun i hi => h i (by omega))]
theorem cB_xor (s t : Nat) {g h k : Nat → Nat} (hk : ∀ i, k i = g i ^^^ h i) (i : Nat) : cB (s ^^^ t) k i = cB s g i ^^^ cB t h i := by
  induction i with
  | zero => rfl
  | succ i ih =>
    show cs (cB (s ^^^ t) k i ^^^ k i) = cs (cB s g i ^^^ g i) ^^^ cs (cB t h i ^^^ h i)
    rw [ih, hk, ← cs_xor, xor_four]
/-- A byte, all at once. -/
def cY (s x : Nat) : Nat := cF 8 (s ^^^ x)
/-- Half a byte, by a table's place. -/
theorem cF_half (s : Nat) : cF 4 s = cF 4 (s % 16) ^^^ (s / 16) := by
  have e : s = (s / 16 * 16) ^^^ (s % 16) := by
    have h := Nat.two_pow_add_eq_or_of_lt (i := 4) (b := s % 16) (by omega) (s / 16)
    refine Nat.eq_of_testBit_eq fun i => ?_
    rw [Nat.testBit_xor]
    have hs : s = 2 ^ 4 * (s / 16) + s % 16 := by omega
    have h1 : (s / 16 * 16).testBit i = (decide (4 ≤ i) && (s / 16).testBit (i - 4)) := by
      rw [show s / 16 * 16 = (s / 16) * 2 ^ 4 by omega, Nat.testBit_mul_two_pow]
    have h2 : (s % 16).testBit i = (decide (i < 4) && s.testBit i) := by
      rw [show s % 16 = s % 2 ^ 4 by omega, Nat.testBit_mod_two_pow]
    have h3 : (s / 16).testBit (i - 4) = s.testBit (i - 4 + 4) := by
      rw [show s / 16 = s / 2 ^ 4 by omega, Nat.testBit_div_two_pow]
    rw [h1, h2, h3]
    by_cases hi : i < 4
    · simp [hi, show ¬ 4 ≤ i by omega]
    · simp [hi, show 4 ≤ i by omega, show i - 4 + 4 = i by omega]
  have hz : cF 4 (s / 16 * 16) = s / 16 := by
    have hc : ∀ t, t % 2 = 0 → cs t = t / 2 := fun t ht => by unfold cs; rw [if_neg (by omega), Nat.xor_zero]
    show cs (cs (cs (cs (s / 16 * 16)))) = _
    rw [hc (s / 16 * 16) (by omega), hc (s / 16 * 16 / 2) (by omega), hc (s / 16 * 16 / 2 / 2) (by omega), hc (s / 16 * 16 / 2 / 2 / 2) (by omega)]
    omega
  calc cF 4 s = cF 4 ((s / 16 * 16) ^^^ (s % 16)) := by rw [← e]
    _ = cF 4 (s % 16) ^^^ (s / 16) := by rw [cF_xor, hz, Nat.xor_comm]
end Go.Proofs.YtenahnbfaekljaaDoor
namespace Go.Proofs.YtenahnbfaekljaaDoor
open Go.RowKit

theorem hs_call {F : World → Prop} {N : Nat} {w0 W W' : World} (hF : ∀ W, Below N w0 W → F W) (hb : Below W.heap.size W W') (h : F W ∧ Below N w0 W ∧ N ≤ W.heap.size) : F W' ∧ Below N w0 W' ∧ N ≤ W'.heap.size :=
  have k := h.2.1.trans (hb.mono h.2.2)
  ⟨hF _ k, k, Nat.le_trans h.2.2 hb.size⟩
theorem hs_alloc {F : World → Prop} {N : Nat} {w0 W : World} {o : Obj} (hF : ∀ W, Below N w0 W → F W) (h : F W ∧ Below N w0 W ∧ N ≤ W.heap.size) : F (W.alloc o) ∧ Below N w0 (W.alloc o) ∧ N ≤ (W.alloc o).heap.size :=
  hs_call hF ((Below.refl _ _).alloc (Nat.le_refl _) o) h
theorem hs_set {F : World → Prop} {N : Nat} {w0 W : World} {g i : Nat} {x : Value} (hF : ∀ W, Below N w0 W → F W) (hg : N ≤ g) (h : F W ∧ Below N w0 W ∧ N ≤ W.heap.size) : F (W.setCell ⟨g, i, none⟩ x) ∧ Below N w0 (W.setCell ⟨g, i, none⟩ x) ∧ N ≤ (W.setCell ⟨g, i, none⟩ x).heap.size :=
  have k := h.2.1.setCell (by exact hg) x
  ⟨hF _ k, k, by simpa [World.setCell] using h.2.2⟩
theorem hs_set4 {F : World → Prop} {N : Nat} {w0 W : World} {g : Nat} {x y z t : Value} (hF : ∀ W, Below N w0 W → F W) (hg : N ≤ g) (h : F W ∧ Below N w0 W ∧ N ≤ W.heap.size) :
    F ((((W.setCell ⟨g, 0, none⟩ x).setCell ⟨g, 1, none⟩ y).setCell ⟨g, 2, none⟩ z).setCell ⟨g, 3, none⟩ t) ∧ Below N w0 ((((W.setCell ⟨g, 0, none⟩ x).setCell ⟨g, 1, none⟩ y).setCell ⟨g, 2, none⟩ z).setCell ⟨g, 3, none⟩ t) ∧ N ≤ ((((W.setCell ⟨g, 0, none⟩ x).setCell ⟨g, 1, none⟩ y).setCell ⟨g, 2, none⟩ z).setCell ⟨g, 3, none⟩ t).heap.size :=
  hs_set hF hg (hs_set hF hg (hs_set hF hg (hs_set hF hg h)))
theorem hs_drew {F : World → Prop} {N : Nat} {w0 : World} (hF : ∀ W, Below N w0 W → F W) (hN : N ≤ w0.heap.size) : F w0.drew ∧ Below N w0 w0.drew ∧ N ≤ w0.drew.heap.size :=
  have k := (Below.refl N w0).drew
  ⟨hF _ k, k, hN⟩
theorem hs_first {F : World → Prop} {N : Nat} {w0 : World} (hF : ∀ W, Below N w0 W → F W) (hN : N ≤ w0.heap.size) (o : Obj) : F (w0.alloc o).drew ∧ Below N w0 (w0.alloc o).drew ∧ N ≤ (w0.alloc o).drew.heap.size :=
  have k := ((Below.refl N w0).alloc hN o).drew
  ⟨hF _ k, k, by simp; omega⟩
theorem hs_second {F : World → Prop} {N : Nat} {w0 : World} (hF : ∀ W, Below N w0 W → F W) (hN : N ≤ w0.heap.size) (o o' : Obj) : F ((w0.alloc o).alloc o').drew ∧ Below N w0 ((w0.alloc o).alloc o').drew ∧ N ≤ ((w0.alloc o).alloc o').drew.heap.size :=
  have k := (((Below.refl N w0).alloc hN o).alloc (by simp; omega) o').drew
  ⟨hF _ k, k, by simp; omega⟩
/-- A slice as a list that lies in old memory, or in new: not in the blocks from lo to hi. -/
def Sld {α : Type} (lo hi : Nat) (f : α → Value) (W : World) (v : Value) (l : List α) : Prop :=
  (∃ ao cap, l = [] ∧ v = .slice ao 0 cap) ∨
  (∃ b o cap, v = .slice (some ⟨b, o, none⟩) l.length cap ∧ l.length ≤ cap ∧ (b < lo ∨ hi ≤ b) ∧ ∀ i (h : i < l.length), W.cell? ⟨b, o + i, none⟩ = some (f l[i]))
theorem Sld.nil {α : Type} (lo hi : Nat) (f : α → Value) (w : World) (ao : Option Addr) (cap : Nat) : Sld lo hi f w (.slice ao 0 cap) [] := .inl ⟨_, _, rfl, rfl⟩
theorem Sld.sl {α : Type} {lo hi : Nat} {f : α → Value} {W : World} {v : Value} {l : List α} (h : Sld lo hi f W v l) : Sl f W v l := by
  rcases h with h | ⟨b, o, cap, h1, h2, _, h3⟩
  · exact .inl h
  · exact .inr ⟨b, o, cap, h1, h2, h3⟩
theorem Sld.below {α : Type} {lo hi : Nat} {f : α → Value} {W W' : World} {v : Value} {l : List α} (h : Sld lo hi f W v l) (hb : Below W.heap.size W W') : Sld lo hi f W' v l := by
  rcases h with h | ⟨b, o, cap, h1, h2, hp, h3⟩
  · exact .inl h
  · exact .inr ⟨b, o, cap, h1, h2, hp, fun i hi => (hb.cell (p := ⟨b, o + i, none⟩) (cell_block (h3 i hi))).trans (h3 i hi)⟩
theorem Sld.set {α : Type} {lo hi : Nat} {f : α → Value} {W : World} {v : Value} {l : List α} (h : Sld lo hi f W v l) {q : Nat} (i : Nat) (x : Value) (h1 : lo ≤ q) (h2 : q < hi) : Sld lo hi f (W.setCell ⟨q, i, none⟩ x) v l := by
  rcases h with h | ⟨b, o, cap, e1, e2, hp, h3⟩
  · exact .inl h
  · refine .inr ⟨b, o, cap, e1, e2, hp, fun j hj => ?_⟩
    rw [World.cell?_setCell_other _ _ _ _ (fun e => by have := congrArg Addr.block e; simp at this; omega)]
    exact h3 j hj
theorem Sld.more {α : Type} {lo hi hi' : Nat} {f : α → Value} {W : World} {v : Value} {l : List α} (h : Sld lo hi f W v l) (hh : hi' ≤ hi) : Sld lo hi' f W v l := by
  rcases h with h | ⟨b, o, cap, h1, h2, hp, h3⟩
  · exact .inl h
  · exact .inr ⟨b, o, cap, h1, h2, hp.imp id (fun q => Nat.le_trans hh q), h3⟩
theorem Sl.old {α : Type} {f : α → Value} {W : World} {v : Value} {l : List α} (h : Sl f W v l) (hi : Nat) : Sld W.heap.size hi f W v l := by
  rcases h with h | ⟨b, o, cap, h1, h2, h3⟩
  · exact .inl h
  · by_cases hl : 0 < l.length
    · exact .inr ⟨b, o, cap, h1, h2, .inl (cell_block (h3 0 hl)), h3⟩
    · exact .inl ⟨_, _, List.length_eq_zero_iff.1 (by omega), by rw [h1, show l.length = 0 by omega]⟩
theorem sld_of_owns {α : Type} {f : α → Value} {w : World} {base : Nat} {e : TypeId} {v : Value} {l : List α} (lo : Nat) (h : w.ownsRow base e 1 v l.length (l.map f)) : Sld lo base f w v l := by
  rcases sl_of_owns h with h' | ⟨b, o, cap, h1, h2, h3⟩
  · exact .inl h'
  · refine .inr ⟨b, o, cap, h1, h2, .inr ?_, h3⟩
    rw [h1] at h
    exact (h.lt b rfl).1
/-- Eight cells of two blocks, written. -/
theorem set8 {u : World} {n m : Nat} {x y z t a b c d x' y' z' t' a' b' c' d' : Value} (hne : ¬ m = n) (h0 : u.cell? ⟨n, 0, none⟩ = some x') (h1 : u.cell? ⟨n, 1, none⟩ = some y') (h2 : u.cell? ⟨n, 2, none⟩ = some z') (h3 : u.cell? ⟨n, 3, none⟩ = some t')
    (k0 : u.cell? ⟨m, 0, none⟩ = some a') (k1 : u.cell? ⟨m, 1, none⟩ = some b') (k2 : u.cell? ⟨m, 2, none⟩ = some c') (k3 : u.cell? ⟨m, 3, none⟩ = some d') :
    ∀ W, W = ((((((((u.setCell ⟨n, 0, none⟩ x).setCell ⟨n, 1, none⟩ y).setCell ⟨n, 2, none⟩ z).setCell ⟨n, 3, none⟩ t).setCell ⟨m, 0, none⟩ a).setCell ⟨m, 1, none⟩ b).setCell ⟨m, 2, none⟩ c).setCell ⟨m, 3, none⟩ d) →
    (W.cell? ⟨n, 0, none⟩ = some x ∧ W.cell? ⟨n, 1, none⟩ = some y ∧ W.cell? ⟨n, 2, none⟩ = some z ∧ W.cell? ⟨n, 3, none⟩ = some t) ∧ (W.cell? ⟨m, 0, none⟩ = some a ∧ W.cell? ⟨m, 1, none⟩ = some b ∧ W.cell? ⟨m, 2, none⟩ = some c ∧ W.cell? ⟨m, 3, none⟩ = some d) := by
  rintro W rfl
  have o : ∀ (v : World) (i j : Nat) (s : Value), ¬ i = j → (v.setCell ⟨n, i, none⟩ s).cell? ⟨n, j, none⟩ = v.cell? ⟨n, j, none⟩ := fun v i j s h => World.cell?_setCell_other _ _ _ _ (fun q => h (congrArg Addr.off q))
  have o' : ∀ (v : World) (i j : Nat) (s : Value), ¬ i = j → (v.setCell ⟨m, i, none⟩ s).cell? ⟨m, j, none⟩ = v.cell? ⟨m, j, none⟩ := fun v i j s h => World.cell?_setCell_other _ _ _ _ (fun q => h (congrArg Addr.off q))
  have p : ∀ (v : World) (i j : Nat) (s : Value), (v.setCell ⟨m, i, none⟩ s).cell? ⟨n, j, none⟩ = v.cell? ⟨n, j, none⟩ := fun v i j s => World.cell?_setCell_other _ _ _ _ (fun q => hne (congrArg Addr.block q))
  have p' : ∀ (v : World) (i j : Nat) (s : Value), (v.setCell ⟨n, i, none⟩ s).cell? ⟨m, j, none⟩ = v.cell? ⟨m, j, none⟩ := fun v i j s => World.cell?_setCell_other _ _ _ _ (fun q => hne (congrArg Addr.block q).symm)
  refine ⟨⟨?_, ?_, ?_, ?_⟩, ?_, ?_, ?_, ?_⟩
  · rw [p, p, p, p, o _ _ _ _ (by decide), o _ _ _ _ (by decide), o _ _ _ _ (by decide)]
    exact World.cell?_setCell_same _ _ _ h0
  · rw [p, p, p, p, o _ _ _ _ (by decide), o _ _ _ _ (by decide)]
    exact World.cell?_setCell_same _ _ _ (u := y') (by rw [o _ _ _ _ (by decide)]; exact h1)
  · rw [p, p, p, p, o _ _ _ _ (by decide)]
    exact World.cell?_setCell_same _ _ _ (u := z') (by rw [o _ _ _ _ (by decide), o _ _ _ _ (by decide)]; exact h2)
  · rw [p, p, p, p]
    exact World.cell?_setCell_same _ _ _ (u := t') (by rw [o _ _ _ _ (by decide), o _ _ _ _ (by decide), o _ _ _ _ (by decide)]; exact h3)
  · rw [o' _ _ _ _ (by decide), o' _ _ _ _ (by decide), o' _ _ _ _ (by decide)]
    exact World.cell?_setCell_same _ _ _ (u := a') (by rw [p', p', p', p']; exact k0)
  · rw [o' _ _ _ _ (by decide), o' _ _ _ _ (by decide)]
    exact World.cell?_setCell_same _ _ _ (u := b') (by rw [o' _ _ _ _ (by decide), p', p', p', p']; exact k1)
  · rw [o' _ _ _ _ (by decide)]
    exact World.cell?_setCell_same _ _ _ (u := c') (by rw [o' _ _ _ _ (by decide), o' _ _ _ _ (by decide), p', p', p', p']; exact k2)
  · exact World.cell?_setCell_same _ _ _ (u := d') (by rw [o' _ _ _ _ (by decide), o' _ _ _ _ (by decide), o' _ _ _ _ (by decide), p', p', p', p']; exact k3)
end Go.Proofs.YtenahnbfaekljaaDoor
