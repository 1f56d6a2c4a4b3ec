/-
  THE DOCUMENT's SUMS (castellanref03.bit, Sum, Put, Open): the remainder, one function of the bytes. Conditions: the bytes' cells hold them, no more than ten thousand.
  A ROW OF BYTES THAT IS WRITTEN ON, WITH ALL ITS CELLS: what an append leaves of it, of any bytes, none among them. Condition: fewer than a million bytes.
  THE DOCUMENT's BYTES WITH THEIR SUM BEHIND, AND OPENED AGAIN (castellanref03.Put, Open). Conditions: the bytes' cells hold them, no more than ten thousand.
  SUMS OF BYTES, BYTE BY BYTE: the chapter's sum is a fold over the bytes; it is linear; what stands behind them opens them; turned bits within 32 side by side are told. No program in it.
  TEXTS, BYTE BY BYTE (castellanref02.Same): two slices with the same bytes are the same. Condition: no more than forty thousand.
-/
import Derived.Test.YtenahnbfaekljaaDoorProg
import Derived.Test.YtenahnbfaekljaaDoorMA
import Derived.WalkKit
import Derived.WalkSpells
import Derived.WalkSmall
import Derived.Laws.BitsAllLaws
import Derived.Deep.QuietTactic
import Derived.BigQuiet
import Derived.Below
import Derived.Laws.CopyOwn
import Derived.Deep.AppendSrc
namespace Go.Proofs.YtenahnbfaekljaaDoor
open Go.RowKit

/-- A text's bits: byte by byte, the lowest first; noughts behind. -/
def gb (l : List Int) (i : Nat) : Nat := ((l.getD (i / 8) 0).toNat / 2 ^ (i % 8)) % 2
theorem gb_bit (l : List Int) : Bit (gb l) := fun i => by unfold gb; omega
theorem gb_none {l : List Int} {i : Nat} (h : 8 * l.length ≤ i) : gb l i = 0 := by
  unfold gb
  rw [List.getD_eq_getElem?_getD, List.getElem?_eq_none (by omega)]
  simp
theorem and_one32 {x : Int} (h0 : 0 ≤ x) (h1 : x < 4294967296) : bits .and .u32 x 1 = x % 2 := by
  rw [u32_and x 1 h0 h1 (by omega) (by omega)]
  show ((x.toNat &&& 1 : Nat) : Int) = _
  rw [Nat.and_one_is_mod]
  omega
set_option maxRecDepth 100000 in
set_option maxHeartbeats 4000000 in
theorem bit_in (b o cap i : Nat) (l : List Int) (w : World) (hl : l.length ≤ 10000) (hby : Byt l) (h3 : ∀ i (h : i < l.length), w.cell? ⟨b, o + i, none⟩ = some (bc l[i])) (hi : i < 8 * l.length) :
    Calls Tryd.prog 67 #[.slice (some ⟨b, o, none⟩) l.length cap, .int .i64 i] w fun e w' => e = .returned (.int .u32 (flip (gb l) i : Nat)) ∧ w' = w := by
  have hj : i / 8 < l.length := by omega
  have hc : w.cell? ⟨b, o + i / 8, none⟩ = some (.int .u8 l[i / 8]) := h3 (i / 8) hj
  have hx := hby _ (List.getElem_mem hj)
  obtain ⟨x0, x1⟩ := hx
  have hg : gb l i = (l[i / 8].toNat / 2 ^ (i % 8)) % 2 := by
    unfold gb
    rw [List.getD_eq_getElem?_getD, List.getElem?_eq_getElem hj]
    rfl
  generalize l[i / 8] = x at *
  have hlt : (i : Int) < 8 * (l.length : Int) := by omega
  have hand : bits .and .u32 (x / 2 ^ (i % 8)) 1 = ((gb l i : Nat) : Int) := by
    obtain ⟨X, rfl⟩ := Int.eq_ofNat_of_zero_le x0
    have e : ((X : Int) / 2 ^ (i % 8)) = ((X / 2 ^ (i % 8) : Nat) : Int) := by simp
    have hle : X / 2 ^ (i % 8) ≤ X := Nat.div_le_self _ _
    rw [e, hg]
    simp only [Int.toNat_natCast]
    generalize X / 2 ^ (i % 8) = Y at *
    rw [and_one32 (by omega) (by omega)]
    rfl
  have hG := gb_bit l i
  have HF : Hid (flip (gb l) i = if i < 32 then 1 - gb l i else gb l i) := hide rfl
  clear h3 hby hg
  generalize gb l i = G at *
  by_cases h32 : (i : Int) < 32
  · go_enter Tryd.func67, Tryd.ntmps67
    go_wp2
    go_ret
    refine ⟨?_, rfl⟩
    rw [HF.out, if_pos (by omega)]
    rcases hG with rfl | rfl <;> rfl
  · go_enter Tryd.func67, Tryd.ntmps67
    go_wp2
    go_ret
    refine ⟨?_, rfl⟩
    rw [HF.out, if_neg (by omega)]
    rfl
set_option maxRecDepth 100000 in
set_option maxHeartbeats 4000000 in
theorem bit_out (ao : Option Addr) (cap i : Nat) (l : List Int) (w : World) (hl : l.length ≤ 10000) (hi : ¬ i < 8 * l.length) :
    Calls Tryd.prog 67 #[.slice ao l.length cap, .int .i64 i] w fun e w' => e = .returned (.int .u32 (flip (gb l) i : Nat)) ∧ w' = w := by
  have hlt : ¬ (i : Int) < 8 * (l.length : Int) := by omega
  have hG : gb l i = 0 := gb_none (by omega)
  have HF : Hid (flip (gb l) i = if i < 32 then 1 - 0 else 0) := hide (by unfold flip; rw [hG])
  clear hG
  by_cases h32 : (i : Int) < 32
  · go_enter Tryd.func67, Tryd.ntmps67
    go_wp2
    go_ret
    refine ⟨?_, rfl⟩
    rw [HF.out, if_pos (by omega)]
    rfl
  · go_enter Tryd.func67, Tryd.ntmps67
    go_wp2
    go_ret
    refine ⟨?_, rfl⟩
    rw [HF.out, if_neg (by omega)]
    rfl
theorem bit_any (v : Value) (l : List Int) (i : Nat) (w : World) (hv : Sl bc w v l) (hl : l.length ≤ 10000) (hby : Byt l) :
    Calls Tryd.prog 67 #[v, .int .i64 i] w fun e w' => e = .returned (.int .u32 (flip (gb l) i : Nat)) ∧ w' = w := by
  by_cases hi : i < 8 * l.length
  · rcases hv with ⟨ao, cap, rfl, rfl⟩ | ⟨b, o, cap, rfl, h2, h3⟩
    · simp at hi
    · exact bit_in b o cap i l w hl hby h3 hi
  · obtain ⟨ao, cap, rfl⟩ := hv.form
    exact bit_out ao cap i l w hl hi
theorem flip_bit {g : Nat → Nat} (h : Bit g) : Bit (flip g) := fun i => by
  unfold flip
  rcases h i with e | e <;> rw [e] <;> split <;> simp
theorem cT_lt {g : Nat → Nat} (h : Bit g) (i : Nat) : cT g i < 4294967296 := by
  induction i with
  | zero => exact (by decide : (0 : Nat) < 4294967296)
  | succ i ih =>
    refine Nat.xor_lt_two_pow (n := 32) (cs_lt ih) ?_
    rcases h i with e | e <;> rw [e] <;> decide
/-- A step as it is reckoned. -/
theorem cT_next {g : Nat → Nat} (h : Bit g) (i : Nat) : cT g (i + 1) = (cT g i / 2 + g i * 2147483648) ^^^ (if cT g i % 2 = 1 then 2197175160 else 0) := by
  have hl := cT_lt h i
  have hh : cT g i / 2 < 2 ^ 31 := by omega
  show (cT g i / 2 ^^^ _) ^^^ (g i * 2147483648) = _
  rw [Nat.xor_assoc, Nat.xor_comm _ (g i * 2147483648), ← Nat.xor_assoc]
  congr 1
  rcases h i with e | e
  · rw [e, Nat.zero_mul, Nat.xor_zero, Nat.add_zero]
  · rw [e, Nat.one_mul]
    refine Nat.eq_of_testBit_eq fun j => ?_
    rw [Nat.testBit_xor, Nat.add_comm, show (2147483648 : Nat) = 2 ^ 31 by rfl, Nat.testBit_two_pow]
    by_cases hj : j < 31
    · rw [Nat.testBit_two_pow_add_gt hj]
      simp [show ¬ 31 = j by omega]
    · by_cases hj2 : j = 31
      · subst hj2
        rw [Nat.testBit_two_pow_add_eq]
        simp
      · rw [Nat.testBit_lt_two_pow (show cT g i / 2 < 2 ^ j from Nat.lt_of_lt_of_le hh (Nat.pow_le_pow_right (by decide) (by omega))), Nat.testBit_lt_two_pow (show 2 ^ 31 + cT g i / 2 < 2 ^ j from Nat.lt_of_lt_of_le (show _ < 2 ^ 32 by omega) (Nat.pow_le_pow_right (by decide) (by omega)))]
        simp [show ¬ 31 = j by omega]
/-- The chapter's sum of bytes. -/
def crcL (l : List Int) : Nat := 4294967295 - cT (flip (gb l)) (8 * l.length + 32)
set_option maxRecDepth 100000 in
set_option maxHeartbeats 4000000 in
theorem refSum_any (v : Value) (l : List Int) (w : World) (hv : Sl bc w v l) (hl : l.length ≤ 10000) (hby : Byt l) :
    Calls Tryd.prog 46 #[v] w fun e w' => e = .returned (.int .u32 (crcL l : Nat)) ∧ w' = w := by
  have HB := hide (fun i : Nat => bit_any v l i w hv hl hby)
  have hg := flip_bit (gb_bit l)
  have HX := hide (cT_next hg)
  have HT := hide (cT_lt hg)
  have HG := hide hg
  obtain ⟨ao, cap, rfl⟩ := hv.form
  clear hv hby hg
  go_enter Tryd.func46, Tryd.ntmps46
  go_wp2_with fail
  go_loopw [3, 4] (fun s i wr => ∃ j : Nat, j ≤ 8 * l.length + 32 ∧ i = .int .i64 j ∧ s = .int .u32 (cT (flip (gb l)) j : Nat) ∧ wr = w) (fun _ i _ => 8 * l.length + 32 - (intOf i).toNat)
  case atStart => exact ⟨0, Nat.zero_le _, rfl, rfl, rfl⟩
  case round =>
    obtain ⟨j, hj, rfl, rfl, rfl⟩ := hrel
    have h1 := HT.out j
    have h2 := HT.out (j + 1)
    have hb := HG.out j
    have HN := hide (HX.out j)
    by_cases hlt : j < 8 * l.length + 32
    · have hlt' : (j : Int) < 8 * (l.length : Int) + 32 := by omega
      have HBj := hide (HB.out j)
      generalize flip (gb l) j = G at *
      generalize hs : cT (flip (gb l)) j = s at *
      have hand : bits .and .u32 (s : Int) 1 = (s : Int) % 2 := and_one32 (by omega) (by omega)
      clear hs
      by_cases ho : (s : Int) % 2 = 1
      · have hxor : bits .xor .u32 ((s : Int) / 2 + (G : Int) * 2147483648) 2197175160 = ((cT (flip (gb l)) (j + 1) : Nat) : Int) := by
          rw [HN.out, if_pos (by omega), u32_xor _ _ (by omega) (by rcases hb with e | e <;> rw [e] <;> omega) (by omega) (by omega)]
          congr 2
        go_wp2_with (first | (go_at_call 67; refine (HBj.out).mono ?_; rintro e w' ⟨rfl, rfl⟩))
        go_roundw
        case rel => exact ⟨j + 1, by omega, by go_num, rfl, by trivial⟩
        case measure => simp [intOf]; omega
      · have hstep : (s : Int) / 2 + (G : Int) * 2147483648 = ((cT (flip (gb l)) (j + 1) : Nat) : Int) := by
          rw [HN.out, if_neg (by omega), Nat.xor_zero]
          simp
        have ho2 : (s : Int) % 2 = 0 := by omega
        go_wp2_with (first | (go_at_call 67; refine (HBj.out).mono ?_; rintro e w' ⟨rfl, rfl⟩))
        go_roundw
        case rel => exact ⟨j + 1, by omega, by go_num, by go_num, by trivial⟩
        case measure => simp [intOf]; omega
    · obtain rfl : j = 8 * l.length + 32 := by omega
      have HC : Hid (crcL l = 4294967295 - cT (flip (gb l)) (8 * l.length + 32)) := hide rfl
      generalize cT (flip (gb l)) (8 * l.length + 32) = s at *
      go_wp2_with fail
      go_ret
      refine ⟨?_, rfl⟩
      rw [HC.out, show ((4294967295 - s : Nat) : Int) = (4294967295 : Int) - (s : Int) by omega]
      rfl
end Go.Proofs.YtenahnbfaekljaaDoor
namespace Go.Proofs.YtenahnbfaekljaaDoor
open Go.RowKit

theorem infoB : (Tryd.prog.info? 5).map (fun i => (i.zero, i.size, i.bytes)) = some (some (.int .u8 0), 1, 1) := by kernel_rfl
/-- The slice v, of length n, is nil or the head of a row of its own with the cells cur. -/
def Rw (B : Nat) (w : World) (v : Value) (n : Nat) (cur : List Value) : Prop :=
  n ≤ cur.length ∧ cur.length ≤ maxLen ∧ ((v = .slice none 0 0 ∧ cur = []) ∨ ∃ g, v = .slice (some ⟨g, 0, none⟩) n cur.length ∧ B ≤ g ∧ w.heap[g]? = some (.cells cur.toArray 5 (0, 0)))
theorem rw_nil (B : Nat) (w : World) : Rw B w (.slice none 0 0) 0 [] := ⟨Nat.le_refl _, Nat.zero_le _, .inl ⟨rfl, rfl⟩⟩
theorem Rw.below {B : Nat} {w w' : World} {v : Value} {n : Nat} {cur : List Value} (h : Rw B w v n cur) (hb : Below w.heap.size w w') : Rw B w' v n cur := by
  obtain ⟨h1, h2, h3⟩ := h
  refine ⟨h1, h2, ?_⟩
  rcases h3 with h3 | ⟨g, a1, a2, a3⟩
  · exact .inl h3
  · refine .inr ⟨g, a1, a2, ?_⟩
    rw [hb.block g (Array.getElem?_eq_some_iff.1 a3).1]
    exact a3
theorem Rw.owns {B : Nat} {w : World} {v : Value} {n : Nat} {cur : List Value} (h : Rw B w v n cur) : w.ownsRow B 5 1 v n (cur.take n) := by
  obtain ⟨h1, h2, h3⟩ := h
  refine ⟨by rw [List.length_take]; omega, ?_⟩
  rcases h3 with ⟨rfl, rfl⟩ | ⟨g, a1, a2, a3⟩
  · exact .inl ⟨rfl, by simpa using h1⟩
  · exact .inr ⟨g, cur.length, cur.toArray, a1, a2, a3, h1, h2, by simp, by simp⟩
theorem Rw.of {B : Nat} {w : World} {v : Value} {n : Nat} {xs : List Value} (h : w.ownsRow B 5 1 v n xs) : ∃ cur, Rw B w v n cur ∧ cur.take n = xs := by
  obtain ⟨h1, h2⟩ := h
  rcases h2 with ⟨rfl, rfl⟩ | ⟨g, cap, cur, rfl, a2, a3, a4, a5, a6, a7⟩
  · exact ⟨[], rw_nil _ _, by simp at h1; simp [h1]⟩
  · have e1 : cur.toList.length = cap := by simpa using a6
    exact ⟨cur.toList, ⟨by omega, by omega, .inr ⟨g, by rw [e1], a2, by simpa using a3⟩⟩, by simpa using a7⟩
/-- What was written behind: the bytes news. Where there was room for them the row is the same one, and what lies behind them has stayed. -/
structure Put (B : Nat) (w : World) (v : Value) (n : Nat) (cur : List Value) (w' : World) (v' : Value) (m : Nat) (cur' news : List Value) : Prop where
  rw : Rw B w' v' (n + m) cur'
  tk : cur'.take (n + m) = cur.take n ++ news
  len : news.length = m
  fit : n + m ≤ cur.length → v'.ownBlock = v.ownBlock ∧ cur'.length = cur.length ∧ cur'.drop (n + m) = cur.drop (n + m)
  below : Below B w w'
  grown : w.grownBy w' v.ownBlock
  blk : v'.ownBlock = v.ownBlock ∨ ∀ g, v'.ownBlock = some g → w.heap.size ≤ g
theorem Put.pre {B : Nat} {w W : World} {v : Value} {n : Nat} {cur : List Value} {w' : World} {v' : Value} {m : Nat} {cur' news : List Value} (h : Put B W v n cur w' v' m cur' news) (hB : B ≤ w.heap.size) (hb : Below w.heap.size w W) : Put B w v n cur w' v' m cur' news :=
  ⟨h.rw, h.tk, h.len, h.fit, (hb.mono hB).trans h.below, ⟨h.grown.os.trans hb.os, h.grown.tape.trans hb.tape, h.grown.output.trans hb.output, Nat.le_trans hb.size h.grown.size, fun k hk hp => (h.grown.block k (Nat.lt_of_lt_of_le hk hb.size) hp).trans (hb.block k hk)⟩,
    h.blk.imp id (fun q g hg => Nat.le_trans hb.size (q g hg))⟩
theorem Put.trans {B : Nat} {w w1 w2 : World} {v v1 v2 : Value} {n m1 m2 : Nat} {cur cur1 cur2 x1 x2 : List Value} (h : Put B w v n cur w1 v1 m1 cur1 x1) (k : Put B w1 v1 (n + m1) cur1 w2 v2 m2 cur2 x2) : Put B w v n cur w2 v2 (m1 + m2) cur2 (x1 ++ x2) := by
  refine ⟨by rw [← Nat.add_assoc]; exact k.rw, ?_, by rw [List.length_append, h.len, k.len], ?_, h.below.trans k.below, ⟨k.grown.os.trans h.grown.os, k.grown.tape.trans h.grown.tape, k.grown.output.trans h.grown.output, Nat.le_trans h.grown.size k.grown.size, fun i hi hp => ?_⟩, ?_⟩
  · rw [← Nat.add_assoc, k.tk, h.tk, List.append_assoc]
  · intro hf
    obtain ⟨a1, a2, a3⟩ := h.fit (by omega)
    obtain ⟨b1, b2, b3⟩ := k.fit (by omega)
    refine ⟨b1.trans a1, b2.trans a2, ?_⟩
    rw [← Nat.add_assoc, b3]
    have := congrArg (List.drop m2) a3
    rw [List.drop_drop, List.drop_drop] at this
    exact this
  · refine (k.grown.block i (Nat.lt_of_lt_of_le hi h.grown.size) ?_).trans (h.grown.block i hi hp)
    rcases h.blk with q | q
    · rw [q]; exact hp
    · intro e
      have := q i e.symm
      omega
  · rcases k.blk with q | q
    · rw [q]; exact h.blk
    · exact .inr fun g hg => Nat.le_trans h.grown.size (q g hg)
theorem run_append_rw (w : World) (ty : TypeId) (B : Nat) (v : Value) (n : Nat) (cur : List Value) (hr : Rw B w v n cur) (hB : B ≤ w.heap.size) (ad : Addr) (m c : Nat) (news : List Value) (hl : news.length = m) (hm : 0 < m)
    (hnews : ∀ j u, news[j]? = some u → w.cell? (ad.add j) = some u) (h1 : ∀ u ∈ news, u.oneCell' = true) (hn : n + m ≤ 1000000) :
    ∃ w' v' cur', (Builtin.append_ #[22, 22] ty #[v, .slice (some ad) m c]).run Tryd.prog w = .ok v' w' ∧ Put B w v n cur w' v' m cur' news := by
  obtain ⟨i0, hi, hz0, hz1, hz2⟩ := info_parts infoB
  obtain ⟨r1, r2, r3⟩ := id hr
  by_cases hf : n + m ≤ cur.length
  · rcases r3 with ⟨_, rfl⟩ | ⟨g, rfl, a2, a3⟩
    · simp at hf; omega
    · have e := run_append_room (P := Tryd.prog) w 22 ty 5 i0 Tryd.underlying22 hi g n cur.length cur.toArray a3 ad m c news (by rw [hz1]; omega) hnews h1 hf (by rw [hz1, hl]; simp; omega)
      rw [hz1] at e
      simp only [Nat.mul_one] at e
      have hlen : (cur.take n ++ news ++ cur.drop (n + news.length)).length = cur.length := by simp; omega
      refine ⟨_, _, cur.take n ++ news ++ cur.drop (n + news.length), e, ⟨by omega, by omega, .inr ⟨g, by rw [hlen], a2, setRow_heap w g _ _ 5 _ a3⟩⟩, ?_, hl, ?_, ?_, ?_, ?_⟩
      · rw [List.take_append_of_le_length (by simp; omega)]
        exact List.take_of_length_le (by simp; omega)
      · intro _
        refine ⟨rfl, hlen, ?_⟩
        rw [List.drop_append, List.drop_eq_nil_of_le (by simp; omega), List.nil_append, hl]
        have : n + m - (cur.take n ++ news).length = 0 := by simp; omega
        rw [this, List.drop_zero]
      · exact below_setRow (Below.refl _ _) a2 _
      · exact ⟨rfl, rfl, rfl, by simp, fun k _ hk => setRow_other w g k _ (fun e => hk (by rw [e]; rfl))⟩
      · exact .inl rfl
  · obtain ⟨v', w', e, hown, hg, _⟩ := run_append_own (P := Tryd.prog) w B 22 ty 5 i0 (.int .u8 0) 1 1 Tryd.underlying22 hi hz0 hz1 hz2 rfl (by decide) v n (cur.take n) hr.owns ad m c news (by omega) hnews h1 (by unfold maxLen; omega) (by omega) hB
    obtain ⟨cur', k1, k2⟩ := Rw.of hown
    refine ⟨w', v', cur', e, k1, k2, hl, fun h => absurd h hf, (Below.refl _ _).grown hg hB (fun j hj => (hr.owns.lt j hj).1), hg, .inr ?_⟩
    have hsrc : Src Tryd.prog i0.size 22 (.slice (some ad) m c) m news w := Src.ofSlice w Tryd.underlying22 ad m c news (by rw [hz1]; omega) hnews h1
    have hnew : ∃ G W, (Builtin.append_ #[22, 22] ty #[v, .slice (some ad) m c]).run Tryd.prog w = .ok (.slice (some ⟨w.heap.size, 0, none⟩) (n + m) G) W := by
      rcases r3 with ⟨rfl, rfl⟩ | ⟨g, rfl, a2, a3⟩
      · have hn0 : n = 0 := by simpa using r1
        subst hn0
        exact ⟨_, _, run_append_grow_src w 22 22 ty 5 i0 (.int .u8 0) Tryd.underlying22 hi hz0 none 0 0 [] (run_firstCells_none _ _ _ _ _) _ m news hsrc (by omega) (by omega) (growslice_fits (by omega) (by rw [hz2]; omega))⟩
      · refine ⟨_, _, run_append_grow_src w 22 22 ty 5 i0 (.int .u8 0) Tryd.underlying22 hi hz0 (some ⟨g, 0, none⟩) n cur.length (cur.take n) (run_firstCells_some _ _ _ _ _ _ _ (by rw [hz1, List.length_take]; omega) ?_) _ m news hsrc (by omega) (by omega) (growslice_fits (by omega) (by rw [hz2]; omega))⟩
        intro j u hj
        rw [Addr.add_lit]
        have hj' : cur[j]? = some u := by
          rw [List.getElem?_take] at hj
          split at hj
          · exact hj
          · simp at hj
        simp only [World.cell?, World.drew, a3, Nat.zero_add]
        simpa using hj'
    obtain ⟨G, W, e2⟩ := hnew
    rw [e] at e2
    cases e2
    intro g hg
    cases hg
    exact Nat.le_refl _
theorem wpList_append_rw (w : World) {ops : Array Oper} {rest : List Oper} {o : Oper} {a : Act} {Q : Exit → Act → World → Prop} (hgd : o.guard = none) (s x : Operand)
    (ho : o.op = .call { callee := .builtin .append, args := #[s, x], argTypes := #[22, 22] }) (B : Nat) (v : Value) (n : Nat) (cur : List Value) (hs : a.eval s = v) (hr : Rw B w v n cur) (hB : B ≤ w.heap.size) (ad : Addr) (m c : Nat) (news : List Value)
    (hx : a.eval x = .slice (some ad) m c) (hl : news.length = m) (hm : 0 < m) (hnews : ∀ j u, news[j]? = some u → w.cell? (ad.add j) = some u) (h1 : ∀ u ∈ news, u.oneCell' = true) (hn : n + m ≤ 1000000)
    (h : ∀ w' v' cur', Put B w v n cur w' v' m cur' news → wpList Tryd.prog ops Q rest (a.put o.dst v') w') : wpList Tryd.prog ops Q (o :: rest) a w := by
  refine wpList_plain hgd fun K hK => ?_
  obtain ⟨w', v', cur', hrun, hp⟩ := run_append_rw w o.type B v n cur hr hB ad m c news hl hm hnews h1 hn
  unfold Oper.wp
  simp [execOp, ho, resolve, invoke, builtin, hs, hx, hrun, Result.andThen]
  exact hK _ _ (h w' v' cur' hp)
theorem Put.post {B : Nat} {w : World} {v : Value} {n : Nat} {cur : List Value} {w' w2 : World} {v' : Value} {m : Nat} {cur' news : List Value} (h : Put B w v n cur w' v' m cur' news) (hB : B ≤ w'.heap.size) (hb : Below w'.heap.size w' w2) : Put B w v n cur w2 v' m cur' news :=
  ⟨h.rw.below hb, h.tk, h.len, h.fit, h.below.trans (hb.mono hB), ⟨hb.os.trans h.grown.os, hb.tape.trans h.grown.tape, hb.output.trans h.grown.output, Nat.le_trans h.grown.size hb.size, fun k hk hp => (hb.block k (Nat.lt_of_lt_of_le hk h.grown.size)).trans (h.grown.block k hk hp)⟩, h.blk⟩
theorem cells_at (w : World) (xs : List Value) (t : TypeId) : ∀ j u, xs[j]? = some u → (w.alloc (.cells xs.toArray t)).cell? ((⟨w.heap.size, 0, none⟩ : Addr).add j) = some u := by
  intro j u hj
  rw [Addr.add_lit, World.cell?_alloc_at _ _ _ _ rfl]
  simpa using hj
theorem one_bytes (l : List Int) : ∀ u ∈ bv l, u.oneCell' = true := Sl.one (f := bc) (fun _ => rfl) l
theorem Put.idle {B : Nat} {w : World} {v : Value} {n : Nat} {cur : List Value} (hr : Rw B w v n cur) : Put B w v n cur w v 0 cur (bv []) :=
  ⟨hr, by simp [bv_eq], rfl, fun _ => ⟨rfl, rfl, rfl⟩, Below.refl _ _, ⟨rfl, rfl, rfl, Nat.le_refl _, fun _ _ _ => rfl⟩, .inl rfl⟩
theorem run_append_sl (w : World) (ty : TypeId) (B : Nat) (v : Value) (n : Nat) (cur : List Value) (hr : Rw B w v n cur) (hB : B ≤ w.heap.size) (u : Value) (l : List Int) (hu : Sl bc w u l) (hn : n + l.length ≤ 1000000) :
    ∃ w' v' cur', (Builtin.append_ #[22, 22] ty #[v, u]).run Tryd.prog w = .ok v' w' ∧ Put B w v n cur w' v' l.length cur' (bv l) := by
  by_cases h0 : 0 < l.length
  · rcases hu with ⟨ao, cap, rfl, rfl⟩ | ⟨b, o, cap, rfl, h2, h3⟩
    · simp at h0
    · exact run_append_rw w ty B v n cur hr hB ⟨b, o, none⟩ l.length cap (bv l) (by simp [bv_eq]) h0 (by rw [bv_eq]; exact Sl.news h3) (one_bytes l) hn
  · obtain ⟨ao, cap, rfl⟩ := hu.form
    obtain rfl : l = [] := List.length_eq_zero_iff.1 (by omega)
    refine ⟨w, v, cur, ?_, Put.idle hr⟩
    obtain ⟨i0, hi, hz0, hz1, hz2⟩ := info_parts infoB
    have hl0 : ∀ a : Addr, (loadCells a 0).run Tryd.prog w = .ok #[] w := fun a => by simp [loadCells, loadCellsFrom]
    rcases hr.2.2 with ⟨rfl, rfl⟩ | ⟨g, rfl, _⟩
    · cases ao <;> simp [Builtin.append_, run_underlying Tryd.underlying22, sizeOf, typeInfo, hi, Builtin.lenOf, Builtin.firstCells, hl0]
    · have hle := hr.1
      cases ao <;> simp [Builtin.append_, run_underlying Tryd.underlying22, sizeOf, typeInfo, hi, Builtin.lenOf, Builtin.firstCells, hle, hl0, storeCells]
theorem wpList_append_sl (w : World) {ops : Array Oper} {rest : List Oper} {o : Oper} {a : Act} {Q : Exit → Act → World → Prop} (hgd : o.guard = none) (s x : Operand)
    (ho : o.op = .call { callee := .builtin .append, args := #[s, x], argTypes := #[22, 22] }) (B : Nat) (v : Value) (n : Nat) (cur : List Value) (hs : a.eval s = v) (hr : Rw B w v n cur) (hB : B ≤ w.heap.size) (u : Value) (l : List Int)
    (hx : a.eval x = u) (hu : Sl bc w u l) (hn : n + l.length ≤ 1000000)
    (h : ∀ w' v' cur', Put B w v n cur w' v' l.length cur' (bv l) → wpList Tryd.prog ops Q rest (a.put o.dst v') w') : wpList Tryd.prog ops Q (o :: rest) a w := by
  refine wpList_plain hgd fun K hK => ?_
  obtain ⟨w', v', cur', hrun, hp⟩ := run_append_sl w o.type B v n cur hr hB u l hu hn
  unfold Oper.wp
  simp [execOp, ho, resolve, invoke, builtin, hs, hx, hrun, Result.andThen]
  exact hK _ _ (h w' v' cur' hp)
theorem sl_new (w : World) (l : List Int) (hm : l.length ≤ maxLen) : Sl bc (w.alloc (.cells (bv l).toArray 5)) (.slice (some ⟨w.heap.size, 0, none⟩) l.length l.length) l := by
  have h := owns_new w (bv l) 5 (by rw [bv_eq]; simpa using hm)
  refine sl_of_owns (base := w.heap.size) (e := 5) ?_
  simpa [bv_eq] using h
end Go.Proofs.YtenahnbfaekljaaDoor
namespace Go.Proofs.YtenahnbfaekljaaDoor
open Go.RowKit

/-- Four bytes of a number, the lowest first. -/
def le4 (s : Nat) : List Int := [((s % 256 : Nat) : Int), ((s / 256 % 256 : Nat) : Int), ((s / 65536 % 256 : Nat) : Int), ((s / 16777216 % 256 : Nat) : Int)]
theorem le4_next (s j : Nat) (h : j < 4) : (le4 s).take (j + 1) = (le4 s).take j ++ [((s / 256 ^ j % 256 : Nat) : Int)] := by
  have : j = 0 ∨ j = 1 ∨ j = 2 ∨ j = 3 := by omega
  rcases this with rfl | rfl | rfl | rfl
  · simp [le4]
  · simp [le4]
  · simp [le4]
  · simp [le4]
theorem crcL_lt (l : List Int) : crcL l < 4294967296 := by unfold crcL; omega
set_option maxRecDepth 100000 in
set_option maxHeartbeats 4000000 in
theorem refPut_any (v : Value) (l : List Int) (w : World) (hv : Sl bc w v l) (hl : l.length ≤ 10000) (hby : Byt l) :
    Calls Tryd.prog 28 #[v] w fun e w' => ∃ v', e = .returned v' ∧ w'.ownsRow w.heap.size 5 1 v' (l ++ le4 (crcL l)).length (bv (l ++ le4 (crcL l))) ∧ Below w.heap.size w w' := by
  have HV := hide hv
  have HS := hide (fun W (h : Below w.heap.size w W) => refSum_any v l W (hv.below h) hl hby)
  have hS := crcL_lt l
  obtain ⟨ao, cap, rfl⟩ := hv.form
  clear hv hby
  generalize crcL l = S at *
  go_enter Tryd.func28, Tryd.ntmps28
  go_wp2_with (first | (at_builtin; refine wpList_append_sl _ rfl _ _ rfl w.heap.size _ 0 [] rfl (rw_nil _ _) (Nat.le_refl _) _ l rfl HV.out (by omega) ?_))
  intro w0 v0 cur0 hp0
  have HP0 := hide hp0
  clear hp0
  go_wp2_with fail
  refine (HS.out _ HP0.out.below).mono ?_
  rintro e w1 ⟨rfl, rfl⟩
  go_wp2_with fail
  go_loopw [3, 4, 5] (fun u s i wr => ∃ j : Nat, j ≤ 4 ∧ i = .int .i64 j ∧ s = .int .u32 ((S / 256 ^ j : Nat) : Int) ∧ ∃ cur, Put w.heap.size w (.slice none 0 0) 0 [] wr u (l.length + j) cur (bv (l ++ (le4 S).take j))) (fun _ _ i _ => 4 - (intOf i).toNat)
  case atStart => exact ⟨0, by omega, rfl, by simp, cur0, by simpa using HP0.out⟩
  case round =>
    obtain ⟨j, hj, rfl, rfl, cur, hp⟩ := hrel
    have HP := hide hp
    clear hp HP0
    by_cases hlt : j < 4
    · have hlt' : (j : Int) < 4 := by omega
      have hdiv : ((S / 256 ^ j : Nat) : Int) / 256 = ((S / 256 ^ (j + 1) : Nat) : Int) := by
        rw [Nat.pow_succ, ← Nat.div_div_eq_div_mul]
        rfl
      have HD := hide hdiv
      clear hdiv
      have hle : S / 256 ^ j ≤ S := Nat.div_le_self _ _
      have HN := hide (le4_next S j hlt)
      generalize S / 256 ^ j = T at *
      go_wp2_with (first | (at_builtin; refine wpList_append_rw _ rfl _ _ rfl w.heap.size _ (0 + (l.length + j)) cur rfl (HP.out.rw.below ((Below.refl _ _).alloc (Nat.le_refl _) _)) (by have := HP.out.below.size; simp; omega) _ 1 1 (bv [((T % 256 : Nat) : Int)]) rfl rfl (by omega) (cells_at _ _ _) (one_bytes _) (by omega) ?_))
      intro w2 v2 cur2 hp2
      have hp3 := hp2.pre (w := wr) HP.out.below.size ((Below.refl _ _).alloc (Nat.le_refl _) _)
      have hp4 := HP.out.trans (by rw [Nat.zero_add]; exact hp3)
      have HQ := hide hp4
      clear hp2 hp3 hp4 HP
      go_wp2_with fail
      go_roundw
      case rel =>
        refine ⟨j + 1, by omega, by go_num, by rw [← HD.out], cur2, ?_⟩
        rw [HN.out, ← List.append_assoc]
        have := HQ.out
        rw [show bv (l ++ List.take j (le4 S) ++ [((T % 256 : Nat) : Int)]) = bv (l ++ List.take j (le4 S)) ++ bv [(T : Int) % 256] by simp [bv]]
        exact this
      case measure => simp [intOf]; omega
    · obtain rfl : j = 4 := by omega
      go_wp2_with fail
      go_ret
      have h1 := HP.out.rw.owns
      rw [HP.out.tk] at h1
      refine ⟨_, rfl, ?_, HP.out.below⟩
      have e : (l ++ le4 S).length = 0 + (l.length + 4) := by simp [le4]
      rw [e]
      have e2 : (le4 S).take 4 = le4 S := rfl
      rw [e2] at h1
      simpa using h1
/-- The chapter's Open: the bytes ahead of their sum, or none. -/
def openL (l : List Int) : Option (List Int) := if l.length < 4 then none else if l.take (l.length - 4) ++ le4 (crcL (l.take (l.length - 4))) = l then some (l.take (l.length - 4)) else none
end Go.Proofs.YtenahnbfaekljaaDoor
namespace Go.Proofs.YtenahnbfaekljaaDoor

/-- The remainder behind bytes, from s on. -/
def crF (s : Nat) (l : List Int) : Nat := l.foldl (fun s x => cY s x.toNat) s
theorem crF_app (s : Nat) (a b : List Int) : crF s (a ++ b) = crF (crF s a) b := List.foldl_append
theorem crF_lt {s : Nat} (hs : s < 4294967296) {l : List Int} (h : Byt l) : crF s l < 4294967296 := by
  induction l generalizing s with
  | nil => exact hs
  | cons x l ih =>
    have hx := h x List.mem_cons_self
    exact ih (cF_lt 8 (Nat.xor_lt_two_pow (n := 32) hs (by omega))) (fun y hy => h y (List.mem_cons_of_mem _ hy))
theorem cV_byte {x : Nat} (h : x < 256) (g : Nat → Nat) (hg : ∀ i, i < 8 → g i = x / 2 ^ i % 2) : cV g 8 = x := by
  have e : cV g 8 = ((((((((0 ^^^ g 0 * 2 ^ 0) ^^^ g 1 * 2 ^ 1) ^^^ g 2 * 2 ^ 2) ^^^ g 3 * 2 ^ 3) ^^^ g 4 * 2 ^ 4) ^^^ g 5 * 2 ^ 5) ^^^ g 6 * 2 ^ 6) ^^^ g 7 * 2 ^ 7) := rfl
  rw [e, hg 0 (by decide), hg 1 (by decide), hg 2 (by decide), hg 3 (by decide), hg 4 (by decide), hg 5 (by decide), hg 6 (by decide), hg 7 (by decide)]
  have : ∀ x : Fin 256, ((((((((0 ^^^ x.val / 2 ^ 0 % 2 * 2 ^ 0) ^^^ x.val / 2 ^ 1 % 2 * 2 ^ 1) ^^^ x.val / 2 ^ 2 % 2 * 2 ^ 2) ^^^ x.val / 2 ^ 3 % 2 * 2 ^ 3) ^^^ x.val / 2 ^ 4 % 2 * 2 ^ 4) ^^^ x.val / 2 ^ 5 % 2 * 2 ^ 5) ^^^ x.val / 2 ^ 6 % 2 * 2 ^ 6) ^^^ x.val / 2 ^ 7 % 2 * 2 ^ 7) = x.val := by decide +kernel
  exact this ⟨x, h⟩
theorem gb_head (x : Int) (l : List Int) (i : Nat) (h : i < 8) : gb (x :: l) i = x.toNat / 2 ^ i % 2 := by
  unfold gb
  rw [show i / 8 = 0 by omega, show i % 8 = i by omega]
  rfl
theorem gb_tail (x : Int) (l : List Int) (i : Nat) : gb (x :: l) (8 + i) = gb l i := by
  unfold gb
  rw [show (8 + i) / 8 = i / 8 + 1 by omega, show (8 + i) % 8 = i % 8 by omega]
  rfl
theorem cB_bytes (s : Nat) {l : List Int} (h : Byt l) : cB s (gb l) (8 * l.length) = crF s l := by
  induction l generalizing s with
  | nil => rfl
  | cons x l ih =>
    have hx := h x List.mem_cons_self
    rw [List.length_cons, show 8 * (l.length + 1) = 8 + 8 * l.length by omega, cB_shift, cB_few (gb_bit (x :: l)) s (by decide), cV_byte (x := x.toNat) (by omega) _ (gb_head x l)]
    rw [show (fun i => gb (x :: l) (8 + i)) = gb l from funext (gb_tail x l)]
    exact ih _ (fun y hy => h y (List.mem_cons_of_mem _ hy))
theorem sub_xor {x : Nat} (h : x < 4294967296) : 4294967295 - x = x ^^^ 4294967295 := by
  have h1 : x < 2 ^ 32 := h
  refine Nat.eq_of_testBit_eq fun i => ?_
  rw [show 4294967295 - x = 2 ^ 32 - (x + 1) by omega, Nat.testBit_two_pow_sub_succ h1, Nat.testBit_xor, show (4294967295 : Nat) = 2 ^ 32 - 1 by rfl, Nat.testBit_two_pow_sub_one]
  by_cases hi : i < 32
  · simp [hi]
  · have : x.testBit i = false := Nat.testBit_lt_two_pow (Nat.lt_of_lt_of_le h1 (Nat.pow_le_pow_right (by decide) (by omega)))
    simp [hi, this]
/-- The chapter's sum is a fold over the bytes. -/
theorem crcL_eq {l : List Int} (h : Byt l) : crcL l = crF 4294967295 l ^^^ 4294967295 := by
  unfold crcL
  rw [cT_sum (gb_bit l) (fun i hi => gb_none hi), cB_bytes _ h, sub_xor (crF_lt (by decide) h)]
/-- Two texts of one length, together. -/
def zx (a b : List Int) : List Int := List.zipWith (fun x y => ((x.toNat ^^^ y.toNat : Nat) : Int)) a b
theorem crF_zx (s t : Nat) (a b : List Int) (h : a.length = b.length) : crF (s ^^^ t) (zx a b) = crF s a ^^^ crF t b := by
  induction a generalizing s t b with
  | nil =>
    cases b with
    | nil => rfl
    | cons y b => simp at h
  | cons x a ih =>
    cases b with
    | nil => simp at h
    | cons y b =>
      show crF (cY (s ^^^ t) ((x.toNat ^^^ y.toNat : Nat) : Int).toNat) (zx a b) = crF (cY s x.toNat) a ^^^ crF (cY t y.toNat) b
      rw [Int.toNat_natCast, ← ih _ _ _ (by simpa using h)]
      congr 1
      unfold cY
      rw [← cF_xor, xor_four]
theorem xor_pow {a m : Nat} (h : a < 2 ^ m) : a ^^^ 2 ^ m = 2 ^ m + a := by
  refine Nat.eq_of_testBit_eq fun j => ?_
  rw [Nat.testBit_xor, Nat.testBit_two_pow]
  by_cases hj : j < m
  · rw [Nat.testBit_two_pow_add_gt hj]
    simp [show ¬ m = j by omega]
  · by_cases hj2 : j = m
    · subst hj2
      rw [Nat.testBit_two_pow_add_eq]
      simp
    · have hp : 2 ^ (m + 1) ≤ 2 ^ j := Nat.pow_le_pow_right (by decide) (by omega)
      have hp2 : 2 ^ (m + 1) = 2 ^ m + 2 ^ m := by rw [Nat.pow_succ]; omega
      rw [Nat.testBit_lt_two_pow (show a < 2 ^ j by omega), Nat.testBit_lt_two_pow (show 2 ^ m + a < 2 ^ j by omega)]
      simp [show ¬ m = j by omega]
theorem cV_mod {g : Nat → Nat} {c : Nat} (m : Nat) (hg : ∀ i, i < m → g i = c / 2 ^ i % 2) : cV g m = c % 2 ^ m := by
  induction m with
  | zero => rw [Nat.pow_zero, Nat.mod_one]; rfl
  | succ m ih =>
    show cV g m ^^^ (g m * 2 ^ m) = _
    rw [ih (fun i hi => hg i (by omega)), hg m (by omega), Nat.mod_pow_succ]
    have hb : c / 2 ^ m % 2 = 0 ∨ c / 2 ^ m % 2 = 1 := by omega
    rcases hb with e | e
    · rw [e, Nat.zero_mul, Nat.mul_zero, Nat.xor_zero, Nat.add_zero]
    · rw [e, Nat.one_mul, Nat.mul_one, xor_pow (Nat.mod_lt _ (Nat.pow_pos (by decide))), Nat.add_comm]
theorem bit_part (c k r : Nat) (hr : r < 8) : c / 2 ^ k % 256 / 2 ^ r % 2 = c / 2 ^ (k + r) % 2 := by
  rw [← Nat.toNat_testBit, ← Nat.toNat_testBit, show (256 : Nat) = 2 ^ 8 by rfl, Nat.testBit_mod_two_pow, Nat.testBit_div_two_pow, Nat.add_comm r k]
  simp [hr]
theorem gb_le4 (c i : Nat) (h : i < 32) : gb (le4 c) i = c / 2 ^ i % 2 := by
  have hr : i % 8 < 8 := Nat.mod_lt _ (by decide)
  unfold gb
  have : i / 8 = 0 ∨ i / 8 = 1 ∨ i / 8 = 2 ∨ i / 8 = 3 := by omega
  rcases this with e | e | e | e
  · rw [e]
    show ((c % 256 : Nat) : Int).toNat / 2 ^ (i % 8) % 2 = _
    rw [Int.toNat_natCast, show c % 256 = c / 2 ^ 0 % 256 by simp, bit_part c 0 _ hr, show 0 + i % 8 = i by omega]
  · rw [e]
    show ((c / 256 % 256 : Nat) : Int).toNat / 2 ^ (i % 8) % 2 = _
    rw [Int.toNat_natCast, show c / 256 = c / 2 ^ 8 by rfl, bit_part c 8 _ hr, show 8 + i % 8 = i by omega]
  · rw [e]
    show ((c / 65536 % 256 : Nat) : Int).toNat / 2 ^ (i % 8) % 2 = _
    rw [Int.toNat_natCast, show c / 65536 = c / 2 ^ 16 by rfl, bit_part c 16 _ hr, show 16 + i % 8 = i by omega]
  · rw [e]
    show ((c / 16777216 % 256 : Nat) : Int).toNat / 2 ^ (i % 8) % 2 = _
    rw [Int.toNat_natCast, show c / 16777216 = c / 2 ^ 24 by rfl, bit_part c 24 _ hr, show 24 + i % 8 = i by omega]
theorem le4_byt (c : Nat) : Byt (le4 c) := by
  unfold le4 Byt
  intro x hx
  simp only [List.mem_cons, List.not_mem_nil, or_false] at hx
  rcases hx with rfl | rfl | rfl | rfl <;> omega
theorem crF_four {s c : Nat} (hc : c < 4294967296) : crF s (le4 c) = cF 32 (s ^^^ c) := by
  rw [← cB_bytes s (le4_byt c)]
  show cB s (gb (le4 c)) 32 = _
  rw [cB_few (gb_bit _) s (Nat.le_refl _), cV_mod 32 (gb_le4 c), Nat.mod_eq_of_lt (show c < 2 ^ 32 from hc)]
/-- Bytes with their sum behind leave one and the same remainder. -/
theorem crF_whole {l : List Int} (h : Byt l) : crF 4294967295 (l ++ le4 (crcL l)) = cF 32 4294967295 := by
  rw [crF_app, crF_four (crcL_lt l), crcL_eq h, ← Nat.xor_assoc, Nat.xor_self, Nat.zero_xor]
/-- A text of which bits were turned: e tells which, by 32 of them from k on. -/
theorem crF_burst {p q : List Int} {y k : Nat} (hp : Byt p) (hq : Byt q) (hl : q.length = p.length) (hk : k + 32 ≤ 8 * p.length) (hy : y < 4294967296) (hy0 : y ≠ 0)
    (he : ∀ i, gb q i = gb p i ^^^ (if k ≤ i ∧ i < k + 32 then y / 2 ^ (i - k) % 2 else 0)) : crF 4294967295 q ≠ crF 4294967295 p := by
  intro e
  rw [← cB_bytes _ hp, ← cB_bytes _ hq, hl] at e
  have h1 := cB_xor 4294967295 0 he (8 * p.length)
  rw [Nat.xor_zero, e] at h1
  have h2 : cB 0 (fun i => if k ≤ i ∧ i < k + 32 then y / 2 ^ (i - k) % 2 else 0) (8 * p.length) = 0 := by
    have : cB 4294967295 (gb p) (8 * p.length) ^^^ cB 4294967295 (gb p) (8 * p.length) = cB 4294967295 (gb p) (8 * p.length) ^^^ (cB 4294967295 (gb p) (8 * p.length) ^^^ cB 0 (fun i => if k ≤ i ∧ i < k + 32 then y / 2 ^ (i - k) % 2 else 0) (8 * p.length)) := by rw [← h1]
    rw [Nat.xor_self, ← Nat.xor_assoc, Nat.xor_self, Nat.zero_xor] at this
    exact this.symm
  rw [show 8 * p.length = k + (32 + (8 * p.length - k - 32)) by omega, cB_shift, cB_noughts _ _ k (fun i hi => if_neg (by omega)), cF_zero, cB_shift, cB_noughts _ _ _ (fun i _ => if_neg (by omega))] at h2
  have hg : Bit (fun i => if k ≤ k + i ∧ k + i < k + 32 then y / 2 ^ (k + i - k) % 2 else 0) := fun i => by
    show (if _ then _ else _) = 0 ∨ (if _ then _ else _) = 1
    split
    · exact Nat.mod_two_eq_zero_or_one _
    · exact .inl rfl
  rw [cB_few hg 0 (Nat.le_refl _), cV_mod (c := y) 32 (fun i hi => by rw [if_pos (by omega)]; congr 3; omega), Nat.mod_eq_of_lt (show y < 2 ^ 32 from hy), Nat.zero_xor] at h2
  exact hy0 (cF_none 32 hy (cF_none _ (cF_lt 32 hy) h2))
/-- What opens has the whole remainder. -/
theorem openL_whole {q : List Int} (hq : Byt q) (h : openL q ≠ none) : crF 4294967295 q = cF 32 4294967295 := by
  unfold openL at h
  split at h
  · exact absurd rfl h
  · split at h
    · rename_i e
      have := crF_whole (l := q.take (q.length - 4)) (fun x hx => hq x (List.mem_of_mem_take hx))
      rw [e] at this
      exact this
    · exact absurd rfl h
theorem openL_put {l : List Int} : openL (l ++ le4 (crcL l)) = some l := by
  have hn : (l ++ le4 (crcL l)).length - 4 = l.length := by simp [le4]
  unfold openL
  rw [if_neg (by simp [le4]), hn, List.take_left, if_pos rfl]
theorem tells {l q : List Int} {y k : Nat} (hl : Byt l) (hq : Byt q) (hlen : q.length = (l ++ le4 (crcL l)).length) (hk : k + 32 ≤ 8 * (l ++ le4 (crcL l)).length) (hy : y < 4294967296) (hy0 : y ≠ 0)
    (he : ∀ i, gb q i = gb (l ++ le4 (crcL l)) i ^^^ (if k ≤ i ∧ i < k + 32 then y / 2 ^ (i - k) % 2 else 0)) : openL q = none := by
  cases h : openL q with
  | none => rfl
  | some x =>
    have hp : Byt (l ++ le4 (crcL l)) := fun x hx => (List.mem_append.1 hx).elim (hl x) (le4_byt _ x)
    exact absurd ((openL_whole hq (by rw [h]; simp)).trans (crF_whole hl).symm) (crF_burst hp hq hlen hk hy hy0 he)
/-- Half bytes, by a table. -/
def halfT : List Nat := (List.range 16).map (cF 4)
theorem cY_half (s x : Nat) : cY s x = (cF 4 (((cF 4 ((s ^^^ x) % 16)) ^^^ ((s ^^^ x) / 16)) % 16)) ^^^ (((cF 4 ((s ^^^ x) % 16)) ^^^ ((s ^^^ x) / 16)) / 16) := by
  unfold cY
  rw [show (8 : Nat) = 4 + 4 by rfl, cF_add, cF_half (s ^^^ x), cF_half]
end Go.Proofs.YtenahnbfaekljaaDoor
namespace Go.Proofs.YtenahnbfaekljaaDoor
open Go.RowKit

set_option maxRecDepth 100000 in
set_option maxHeartbeats 4000000 in
theorem same_bytes (v u : Value) (a : List Int) (w : World) (hv : Sl bc w v a) (hu : Sl bc w u a) (hl : a.length ≤ 40000) :
    Calls Tryd.prog 12 #[v, u] w fun e w' => e = .returned (.bool true) ∧ Below w.heap.size w w' := by
  rcases hv with ⟨ao, cap, rfl, rfl⟩ | ⟨b, o, cap, rfl, h2, h3⟩
  · rcases hu with ⟨ao', cap', _, rfl⟩ | ⟨b, o, cap', rfl, h2, h3⟩
    all_goals
      go_enter Tryd.func12, Tryd.ntmps12
      go_wp2
      refine wp_loop_rounds 1 ?_
      rw [rounds_succ]
      go_wp2
      go_ret
      exact ⟨rfl, Below.refl _ _⟩
  · rcases hu with ⟨ao', cap', rfl, rfl⟩ | ⟨b', o', cap', rfl, h2', h3'⟩
    · go_enter Tryd.func12, Tryd.ntmps12
      go_wp2
      refine wp_loop_rounds 1 ?_
      rw [rounds_succ]
      go_wp2
      go_ret
      exact ⟨rfl, Below.refl _ _⟩
    · have H3 := hide h3
      have H3' := hide h3'
      clear h3 h3'
      go_enter Tryd.func12, Tryd.ntmps12
      go_wp2
      go_loopw [5] (fun i W => ∃ k : Nat, k ≤ a.length ∧ i = .int .i64 k ∧ Below w.heap.size w W) (fun i _ => a.length - (intOf i).toNat)
      case atStart => exact ⟨0, Nat.zero_le _, rfl, Below.refl _ _⟩
      case round =>
        obtain ⟨k, hk, rfl, hb⟩ := hrel
        by_cases hlt : k < a.length
        · have hc : wr.cell? ⟨b, o + k, none⟩ = some (.int .u8 a[k]) := by rw [hb.cell (p := ⟨b, o + k, none⟩) (cell_block (H3.out k hlt))]; exact H3.out k hlt
          have hc' : wr.cell? ⟨b', o' + k, none⟩ = some (.int .u8 a[k]) := by rw [hb.cell (p := ⟨b', o' + k, none⟩) (cell_block (H3'.out k hlt))]; exact H3'.out k hlt
          generalize a[k] = sk at *
          go_wp2_with fail
          go_quiet (fail)
          go_wp2
          exact ⟨⟨k + 1, by omega, by go_num, below_drewN hb _⟩, by simp [intOf]; omega⟩
        · go_wp2
          go_ret
          exact ⟨rfl, hb⟩

set_option maxRecDepth 100000 in
set_option maxHeartbeats 4000000 in
theorem same_len (ao bo : Option Addr) (L M c d : Nat) (w : World) (h : L ≠ M) : Calls Tryd.prog 12 #[.slice ao L c, .slice bo M d] w fun e w' => e = .returned (.bool false) ∧ Below w.heap.size w w' := by
  have h' : ((L : Int) != (M : Int)) = true := by simpa using fun e => h (by omega)
  go_enter Tryd.func12, Tryd.ntmps12
  go_wp2
  go_ret
  exact ⟨rfl, Below.refl _ _⟩
set_option maxRecDepth 100000 in
set_option maxHeartbeats 4000000 in
theorem same_diff (b o cap b' o' cap' : Nat) (a c : List Int) (w : World) (hac : c.length = a.length) (hne : a ≠ c) (hl : a.length ≤ 40000) (h3 : ∀ i (h : i < a.length), w.cell? ⟨b, o + i, none⟩ = some (bc a[i])) (h3' : ∀ i (h : i < c.length), w.cell? ⟨b', o' + i, none⟩ = some (bc c[i])) :
    Calls Tryd.prog 12 #[.slice (some ⟨b, o, none⟩) a.length cap, .slice (some ⟨b', o', none⟩) a.length cap'] w fun e w' => e = .returned (.bool false) ∧ Below w.heap.size w w' := by
  have H3 := hide h3
  have H3' := hide h3'
  clear h3 h3'
  go_enter Tryd.func12, Tryd.ntmps12
  go_wp2
  go_loopw [5] (fun i W => ∃ k : Nat, k ≤ a.length ∧ i = .int .i64 k ∧ (∀ t (h : t < a.length) (h' : t < c.length), t < k → a[t] = c[t]) ∧ Below w.heap.size w W) (fun i _ => a.length - (intOf i).toNat)
  case atStart => exact ⟨0, Nat.zero_le _, rfl, fun t _ _ h => by omega, Below.refl _ _⟩
  case round =>
    obtain ⟨k, hk, rfl, hall, hb⟩ := hrel
    by_cases hlt : k < a.length
    · have hlt2 : k < c.length := by omega
      have hc : wr.cell? ⟨b, o + k, none⟩ = some (.int .u8 a[k]) := by rw [hb.cell (p := ⟨b, o + k, none⟩) (cell_block (H3.out k hlt))]; exact H3.out k hlt
      have hc' : wr.cell? ⟨b', o' + k, none⟩ = some (.int .u8 c[k]) := by rw [hb.cell (p := ⟨b', o' + k, none⟩) (cell_block (H3'.out k hlt2))]; exact H3'.out k hlt2
      by_cases he : a[k] = c[k]
      · have HN := hide (fun t (h : t < a.length) (h' : t < c.length) (ht : t < k + 1) => show a[t] = c[t] by
          by_cases e : t = k
          · subst e; exact he
          · exact hall t h h' (by omega))
        rw [he] at hc
        clear hall he
        generalize c[k] = sk at *
        go_wp2_with fail
        go_quiet (fail)
        go_wp2
        exact ⟨⟨k + 1, by omega, by go_num, HN.out, below_drewN hb _⟩, by simp [intOf]; omega⟩
      · have hx : (a[k] != c[k]) = true := by simpa using he
        clear hall he
        generalize a[k] = x at *
        generalize c[k] = y at *
        go_wp2_with fail
        go_quiet (fail)
        go_wp2
        go_ret
        exact ⟨rfl, below_drewN hb _⟩
    · exact absurd (List.ext_getElem hac.symm fun t h h' => hall t h h' (by omega)) hne
/-- Two texts: are they the same? -/
theorem same_any (v u : Value) (a c : List Int) (w : World) (hv : Sl bc w v a) (hu : Sl bc w u c) (hl : a.length ≤ 40000) :
    Calls Tryd.prog 12 #[v, u] w fun e w' => e = .returned (.bool (decide (a = c))) ∧ Below w.heap.size w w' := by
  by_cases h : a = c
  · subst h
    rw [decide_eq_true rfl]
    exact same_bytes v u a w hv hu hl
  · rw [decide_eq_false h]
    by_cases hlen : a.length = c.length
    · rcases hv with ⟨ao, cap, rfl, rfl⟩ | ⟨b, o, cap, rfl, h2, h3⟩
      · exact absurd (List.length_eq_zero_iff.1 hlen.symm).symm h
      · rcases hu with ⟨ao', cap', rfl, rfl⟩ | ⟨b', o', cap', rfl, h2', h3'⟩
        · exact absurd (List.length_eq_zero_iff.1 hlen) h
        · rw [← hlen]
          exact same_diff b o cap b' o' cap' a c w hlen.symm h hl h3 h3'
    · obtain ⟨ao, cap, rfl⟩ := hv.form
      obtain ⟨bo, dap, rfl⟩ := hu.form
      exact same_len ao bo _ _ _ _ w hlen
end Go.Proofs.YtenahnbfaekljaaDoor
