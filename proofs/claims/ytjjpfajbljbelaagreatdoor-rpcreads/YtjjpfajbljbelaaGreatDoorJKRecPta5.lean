/-
  POINTERS TO A RECORD's FIELDS (record.numbers, texts, rows). No condition.
  A TEXT AND A ROW WRITTEN BEHIND BYTES (wire.Text, Row; slices.Grow). Conditions: the bytes are nil or a row of their own, and fewer than a million; what is written does not lie in that row.
  A TEXT WRITTEN BEHIND BYTES (wire.Text). Conditions: the bytes are nil or a row of their own, and fewer than a million; the text has at most four thousand and does not lie in that row.
  A ROW WRITTEN BEHIND BYTES (wire.Row). Conditions: the bytes are nil or a row of their own, and fewer than a million; the row has at most four thousand numbers and does not lie in that row.
  A RECORD AS BYTES, OR WHAT IS WRONG WITH IT (record.Put): what the document says. Conditions: its rows' cells hold them, texts of no more than a thousand letters; the bytes that are ahead are nil or a row of their own, the record's rows lie ahead of it.
-/
import Derived.Test.YtjjpfajbljbelaaGreatDoorJKRecChca3
import Derived.BigRegion
import Derived.Lib.AppendZerosOnto
namespace Go.Proofs.YtjjpfajbljbelaaGreatDoor
open Go.RowKit
set_option maxRecDepth 100000
set_option maxHeartbeats 4000000
def pts8 (p : Nat) : Value := .agg #[.pointer (some ⟨p, 1, none⟩), .pointer (some ⟨p, 2, none⟩), .pointer (some ⟨p, 3, none⟩), .pointer (some ⟨p, 4, none⟩), .pointer (some ⟨p, 5, none⟩), .pointer (some ⟨p, 6, none⟩), .pointer (some ⟨p, 7, none⟩), .pointer (some ⟨p, 8, none⟩)]
def ptsT (p : Nat) : Value := .agg #[.pointer (some ⟨p, 10, none⟩), .pointer (some ⟨p, 11, none⟩), .pointer (some ⟨p, 12, none⟩), .pointer (some ⟨p, 13, none⟩)]
def ptsR (p : Nat) : Value := .agg #[.pointer (some ⟨p, 14, none⟩), .pointer (some ⟨p, 15, none⟩), .pointer (some ⟨p, 16, none⟩), .pointer (some ⟨p, 17, none⟩)]
theorem texts_any (p : Nat) (w : World) : Calls Tryz.prog 127 #[.pointer (some ⟨p, 0, none⟩)] w fun e w' => e = .returned (ptsT p) ∧ Below w.heap.size w w' := by
 go_enter Tryz.func127, Tryz.ntmps127
 go_wp2
 go_region
 go_wp2
 refine bodyPost_ret (v := ptsT p) (by simp [results, Tryz.results127, go_sem, ptsT]) rfl ⟨rfl, ?_⟩
 exact ((Below.refl _ _).alloc (Nat.le_refl _) _).drew
theorem numbers_pts (p : Nat) (w : World) : Calls Tryz.prog 125 #[.pointer (some ⟨p, 0, none⟩)] w fun e w' => e = .returned (pts8 p) ∧ Below w.heap.size w w' := by
 go_enter Tryz.func125, Tryz.ntmps125
 go_wp2
 go_region
 go_wp2
 refine bodyPost_ret (v := pts8 p) (by simp [results, Tryz.results125, go_sem, pts8]) rfl ⟨rfl, ?_⟩
 exact ((Below.refl _ _).alloc (Nat.le_refl _) _).drew
theorem rows_any (p : Nat) (w : World) : Calls Tryz.prog 128 #[.pointer (some ⟨p, 0, none⟩)] w fun e w' => e = .returned (ptsR p) ∧ Below w.heap.size w w' := by
 go_enter Tryz.func128, Tryz.ntmps128
 go_wp2
 go_region
 go_wp2
 refine bodyPost_ret (v := ptsR p) (by simp [results, Tryz.results128, go_sem, ptsR]) rfl ⟨rfl, ?_⟩
 exact ((Below.refl _ _).alloc (Nat.le_refl _) _).drew
set_option maxHeartbeats 8000000
theorem rw_form {B : Nat} {w : World} {v : Value} {m : Nat} {cur : List Value} (h : Rw B w v m cur) : ∃ ao, v = .slice ao m cur.length ∧ (ao = none → m = 0 ∧ cur = []) ∧ ∀ a, ao = some a → ∃ g, a = ⟨g, 0, none⟩ ∧ B ≤ g ∧ w.heap[g]? = some (.cells cur.toArray 5 (0, 0)) := by
 obtain ⟨r1, r2, r3⟩ := h
 rcases r3 with ⟨rfl, rfl⟩ | ⟨g, rfl, a2, a3⟩
 ·have : m = 0 := by simpa using r1
  subst this
  exact ⟨none, rfl, fun _ => ⟨rfl, rfl⟩, fun a ha => by cases ha⟩
 ·exact ⟨some ⟨g, 0, none⟩, rfl, (fun h => by cases h), fun a ha => ⟨g, by cases ha; rfl, a2, a3⟩⟩
theorem grow_room (ao : Option Addr) (m c k : Nat) (w : World) (hm : m ≤ c) (hc : c ≤ 9223372036854775807) (hk : k ≤ 900000) (hr : m + k ≤ c) :
  Calls Tryz.prog 102 #[.slice ao m c, .int .i64 (k : Int)] w fun e w' => e = .returned (.slice ao m c) ∧ w' = w := by
 have h1 : ¬ (k : Int) < 0 := by omega
 have h2 : wrap64 ((c : Int) - (m : Int)) = (c : Int) - (m : Int) := by unfold wrap64; omega
 have h3 : wrap64 ((k : Int) - ((c : Int) - (m : Int))) = (k : Int) - ((c : Int) - (m : Int)) := by unfold wrap64; omega
 have h4 : ¬ (k : Int) - ((c : Int) - (m : Int)) > 0 := by omega
 go_enter Tryz.func102, Tryz.ntmps102
 go_wp2
 go_ret
 exact ⟨rfl, rfl⟩
theorem wpList_append_run (w w' : World) {ops : Array Oper} {rest : List Oper} {o : Oper} {a : Act} {Q : Exit → Act → World → Prop} (hgd : o.guard = none) (s x : Operand)
  (ho : o.op = .call { callee := .builtin .append, args := #[s, x], argTypes := #[22, 3] }) (vs vx v' : Value) (hs : a.eval s = vs) (hx : a.eval x = vx)
  (hrun : ∀ ty, (Builtin.append_ #[22, 3] ty #[vs, vx]).run Tryz.prog w = .ok v' w') (h : wpList Tryz.prog ops Q rest (a.put o.dst v') w') : wpList Tryz.prog ops Q (o :: rest) a w := by
 refine wpList_plain hgd fun K hK => ?_
 unfold Oper.wp
 simp [execOp, ho, resolve, invoke, builtin, hs, hx, hrun, Result.andThen]
 exact hK _ _ h
theorem grow_more (ao : Option Addr) (m k : Nat) (cur : List Value) (w : World) (hm : m ≤ cur.length) (hk : m + k ≤ 900000) (hr : cur.length < m + k) (hnil : ao = none → cur = []) (hcs : ∀ a, ao = some a → ∀ j u, cur[j]? = some u → w.cell? (a.add j) = some u) :
  Calls Tryz.prog 102 #[.slice ao m cur.length, .int .i64 (k : Int)] w fun e w' => ∃ c2 : List Value, e = .returned (.slice (some ⟨w.heap.size, 0, none⟩) m c2.length) ∧ w' = (w.alloc (.cells c2.toArray 5)).drew ∧ m + k ≤ c2.length ∧ c2.length ≤ maxLen ∧ c2.take cur.length = cur := by
 obtain ⟨i0, hi, hz0, hz1, hz2⟩ := info_parts infoB
 have h1 : ¬ (k : Int) < 0 := by omega
 have h2 : wrap64 ((cur.length : Int) - (m : Int)) = (cur.length : Int) - (m : Int) := by unfold wrap64; omega
 have h3 : wrap64 ((k : Int) - ((cur.length : Int) - (m : Int))) = (k : Int) - ((cur.length : Int) - (m : Int)) := by unfold wrap64; omega
 have h4 : (k : Int) - ((cur.length : Int) - (m : Int)) > 0 := by omega
 have hold : (Builtin.firstCells i0.size cur.length (.slice ao cur.length cur.length)).run Tryz.prog w.drew = .ok cur.toArray w.drew := by
  cases ao with
  | none => rw [hnil rfl]; exact run_firstCells_none _ _ _ _ _
  | some a => exact run_firstCells_some _ _ _ _ _ _ _ (by rw [hz1]; omega) (fun j u hj => hcs a rfl j u hj)
 have hw : wrap64 ((cur.length : Int)) = cur.length := by unfold wrap64; omega
 have hck : cur.length + (m + k - cur.length) = m + k := by omega
 have hap : ∀ ty, (Builtin.append_ #[22, 3] ty #[.slice ao cur.length cur.length, .int .i64 ((k : Int) - ((cur.length : Int) - (m : Int)))]).run Tryz.prog w =
   .ok (.slice (some ⟨w.heap.size, 0, none⟩) (m + k) (grownCap w (m + k) cur.length 5)) (w.drew.alloc (.cells (cur.toArray ++ Builtin.zeroCells (Value.int .u8 0).cells (m + k - cur.length) ++ Builtin.zeroCells (Value.int .u8 0).cells (grownCap w (m + k) cur.length 5 - (m + k))) 5)) := fun ty => by
  have h := Lib.run_append_grow_zeros (P := Tryz.prog) w 22 3 ty 5 i0 (.int .u8 0) .i64 .i64 Tryz.underlying22 Tryz.underlying3 hi hz0 ao cur.length cur.length cur hold (m + k - cur.length) (by omega) (by omega) (by omega) (by omega) (by rw [hz2]; omega) (by rw [hck]; exact growslice_fits hr (by rw [hz2]; omega))
  rw [hck] at h
  rw [show (k : Int) - ((cur.length : Int) - (m : Int)) = ((m + k - cur.length : Nat) : Int) by omega]
  exact h
 have hGn : m + k ≤ grownCap w (m + k) cur.length 5 := grownCap_ge w _ _ _
 have hGm : grownCap w (m + k) cur.length 5 ≤ maxLen := grownCap_le_maxLen w _ _ _ (by unfold maxLen; omega)
 generalize grownCap w (m + k) cur.length 5 = G at *
 have hG63 : G ≤ 9223372036854775807 := by unfold maxLen at hGm; omega
 have HM := hide hGm
 clear hold hcs hck hGm
 have fin : ∀ zs : List Value, zs = (Builtin.zeroCells (Value.int .u8 0).cells (m + k - cur.length) ++ Builtin.zeroCells (Value.int .u8 0).cells (G - (m + k))).toList → (cur ++ zs).length = G ∧ (cur ++ zs).toArray = cur.toArray ++ Builtin.zeroCells (Value.int .u8 0).cells (m + k - cur.length) ++ Builtin.zeroCells (Value.int .u8 0).cells (G - (m + k)) := by
  rintro zs rfl
  refine ⟨?_, ?_⟩
  ·have e1 : (Value.int .u8 0).cells.size = 1 := rfl
   simp only [List.length_append, Array.length_toList, Array.size_append, size_zeroCells, e1]
   omega
  ·apply Array.ext'
   simp
 have FIN := hide (fin _ rfl)
 clear fin
 generalize (Builtin.zeroCells (Value.int .u8 0).cells (m + k - cur.length) ++ Builtin.zeroCells (Value.int .u8 0).cells (G - (m + k))).toList = ZS at *
 generalize cur.toArray ++ Builtin.zeroCells (Value.int .u8 0).cells (m + k - cur.length) ++ Builtin.zeroCells (Value.int .u8 0).cells (G - (m + k)) = CS at *
 have R : ∃ c2 : List Value, Ending.returned (.slice (some ⟨w.heap.size, 0, none⟩) m G) = .returned (.slice (some ⟨w.heap.size, 0, none⟩) m c2.length) ∧ (w.alloc (.cells CS 5)).drew = (w.alloc (.cells c2.toArray 5)).drew ∧ m + k ≤ c2.length ∧ c2.length ≤ maxLen ∧ c2.take cur.length = cur :=
  ⟨cur ++ ZS, by rw [FIN.out.1], by rw [FIN.out.2], by rw [FIN.out.1]; exact hGn, by rw [FIN.out.1]; exact HM.out, by simp⟩
 have HR := hide R
 have HAP := hide hap
 clear R FIN HM hap
 cases ao with
 | none =>
  obtain rfl := hnil rfl
  obtain rfl : m = 0 := by simpa using hm
  go_enter Tryz.func102, Tryz.ntmps102
  go_wp2_with (first | (at_builtin; refine wpList_append_run _ _ rfl _ _ rfl _ _ _ rfl rfl HAP.out ?_))
  go_ret
  simpa using HR.out
 | some a =>
  go_enter Tryz.func102, Tryz.ntmps102
  go_wp2_with (first | (at_builtin; refine wpList_append_run _ _ rfl _ _ rfl _ _ _ rfl rfl HAP.out ?_))
  go_ret
  simpa using HR.out
theorem grow_any (B : Nat) (v : Value) (m k : Nat) (cur : List Value) (w : World) (hr : Rw B w v m cur) (hB : B ≤ w.heap.size) (hk0 : 0 < k) (hk : m + k ≤ 900000) :
  Calls Tryz.prog 102 #[v, .int .i64 (k : Int)] w fun e w' => ∃ (g : Nat) (c2 : List Value), e = .returned (.slice (some ⟨g, 0, none⟩) m c2.length) ∧ w'.heap[g]? = some (.cells c2.toArray 5 (0, 0)) ∧ B ≤ g ∧ (v.ownBlock = some g ∨ w.heap.size ≤ g) ∧ m + k ≤ c2.length ∧ c2.length ≤ maxLen ∧ c2.take m = cur.take m ∧ Below w.heap.size w w' := by
 obtain ⟨ao, rfl, hn, hs⟩ := rw_form hr
 obtain ⟨r1, r2, _⟩ := hr
 by_cases hf : m + k ≤ cur.length
 ·cases ao with
  | none =>
   obtain ⟨_, rfl⟩ := hn rfl
   simp at hf
   omega
  | some a =>
   obtain ⟨g, rfl, hg, hh⟩ := hs a rfl
   refine (grow_room (some ⟨g, 0, none⟩) m cur.length k w r1 (by unfold maxLen at r2; omega) (by omega) hf).mono ?_
   rintro e w' ⟨rfl, rfl⟩
   exact ⟨g, cur, rfl, hh, hg, .inl rfl, hf, r2, rfl, Below.refl _ _⟩
 ·refine (grow_more ao m k cur w r1 hk (by omega) (fun h => (hn h).2) ?_).mono ?_
  ·intro a ha j u hj
   obtain ⟨g, rfl, _, hh⟩ := hs a ha
   rw [Addr.add_lit]
   simp only [World.cell?, hh, Nat.zero_add]
   simpa using hj
  ·rintro e w' ⟨c2, rfl, rfl, h1, h2, h3⟩
   refine ⟨w.heap.size, c2, rfl, ?_, hB, .inr (Nat.le_refl _), h1, h2, ?_, ((Below.refl _ _).alloc (Nat.le_refl _) _).drew⟩
   ·show (w.alloc (.cells c2.toArray 5)).heap[w.heap.size]? = _
    exact Array.getElem?_push_size
   ·have := congrArg (List.take m) h3
    rw [List.take_take, Nat.min_eq_left r1] at this
    exact this
theorem size5 : (Tryz.prog.info? 5).map (·.size) = some 1 := by kernel_rfl
theorem szL_intL (l : Nat) (h : l ≤ 4000) : szL l = (intL l).length := by
 unfold szL intL
 rw [if_neg (by omega), show capN (l : Int) = l from if_neg (by omega)]
theorem szL_pos (n : Int) : 0 < szL n := by
 unfold szL numL
 split
 ·simp
 ·split
  ·simp
  ·split <;> simp
theorem text_row {B m S g : Nat} {w2 w3 : World} {cur c2 cur' : List Value} {l : List Int} {v' : Value} {N : List Int} (hN : N.length = S) (hroom : m + (S + l.length) ≤ c2.length) (hmx : c2.length ≤ maxLen) (hBg : B ≤ g) (htk : c2.take m = cur.take m) (hcm : m ≤ cur.length)
  (hp : Put B w2 (.slice (some ⟨g, 0, none⟩) m c2.length) m (splice c2 (m + S) (l.map bc)) w3 v' S cur' (bv N)) :
  v' = .slice (some ⟨g, 0, none⟩) (m + S) c2.length ∧ w3.ownsRow B 5 1 (.slice (some ⟨g, 0, none⟩) (m + S + l.length) c2.length) (m + S + l.length) (cur.take m ++ bv (N ++ l)) := by
 have hsl : (splice c2 (m + S) (l.map bc)).length = c2.length := length_splice _ _ _ (by simp; omega)
 obtain ⟨f1, f2, f3⟩ := hp.fit (by rw [hsl]; omega)
 obtain ⟨r1, r2, r3⟩ := hp.rw
 rw [hsl] at f2
 rcases r3 with ⟨rfl, rfl⟩ | ⟨g', rfl, a2, a3⟩
 ·cases f1
 ·have hg : g' = g := by
   have : some g' = some g := f1
   exact Option.some.inj this
  subst hg
  refine ⟨by rw [f2], ⟨?_, .inr ⟨g', c2.length, cur'.toArray, rfl, hBg, a3, by omega, hmx, by simp [f2], ?_⟩⟩⟩
  ·rw [List.length_append, List.length_take, Nat.min_eq_left hcm]
   simp [bv]; omega
  ·have e1 := hp.tk
   have e2 : (splice c2 (m + S) (l.map bc)).take m = cur.take m := by
    rw [← htk]
    unfold splice
    rw [List.take_append_of_le_length (by simp; omega), List.take_take, Nat.min_eq_left (by omega)]
   have e3 : (splice c2 (m + S) (l.map bc)).drop (m + S) = l.map bc ++ c2.drop (m + S + (l.map bc).length) := by
    unfold splice
    rw [List.drop_append, List.drop_eq_nil_of_le (by simp; omega), List.nil_append]
    have : m + S - (c2.take (m + S)).length = 0 := by simp; omega
    rw [this, List.drop_zero]
   rw [e2] at e1
   rw [e3] at f3
   simp only [Nat.mul_one]
   have e4 : (l.map bc ++ c2.drop (m + S + (l.map bc).length)).take l.length = l.map bc := by
    rw [List.take_append_of_le_length (by simp)]
    exact List.take_of_length_le (by simp)
   rw [List.take_add, e1, f3, e4]
   simp [bv_eq]
theorem grown_text {w w1 w2 w3 : World} {g : Nat} {ob : Option Nat} (hb : Below w.heap.size w w1) (h2 : ∀ k, k ≠ g → w2.heap[k]? = w1.heap[k]?) (hs : w2.heap.size = w1.heap.size) (e1 : w2.os = w1.os) (e2 : w2.tape = w1.tape) (e3 : w2.output = w1.output) (hg : w2.grownBy w3 (some g)) (hblk : ob = some g ∨ w.heap.size ≤ g) : w.grownBy w3 ob :=
 ⟨hg.os.trans (e1.trans hb.os), hg.tape.trans (e2.trans hb.tape), hg.output.trans (e3.trans hb.output), Nat.le_trans hb.size (by rw [← hs]; exact hg.size), fun k hk hne => by
  have hkg : k ≠ g := by
   rintro rfl
   rcases hblk with q | q
   ·exact hne q.symm
   ·omega
  rw [hg.block k (by rw [hs]; exact Nat.lt_of_lt_of_le hk hb.size) (fun q => hkg (Option.some.inj q)), h2 k hkg, hb.block k hk]⟩
theorem wtext_some (B : Nat) (v : Value) (m S : Nat) (cur : List Value) (b o sc : Nat) (l : List Int) (w : World) (hr : Rw B w v m cur) (hB : B ≤ w.heap.size) (hm : m ≤ 800000) (hl : l.length ≤ 4000) (hS : (intL (l.length : Nat)).length = S) (h0 : 0 < l.length) (hne : v.ownBlock ≠ some b) (h3 : ∀ i (h : i < l.length), w.cell? ⟨b, o + i, none⟩ = some (bc l[i])) :
  Calls Tryz.prog 70 #[v, .slice (some ⟨b, o, none⟩) l.length sc] w fun e w' => ∃ v', e = .returned v' ∧ w'.ownsRow B 5 1 v' (m + S + l.length) (cur.take m ++ bv (intL (l.length : Nat) ++ l)) ∧ Below B w w' ∧ w.grownBy w' v.ownBlock ∧ (v'.ownBlock = v.ownBlock ∨ ∀ g, v'.ownBlock = some g → w.heap.size ≤ g) := by
 have hS1 : 0 < S := by have h := szL_pos (l.length : Nat); rw [szL_intL _ hl] at h; omega
 have hS8 : S ≤ 8 := by rw [← hS]; exact intL_le _
 have HG := hide (fun W (h : Rw B W v m cur) => grow_any B v m (S + l.length) cur W h)
 obtain ⟨ao, rfl, hn, hs⟩ := rw_form hr
 have HN := hide (fun W => natural_any (l.length : Nat) W (by omega))
 rw [show abv' ((l.length : Nat) : Int) = (l.length : Nat) by unfold abv'; rw [if_neg (by omega)]] at HN
 have HS := hide (wsize_any (l.length : Nat))
 rw [show szL (l.length : Nat) = (S : Int) by rw [szL_intL _ hl, hS]] at HS
 have HR := hide hr
 have HL := hide hS
 have H3 := hide h3
 clear h3
 clear hs hn hr hS
 go_enter Tryz.func70, Tryz.ntmps70
 go_wp2_with (first
  | (go_at_call 80; refine (HN.out _).mono ?_; rintro e w' ⟨rfl, rfl⟩)
  | (go_at_call 101; refine (HS.out _).mono ?_; rintro e w' ⟨rfl, rfl⟩))
 rw [show ((m : Int) + (S : Int) + (l.length : Int) - (m : Int)) = ((S + l.length : Nat) : Int) by omega]
 refine (HG.out _ HR.out hB (by omega) (by omega)).mono ?_
 rintro e w1 ⟨g, c2, rfl, hh, hBg, hblk, hroom, hmx, htk, hb⟩
 have hmx' : c2.length ≤ 9223372036854775807 := by unfold maxLen at hmx; omega
 have HH := hide hh
 have HB := hide hb
 have HT := hide htk
 clear hh hb htk HN HS HG
 have hneC : ¬ c2.length = m + S := by omega
 have hbg : b ≠ g := by
  intro e
  subst e
  rcases hblk with q | q
  ·exact hne q
  ·have := cell_block (H3.out 0 h0)
   simp at this
   omega
 have HCS := hide (fun j u (hj : (l.map bc)[j]? = some u) => show w1.cell? ((⟨b, o, none⟩ : Addr).add j) = some u from Sl.news (f := bc) (w := w1) (b := b) (o := o) (l := l) (fun i hi => by rw [HB.out.cell (p := ⟨b, o + i, none⟩) (cell_block (H3.out i hi))]; exact H3.out i hi) j u hj)
 obtain ⟨CS, hCS⟩ : ∃ CS, CS = l.map bc := ⟨_, rfl⟩
 have HCE := hide hCS
 have hCL : CS.length = l.length := by rw [hCS]; simp
 rw [← hCS] at HCS
 clear hCS
 have hrow := run_copy_row (P := Tryz.prog) w1 22 22 3 5 g (m + S) l.length (c2.length - (m + S)) ⟨b, o, none⟩ l.length sc c2.toArray 5 CS Tryz.underlying22 size5 HH.out (by rw [hCL]; exact (Nat.min_self _).symm) HCS.out (by simp; omega) (by rw [HCE.out]; exact Sl.one (fun _ => rfl) l)
 rw [hCL] at hrow
 obtain ⟨w2, hw2⟩ : ∃ w2, w2 = w1.setRow g (c2.toArray.toList.take (m + S) ++ CS ++ c2.toArray.toList.drop (m + S + l.length)).toArray := ⟨_, rfl⟩
 rw [← hw2] at hrow
 have hg2 : w2.heap[g]? = some (.cells (splice c2 (m + S) (l.map bc)).toArray 5 (0, 0)) := by
  rw [hw2]
  have := setRow_heap w1 g c2.toArray (c2.toArray.toList.take (m + S) ++ CS ++ c2.toArray.toList.drop (m + S + l.length)).toArray 5 _ HH.out
  rw [this]
  unfold splice
  rw [HCE.out]
  simp [List.append_assoc]
 have hb2 : Below B w' w2 := by rw [hw2]; exact below_setRow (HB.out.mono hB) hBg _
 have hsz2 : B ≤ w2.heap.size := by have := hb2.size; omega
 have hsl : (splice c2 (m + S) (l.map bc)).length = c2.length := length_splice _ _ _ (by simp; omega)
 have HI := hide (wint_any B (.slice (some ⟨g, 0, none⟩) m c2.length) m (splice c2 (m + S) (l.map bc)) l.length w2 ⟨by omega, by omega, .inr ⟨g, by rw [hsl], hBg, hg2⟩⟩ hsz2 (by omega) (by omega))
 have HB2 := hide hb2
 have hcm := HR.out.1
 have HGT : Hid (∀ w3, w2.grownBy w3 (some g) → w'.grownBy w3 (Value.slice ao m cur.length).ownBlock) := hide (fun w3 h => by rw [hw2] at h; exact grown_text HB.out (fun k hk => setRow_other w1 g k _ hk) (by simp) rfl rfl rfl h hblk)
 clear hw2 hg2 hb2 hsl HCS HCE
 go_wp2_with fail
 refine (HI.out).mono ?_
 rintro e w3 ⟨v', cur', rfl, hp⟩
 rw [HL.out] at hp
 obtain ⟨rfl, hown⟩ := text_row (cur := cur) (l := l) HL.out hroom hmx hBg HT.out hcm hp
 have HO := hide hown
 have HB3 := hide (HB2.out.trans hp.below)
 have HG3 := hide (HGT.out _ hp.grown)
 have HK : Hid ((some g = (Value.slice ao m cur.length).ownBlock) ∨ ∀ g', some g = some g' → w'.heap.size ≤ g') := hide (hblk.imp (fun q => q.symm) (fun q g' e => by cases e; exact q))
 clear hown hp HI
 go_wp2_with fail
 go_ret
 exact ⟨_, rfl, HO.out, HB3.out, HG3.out, HK.out⟩
theorem wtext_none (B : Nat) (v : Value) (m : Nat) (cur : List Value) (sp : Option Addr) (sc : Nat) (w : World) (hr : Rw B w v m cur) (hB : B ≤ w.heap.size) (hm : m ≤ 800000) :
  Calls Tryz.prog 70 #[v, .slice sp 0 sc] w fun e w' => ∃ v', e = .returned v' ∧ w'.ownsRow B 5 1 v' (m + 1 + 0) (cur.take m ++ bv (intL 0 ++ [])) ∧ Below B w w' ∧ w.grownBy w' v.ownBlock ∧ (v'.ownBlock = v.ownBlock ∨ ∀ g, v'.ownBlock = some g → w.heap.size ≤ g) := by
 have HG := hide (fun W (h : Rw B W v m cur) => grow_any B v m 1 cur W h)
 obtain ⟨ao, rfl, hn, hs⟩ := rw_form hr
 have HN := hide (fun W => natural_any 0 W (by omega))
 rw [show abv' 0 = 0 by decide] at HN
 have HS := hide (wsize_any 0)
 rw [show szL 0 = 1 by decide] at HS
 have HR := hide hr
 have HL := hide (show (intL 0).length = 1 by decide)
 clear hs hn hr
 go_enter Tryz.func70, Tryz.ntmps70
 go_wp2_with (first
  | (go_at_call 80; refine (HN.out _).mono ?_; rintro e w' ⟨rfl, rfl⟩)
  | (go_at_call 101; refine (HS.out _).mono ?_; rintro e w' ⟨rfl, rfl⟩))
 rw [show ((m : Int) + 1 - (m : Int)) = ((1 : Nat) : Int) by omega]
 refine (HG.out _ HR.out hB (by omega) (by omega)).mono ?_
 rintro e w1 ⟨g, c2, rfl, hh, hBg, hblk, hroom, hmx, htk, hb⟩
 have hsl : (splice c2 (m + 1) (([] : List Int).map bc)).length = c2.length := length_splice _ _ _ (by simp; omega)
 have HG2 := hide (show w1.heap[g]? = some (.cells (splice c2 (m + 1) (([] : List Int).map bc)).toArray 5 (0, 0)) by simpa [splice] using hh)
 have hcn : ∀ dp dCap, (Builtin.copy_ #[22, 22] 3 #[.slice dp 0 dCap, .slice sp 0 sc]).run Tryz.prog w1 = .ok (goInt 0) w1 := fun dp dCap => run_copy_none (P := Tryz.prog) w1 22 22 3 5 dp sp 0 dCap 0 sc Tryz.underlying22 size5 rfl
 have hsz2 : B ≤ w1.heap.size := by have := hb.size; omega
 have hmx' : c2.length ≤ 9223372036854775807 := by unfold maxLen at hmx; omega
 have HB := hide hb
 have HT := hide htk
 have hcm := HR.out.1
 clear hh hb htk HN HS HG
 obtain ⟨C, hCC⟩ : ∃ C, c2.length = C := ⟨_, rfl⟩
 rw [hCC] at hroom hmx hmx' ⊢
 have HCC := hide hCC
 clear hCC
 by_cases hC : C = m + 1
 ·subst hC
  have HI := hide (wint_any B (.slice (some ⟨g, 0, none⟩) m (m + 1)) m (splice c2 (m + 1) (([] : List Int).map bc)) 0 w1 ⟨by rw [hsl, HCC.out]; omega, by rw [hsl, HCC.out]; exact hmx, .inr ⟨g, by rw [hsl, HCC.out], hBg, HG2.out⟩⟩ hsz2 (by omega) (by omega))
  go_wp2_with fail
  refine (HI.out).mono ?_
  rintro e w3 ⟨v', cur', rfl, hp⟩
  rw [HL.out] at hp
  have ht := text_row (cur := cur) (l := []) (N := intL 0) HL.out (by simp; rw [HCC.out]; omega) (by rw [HCC.out]; exact hmx) hBg HT.out hcm (by rw [HCC.out]; exact hp)
  rw [HCC.out] at ht
  obtain ⟨rfl, hown⟩ := ht
  have HO := hide hown
  have HB3 := hide ((HB.out.mono hB).trans hp.below)
  have HG3 := hide (grown_text HB.out (fun _ _ => rfl) rfl rfl rfl rfl hp.grown hblk)
  have HK : Hid ((some g = (Value.slice ao m cur.length).ownBlock) ∨ ∀ g', some g = some g' → w'.heap.size ≤ g') := hide (hblk.imp (fun q => q.symm) (fun q g' e => by cases e; exact q))
  clear hown hp HI
  go_wp2_with fail
  go_ret
  exact ⟨_, rfl, HO.out, HB3.out, HG3.out, HK.out⟩
 ·have HI := hide (wint_any B (.slice (some ⟨g, 0, none⟩) m C) m (splice c2 (m + 1) (([] : List Int).map bc)) 0 w1 ⟨by rw [hsl, HCC.out]; omega, by rw [hsl, HCC.out]; exact hmx, .inr ⟨g, by rw [hsl, HCC.out], hBg, HG2.out⟩⟩ hsz2 (by omega) (by omega))
  go_wp2_with fail
  refine (HI.out).mono ?_
  rintro e w3 ⟨v', cur', rfl, hp⟩
  rw [HL.out] at hp
  have ht := text_row (cur := cur) (l := []) (N := intL 0) HL.out (by simp; rw [HCC.out]; omega) (by rw [HCC.out]; exact hmx) hBg HT.out hcm (by rw [HCC.out]; exact hp)
  rw [HCC.out] at ht
  obtain ⟨rfl, hown⟩ := ht
  have HO := hide hown
  have HB3 := hide ((HB.out.mono hB).trans hp.below)
  have HG3 := hide (grown_text HB.out (fun _ _ => rfl) rfl rfl rfl rfl hp.grown hblk)
  have HK : Hid ((some g = (Value.slice ao m cur.length).ownBlock) ∨ ∀ g', some g = some g' → w'.heap.size ≤ g') := hide (hblk.imp (fun q => q.symm) (fun q g' e => by cases e; exact q))
  clear hown hp HI
  go_wp2_with fail
  go_ret
  exact ⟨_, rfl, HO.out, HB3.out, HG3.out, HK.out⟩
theorem wtext_anyg (B : Nat) (v u : Value) (m : Nat) (cur : List Value) (l : List Int) (w : World) (hr : Rw B w v m cur) (hB : B ≤ w.heap.size) (hm : m ≤ 800000) (hl : l.length ≤ 4000) (hu : Sl bc w u l) (hoff : 0 < l.length → ∀ b o k c, u = .slice (some ⟨b, o, none⟩) k c → v.ownBlock ≠ some b) :
  Calls Tryz.prog 70 #[v, u] w fun e w' => ∃ v', e = .returned v' ∧ w'.ownsRow B 5 1 v' (m + (intL l.length ++ l).length) (cur.take m ++ bv (intL l.length ++ l)) ∧ Below B w w' ∧ w.grownBy w' v.ownBlock ∧ (v'.ownBlock = v.ownBlock ∨ ∀ g, v'.ownBlock = some g → w.heap.size ≤ g) := by
 rw [List.length_append, ← Nat.add_assoc]
 by_cases h0 : 0 < l.length
 ·rcases hu with ⟨ao, cap, rfl, rfl⟩ | ⟨b, o, cap, rfl, h2, h3⟩
  ·simp at h0
  ·exact wtext_some B v m _ cur b o cap l w hr hB hm hl rfl h0 (hoff h0 b o _ _ rfl) h3
 ·obtain rfl : l = [] := List.eq_nil_of_length_eq_zero (by omega)
  obtain ⟨ao, cap, rfl⟩ := hu.form
  exact wtext_none B v m cur ao cap w hr hB hm
def Ow (B : Nat) (W : World) (v : Value) (l : List Int) : Prop := ∃ cur, Rw B W v l.length cur ∧ cur.take l.length = bv l
theorem Ow.below {B : Nat} {W W' : World} {v : Value} {l : List Int} (h : Ow B W v l) (hb : Below W.heap.size W W') : Ow B W' v l := by
 obtain ⟨cur, h1, h2⟩ := h
 exact ⟨cur, h1.below hb, h2⟩
theorem Ow.put {B : Nat} {W W' : World} {v v' : Value} {l news : List Int} {cur cur' : List Value} {m : Nat} (h2 : cur.take l.length = bv l) (hp : Put B W v l.length cur W' v' m cur' (bv news)) : Ow B W' v' (l ++ news) := by
 have hm : m = news.length := by rw [← hp.len]; simp [bv]
 subst hm
 refine ⟨cur', ?_, ?_⟩
 ·rw [List.length_append]; exact hp.rw
 ·rw [List.length_append, hp.tk, h2]; simp [bv]
theorem Ow.owns {B : Nat} {W' : World} {v' : Value} {l news : List Int} {cur : List Value} {n : Nat} (hn : n = l.length + news.length) (h2 : cur.take l.length = bv l) (hp : W'.ownsRow B 5 1 v' n (cur.take l.length ++ bv news)) : Ow B W' v' (l ++ news) := by
 subst hn
 obtain ⟨cur', h1, h3⟩ := Rw.of hp
 exact ⟨cur', by rw [List.length_append]; exact h1, by rw [List.length_append, h3, h2]; simp [bv]⟩
theorem Ow.sl {B : Nat} {W : World} {v : Value} {l : List Int} (h : Ow B W v l) : Sl bc W v l := by
 obtain ⟨cur, h1, h2⟩ := h
 have := h1.owns
 rw [h2] at this
 exact sl_of_owns (base := B) (e := 5) (by simpa [bv_eq] using this)
theorem ow_nil (B : Nat) (W : World) : Ow B W (.slice none 0 0) [] := ⟨[], rw_nil B W, rfl⟩
structure Gw (B : Nat) (w W : World) (u v : Value) : Prop where
 below : Below B w W
 grown : w.grownBy W u.ownBlock
 blk : v.ownBlock = u.ownBlock ∨ ∀ g, v.ownBlock = some g → w.heap.size ≤ g
theorem Gw.refl (B : Nat) (w : World) (u : Value) : Gw B w w u u := ⟨Below.refl _ _, ⟨rfl, rfl, rfl, Nat.le_refl _, fun _ _ _ => rfl⟩, .inl rfl⟩
theorem Gw.trans {B : Nat} {w w1 w2 : World} {u v v2 : Value} (h : Gw B w w1 u v) (k : Gw B w1 w2 v v2) : Gw B w w2 u v2 := by
 refine ⟨h.below.trans k.below, ⟨k.grown.os.trans h.grown.os, k.grown.tape.trans h.grown.tape, k.grown.output.trans h.grown.output, Nat.le_trans h.grown.size k.grown.size, fun i hi hp => ?_⟩, ?_⟩
 ·refine (k.grown.block i (Nat.lt_of_lt_of_le hi h.grown.size) ?_).trans (h.grown.block i hi hp)
  rcases h.blk with q | q
  ·rw [q]; exact hp
  ·intro e
   have := q i e.symm
   omega
 ·rcases k.blk with q | q
  ·rw [q]; exact h.blk
  ·exact .inr fun g hg => Nat.le_trans h.grown.size (q g hg)
theorem Gw.of {B : Nat} {w W : World} (u : Value) (h : Below w.heap.size w W) (hB : B ≤ w.heap.size) : Gw B w W u u :=
 ⟨h.mono hB, ⟨h.os, h.tape, h.output, h.size, fun k hk _ => h.block k hk⟩, .inl rfl⟩
theorem Gw.put {B : Nat} {W W' : World} {v v' : Value} {n m : Nat} {cur cur' news : List Value} (hp : Put B W v n cur W' v' m cur' news) : Gw B W W' v v' := ⟨hp.below, hp.grown, hp.blk⟩
theorem Gw.cell {B : Nat} {w W : World} {u v : Value} (h : Gw B w W u v) {b : Nat} (hb : b < w.heap.size) (hn : u.ownBlock ≠ some b) (i : Nat) : W.cell? ⟨b, i, none⟩ = w.cell? ⟨b, i, none⟩ :=
 World.cell?_of_block (h.grown.block b hb (fun e => hn e.symm))
theorem Gw.range {B : Nat} {w W : World} {u v : Value} {p : Nat} {x : Value} {xs : List Value} (h : Gw B w W u v) (hr : w.rangeAt p 0 (x :: xs)) (hn : u.ownBlock ≠ some p) : W.rangeAt p 0 (x :: xs) := fun j y hy =>
 (h.cell (cell_block (hr 0 _ rfl) : p < w.heap.size) hn (0 + j)).trans (hr j y hy)
theorem encs_take {α : Type} (en : α → List Int) (hs : List Bool) (xs : List α) (j : Nat) (hj : j < hs.length) (hl : hs.length = xs.length) : encs en (hs.take (j + 1)) (xs.take (j + 1)) = encs en (hs.take j) (xs.take j) ++ (if hs[j] then en (xs[j]'(by omega)) else []) := by
 rw [List.take_succ_eq_append_getElem hj, List.take_succ_eq_append_getElem (show j < xs.length by omega)]
 exact encs_snoc en _ _ _ _ (by simp [hl])
end Go.Proofs.YtjjpfajbljbelaaGreatDoor
