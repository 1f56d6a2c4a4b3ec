/-
  POINTERS TO A RECORD's FIELDS (record.numbers, texts, rows). No condition.
  A TEXT AND A ROW WRITTEN BEHIND BYTES (wire.Text, Row; slices.Grow). Conditions: the bytes are nil or a row of their own, and fewer than a million; what is written does not lie in that row.
  A TEXT WRITTEN BEHIND BYTES (wire.Text). Conditions: the bytes are nil or a row of their own, and fewer than a million; the text has at most four thousand and does not lie in that row.
  A ROW WRITTEN BEHIND BYTES (wire.Row). Conditions: the bytes are nil or a row of their own, and fewer than a million; the row has at most four thousand numbers and does not lie in that row.
  A RECORD AS BYTES, OR WHAT IS WRONG WITH IT (record.Put): what the document says. Conditions: its rows' cells hold them, texts of no more than a thousand letters; the bytes that are ahead are nil or a row of their own, the record's rows lie ahead of it.
  A RECORD AS BYTES, behind any others (record.Put, of a record that may be).
-/
import Derived.Test.YtkpknkhacmggnaaGreatDoorJKWputba5
import Derived.BigRegion
import Derived.Test.YtkpknkhacmggnaaGreatDoorJKFramea5
import Derived.Lib.AppendZerosOnto
import Derived.Test.YtkpknkhacmggnaaGreatDoorJKRecChc
namespace Go.Proofs.YtkpknkhacmggnaaGreatDoor
open Go.RowKit

def pts8 (p : Nat) : Value := .agg #[.pointer (some ⟨p, 1, none⟩), .pointer (some ⟨p, 2, none⟩), .pointer (some ⟨p, 3, none⟩), .pointer (some ⟨p, 4, none⟩), .pointer (some ⟨p, 5, none⟩), .pointer (some ⟨p, 6, none⟩), .pointer (some ⟨p, 7, none⟩), .pointer (some ⟨p, 8, none⟩)]
def ptsT (p : Nat) : Value := .agg #[.pointer (some ⟨p, 10, none⟩), .pointer (some ⟨p, 11, none⟩), .pointer (some ⟨p, 12, none⟩), .pointer (some ⟨p, 13, none⟩)]
def ptsR (p : Nat) : Value := .agg #[.pointer (some ⟨p, 14, none⟩), .pointer (some ⟨p, 15, none⟩), .pointer (some ⟨p, 16, none⟩), .pointer (some ⟨p, 17, none⟩)]
set_option maxRecDepth 100000 in
set_option maxHeartbeats 4000000 in
theorem texts_any (p : Nat) (w : World) : Calls Tryz.prog 150 #[.pointer (some ⟨p, 0, none⟩)] w fun e w' => e = .returned (ptsT p) ∧ Below w.heap.size w w' := by
  go_enter Tryz.func150, Tryz.ntmps150
  go_wp2
  go_region
  go_wp2
  refine bodyPost_ret (v := ptsT p) (by simp [results, Tryz.results150, go_sem, ptsT]) rfl ⟨rfl, ?_⟩
  exact ((Below.refl _ _).alloc (Nat.le_refl _) _).drew
set_option maxRecDepth 100000 in
set_option maxHeartbeats 4000000 in
theorem numbers_pts (p : Nat) (w : World) : Calls Tryz.prog 149 #[.pointer (some ⟨p, 0, none⟩)] w fun e w' => e = .returned (pts8 p) ∧ Below w.heap.size w w' := by
  go_enter Tryz.func149, Tryz.ntmps149
  go_wp2
  go_region
  go_wp2
  refine bodyPost_ret (v := pts8 p) (by simp [results, Tryz.results149, go_sem, pts8]) rfl ⟨rfl, ?_⟩
  exact ((Below.refl _ _).alloc (Nat.le_refl _) _).drew
set_option maxRecDepth 100000 in
set_option maxHeartbeats 4000000 in
theorem rows_any (p : Nat) (w : World) : Calls Tryz.prog 151 #[.pointer (some ⟨p, 0, none⟩)] w fun e w' => e = .returned (ptsR p) ∧ Below w.heap.size w w' := by
  go_enter Tryz.func151, Tryz.ntmps151
  go_wp2
  go_region
  go_wp2
  refine bodyPost_ret (v := ptsR p) (by simp [results, Tryz.results151, go_sem, ptsR]) rfl ⟨rfl, ?_⟩
  exact ((Below.refl _ _).alloc (Nat.le_refl _) _).drew
end Go.Proofs.YtkpknkhacmggnaaGreatDoor
namespace Go.Proofs.YtkpknkhacmggnaaGreatDoor
open Go.RowKit

theorem rw_form {B : Nat} {w : World} {v : Value} {m : Nat} {cur : List Value} (h : Rw B w v m cur) : ∃ ao, v = .slice ao m cur.length ∧ (ao = none → m = 0 ∧ cur = []) ∧ ∀ a, ao = some a → ∃ g, a = ⟨g, 0, none⟩ ∧ B ≤ g ∧ w.heap[g]? = some (.cells cur.toArray 5 (0, 0)) := by
  obtain ⟨r1, r2, r3⟩ := h
  rcases r3 with ⟨rfl, rfl⟩ | ⟨g, rfl, a2, a3⟩
  · have : m = 0 := by simpa using r1
    subst this
    exact ⟨none, rfl, fun _ => ⟨rfl, rfl⟩, fun a ha => by cases ha⟩
  · exact ⟨some ⟨g, 0, none⟩, rfl, (fun h => by cases h), fun a ha => ⟨g, by cases ha; rfl, a2, a3⟩⟩
set_option maxRecDepth 100000 in
set_option maxHeartbeats 8000000 in
theorem grow_room (ao : Option Addr) (m c k : Nat) (w : World) (hm : m ≤ c) (hc : c ≤ 9223372036854775807) (hk : k ≤ 900000) (hr : m + k ≤ c) :
    Calls Tryz.prog 113 #[.slice ao m c, .int .i64 (k : Int)] w fun e w' => e = .returned (.slice ao m c) ∧ w' = w := by
  have h1 : ¬ (k : Int) < 0 := by omega
  have h2 : wrap64 ((c : Int) - (m : Int)) = (c : Int) - (m : Int) := by unfold wrap64; omega
  have h3 : wrap64 ((k : Int) - ((c : Int) - (m : Int))) = (k : Int) - ((c : Int) - (m : Int)) := by unfold wrap64; omega
  have h4 : ¬ (k : Int) - ((c : Int) - (m : Int)) > 0 := by omega
  go_enter Tryz.func113, Tryz.ntmps113
  go_wp2
  go_ret
  exact ⟨rfl, rfl⟩
theorem wpList_append_run (w w' : World) {ops : Array Oper} {rest : List Oper} {o : Oper} {a : Act} {Q : Exit → Act → World → Prop} (hgd : o.guard = none) (s x : Operand)
    (ho : o.op = .call { callee := .builtin .append, args := #[s, x], argTypes := #[23, 3] }) (vs vx v' : Value) (hs : a.eval s = vs) (hx : a.eval x = vx)
    (hrun : ∀ ty, (Builtin.append_ #[23, 3] ty #[vs, vx]).run Tryz.prog w = .ok v' w') (h : wpList Tryz.prog ops Q rest (a.put o.dst v') w') : wpList Tryz.prog ops Q (o :: rest) a w := by
  refine wpList_plain hgd fun K hK => ?_
  unfold Oper.wp
  simp [execOp, ho, resolve, invoke, builtin, hs, hx, hrun, Result.andThen]
  exact hK _ _ h
set_option maxRecDepth 100000 in
set_option maxHeartbeats 8000000 in
theorem grow_more (ao : Option Addr) (m k : Nat) (cur : List Value) (w : World) (hm : m ≤ cur.length) (hk : m + k ≤ 900000) (hr : cur.length < m + k) (hnil : ao = none → cur = []) (hcs : ∀ a, ao = some a → ∀ j u, cur[j]? = some u → w.cell? (a.add j) = some u) :
    Calls Tryz.prog 113 #[.slice ao m cur.length, .int .i64 (k : Int)] w fun e w' => ∃ c2 : List Value, e = .returned (.slice (some ⟨w.heap.size, 0, none⟩) m c2.length) ∧ w' = (w.alloc (.cells c2.toArray 5)).drew ∧ m + k ≤ c2.length ∧ c2.length ≤ maxLen ∧ c2.take cur.length = cur := by
  obtain ⟨i0, hi, hz0, hz1, hz2⟩ := info_parts infoB
  have h1 : ¬ (k : Int) < 0 := by omega
  have h2 : wrap64 ((cur.length : Int) - (m : Int)) = (cur.length : Int) - (m : Int) := by unfold wrap64; omega
  have h3 : wrap64 ((k : Int) - ((cur.length : Int) - (m : Int))) = (k : Int) - ((cur.length : Int) - (m : Int)) := by unfold wrap64; omega
  have h4 : (k : Int) - ((cur.length : Int) - (m : Int)) > 0 := by omega
  have hold : (Builtin.firstCells i0.size cur.length (.slice ao cur.length cur.length)).run Tryz.prog w.drew = .ok cur.toArray w.drew := by
    cases ao with
    | none => rw [hnil rfl]; exact run_firstCells_none _ _ _ _ _
    | some a => exact run_firstCells_some _ _ _ _ _ _ _ (by rw [hz1]; omega) (fun j u hj => hcs a rfl j u hj)
  have hw : wrap64 ((cur.length : Int)) = cur.length := by unfold wrap64; omega
  have hck : cur.length + (m + k - cur.length) = m + k := by omega
  have hap : ∀ ty, (Builtin.append_ #[23, 3] ty #[.slice ao cur.length cur.length, .int .i64 ((k : Int) - ((cur.length : Int) - (m : Int)))]).run Tryz.prog w =
      .ok (.slice (some ⟨w.heap.size, 0, none⟩) (m + k) (grownCap w (m + k) cur.length 5)) (w.drew.alloc (.cells (cur.toArray ++ Builtin.zeroCells (Value.int .u8 0).cells (m + k - cur.length) ++ Builtin.zeroCells (Value.int .u8 0).cells (grownCap w (m + k) cur.length 5 - (m + k))) 5)) := fun ty => by
    have h := Lib.run_append_grow_zeros (P := Tryz.prog) w 23 3 ty 5 i0 (.int .u8 0) .i64 .i64 Tryz.underlying23 Tryz.underlying3 hi hz0 ao cur.length cur.length cur hold (m + k - cur.length) (by omega) (by omega) (by omega) (by omega) (by rw [hz2]; omega) (by rw [hck]; exact growslice_fits hr (by rw [hz2]; omega))
    rw [hck] at h
    rw [show (k : Int) - ((cur.length : Int) - (m : Int)) = ((m + k - cur.length : Nat) : Int) by omega]
    exact h
  have hGn : m + k ≤ grownCap w (m + k) cur.length 5 := grownCap_ge w _ _ _
  have hGm : grownCap w (m + k) cur.length 5 ≤ maxLen := grownCap_le_maxLen w _ _ _ (by unfold maxLen; omega)
  generalize grownCap w (m + k) cur.length 5 = G at *
  have hG63 : G ≤ 9223372036854775807 := by unfold maxLen at hGm; omega
  have HM := hide hGm
  clear hold hcs hck hGm
  have fin : ∀ zs : List Value, zs = (Builtin.zeroCells (Value.int .u8 0).cells (m + k - cur.length) ++ Builtin.zeroCells (Value.int .u8 0).cells (G - (m + k))).toList → (cur ++ zs).length = G ∧ (cur ++ zs).toArray = cur.toArray ++ Builtin.zeroCells (Value.int .u8 0).cells (m + k - cur.length) ++ Builtin.zeroCells (Value.int .u8 0).cells (G - (m + k)) := by
    rintro zs rfl
    refine ⟨?_, ?_⟩
    · have e1 : (Value.int .u8 0).cells.size = 1 := rfl
      simp only [List.length_append, Array.length_toList, Array.size_append, size_zeroCells, e1]
      omega
    · apply Array.ext'
      simp
  have FIN := hide (fin _ rfl)
  clear fin
  generalize (Builtin.zeroCells (Value.int .u8 0).cells (m + k - cur.length) ++ Builtin.zeroCells (Value.int .u8 0).cells (G - (m + k))).toList = ZS at *
  generalize cur.toArray ++ Builtin.zeroCells (Value.int .u8 0).cells (m + k - cur.length) ++ Builtin.zeroCells (Value.int .u8 0).cells (G - (m + k)) = CS at *
  have R : ∃ c2 : List Value, Ending.returned (.slice (some ⟨w.heap.size, 0, none⟩) m G) = .returned (.slice (some ⟨w.heap.size, 0, none⟩) m c2.length) ∧ (w.alloc (.cells CS 5)).drew = (w.alloc (.cells c2.toArray 5)).drew ∧ m + k ≤ c2.length ∧ c2.length ≤ maxLen ∧ c2.take cur.length = cur :=
    ⟨cur ++ ZS, by rw [FIN.out.1], by rw [FIN.out.2], by rw [FIN.out.1]; exact hGn, by rw [FIN.out.1]; exact HM.out, by simp⟩
  have HR := hide R
  have HAP := hide hap
  clear R FIN HM hap
  cases ao with
  | none =>
    obtain rfl := hnil rfl
    obtain rfl : m = 0 := by simpa using hm
    go_enter Tryz.func113, Tryz.ntmps113
    go_wp2_with (first | (at_builtin; refine wpList_append_run _ _ rfl _ _ rfl _ _ _ rfl rfl HAP.out ?_))
    go_ret
    simpa using HR.out
  | some a =>
    go_enter Tryz.func113, Tryz.ntmps113
    go_wp2_with (first | (at_builtin; refine wpList_append_run _ _ rfl _ _ rfl _ _ _ rfl rfl HAP.out ?_))
    go_ret
    simpa using HR.out
/-- Behind a Grow: a row of its own, with room. -/
theorem grow_any (B : Nat) (v : Value) (m k : Nat) (cur : List Value) (w : World) (hr : Rw B w v m cur) (hB : B ≤ w.heap.size) (hk0 : 0 < k) (hk : m + k ≤ 900000) :
    Calls Tryz.prog 113 #[v, .int .i64 (k : Int)] w fun e w' => ∃ (g : Nat) (c2 : List Value), e = .returned (.slice (some ⟨g, 0, none⟩) m c2.length) ∧ w'.heap[g]? = some (.cells c2.toArray 5 (0, 0)) ∧ B ≤ g ∧ (v.ownBlock = some g ∨ w.heap.size ≤ g) ∧ m + k ≤ c2.length ∧ c2.length ≤ maxLen ∧ c2.take m = cur.take m ∧ Below w.heap.size w w' := by
  obtain ⟨ao, rfl, hn, hs⟩ := rw_form hr
  obtain ⟨r1, r2, _⟩ := hr
  by_cases hf : m + k ≤ cur.length
  · cases ao with
    | none =>
      obtain ⟨_, rfl⟩ := hn rfl
      simp at hf
      omega
    | some a =>
      obtain ⟨g, rfl, hg, hh⟩ := hs a rfl
      refine (grow_room (some ⟨g, 0, none⟩) m cur.length k w r1 (by unfold maxLen at r2; omega) (by omega) hf).mono ?_
      rintro e w' ⟨rfl, rfl⟩
      exact ⟨g, cur, rfl, hh, hg, .inl rfl, hf, r2, rfl, Below.refl _ _⟩
  · refine (grow_more ao m k cur w r1 hk (by omega) (fun h => (hn h).2) ?_).mono ?_
    · intro a ha j u hj
      obtain ⟨g, rfl, _, hh⟩ := hs a ha
      rw [Addr.add_lit]
      simp only [World.cell?, hh, Nat.zero_add]
      simpa using hj
    · rintro e w' ⟨c2, rfl, rfl, h1, h2, h3⟩
      refine ⟨w.heap.size, c2, rfl, ?_, hB, .inr (Nat.le_refl _), h1, h2, ?_, ((Below.refl _ _).alloc (Nat.le_refl _) _).drew⟩
      · show (w.alloc (.cells c2.toArray 5)).heap[w.heap.size]? = _
        exact Array.getElem?_push_size
      · have := congrArg (List.take m) h3
        rw [List.take_take, Nat.min_eq_left r1] at this
        exact this
theorem size5 : (Tryz.prog.info? 5).map (·.size) = some 1 := by kernel_rfl
end Go.Proofs.YtkpknkhacmggnaaGreatDoor
namespace Go.Proofs.YtkpknkhacmggnaaGreatDoor
open Go.RowKit

theorem szL_intL (l : Nat) (h : l ≤ 4000) : szL l = (intL l).length := by
  unfold szL intL
  rw [if_neg (by omega), show capN (l : Int) = l from if_neg (by omega)]
theorem szL_pos (n : Int) : 0 < szL n := by
  unfold szL numL
  split
  · simp
  · split
    · simp
    · split <;> simp
/-- The row behind it: what was there, how long the text is, the text. -/
theorem text_row {B m S g : Nat} {w2 w3 : World} {cur c2 cur' : List Value} {l : List Int} {v' : Value} {N : List Int} (hN : N.length = S) (hroom : m + (S + l.length) ≤ c2.length) (hmx : c2.length ≤ maxLen) (hBg : B ≤ g) (htk : c2.take m = cur.take m) (hcm : m ≤ cur.length)
    (hp : Put B w2 (.slice (some ⟨g, 0, none⟩) m c2.length) m (splice c2 (m + S) (l.map bc)) w3 v' S cur' (bv N)) :
    v' = .slice (some ⟨g, 0, none⟩) (m + S) c2.length ∧ w3.ownsRow B 5 1 (.slice (some ⟨g, 0, none⟩) (m + S + l.length) c2.length) (m + S + l.length) (cur.take m ++ bv (N ++ l)) := by
  have hsl : (splice c2 (m + S) (l.map bc)).length = c2.length := length_splice _ _ _ (by simp; omega)
  obtain ⟨f1, f2, f3⟩ := hp.fit (by rw [hsl]; omega)
  obtain ⟨r1, r2, r3⟩ := hp.rw
  rw [hsl] at f2
  rcases r3 with ⟨rfl, rfl⟩ | ⟨g', rfl, a2, a3⟩
  · cases f1
  · have hg : g' = g := by
      have : some g' = some g := f1
      exact Option.some.inj this
    subst hg
    refine ⟨by rw [f2], ⟨?_, .inr ⟨g', c2.length, cur'.toArray, rfl, hBg, a3, by omega, hmx, by simp [f2], ?_⟩⟩⟩
    · rw [List.length_append, List.length_take, Nat.min_eq_left hcm]
      simp [bv]; omega
    · have e1 := hp.tk
      have e2 : (splice c2 (m + S) (l.map bc)).take m = cur.take m := by
        rw [← htk]
        unfold splice
        rw [List.take_append_of_le_length (by simp; omega), List.take_take, Nat.min_eq_left (by omega)]
      have e3 : (splice c2 (m + S) (l.map bc)).drop (m + S) = l.map bc ++ c2.drop (m + S + (l.map bc).length) := by
        unfold splice
        rw [List.drop_append, List.drop_eq_nil_of_le (by simp; omega), List.nil_append]
        have : m + S - (c2.take (m + S)).length = 0 := by simp; omega
        rw [this, List.drop_zero]
      rw [e2] at e1
      rw [e3] at f3
      simp only [Nat.mul_one]
      have e4 : (l.map bc ++ c2.drop (m + S + (l.map bc).length)).take l.length = l.map bc := by
        rw [List.take_append_of_le_length (by simp)]
        exact List.take_of_length_le (by simp)
      rw [List.take_add, e1, f3, e4]
      simp [bv_eq]
/-- What has grown: the row alone, by way of a row with room. -/
theorem grown_text {w w1 w2 w3 : World} {g : Nat} {ob : Option Nat} (hb : Below w.heap.size w w1) (h2 : ∀ k, k ≠ g → w2.heap[k]? = w1.heap[k]?) (hs : w2.heap.size = w1.heap.size) (e1 : w2.os = w1.os) (e2 : w2.tape = w1.tape) (e3 : w2.output = w1.output) (hg : w2.grownBy w3 (some g)) (hblk : ob = some g ∨ w.heap.size ≤ g) : w.grownBy w3 ob :=
  ⟨hg.os.trans (e1.trans hb.os), hg.tape.trans (e2.trans hb.tape), hg.output.trans (e3.trans hb.output), Nat.le_trans hb.size (by rw [← hs]; exact hg.size), fun k hk hne => by
    have hkg : k ≠ g := by
      rintro rfl
      rcases hblk with q | q
      · exact hne q.symm
      · omega
    rw [hg.block k (by rw [hs]; exact Nat.lt_of_lt_of_le hk hb.size) (fun q => hkg (Option.some.inj q)), h2 k hkg, hb.block k hk]⟩
set_option maxRecDepth 100000 in
set_option maxHeartbeats 8000000 in
theorem wtext_some (B : Nat) (v : Value) (m S : Nat) (cur : List Value) (b o sc : Nat) (l : List Int) (w : World) (hr : Rw B w v m cur) (hB : B ≤ w.heap.size) (hm : m ≤ 800000) (hl : l.length ≤ 4000) (hS : (intL (l.length : Nat)).length = S) (h0 : 0 < l.length) (hne : v.ownBlock ≠ some b) (h3 : ∀ i (h : i < l.length), w.cell? ⟨b, o + i, none⟩ = some (bc l[i])) :
    Calls Tryz.prog 76 #[v, .slice (some ⟨b, o, none⟩) l.length sc] w fun e w' => ∃ v', e = .returned v' ∧ w'.ownsRow B 5 1 v' (m + S + l.length) (cur.take m ++ bv (intL (l.length : Nat) ++ l)) ∧ Below B w w' ∧ w.grownBy w' v.ownBlock ∧ (v'.ownBlock = v.ownBlock ∨ ∀ g, v'.ownBlock = some g → w.heap.size ≤ g) := by
  have hS1 : 0 < S := by have h := szL_pos (l.length : Nat); rw [szL_intL _ hl] at h; omega
  have hS8 : S ≤ 8 := by rw [← hS]; exact intL_le _
  have HG := hide (fun W (h : Rw B W v m cur) => grow_any B v m (S + l.length) cur W h)
  obtain ⟨ao, rfl, hn, hs⟩ := rw_form hr
  have HN := hide (fun W => natural_any (l.length : Nat) W (by omega))
  rw [show abv' ((l.length : Nat) : Int) = (l.length : Nat) by unfold abv'; rw [if_neg (by omega)]] at HN
  have HS := hide (wsize_any (l.length : Nat))
  rw [show szL (l.length : Nat) = (S : Int) by rw [szL_intL _ hl, hS]] at HS
  have HR := hide hr
  have HL := hide hS
  have H3 := hide h3
  clear h3
  clear hs hn hr hS
  go_enter Tryz.func76, Tryz.ntmps76
  go_wp2_with (first
    | (go_at_call 111; refine (HN.out _).mono ?_; rintro e w' ⟨rfl, rfl⟩)
    | (go_at_call 112; refine (HS.out _).mono ?_; rintro e w' ⟨rfl, rfl⟩))
  rw [show ((m : Int) + (S : Int) + (l.length : Int) - (m : Int)) = ((S + l.length : Nat) : Int) by omega]
  refine (HG.out _ HR.out hB (by omega) (by omega)).mono ?_
  rintro e w1 ⟨g, c2, rfl, hh, hBg, hblk, hroom, hmx, htk, hb⟩
  have hmx' : c2.length ≤ 9223372036854775807 := by unfold maxLen at hmx; omega
  have HH := hide hh
  have HB := hide hb
  have HT := hide htk
  clear hh hb htk HN HS HG
  have hneC : ¬ c2.length = m + S := by omega
  have hbg : b ≠ g := by
    intro e
    subst e
    rcases hblk with q | q
    · exact hne q
    · have := cell_block (H3.out 0 h0)
      simp at this
      omega
  have HCS := hide (fun j u (hj : (l.map bc)[j]? = some u) => show w1.cell? ((⟨b, o, none⟩ : Addr).add j) = some u from Sl.news (f := bc) (w := w1) (b := b) (o := o) (l := l) (fun i hi => by rw [HB.out.cell (p := ⟨b, o + i, none⟩) (cell_block (H3.out i hi))]; exact H3.out i hi) j u hj)
  obtain ⟨CS, hCS⟩ : ∃ CS, CS = l.map bc := ⟨_, rfl⟩
  have HCE := hide hCS
  have hCL : CS.length = l.length := by rw [hCS]; simp
  rw [← hCS] at HCS
  clear hCS
  have hrow := run_copy_row (P := Tryz.prog) w1 23 23 3 5 g (m + S) l.length (c2.length - (m + S)) ⟨b, o, none⟩ l.length sc c2.toArray 5 CS Tryz.underlying23 size5 HH.out (by rw [hCL]; exact (Nat.min_self _).symm) HCS.out (by simp; omega) (by rw [HCE.out]; exact Sl.one (fun _ => rfl) l)
  rw [hCL] at hrow
  obtain ⟨w2, hw2⟩ : ∃ w2, w2 = w1.setRow g (c2.toArray.toList.take (m + S) ++ CS ++ c2.toArray.toList.drop (m + S + l.length)).toArray := ⟨_, rfl⟩
  rw [← hw2] at hrow
  have hg2 : w2.heap[g]? = some (.cells (splice c2 (m + S) (l.map bc)).toArray 5 (0, 0)) := by
    rw [hw2]
    have := setRow_heap w1 g c2.toArray (c2.toArray.toList.take (m + S) ++ CS ++ c2.toArray.toList.drop (m + S + l.length)).toArray 5 _ HH.out
    rw [this]
    unfold splice
    rw [HCE.out]
    simp [List.append_assoc]
  have hb2 : Below B w' w2 := by rw [hw2]; exact below_setRow (HB.out.mono hB) hBg _
  have hsz2 : B ≤ w2.heap.size := by have := hb2.size; omega
  have hsl : (splice c2 (m + S) (l.map bc)).length = c2.length := length_splice _ _ _ (by simp; omega)
  have HI := hide (wint_any B (.slice (some ⟨g, 0, none⟩) m c2.length) m (splice c2 (m + S) (l.map bc)) l.length w2 ⟨by omega, by omega, .inr ⟨g, by rw [hsl], hBg, hg2⟩⟩ hsz2 (by omega) (by omega))
  have HB2 := hide hb2
  have hcm := HR.out.1
  have HGT : Hid (∀ w3, w2.grownBy w3 (some g) → w'.grownBy w3 (Value.slice ao m cur.length).ownBlock) := hide (fun w3 h => by rw [hw2] at h; exact grown_text HB.out (fun k hk => setRow_other w1 g k _ hk) (by simp) rfl rfl rfl h hblk)
  clear hw2 hg2 hb2 hsl HCS HCE
  go_wp2_with fail
  refine (HI.out).mono ?_
  rintro e w3 ⟨v', cur', rfl, hp⟩
  rw [HL.out] at hp
  obtain ⟨rfl, hown⟩ := text_row (cur := cur) (l := l) HL.out hroom hmx hBg HT.out hcm hp
  have HO := hide hown
  have HB3 := hide (HB2.out.trans hp.below)
  have HG3 := hide (HGT.out _ hp.grown)
  have HK : Hid ((some g = (Value.slice ao m cur.length).ownBlock) ∨ ∀ g', some g = some g' → w'.heap.size ≤ g') := hide (hblk.imp (fun q => q.symm) (fun q g' e => by cases e; exact q))
  clear hown hp HI
  go_wp2_with fail
  go_ret
  exact ⟨_, rfl, HO.out, HB3.out, HG3.out, HK.out⟩
set_option maxRecDepth 100000 in
set_option maxHeartbeats 8000000 in
theorem wtext_none (B : Nat) (v : Value) (m : Nat) (cur : List Value) (sp : Option Addr) (sc : Nat) (w : World) (hr : Rw B w v m cur) (hB : B ≤ w.heap.size) (hm : m ≤ 800000) :
    Calls Tryz.prog 76 #[v, .slice sp 0 sc] w fun e w' => ∃ v', e = .returned v' ∧ w'.ownsRow B 5 1 v' (m + 1 + 0) (cur.take m ++ bv (intL 0 ++ [])) ∧ Below B w w' ∧ w.grownBy w' v.ownBlock ∧ (v'.ownBlock = v.ownBlock ∨ ∀ g, v'.ownBlock = some g → w.heap.size ≤ g) := by
  have HG := hide (fun W (h : Rw B W v m cur) => grow_any B v m 1 cur W h)
  obtain ⟨ao, rfl, hn, hs⟩ := rw_form hr
  have HN := hide (fun W => natural_any 0 W (by omega))
  rw [show abv' 0 = 0 by decide] at HN
  have HS := hide (wsize_any 0)
  rw [show szL 0 = 1 by decide] at HS
  have HR := hide hr
  have HL := hide (show (intL 0).length = 1 by decide)
  clear hs hn hr
  go_enter Tryz.func76, Tryz.ntmps76
  go_wp2_with (first
    | (go_at_call 111; refine (HN.out _).mono ?_; rintro e w' ⟨rfl, rfl⟩)
    | (go_at_call 112; refine (HS.out _).mono ?_; rintro e w' ⟨rfl, rfl⟩))
  rw [show ((m : Int) + 1 - (m : Int)) = ((1 : Nat) : Int) by omega]
  refine (HG.out _ HR.out hB (by omega) (by omega)).mono ?_
  rintro e w1 ⟨g, c2, rfl, hh, hBg, hblk, hroom, hmx, htk, hb⟩
  have hsl : (splice c2 (m + 1) (([] : List Int).map bc)).length = c2.length := length_splice _ _ _ (by simp; omega)
  have HG2 := hide (show w1.heap[g]? = some (.cells (splice c2 (m + 1) (([] : List Int).map bc)).toArray 5 (0, 0)) by simpa [splice] using hh)
  have hcn : ∀ dp dCap, (Builtin.copy_ #[23, 23] 3 #[.slice dp 0 dCap, .slice sp 0 sc]).run Tryz.prog w1 = .ok (goInt 0) w1 := fun dp dCap => run_copy_none (P := Tryz.prog) w1 23 23 3 5 dp sp 0 dCap 0 sc Tryz.underlying23 size5 rfl
  have hsz2 : B ≤ w1.heap.size := by have := hb.size; omega
  have hmx' : c2.length ≤ 9223372036854775807 := by unfold maxLen at hmx; omega
  have HB := hide hb
  have HT := hide htk
  have hcm := HR.out.1
  clear hh hb htk HN HS HG
  obtain ⟨C, hCC⟩ : ∃ C, c2.length = C := ⟨_, rfl⟩
  rw [hCC] at hroom hmx hmx' ⊢
  have HCC := hide hCC
  clear hCC
  by_cases hC : C = m + 1
  · subst hC
    have HI := hide (wint_any B (.slice (some ⟨g, 0, none⟩) m (m + 1)) m (splice c2 (m + 1) (([] : List Int).map bc)) 0 w1 ⟨by rw [hsl, HCC.out]; omega, by rw [hsl, HCC.out]; exact hmx, .inr ⟨g, by rw [hsl, HCC.out], hBg, HG2.out⟩⟩ hsz2 (by omega) (by omega))
    go_wp2_with fail
    refine (HI.out).mono ?_
    rintro e w3 ⟨v', cur', rfl, hp⟩
    rw [HL.out] at hp
    have ht := text_row (cur := cur) (l := []) (N := intL 0) HL.out (by simp; rw [HCC.out]; omega) (by rw [HCC.out]; exact hmx) hBg HT.out hcm (by rw [HCC.out]; exact hp)
    rw [HCC.out] at ht
    obtain ⟨rfl, hown⟩ := ht
    have HO := hide hown
    have HB3 := hide ((HB.out.mono hB).trans hp.below)
    have HG3 := hide (grown_text HB.out (fun _ _ => rfl) rfl rfl rfl rfl hp.grown hblk)
    have HK : Hid ((some g = (Value.slice ao m cur.length).ownBlock) ∨ ∀ g', some g = some g' → w'.heap.size ≤ g') := hide (hblk.imp (fun q => q.symm) (fun q g' e => by cases e; exact q))
    clear hown hp HI
    go_wp2_with fail
    go_ret
    exact ⟨_, rfl, HO.out, HB3.out, HG3.out, HK.out⟩
  · have HI := hide (wint_any B (.slice (some ⟨g, 0, none⟩) m C) m (splice c2 (m + 1) (([] : List Int).map bc)) 0 w1 ⟨by rw [hsl, HCC.out]; omega, by rw [hsl, HCC.out]; exact hmx, .inr ⟨g, by rw [hsl, HCC.out], hBg, HG2.out⟩⟩ hsz2 (by omega) (by omega))
    go_wp2_with fail
    refine (HI.out).mono ?_
    rintro e w3 ⟨v', cur', rfl, hp⟩
    rw [HL.out] at hp
    have ht := text_row (cur := cur) (l := []) (N := intL 0) HL.out (by simp; rw [HCC.out]; omega) (by rw [HCC.out]; exact hmx) hBg HT.out hcm (by rw [HCC.out]; exact hp)
    rw [HCC.out] at ht
    obtain ⟨rfl, hown⟩ := ht
    have HO := hide hown
    have HB3 := hide ((HB.out.mono hB).trans hp.below)
    have HG3 := hide (grown_text HB.out (fun _ _ => rfl) rfl rfl rfl rfl hp.grown hblk)
    have HK : Hid ((some g = (Value.slice ao m cur.length).ownBlock) ∨ ∀ g', some g = some g' → w'.heap.size ≤ g') := hide (hblk.imp (fun q => q.symm) (fun q g' e => by cases e; exact q))
    clear hown hp HI
    go_wp2_with fail
    go_ret
    exact ⟨_, rfl, HO.out, HB3.out, HG3.out, HK.out⟩
theorem wtext_anyg (B : Nat) (v u : Value) (m : Nat) (cur : List Value) (l : List Int) (w : World) (hr : Rw B w v m cur) (hB : B ≤ w.heap.size) (hm : m ≤ 800000) (hl : l.length ≤ 4000) (hu : Sl bc w u l) (hoff : 0 < l.length → ∀ b o k c, u = .slice (some ⟨b, o, none⟩) k c → v.ownBlock ≠ some b) :
    Calls Tryz.prog 76 #[v, u] w fun e w' => ∃ v', e = .returned v' ∧ w'.ownsRow B 5 1 v' (m + (intL l.length ++ l).length) (cur.take m ++ bv (intL l.length ++ l)) ∧ Below B w w' ∧ w.grownBy w' v.ownBlock ∧ (v'.ownBlock = v.ownBlock ∨ ∀ g, v'.ownBlock = some g → w.heap.size ≤ g) := by
  rw [List.length_append, ← Nat.add_assoc]
  by_cases h0 : 0 < l.length
  · rcases hu with ⟨ao, cap, rfl, rfl⟩ | ⟨b, o, cap, rfl, h2, h3⟩
    · simp at h0
    · exact wtext_some B v m _ cur b o cap l w hr hB hm hl rfl h0 (hoff h0 b o _ _ rfl) h3
  · obtain rfl : l = [] := List.eq_nil_of_length_eq_zero (by omega)
    obtain ⟨ao, cap, rfl⟩ := hu.form
    exact wtext_none B v m cur ao cap w hr hB hm
end Go.Proofs.YtkpknkhacmggnaaGreatDoor
namespace Go.Proofs.YtkpknkhacmggnaaGreatDoor
open Go.RowKit

set_option maxRecDepth 100000 in
set_option maxHeartbeats 8000000 in
theorem wrow_some (B : Nat) (v : Value) (m : Nat) (cur : List Value) (b o sc : Nat) (l : List Int) (w : World) (hr : Rw B w v m cur) (hB : B ≤ w.heap.size) (hm : m ≤ 800000) (hl : l.length ≤ 4000) (hi64 : ∀ i (h : i < l.length), l[i] ≤ 9223372036854775807) (hne : v.ownBlock ≠ some b) (h3 : ∀ i (h : i < l.length), w.cell? ⟨b, o + i, none⟩ = some (ic l[i])) :
    Calls Tryz.prog 152 #[v, .slice (some ⟨b, o, none⟩) l.length sc] w fun e w' => ∃ v' cur', e = .returned v' ∧ Put B w v m cur w' v' (intL l.length ++ rowL l).length cur' (bv (intL l.length ++ rowL l)) := by
  have HC := hide (wint_any B v m cur l.length w hr hB (by omega) (by omega))
  have HI := hide hi64
  have H3 := hide h3
  clear h3 hi64 hr
  go_enter Tryz.func152, Tryz.ntmps152
  go_wp2_with (first
    | (go_at_call 73; refine (HC.out).mono ?_; rintro e w1 ⟨v1, cur1, rfl, hp1⟩))
  have HP1 := hide hp1
  clear hp1 HC
  go_loopw [0, 13] (fun u i wr => ∃ (j : Nat) (c : List Value), j ≤ l.length ∧ i = .int .i64 j ∧ Put B w v m cur wr u (intL l.length ++ rowL (l.take j)).length c (bv (intL l.length ++ rowL (l.take j)))) (fun _ i _ => l.length - (intOf i).toNat)
  case atStart => exact ⟨0, cur1, Nat.zero_le _, rfl, by simpa [rowL] using HP1.out⟩
  case round =>
    obtain ⟨j, c, hj, rfl, hp⟩ := hrel
    by_cases hlt : j < l.length
    · have hc : wr.cell? ⟨b, o + j, none⟩ = some (.int .i64 l[j]) := by
        have := H3.out j hlt
        exact hp.grown.cell this (fun e => hne e.symm)
      have hsz := hp.below.size
      have hlen : (intL l.length ++ rowL (l.take j)).length ≤ 40000 := by
        have h1 := intL_le l.length
        have h2 := rowL_le (l.take j)
        rw [List.length_take] at h2
        rw [List.length_append]
        omega
      have HJ := hide (wint_any B _ _ c l[j] wr hp.rw (by omega) (by omega) (HI.out j hlt))
      have HS := hide (rowL_snoc l j hlt)
      have HP := hide hp
      generalize l[j] = x at *
      clear hp
      go_wp2_with (first
        | (go_at_call 73; refine (HJ.out).mono ?_; rintro e w2 ⟨v2, c2, rfl, hp2⟩))
      have HP2 := hide (HP.out.trans hp2)
      clear hp2 HJ
      go_wp2_with fail
      go_roundw
      case rel =>
        refine ⟨j + 1, c2, by omega, by go_num, ?_⟩
        rw [HS.out, ← List.append_assoc, List.length_append, bv_eq, List.map_append]
        exact HP2.out
      case measure => simp [intOf]; omega
    · obtain rfl : j = l.length := by omega
      rw [List.take_length] at hp
      have HP := hide hp
      clear hp
      go_wp2_with fail
      go_ret
      exact ⟨_, _, rfl, HP.out⟩
set_option maxRecDepth 100000 in
set_option maxHeartbeats 8000000 in
theorem wrow_none (B : Nat) (v : Value) (m : Nat) (cur : List Value) (sp : Option Addr) (sc : Nat) (w : World) (hr : Rw B w v m cur) (hB : B ≤ w.heap.size) (hm : m ≤ 800000) :
    Calls Tryz.prog 152 #[v, .slice sp 0 sc] w fun e w' => ∃ v' cur', e = .returned v' ∧ Put B w v m cur w' v' 1 cur' (bv [0]) := by
  have HC := hide (wint_any B v m cur 0 w hr hB (by omega) (by omega))
  rw [show intL 0 = [0] by decide] at HC
  clear hr
  go_enter Tryz.func152, Tryz.ntmps152
  go_wp2_with (first
    | (go_at_call 73; refine (HC.out).mono ?_; rintro e w1 ⟨v1, cur1, rfl, hp1⟩))
  have HP1 := hide hp1
  clear hp1 HC
  refine wp_loop_rounds 1 ?_
  rw [rounds_succ]
  go_wp2_with fail
  go_ret
  exact ⟨_, _, rfl, HP1.out⟩
theorem wrow_any (B : Nat) (v u : Value) (m : Nat) (cur : List Value) (l : List Int) (w : World) (hr : Rw B w v m cur) (hB : B ≤ w.heap.size) (hm : m ≤ 800000) (hl : l.length ≤ 4000) (hi64 : ∀ i (h : i < l.length), l[i] ≤ 9223372036854775807) (hu : Sl ic w u l) (hoff : 0 < l.length → ∀ b o k c, u = .slice (some ⟨b, o, none⟩) k c → v.ownBlock ≠ some b) :
    Calls Tryz.prog 152 #[v, u] w fun e w' => ∃ v' cur', e = .returned v' ∧ Put B w v m cur w' v' (intL l.length ++ rowL l).length cur' (bv (intL l.length ++ rowL l)) := by
  by_cases h0 : 0 < l.length
  · rcases hu with ⟨ao, cap, rfl, rfl⟩ | ⟨b, o, cap, rfl, h2, h3⟩
    · simp at h0
    · exact wrow_some B v m cur b o cap l w hr hB hm hl hi64 (hoff h0 b o _ _ rfl) h3
  · obtain rfl : l = [] := List.eq_nil_of_length_eq_zero (by omega)
    obtain ⟨ao, cap, rfl⟩ := hu.form
    exact wrow_none B v m cur ao cap w hr hB hm
end Go.Proofs.YtkpknkhacmggnaaGreatDoor
namespace Go.Proofs.YtkpknkhacmggnaaGreatDoor
open Go.RowKit

/-- The slice v is nil, or the head of a row of its own, with the bytes l. -/
def Ow (B : Nat) (W : World) (v : Value) (l : List Int) : Prop := ∃ cur, Rw B W v l.length cur ∧ cur.take l.length = bv l
theorem Ow.below {B : Nat} {W W' : World} {v : Value} {l : List Int} (h : Ow B W v l) (hb : Below W.heap.size W W') : Ow B W' v l := by
  obtain ⟨cur, h1, h2⟩ := h
  exact ⟨cur, h1.below hb, h2⟩
theorem Ow.put {B : Nat} {W W' : World} {v v' : Value} {l news : List Int} {cur cur' : List Value} {m : Nat} (h2 : cur.take l.length = bv l) (hp : Put B W v l.length cur W' v' m cur' (bv news)) : Ow B W' v' (l ++ news) := by
  have hm : m = news.length := by rw [← hp.len]; simp [bv]
  subst hm
  refine ⟨cur', ?_, ?_⟩
  · rw [List.length_append]; exact hp.rw
  · rw [List.length_append, hp.tk, h2]; simp [bv]
theorem Ow.owns {B : Nat} {W' : World} {v' : Value} {l news : List Int} {cur : List Value} {n : Nat} (hn : n = l.length + news.length) (h2 : cur.take l.length = bv l) (hp : W'.ownsRow B 5 1 v' n (cur.take l.length ++ bv news)) : Ow B W' v' (l ++ news) := by
  subst hn
  obtain ⟨cur', h1, h3⟩ := Rw.of hp
  exact ⟨cur', by rw [List.length_append]; exact h1, by rw [List.length_append, h3, h2]; simp [bv]⟩
theorem Ow.sl {B : Nat} {W : World} {v : Value} {l : List Int} (h : Ow B W v l) : Sl bc W v l := by
  obtain ⟨cur, h1, h2⟩ := h
  have := h1.owns
  rw [h2] at this
  exact sl_of_owns (base := B) (e := 5) (by simpa [bv_eq] using this)
theorem ow_nil (B : Nat) (W : World) : Ow B W (.slice none 0 0) [] := ⟨[], rw_nil B W, rfl⟩
/-- What has turned: the row, and new memory. -/
structure Gw (B : Nat) (w W : World) (u v : Value) : Prop where
  below : Below B w W
  grown : w.grownBy W u.ownBlock
  blk : v.ownBlock = u.ownBlock ∨ ∀ g, v.ownBlock = some g → w.heap.size ≤ g
theorem Gw.refl (B : Nat) (w : World) (u : Value) : Gw B w w u u := ⟨Below.refl _ _, ⟨rfl, rfl, rfl, Nat.le_refl _, fun _ _ _ => rfl⟩, .inl rfl⟩
theorem Gw.trans {B : Nat} {w w1 w2 : World} {u v v2 : Value} (h : Gw B w w1 u v) (k : Gw B w1 w2 v v2) : Gw B w w2 u v2 := by
  refine ⟨h.below.trans k.below, ⟨k.grown.os.trans h.grown.os, k.grown.tape.trans h.grown.tape, k.grown.output.trans h.grown.output, Nat.le_trans h.grown.size k.grown.size, fun i hi hp => ?_⟩, ?_⟩
  · refine (k.grown.block i (Nat.lt_of_lt_of_le hi h.grown.size) ?_).trans (h.grown.block i hi hp)
    rcases h.blk with q | q
    · rw [q]; exact hp
    · intro e
      have := q i e.symm
      omega
  · rcases k.blk with q | q
    · rw [q]; exact h.blk
    · exact .inr fun g hg => Nat.le_trans h.grown.size (q g hg)
theorem Gw.of {B : Nat} {w W : World} (u : Value) (h : Below w.heap.size w W) (hB : B ≤ w.heap.size) : Gw B w W u u :=
  ⟨h.mono hB, ⟨h.os, h.tape, h.output, h.size, fun k hk _ => h.block k hk⟩, .inl rfl⟩
theorem Gw.put {B : Nat} {W W' : World} {v v' : Value} {n m : Nat} {cur cur' news : List Value} (hp : Put B W v n cur W' v' m cur' news) : Gw B W W' v v' := ⟨hp.below, hp.grown, hp.blk⟩
theorem Gw.cell {B : Nat} {w W : World} {u v : Value} (h : Gw B w W u v) {b : Nat} (hb : b < w.heap.size) (hn : u.ownBlock ≠ some b) (i : Nat) : W.cell? ⟨b, i, none⟩ = w.cell? ⟨b, i, none⟩ :=
  World.cell?_of_block (h.grown.block b hb (fun e => hn e.symm))
theorem Gw.range {B : Nat} {w W : World} {u v : Value} {p : Nat} {x : Value} {xs : List Value} (h : Gw B w W u v) (hr : w.rangeAt p 0 (x :: xs)) (hn : u.ownBlock ≠ some p) : W.rangeAt p 0 (x :: xs) := fun j y hy =>
  (h.cell (cell_block (hr 0 _ rfl) : p < w.heap.size) hn (0 + j)).trans (hr j y hy)
theorem encs_take {α : Type} (en : α → List Int) (hs : List Bool) (xs : List α) (j : Nat) (hj : j < hs.length) (hl : hs.length = xs.length) : encs en (hs.take (j + 1)) (xs.take (j + 1)) = encs en (hs.take j) (xs.take j) ++ (if hs[j] then en (xs[j]'(by omega)) else []) := by
  rw [List.take_succ_eq_append_getElem hj, List.take_succ_eq_append_getElem (show j < xs.length by omega)]
  exact encs_snoc en _ _ _ _ (by simp [hl])
end Go.Proofs.YtkpknkhacmggnaaGreatDoor
namespace Go.Proofs.YtkpknkhacmggnaaGreatDoor
open Go.RowKit

theorem idx8 (p j : Nat) (hj : j < 8) (W : World) : (Instr.index 216 (.agg #[.pointer (some ⟨p, 1, none⟩), .pointer (some ⟨p, 2, none⟩), .pointer (some ⟨p, 3, none⟩), .pointer (some ⟨p, 4, none⟩), .pointer (some ⟨p, 5, none⟩), .pointer (some ⟨p, 6, none⟩), .pointer (some ⟨p, 7, none⟩), .pointer (some ⟨p, 8, none⟩)]) (.int .i64 (j : Int))).run Tryz.prog W = .ok (.pointer (some ⟨p, j + 1, none⟩)) W := by
  have e0 : (Instr.index 216 (.agg #[.pointer (some ⟨p, 1, none⟩), .pointer (some ⟨p, 2, none⟩), .pointer (some ⟨p, 3, none⟩), .pointer (some ⟨p, 4, none⟩), .pointer (some ⟨p, 5, none⟩), .pointer (some ⟨p, 6, none⟩), .pointer (some ⟨p, 7, none⟩), .pointer (some ⟨p, 8, none⟩)]) (.int .i64 0)).run Tryz.prog W = .ok (.pointer (some ⟨p, 1, none⟩)) W := by kernel_rfl
  have e1 : (Instr.index 216 (.agg #[.pointer (some ⟨p, 1, none⟩), .pointer (some ⟨p, 2, none⟩), .pointer (some ⟨p, 3, none⟩), .pointer (some ⟨p, 4, none⟩), .pointer (some ⟨p, 5, none⟩), .pointer (some ⟨p, 6, none⟩), .pointer (some ⟨p, 7, none⟩), .pointer (some ⟨p, 8, none⟩)]) (.int .i64 1)).run Tryz.prog W = .ok (.pointer (some ⟨p, 2, none⟩)) W := by kernel_rfl
  have e2 : (Instr.index 216 (.agg #[.pointer (some ⟨p, 1, none⟩), .pointer (some ⟨p, 2, none⟩), .pointer (some ⟨p, 3, none⟩), .pointer (some ⟨p, 4, none⟩), .pointer (some ⟨p, 5, none⟩), .pointer (some ⟨p, 6, none⟩), .pointer (some ⟨p, 7, none⟩), .pointer (some ⟨p, 8, none⟩)]) (.int .i64 2)).run Tryz.prog W = .ok (.pointer (some ⟨p, 3, none⟩)) W := by kernel_rfl
  have e3 : (Instr.index 216 (.agg #[.pointer (some ⟨p, 1, none⟩), .pointer (some ⟨p, 2, none⟩), .pointer (some ⟨p, 3, none⟩), .pointer (some ⟨p, 4, none⟩), .pointer (some ⟨p, 5, none⟩), .pointer (some ⟨p, 6, none⟩), .pointer (some ⟨p, 7, none⟩), .pointer (some ⟨p, 8, none⟩)]) (.int .i64 3)).run Tryz.prog W = .ok (.pointer (some ⟨p, 4, none⟩)) W := by kernel_rfl
  have e4 : (Instr.index 216 (.agg #[.pointer (some ⟨p, 1, none⟩), .pointer (some ⟨p, 2, none⟩), .pointer (some ⟨p, 3, none⟩), .pointer (some ⟨p, 4, none⟩), .pointer (some ⟨p, 5, none⟩), .pointer (some ⟨p, 6, none⟩), .pointer (some ⟨p, 7, none⟩), .pointer (some ⟨p, 8, none⟩)]) (.int .i64 4)).run Tryz.prog W = .ok (.pointer (some ⟨p, 5, none⟩)) W := by kernel_rfl
  have e5 : (Instr.index 216 (.agg #[.pointer (some ⟨p, 1, none⟩), .pointer (some ⟨p, 2, none⟩), .pointer (some ⟨p, 3, none⟩), .pointer (some ⟨p, 4, none⟩), .pointer (some ⟨p, 5, none⟩), .pointer (some ⟨p, 6, none⟩), .pointer (some ⟨p, 7, none⟩), .pointer (some ⟨p, 8, none⟩)]) (.int .i64 5)).run Tryz.prog W = .ok (.pointer (some ⟨p, 6, none⟩)) W := by kernel_rfl
  have e6 : (Instr.index 216 (.agg #[.pointer (some ⟨p, 1, none⟩), .pointer (some ⟨p, 2, none⟩), .pointer (some ⟨p, 3, none⟩), .pointer (some ⟨p, 4, none⟩), .pointer (some ⟨p, 5, none⟩), .pointer (some ⟨p, 6, none⟩), .pointer (some ⟨p, 7, none⟩), .pointer (some ⟨p, 8, none⟩)]) (.int .i64 6)).run Tryz.prog W = .ok (.pointer (some ⟨p, 7, none⟩)) W := by kernel_rfl
  have e7 : (Instr.index 216 (.agg #[.pointer (some ⟨p, 1, none⟩), .pointer (some ⟨p, 2, none⟩), .pointer (some ⟨p, 3, none⟩), .pointer (some ⟨p, 4, none⟩), .pointer (some ⟨p, 5, none⟩), .pointer (some ⟨p, 6, none⟩), .pointer (some ⟨p, 7, none⟩), .pointer (some ⟨p, 8, none⟩)]) (.int .i64 7)).run Tryz.prog W = .ok (.pointer (some ⟨p, 8, none⟩)) W := by kernel_rfl
  have hc : j = 0 ∨ j = 1 ∨ j = 2 ∨ j = 3 ∨ j = 4 ∨ j = 5 ∨ j = 6 ∨ j = 7 := by omega
  rcases hc with rfl | rfl | rfl | rfl | rfl | rfl | rfl | rfl
  · exact (by simpa using e0)
  · exact (by simpa using e1)
  · exact (by simpa using e2)
  · exact (by simpa using e3)
  · exact (by simpa using e4)
  · exact (by simpa using e5)
  · exact (by simpa using e6)
  · exact (by simpa using e7)
theorem idxT (p j : Nat) (hj : j < 4) (W : World) : (Instr.index 219 (.agg #[.pointer (some ⟨p, 10, none⟩), .pointer (some ⟨p, 11, none⟩), .pointer (some ⟨p, 12, none⟩), .pointer (some ⟨p, 13, none⟩)]) (.int .i64 (j : Int))).run Tryz.prog W = .ok (.pointer (some ⟨p, j + 10, none⟩)) W := by
  have e0 : (Instr.index 219 (.agg #[.pointer (some ⟨p, 10, none⟩), .pointer (some ⟨p, 11, none⟩), .pointer (some ⟨p, 12, none⟩), .pointer (some ⟨p, 13, none⟩)]) (.int .i64 0)).run Tryz.prog W = .ok (.pointer (some ⟨p, 10, none⟩)) W := by kernel_rfl
  have e1 : (Instr.index 219 (.agg #[.pointer (some ⟨p, 10, none⟩), .pointer (some ⟨p, 11, none⟩), .pointer (some ⟨p, 12, none⟩), .pointer (some ⟨p, 13, none⟩)]) (.int .i64 1)).run Tryz.prog W = .ok (.pointer (some ⟨p, 11, none⟩)) W := by kernel_rfl
  have e2 : (Instr.index 219 (.agg #[.pointer (some ⟨p, 10, none⟩), .pointer (some ⟨p, 11, none⟩), .pointer (some ⟨p, 12, none⟩), .pointer (some ⟨p, 13, none⟩)]) (.int .i64 2)).run Tryz.prog W = .ok (.pointer (some ⟨p, 12, none⟩)) W := by kernel_rfl
  have e3 : (Instr.index 219 (.agg #[.pointer (some ⟨p, 10, none⟩), .pointer (some ⟨p, 11, none⟩), .pointer (some ⟨p, 12, none⟩), .pointer (some ⟨p, 13, none⟩)]) (.int .i64 3)).run Tryz.prog W = .ok (.pointer (some ⟨p, 13, none⟩)) W := by kernel_rfl
  have hc : j = 0 ∨ j = 1 ∨ j = 2 ∨ j = 3 := by omega
  rcases hc with rfl | rfl | rfl | rfl
  · exact (by simpa using e0)
  · exact (by simpa using e1)
  · exact (by simpa using e2)
  · exact (by simpa using e3)
theorem idxR (p j : Nat) (hj : j < 4) (W : World) : (Instr.index 222 (.agg #[.pointer (some ⟨p, 14, none⟩), .pointer (some ⟨p, 15, none⟩), .pointer (some ⟨p, 16, none⟩), .pointer (some ⟨p, 17, none⟩)]) (.int .i64 (j : Int))).run Tryz.prog W = .ok (.pointer (some ⟨p, j + 14, none⟩)) W := by
  have e0 : (Instr.index 222 (.agg #[.pointer (some ⟨p, 14, none⟩), .pointer (some ⟨p, 15, none⟩), .pointer (some ⟨p, 16, none⟩), .pointer (some ⟨p, 17, none⟩)]) (.int .i64 0)).run Tryz.prog W = .ok (.pointer (some ⟨p, 14, none⟩)) W := by kernel_rfl
  have e1 : (Instr.index 222 (.agg #[.pointer (some ⟨p, 14, none⟩), .pointer (some ⟨p, 15, none⟩), .pointer (some ⟨p, 16, none⟩), .pointer (some ⟨p, 17, none⟩)]) (.int .i64 1)).run Tryz.prog W = .ok (.pointer (some ⟨p, 15, none⟩)) W := by kernel_rfl
  have e2 : (Instr.index 222 (.agg #[.pointer (some ⟨p, 14, none⟩), .pointer (some ⟨p, 15, none⟩), .pointer (some ⟨p, 16, none⟩), .pointer (some ⟨p, 17, none⟩)]) (.int .i64 2)).run Tryz.prog W = .ok (.pointer (some ⟨p, 16, none⟩)) W := by kernel_rfl
  have e3 : (Instr.index 222 (.agg #[.pointer (some ⟨p, 14, none⟩), .pointer (some ⟨p, 15, none⟩), .pointer (some ⟨p, 16, none⟩), .pointer (some ⟨p, 17, none⟩)]) (.int .i64 3)).run Tryz.prog W = .ok (.pointer (some ⟨p, 17, none⟩)) W := by kernel_rfl
  have hc : j = 0 ∨ j = 1 ∨ j = 2 ∨ j = 3 := by omega
  rcases hc with rfl | rfl | rfl | rfl
  · exact (by simpa using e0)
  · exact (by simpa using e1)
  · exact (by simpa using e2)
  · exact (by simpa using e3)
theorem cell8 {W : World} {p : Nat} {x0 x9 x10 x11 x12 x13 x14 x15 x16 x17 : Value} {n1 n2 n3 n4 n5 n6 n7 n8 : Int} (h : W.rangeAt p 0 [x0, .int .i64 n1, .int .i64 n2, .int .i64 n3, .int .i64 n4, .int .i64 n5, .int .i64 n6, .int .i64 n7, .int .i64 n8, x9, x10, x11, x12, x13, x14, x15, x16, x17]) (j : Nat) (hj : j < 8) : W.cell? ⟨p, j + 1, none⟩ = some (.int .i64 ([n1, n2, n3, n4, n5, n6, n7, n8].getD j 0)) := by
  match j, hj with
  | 0, _ => exact (by simpa using h 1 _ rfl)
  | 1, _ => exact (by simpa using h 2 _ rfl)
  | 2, _ => exact (by simpa using h 3 _ rfl)
  | 3, _ => exact (by simpa using h 4 _ rfl)
  | 4, _ => exact (by simpa using h 5 _ rfl)
  | 5, _ => exact (by simpa using h 6 _ rfl)
  | 6, _ => exact (by simpa using h 7 _ rfl)
  | 7, _ => exact (by simpa using h 8 _ rfl)
  | n + 8, h => exact absurd h (by omega)
theorem cellT {W : World} {p : Nat} {x0 x1 x2 x3 x4 x5 x6 x7 x8 x9 x14 x15 x16 x17 : Value} {n1 n2 n3 n4 : List UInt8} (h : W.rangeAt p 0 [x0, x1, x2, x3, x4, x5, x6, x7, x8, x9, .string ⟨n1.toArray⟩, .string ⟨n2.toArray⟩, .string ⟨n3.toArray⟩, .string ⟨n4.toArray⟩, x14, x15, x16, x17]) (j : Nat) (hj : j < 4) : W.cell? ⟨p, j + 10, none⟩ = some (.string ⟨([n1, n2, n3, n4].getD j []).toArray⟩) := by
  match j, hj with
  | 0, _ => exact (by simpa using h 10 _ rfl)
  | 1, _ => exact (by simpa using h 11 _ rfl)
  | 2, _ => exact (by simpa using h 12 _ rfl)
  | 3, _ => exact (by simpa using h 13 _ rfl)
  | n + 4, h => exact absurd h (by omega)
theorem cellW {W : World} {p : Nat} {x0 x1 x2 x3 x4 x5 x6 x7 x8 x9 x10 x11 x12 x13 x14 x15 x16 x17 : Value} (h : W.rangeAt p 0 [x0, x1, x2, x3, x4, x5, x6, x7, x8, x9, x10, x11, x12, x13, x14, x15, x16, x17]) (j : Nat) (hj : j < 4) : W.cell? ⟨p, j + 14, none⟩ = some ([x14, x15, x16, x17].getD j (.slice none 0 0)) := by
  match j, hj with
  | 0, _ => exact (by simpa using h 14 _ rfl)
  | 1, _ => exact (by simpa using h 15 _ rfl)
  | 2, _ => exact (by simpa using h 16 _ rfl)
  | 3, _ => exact (by simpa using h 17 _ rfl)
  | n + 4, h => exact absurd h (by omega)
theorem bit8 {k : Int} (hk : 1 ≤ k ∧ k ≤ 12) (j : Nat) (hj : j < 8) : bitB (sbj k) (2 ^ j % 4294967296) = (hN k).getD j false := by
  have q := bit_has hk
  match j, hj with
  | 0, _ => exact q.1
  | 1, _ => exact q.2.1
  | 2, _ => exact q.2.2.1
  | 3, _ => exact q.2.2.2.1
  | 4, _ => exact q.2.2.2.2.1
  | 5, _ => exact q.2.2.2.2.2.1
  | 6, _ => exact q.2.2.2.2.2.2.1
  | 7, _ => exact q.2.2.2.2.2.2.2.1
  | n + 8, h => exact absurd h (by omega)
theorem bitT {k : Int} (hk : 1 ≤ k ∧ k ≤ 12) (j : Nat) (hj : j < 4) : bitB (sbj k) (512 * 2 ^ j % 4294967296) = (hT k).getD j false := by
  have q := bit_has hk
  match j, hj with
  | 0, _ => exact q.2.2.2.2.2.2.2.2.2.1
  | 1, _ => exact q.2.2.2.2.2.2.2.2.2.2.1
  | 2, _ => exact q.2.2.2.2.2.2.2.2.2.2.2.1
  | 3, _ => exact q.2.2.2.2.2.2.2.2.2.2.2.2.1
  | n + 4, h => exact absurd h (by omega)
theorem bitR {k : Int} (hk : 1 ≤ k ∧ k ≤ 12) (j : Nat) (hj : j < 4) : bitB (sbj k) (8192 * 2 ^ j % 4294967296) = (hR k).getD j false := by
  have q := bit_has hk
  match j, hj with
  | 0, _ => exact q.2.2.2.2.2.2.2.2.2.2.2.2.2.1
  | 1, _ => exact q.2.2.2.2.2.2.2.2.2.2.2.2.2.2.1
  | 2, _ => exact q.2.2.2.2.2.2.2.2.2.2.2.2.2.2.2.1
  | 3, _ => exact q.2.2.2.2.2.2.2.2.2.2.2.2.2.2.2.2
  | n + 4, h => exact absurd h (by omega)
theorem encs_le {α : Type} (en : α → List Int) (c : Nat) : ∀ (hs : List Bool) (xs : List α), (∀ x ∈ xs, (en x).length ≤ c) → (encs en hs xs).length ≤ c * xs.length
  | [], xs, _ => by simp [encs]
  | h :: hs, [], _ => by simp [encs]
  | h :: hs, x :: xs, hx => by
    have h1 := encs_le en c hs xs (fun y hy => hx y (List.mem_cons_of_mem _ hy))
    have h2 := hx x (List.mem_cons_self ..)
    have h3 : (if h then en x else []).length ≤ c := by cases h <;> simp <;> omega
    show ((if h then en x else []) ++ encs en hs xs).length ≤ c * (xs.length + 1)
    rw [List.length_append, Nat.mul_add]
    omega
theorem ow_lt {B : Nat} {W : World} {v : Value} {l : List Int} (h : Ow B W v l) {g : Nat} (hg : v.ownBlock = some g) : g < W.heap.size ∧ B ≤ g := by
  obtain ⟨cur, h1, _⟩ := h
  rcases h1.2.2 with ⟨rfl, _⟩ | ⟨g', rfl, h2, h3⟩
  · cases hg
  · have e : g' = g := Option.some.inj hg
    have := (Array.getElem?_eq_some_iff.1 h3).1
    omega
theorem Ow.text {B : Nat} {W' : World} {v' : Value} {l news : List Int} {cur : List Value} (hn : ∃ n, n = l.length + news.length ∧ W'.ownsRow B 5 1 v' n (cur.take l.length ++ bv news)) (h2 : cur.take l.length = bv l) : Ow B W' v' (l ++ news) := by
  obtain ⟨n, h, hp⟩ := hn
  exact Ow.owns h h2 hp
theorem sli_off {B : Nat} {W : World} {U v : Value} {R : List Int} (h : Sli (fun b => b < B) W U R) (hv : ∀ g, v.ownBlock = some g → g < W.heap.size ∧ B ≤ g) : 0 < R.length → ∀ b o k c, U = .slice (some ⟨b, o, none⟩) k c → v.ownBlock ≠ some b := by
  intro hp b o k c e q
  have := (hv b q).2
  rcases h with ⟨_, _, h2, _⟩ | ⟨b', o', c', h3, _, h4, _⟩
  · rw [h2] at hp; simp at hp
  · rw [e] at h3; cases h3
    omega
theorem getD_mem {α : Type} (l : List α) (d : α) (j n : Nat) (hl : l.length = n) (hj : j < n) : l.getD j d ∈ l := by
  rw [show l.getD j d = l[j]'(by omega) by simp [List.getD, hl, hj]]
  exact List.getElem_mem _
theorem sb_sl {W : World} {b cap : Nat} {S : List UInt8} (hc : S.length ≤ cap) (h : ∀ i (h : i < S.length), W.cell? ⟨b, 0 + i, none⟩ = some (uc S[i])) : Sl bc W (.slice (some ⟨b, 0, none⟩) S.length cap) (sb S) :=
  .inr ⟨b, 0, cap, by rw [sb_len], by rw [sb_len]; exact hc, fun i hi => by
    rw [h i (by rwa [sb_len] at hi)]
    simp [sb, bc, uc]⟩
set_option maxRecDepth 100000 in
set_option maxHeartbeats 16000000 in
theorem cput_go (B : Nat) (u : Value) (l0 : List Int) (k br ep tp pa le cl se co : Int) (fl : Bool) (nm ky va rk : List UInt8) (a14 a15 a16 a17 : Option Addr) (c14 c15 c16 c17 : Nat) (ids isr ad dr : List Int) (w : World) (ns : List Int) (ts : List (List UInt8)) (rs : List (List Int)) (us : List Value) (h8 hf ht hr : List Bool)
    (hu : Ow B w u l0) (hl0 : l0.length ≤ 700000) (hB : B ≤ w.heap.size) (hk1 : 1 ≤ k) (hk2 : k ≤ 12) (HNS : Hid (ns = [br, ep, tp, pa, le, cl, se, co])) (HTS : Hid (ts = [nm, ky, va, rk])) (HUS : Hid (us = [.slice a14 ids.length c14, .slice a15 isr.length c15, .slice a16 ad.length c16, .slice a17 dr.length c17])) (HH8 : Hid (h8 = hN k)) (HHF : Hid (hf = hF k)) (HHT : Hid (ht = hT k)) (HHR : Hid (hr = hR k))
    (HNB : Hid (∀ j, j < 8 → ns.getD j 0 ≤ 9223372036854775807)) (HTB : Hid (∀ x ∈ ts, x.length ≤ 1000)) (hrl : rs.length = 4) (HRB : Hid (∀ j, j < 4 → Sli (fun b => b < B) w (us.getD j (.slice none 0 0)) (rs.getD j []))) (HRI : Hid (∀ x ∈ rs, x.length ≤ 1000 ∧ ∀ y ∈ x, y ≤ 9223372036854775807))
    (HC : Hid (∀ W, Below w.heap.size w W → Calls Tryz.prog 99 #[.agg #[.int .i64 k, .int .i64 br, .int .i64 ep, .int .i64 tp, .int .i64 pa, .int .i64 le, .int .i64 cl, .int .i64 se, .int .i64 co, .bool fl, .string ⟨nm.toArray⟩, .string ⟨ky.toArray⟩, .string ⟨va.toArray⟩, .string ⟨rk.toArray⟩, .slice a14 ids.length c14, .slice a15 isr.length c15, .slice a16 ad.length c16, .slice a17 dr.length c17]] W fun e w' => e = .returned .nilIface ∧ Below W.heap.size W w')) :
    Calls Tryz.prog 114 #[u, .agg #[.int .i64 k, .int .i64 br, .int .i64 ep, .int .i64 tp, .int .i64 pa, .int .i64 le, .int .i64 cl, .int .i64 se, .int .i64 co, .bool fl, .string ⟨nm.toArray⟩, .string ⟨ky.toArray⟩, .string ⟨va.toArray⟩, .string ⟨rk.toArray⟩, .slice a14 ids.length c14, .slice a15 isr.length c15, .slice a16 ad.length c16, .slice a17 dr.length c17]] w fun e w' => ∃ v', e = .returned (.tuple #[v', .nilIface]) ∧ Ow B w' v' (l0 ++ ([k] ++ (encs intL h8 ns ++ (encs (fun f => [flB f]) hf [fl] ++ (encs enT ht ts ++ encs enR hr rs))))) ∧ Gw B w w' u v' := by
  have hub : u.ownBlock ≠ some w.heap.size := fun e => by have := (ow_lt hu e).1; omega
  have HK := hide (And.intro hk1 hk2)
  have HS := hide (fun W => subj_any k W)
  have HQ : Hid ((w.alloc (.cells #[.int .i64 k, .int .i64 br, .int .i64 ep, .int .i64 tp, .int .i64 pa, .int .i64 le, .int .i64 cl, .int .i64 se, .int .i64 co, .bool fl, .string ⟨nm.toArray⟩, .string ⟨ky.toArray⟩, .string ⟨va.toArray⟩, .string ⟨rk.toArray⟩, .slice a14 ids.length c14, .slice a15 isr.length c15, .slice a16 ad.length c16, .slice a17 dr.length c17] 58)).rangeAt w.heap.size 0 [.int .i64 k, .int .i64 br, .int .i64 ep, .int .i64 tp, .int .i64 pa, .int .i64 le, .int .i64 cl, .int .i64 se, .int .i64 co, .bool fl, .string ⟨nm.toArray⟩, .string ⟨ky.toArray⟩, .string ⟨va.toArray⟩, .string ⟨rk.toArray⟩, .slice a14 ids.length c14, .slice a15 isr.length c15, .slice a16 ad.length c16, .slice a17 dr.length c17]) := hide (range_new w _ _)
  have HB : Hid (Below w.heap.size w (w.alloc (.cells #[.int .i64 k, .int .i64 br, .int .i64 ep, .int .i64 tp, .int .i64 pa, .int .i64 le, .int .i64 cl, .int .i64 se, .int .i64 co, .bool fl, .string ⟨nm.toArray⟩, .string ⟨ky.toArray⟩, .string ⟨va.toArray⟩, .string ⟨rk.toArray⟩, .slice a14 ids.length c14, .slice a15 isr.length c15, .slice a16 ad.length c16, .slice a17 dr.length c17] 58))) := hide ((Below.refl _ _).alloc (Nat.le_refl _) _)
  have HZ : Hid (w.heap.size < (w.alloc (.cells #[.int .i64 k, .int .i64 br, .int .i64 ep, .int .i64 tp, .int .i64 pa, .int .i64 le, .int .i64 cl, .int .i64 se, .int .i64 co, .bool fl, .string ⟨nm.toArray⟩, .string ⟨ky.toArray⟩, .string ⟨va.toArray⟩, .string ⟨rk.toArray⟩, .slice a14 ids.length c14, .slice a15 isr.length c15, .slice a16 ad.length c16, .slice a17 dr.length c17] 58)).heap.size) := hide (by simp)
  go_enter Tryz.func114, Tryz.ntmps114
  go_upto_region 1 with fail
  generalize w.alloc (.cells #[.int .i64 k, .int .i64 br, .int .i64 ep, .int .i64 tp, .int .i64 pa, .int .i64 le, .int .i64 cl, .int .i64 se, .int .i64 co, .bool fl, .string ⟨nm.toArray⟩, .string ⟨ky.toArray⟩, .string ⟨va.toArray⟩, .string ⟨rk.toArray⟩, .slice a14 ids.length c14, .slice a15 isr.length c15, .slice a16 ad.length c16, .slice a17 dr.length c17] 58) = X at HQ HB HZ ⊢
  go_upto_region 4 with (first | (refine wpList_load_mid rfl _ _ rfl _ _ rfl _ _ HQ.out Tryz.underlying58 rfl (by kernel_rfl) ?_) | (go_at_call 99; refine (HC.out _ HB.out).mono ?_; rintro e Y ⟨rfl, hY⟩))
  replace HQ := hide (range_below HQ.out hY)
  replace HB := hide (HB.out.trans (hY.mono HB.out.size))
  replace HZ := hide (Nat.lt_of_lt_of_le HZ.out hY.size)
  clear hY
  clear X
  have g0 := (C18.of HQ.out).c0
  obtain ⟨cur, hrw, htk⟩ := id (hu.below HB.out)
  have HRW := hide hrw
  have HTK := hide htk
  have hBY : B ≤ Y.heap.size := Nat.le_trans hB HB.out.size
  clear hrw htk
  have hkw : IntKind.u8.wrap k = k := by rw [IntKind.wrap_u8]; omega
  go_upto_region 6 with (first | (go_at_call 135; refine (HS.out _).mono ?_; rintro e w1 ⟨rfl, hw1⟩; rw [hw1]; clear hw1 w1) | (at_builtin; refine wpList_append_rw _ rfl _ _ rfl B _ l0.length cur rfl (HRW.out.below ((Below.refl _ _).alloc (Nat.le_refl _) _)) (by simp; omega) _ 1 1 (bv [k]) rfl rfl (by omega) (cells_at _ _ _) (one_bytes _) (by omega) ?_; intro w1 v1 cur1 hp1))
  have HG := hide ((Gw.of u HB.out hB).trans (Gw.put (hp1.pre (w := Y) hBY ((Below.refl _ _).alloc (Nat.le_refl _) _))))
  have hgY : Gw B Y w1 u v1 := Gw.put (hp1.pre (w := Y) hBY ((Below.refl _ _).alloc (Nat.le_refl _) _))
  have HO := hide (Ow.put HTK.out hp1)
  replace HQ := hide (hgY.range HQ.out hub)
  have HVB : Hid (v1.ownBlock ≠ some w.heap.size) := hide (fun e => by
    rcases hgY.blk with q | q
    · rw [q] at e; exact hub e
    · have h1 := q _ e
      have := HZ.out
      omega)
  replace HZ := hide (Nat.lt_of_lt_of_le HZ.out hgY.grown.size)
  have hB1 : B ≤ w1.heap.size := Nat.le_trans hBY hgY.grown.size
  obtain ⟨lb, hlb⟩ : ∃ lb, lb = l0 ++ [k] := ⟨_, rfl⟩
  rw [← hlb] at HO
  have HL0 := hide hlb
  have hll : lb.length ≤ 700001 := by rw [hlb]; simp; omega
  clear hp1 hgY HRW HTK g0 cur hlb
  clear HB hBY HC HS hu hkw cur1
  have HLH : Hid (h8.length = 8) := hide (by rw [HH8.out]; rfl)
  have HLX : Hid (ns.length = 8) := hide (by rw [HNS.out]; rfl)
  have HHH := HH8
  have HXL : Hid (∀ {j : Nat}, ∀ x ∈ ns.take j, (intL x).length ≤ 8) := hide (fun x _ => intL_le x)
  have HXF : Hid (∀ x ∈ ns, (intL x).length ≤ 8) := hide (fun x _ => intL_le x)
  go_upto_region 7 with (first | (go_at_call 149; refine (numbers_pts _ _).mono ?_; rintro e w2 ⟨rfl, hY⟩; unfold pts8))
  replace HQ := hide (range_below HQ.out hY)
  replace HG := hide (HG.out.trans (Gw.of v1 hY hB1))
  replace HO := hide (HO.out.below hY)
  replace HZ := hide (Nat.lt_of_lt_of_le HZ.out hY.size)
  replace hB1 := Nat.le_trans hB1 hY.size
  clear hY
  have hvb : v1.ownBlock ≠ some w.heap.size := HVB.out
  go_loopw [0, 33] (fun b i wr => ∃ (j : Nat), j ≤ 8 ∧ i = .int .i64 (j : Int) ∧ Hid (Ow B wr b (lb ++ encs intL (h8.take j) (ns.take j))) ∧ Hid (Gw B w2 wr v1 b)) (fun _ i _ => 8 - (intOf i).toNat)
  case atStart => exact ⟨0, Nat.zero_le _, rfl, hide (by simpa [encs] using HO.out), hide (Gw.refl _ _ _)⟩
  case round =>
    obtain ⟨j, hj, rfl, HOj, HGj⟩ := hrel
    by_cases hlt : j < 8
    · have hltI : (j : Int) < 8 := by omega
      have hix := idx8 w.heap.size j hlt
      have hcj := cell8 (HGj.out.range HQ.out HVB.out) j hlt
      rw [← HNS.out] at hcj
      have hxb := HNB.out j hlt
      have hBr : B ≤ wr.heap.size := Nat.le_trans hB1 HGj.out.grown.size
      have HH := hide (fun W => bhas_any (sbj k) (2 ^ j % 4294967296) W)
      rw [bit8 HK.out j hlt] at HH
      have hen : (lb ++ encs intL (h8.take j) (ns.take j)).length ≤ 700100 := by
        have := encs_le intL 8 (h8.take j) (ns.take j) HXL.out
        rw [List.length_append]
        have h4 : (ns.take j).length ≤ 8 := by rw [List.length_take]; omega
        have := Nat.mul_le_mul_left 8 h4
        omega
      have HE : Hid (encs intL (h8.take (j + 1)) (ns.take (j + 1)) = encs intL (h8.take j) (ns.take j) ++ (if h8.getD j false then intL (ns.getD j 0) else [])) := hide (by rw [encs_take intL h8 ns j (by rw [HLH.out]; omega) (by rw [HLH.out, HLX.out])]; simp [List.getD, HLH.out, HLX.out, hlt])
      rw [← HHH.out] at HH
      generalize ns.getD j 0 = x at *
      generalize h8.getD j false = hb at *
      obtain ⟨cur, hrw, htk⟩ := id HOj.out
      have HRW := hide hrw
      have HTK := hide htk
      clear hrw htk
      have hbl := fun g (hg : u0.ownBlock = some g) => ow_lt HOj.out hg
      have HBL := hide hbl
      clear hbl
      cases hb with
      | true =>
        go_wp2_with (first | (go_at_call 139; refine (HH.out _).mono ?_; rintro e w1 ⟨rfl, hw1⟩; rw [hw1]; clear hw1 w1) | (go_at_call 73; refine (wint_any B _ _ cur _ _ HRW.out hBr (by omega) hxb).mono ?_; rintro e w5 ⟨v5, cur5, rfl, hp⟩))
        have HO5 := hide (Ow.put HTK.out hp)
        have HG5 := hide (HGj.out.trans (Gw.put hp))
        clear hp
        go_roundw
        case rel => exact ⟨j + 1, by omega, by go_num, hide (by have e := HE.out; simp only [↓reduceIte] at e; rw [e, ← List.append_assoc]; exact HO5.out), HG5⟩
        case measure => simp [intOf]; omega
      | false =>
        go_wp2_with (first | (go_at_call 139; refine (HH.out _).mono ?_; rintro e w1 ⟨rfl, hw1⟩; rw [hw1]; clear hw1 w1))
        go_roundw
        case rel => exact ⟨j + 1, by omega, by go_num, hide (by rw [HE.out]; simpa using HOj.out), HGj⟩
        case measure => simp [intOf]; omega
    · obtain rfl : j = 8 := by omega
      clear hlt hj
      have HO2 : Hid (Ow B wr u0 (lb ++ encs intL h8 ns)) := hide (by have := HOj.out; rwa [List.take_of_length_le (by rw [HLH.out]; omega), List.take_of_length_le (by rw [HLX.out]; omega)] at this)
      have HG2 := hide (HG.out.trans HGj.out)
      have HVB2 : Hid (u0.ownBlock ≠ some w.heap.size) := hide (fun e => by rcases HGj.out.blk with q | q; (rw [q] at e; exact HVB.out e); (have := q _ e; have := HZ.out; omega))
      have HQ2 := hide (HGj.out.range HQ.out HVB.out)
      have HZ2 := hide (Nat.lt_of_lt_of_le HZ.out HGj.out.grown.size)
      have hB2 : B ≤ wr.heap.size := Nat.le_trans hB1 HGj.out.grown.size
      have hl2 : (lb ++ encs intL h8 ns).length ≤ 700100 := by
        have := encs_le intL 8 h8 ns HXF.out
        rw [HLX.out] at this
        rw [List.length_append]
        omega
      obtain ⟨lb1, hlb⟩ : ∃ x, x = lb ++ encs intL h8 ns := ⟨_, rfl⟩
      rw [← hlb] at HO2 hl2
      have HLB1 := hide hlb
      clear HOj HGj HO HG HVB hvb HQ HZ hB1 hll hlb
      obtain ⟨wa1, rfl⟩ : ∃ x : World, x = wr := ⟨_, rfl⟩
      obtain ⟨va1, rfl⟩ : ∃ x : Value, x = u0 := ⟨_, rfl⟩
      have HO := HO2
      have HG := HG2
      have HVB := HVB2
      have HQ := HQ2
      have HZ := HZ2
      have hB1 := hB2
      have hll := hl2
      clear HO2 HG2 HVB2 HQ2 HZ2 hB2 hl2
      have HFB := hide (fun W => bhas_any (sbj k) 256 W)
      rw [(bit_has HK.out).2.2.2.2.2.2.2.2.1] at HFB
      have HFE : Hid (hf = [hasL k 102]) := hide HHF.out
      generalize hasL k 102 = hb at *
      cases hb with
      | true =>
        obtain ⟨cur, hrw, htk⟩ := id HO.out
        have HRW := hide hrw
        have HTK := hide htk
        clear hrw htk
        have g9 := (C18.of HQ.out).c9
        go_upto_region 14 with (first | (go_at_call 139; refine (HFB.out _).mono ?_; rintro e w1 ⟨rfl, hw1⟩; rw [hw1]; clear hw1 w1) | (go_at_call 74; refine (wflag_any B _ _ cur _ _ HRW.out hB1 (by omega)).mono ?_; rintro e w5 ⟨v5, cur5, rfl, hp⟩))
        have HGp := hide (Gw.put hp)
        have HO2 := hide (Ow.put (news := [flB fl]) HTK.out hp)
        have HG2 := hide (HG.out.trans HGp.out)
        have HVB2 : Hid (v5.ownBlock ≠ some w.heap.size) := hide (fun e => by rcases HGp.out.blk with q | q; (rw [q] at e; exact HVB.out e); (have := q _ e; have := HZ.out; omega))
        have HQ2 := hide (HGp.out.range HQ.out HVB.out)
        have HZ2 := hide (Nat.lt_of_lt_of_le HZ.out HGp.out.grown.size)
        have hB2 : B ≤ w5.heap.size := Nat.le_trans hB1 HGp.out.grown.size
        have hl2 : (lb1 ++ [flB fl]).length ≤ 700101 := by rw [List.length_append]; simp; omega
        obtain ⟨lb2, hlb⟩ : ∃ x, x = lb1 ++ [flB fl] := ⟨_, rfl⟩
        rw [← hlb] at HO2 hl2
        have HLB2 : Hid (lb2 = lb1 ++ encs (fun f => [flB f]) hf [fl]) := hide (by rw [hlb, HFE.out]; rfl)
        clear hp HGp HRW HTK g9 cur cur5 HO HG HVB HQ HZ hB1 hll hlb
        obtain ⟨wa2, rfl⟩ : ∃ x : World, x = w5 := ⟨_, rfl⟩
        obtain ⟨va2, rfl⟩ : ∃ x : Value, x = v5 := ⟨_, rfl⟩
        have HO := HO2
        have HG := HG2
        have HVB := HVB2
        have HQ := HQ2
        have HZ := HZ2
        have hB1 := hB2
        have hll := hl2
        clear HO2 HG2 HVB2 HQ2 HZ2 hB2 hl2
        clear HLH HLX HHH HXF HXL
        have HLH : Hid (ht.length = 4) := hide (by rw [HHT.out]; rfl)
        have HLX : Hid (ts.length = 4) := hide (by rw [HTS.out]; rfl)
        have HHH := HHT
        have HXF : Hid (∀ x ∈ ts, (enT x).length ≤ 1008) := hide (fun x hx => by unfold enT; rw [List.length_append, sb_len]; have h1 := intL_le x.length; have h3 := HTB.out x hx; omega)
        have HXL : Hid (∀ {j : Nat}, ∀ x ∈ ts.take j, (enT x).length ≤ 1008) := hide (fun x hx => HXF.out x (List.mem_of_mem_take hx))
        go_upto_region 15 with (first | (go_at_call 150; refine (texts_any _ _).mono ?_; rintro e w6 ⟨rfl, hY⟩; unfold ptsT))
        replace HQ := hide (range_below HQ.out hY)
        replace HG := hide (HG.out.trans (Gw.of va2 hY hB1))
        replace HO := hide (HO.out.below hY)
        replace HZ := hide (Nat.lt_of_lt_of_le HZ.out hY.size)
        replace hB1 := Nat.le_trans hB1 hY.size
        clear hY
        have hvb : va2.ownBlock ≠ some w.heap.size := HVB.out
        go_loopw [0, 54] (fun b i wr => ∃ (j : Nat), j ≤ 4 ∧ i = .int .i64 (j : Int) ∧ Hid (Ow B wr b (lb2 ++ encs enT (ht.take j) (ts.take j))) ∧ Hid (Gw B w6 wr va2 b)) (fun _ i _ => 4 - (intOf i).toNat)
        case atStart => exact ⟨0, Nat.zero_le _, rfl, hide (by simpa [encs] using HO.out), hide (Gw.refl _ _ _)⟩
        case round =>
          obtain ⟨j, hj, rfl, HOj, HGj⟩ := hrel
          by_cases hlt : j < 4
          · have hltI : (j : Int) < 4 := by omega
            have hix := idxT w.heap.size j hlt
            have hcj := cellT (HGj.out.range HQ.out HVB.out) j hlt
            rw [← HTS.out] at hcj
            have hSl := HTB.out _ (getD_mem ts [] j 4 HLX.out hlt)
            have hBr : B ≤ wr.heap.size := Nat.le_trans hB1 HGj.out.grown.size
            have HH := hide (fun W => bhas_any (sbj k) (512 * 2 ^ j % 4294967296) W)
            rw [bitT HK.out j hlt] at HH
            have hen : (lb2 ++ encs enT (ht.take j) (ts.take j)).length ≤ 705000 := by
              have := encs_le enT 1008 (ht.take j) (ts.take j) HXL.out
              rw [List.length_append]
              have h4 : (ts.take j).length ≤ 4 := by rw [List.length_take]; omega
              have := Nat.mul_le_mul_left 1008 h4
              omega
            have HE : Hid (encs enT (ht.take (j + 1)) (ts.take (j + 1)) = encs enT (ht.take j) (ts.take j) ++ (if ht.getD j false then enT (ts.getD j []) else [])) := hide (by rw [encs_take enT ht ts j (by rw [HLH.out]; omega) (by rw [HLH.out, HLX.out])]; simp [List.getD, HLH.out, HLX.out, hlt])
            rw [← HHH.out] at HH
            generalize ts.getD j [] = S at *
            generalize ht.getD j false = hb at *
            obtain ⟨cur, hrw, htk⟩ := id HOj.out
            have HRW := hide hrw
            have HTK := hide htk
            clear hrw htk
            have hbl := fun g (hg : u0.ownBlock = some g) => ow_lt HOj.out hg
            have HBL := hide hbl
            clear hbl
            cases hb with
            | true =>
              obtain ⟨cap, w4, hcv, hcell, hb4, hsz4, hcp⟩ := bytes_of S wr
              have HSL := hide (sb_sl hcp hcell)
              have HB4 := hide hb4
              have HOFF : Hid (0 < (sb S).length → ∀ b o k c, Value.slice (some ⟨wr.heap.size, 0, none⟩) S.length cap = .slice (some ⟨b, o, none⟩) k c → u0.ownBlock ≠ some b) := hide (fun _ b o k c e q => by cases e; have := (HBL.out _ q).1; omega)
              have hsb : (sb S).length ≤ 4000 := by rw [sb_len]; omega
              have hB4 : B ≤ w4.heap.size := by omega
              clear hcell hb4
              go_wp2_with (first | (go_at_call 139; refine (HH.out _).mono ?_; rintro e w1 ⟨rfl, hw1⟩; rw [hw1]; clear hw1 w1) | (go_at_call 76; refine (wtext_anyg B _ _ _ cur (sb S) _ (HRW.out.below HB4.out) hB4 (by omega) hsb HSL.out HOFF.out).mono ?_; rintro e w5 ⟨v5, rfl, hown, hbl5, hgr5, hbk5⟩))
              have HO5 := hide (Ow.owns (by rw [List.length_append]) HTK.out hown)
              have HG5 := hide (HGj.out.trans ((Gw.of u0 HB4.out hBr).trans ⟨hbl5, hgr5, hbk5⟩))
              clear hown hbl5 hgr5 hbk5
              go_roundw
              case rel => exact ⟨j + 1, by omega, by go_num, hide (by have e := HE.out; simp only [↓reduceIte] at e; rw [e, ← List.append_assoc]; have h5 := HO5.out; rw [sb_len] at h5; exact h5), HG5⟩
              case measure => simp [intOf]; omega
            | false =>
              go_wp2_with (first | (go_at_call 139; refine (HH.out _).mono ?_; rintro e w1 ⟨rfl, hw1⟩; rw [hw1]; clear hw1 w1))
              go_roundw
              case rel => exact ⟨j + 1, by omega, by go_num, hide (by rw [HE.out]; simpa using HOj.out), HGj⟩
              case measure => simp [intOf]; omega
          · obtain rfl : j = 4 := by omega
            clear hlt hj
            have HO2 : Hid (Ow B wr u0 (lb2 ++ encs enT ht ts)) := hide (by have := HOj.out; rwa [List.take_of_length_le (by rw [HLH.out]; omega), List.take_of_length_le (by rw [HLX.out]; omega)] at this)
            have HG2 := hide (HG.out.trans HGj.out)
            have HVB2 : Hid (u0.ownBlock ≠ some w.heap.size) := hide (fun e => by rcases HGj.out.blk with q | q; (rw [q] at e; exact HVB.out e); (have := q _ e; have := HZ.out; omega))
            have HQ2 := hide (HGj.out.range HQ.out HVB.out)
            have HZ2 := hide (Nat.lt_of_lt_of_le HZ.out HGj.out.grown.size)
            have hB2 : B ≤ wr.heap.size := Nat.le_trans hB1 HGj.out.grown.size
            have hl2 : (lb2 ++ encs enT ht ts).length ≤ 705000 := by
              have := encs_le enT 1008 ht ts HXF.out
              rw [HLX.out] at this
              rw [List.length_append]
              omega
            obtain ⟨lb3, hlb⟩ : ∃ x, x = lb2 ++ encs enT ht ts := ⟨_, rfl⟩
            rw [← hlb] at HO2 hl2
            have HLB3 := hide hlb
            clear HOj HGj HO HG HVB hvb HQ HZ hB1 hll hlb
            obtain ⟨wa3, rfl⟩ : ∃ x : World, x = wr := ⟨_, rfl⟩
            obtain ⟨va3, rfl⟩ : ∃ x : Value, x = u0 := ⟨_, rfl⟩
            have HO := HO2
            have HG := HG2
            have HVB := HVB2
            have HQ := HQ2
            have HZ := HZ2
            have hB1 := hB2
            have hll := hl2
            clear HO2 HG2 HVB2 HQ2 HZ2 hB2 hl2
            clear HLH HLX HHH HXF HXL
            have HLH : Hid (hr.length = 4) := hide (by rw [HHR.out]; rfl)
            have HLX : Hid (rs.length = 4) := hide hrl
            have HHH := HHR
            have HXF : Hid (∀ x ∈ rs, (enR x).length ≤ 8008) := hide (fun x hx => by unfold enR; rw [List.length_append]; have h1 := intL_le x.length; have h2 := rowL_le x; have h3 := (HRI.out x hx).1; omega)
            have HXL : Hid (∀ {j : Nat}, ∀ x ∈ rs.take j, (enR x).length ≤ 8008) := hide (fun x hx => HXF.out x (List.mem_of_mem_take hx))
            go_upto_region 21 with (first | (go_at_call 151; refine (rows_any _ _).mono ?_; rintro e w7 ⟨rfl, hY⟩; unfold ptsR))
            replace HQ := hide (range_below HQ.out hY)
            replace HG := hide (HG.out.trans (Gw.of va3 hY hB1))
            replace HO := hide (HO.out.below hY)
            replace HZ := hide (Nat.lt_of_lt_of_le HZ.out hY.size)
            replace hB1 := Nat.le_trans hB1 hY.size
            clear hY
            have hvb : va3.ownBlock ≠ some w.heap.size := HVB.out
            go_loopw [0, 70] (fun b i wr => ∃ (j : Nat), j ≤ 4 ∧ i = .int .i64 (j : Int) ∧ Hid (Ow B wr b (lb3 ++ encs enR (hr.take j) (rs.take j))) ∧ Hid (Gw B w7 wr va3 b)) (fun _ i _ => 4 - (intOf i).toNat)
            case atStart => exact ⟨0, Nat.zero_le _, rfl, hide (by simpa [encs] using HO.out), hide (Gw.refl _ _ _)⟩
            case round =>
              obtain ⟨j, hj, rfl, HOj, HGj⟩ := hrel
              by_cases hlt : j < 4
              · have hltI : (j : Int) < 4 := by omega
                have hix := idxR w.heap.size j hlt
                have hcj := cellW (HGj.out.range HQ.out HVB.out) j hlt
                rw [← HUS.out] at hcj
                have HSLR := hide ((HRB.out j hlt).imp (ok' := fun b => b < B) (W' := wr) (fun _ _ q => q) (fun b i _ ok => ((HG.out.trans HGj.out).below.cell (p := ⟨b, i, none⟩) ok)))
                have hRl := HRI.out _ (getD_mem rs [] j 4 HLX.out hlt)
                have hRl1 := hRl.1
                have HI64 := hide (fun i (h : i < (rs.getD j []).length) => hRl.2 _ (List.getElem_mem h))
                clear hRl
                have hBr : B ≤ wr.heap.size := Nat.le_trans hB1 HGj.out.grown.size
                have HH := hide (fun W => bhas_any (sbj k) (8192 * 2 ^ j % 4294967296) W)
                rw [bitR HK.out j hlt] at HH
                have hen : (lb3 ++ encs enR (hr.take j) (rs.take j)).length ≤ 738000 := by
                  have := encs_le enR 8008 (hr.take j) (rs.take j) HXL.out
                  rw [List.length_append]
                  have h4 : (rs.take j).length ≤ 4 := by rw [List.length_take]; omega
                  have := Nat.mul_le_mul_left 8008 h4
                  omega
                have HE : Hid (encs enR (hr.take (j + 1)) (rs.take (j + 1)) = encs enR (hr.take j) (rs.take j) ++ (if hr.getD j false then enR (rs.getD j []) else [])) := hide (by rw [encs_take enR hr rs j (by rw [HLH.out]; omega) (by rw [HLH.out, HLX.out])]; simp [List.getD, HLH.out, HLX.out, hlt])
                rw [← HHH.out] at HH
                generalize rs.getD j [] = R at *
                generalize us.getD j (.slice none 0 0) = U at *
                generalize hr.getD j false = hb at *
                obtain ⟨cur, hrw, htk⟩ := id HOj.out
                have HRW := hide hrw
                have HTK := hide htk
                clear hrw htk
                have hbl := fun g (hg : u0.ownBlock = some g) => ow_lt HOj.out hg
                have HBL := hide hbl
                clear hbl
                cases hb with
                | true =>
                  go_wp2_with (first | (go_at_call 139; refine (HH.out _).mono ?_; rintro e w1 ⟨rfl, hw1⟩; rw [hw1]; clear hw1 w1) | (go_at_call 152; refine (wrow_any B _ _ _ cur R _ HRW.out hBr (by omega) (by omega) HI64.out HSLR.out.sl (sli_off HSLR.out HBL.out)).mono ?_; rintro e w5 ⟨v5, cur5, rfl, hp⟩))
                  have HO5 := hide (Ow.put HTK.out hp)
                  have HG5 := hide (HGj.out.trans (Gw.put hp))
                  clear hp
                  go_roundw
                  case rel => exact ⟨j + 1, by omega, by go_num, hide (by have e := HE.out; simp only [↓reduceIte] at e; rw [e, ← List.append_assoc]; exact HO5.out), HG5⟩
                  case measure => simp [intOf]; omega
                | false =>
                  go_wp2_with (first | (go_at_call 139; refine (HH.out _).mono ?_; rintro e w1 ⟨rfl, hw1⟩; rw [hw1]; clear hw1 w1))
                  go_roundw
                  case rel => exact ⟨j + 1, by omega, by go_num, hide (by rw [HE.out]; simpa using HOj.out), HGj⟩
                  case measure => simp [intOf]; omega
              · obtain rfl : j = 4 := by omega
                clear hlt hj
                have HO2 : Hid (Ow B wr u0 (lb3 ++ encs enR hr rs)) := hide (by have := HOj.out; rwa [List.take_of_length_le (by rw [HLH.out]; omega), List.take_of_length_le (by rw [HLX.out]; omega)] at this)
                have HG2 := hide (HG.out.trans HGj.out)
                have HVB2 : Hid (u0.ownBlock ≠ some w.heap.size) := hide (fun e => by rcases HGj.out.blk with q | q; (rw [q] at e; exact HVB.out e); (have := q _ e; have := HZ.out; omega))
                have HQ2 := hide (HGj.out.range HQ.out HVB.out)
                have HZ2 := hide (Nat.lt_of_lt_of_le HZ.out HGj.out.grown.size)
                have hB2 : B ≤ wr.heap.size := Nat.le_trans hB1 HGj.out.grown.size
                have hl2 : (lb3 ++ encs enR hr rs).length ≤ 738000 := by
                  have := encs_le enR 8008 hr rs HXF.out
                  rw [HLX.out] at this
                  rw [List.length_append]
                  omega
                obtain ⟨lb4, hlb⟩ : ∃ x, x = lb3 ++ encs enR hr rs := ⟨_, rfl⟩
                rw [← hlb] at HO2 hl2
                have HLB4 := hide hlb
                clear HOj HGj HO HG HVB hvb HQ HZ hB1 hll hlb
                go_wp2_with fail
                exact bodyPost_ret (v := .tuple #[u0, .nilIface]) (by simp [results, Tryz.results114, go_sem]) rfl ⟨u0, rfl, by have h9 := HO2.out; rw [HLB4.out, HLB3.out, HLB2.out, HLB1.out, HL0.out] at h9; simp only [List.append_assoc] at h9; exact h9, HG2.out⟩
      | false =>
        go_upto_region 14 with (first | (go_at_call 139; refine (HFB.out _).mono ?_; rintro e w1 ⟨rfl, hw1⟩; rw [hw1]; clear hw1 w1))
        have HO2 := HO
        have HG2 := HG
        have HVB2 := HVB
        have HQ2 := HQ
        have HZ2 := HZ
        have hB2 := hB1
        have hl2 : lb1.length ≤ 700101 := by omega
        obtain ⟨lb2, hlb⟩ : ∃ x, x = lb1 := ⟨_, rfl⟩
        rw [← hlb] at HO2 hl2
        have HLB2 : Hid (lb2 = lb1 ++ encs (fun f => [flB f]) hf [fl]) := hide (by rw [hlb, HFE.out]; simp [encs])
        clear HO HG HVB HQ HZ hB1 hll hlb
        obtain ⟨wa2, rfl⟩ : ∃ x : World, x = wa1 := ⟨_, rfl⟩
        obtain ⟨va2, rfl⟩ : ∃ x : Value, x = va1 := ⟨_, rfl⟩
        have HO := HO2
        have HG := HG2
        have HVB := HVB2
        have HQ := HQ2
        have HZ := HZ2
        have hB1 := hB2
        have hll := hl2
        clear HO2 HG2 HVB2 HQ2 HZ2 hB2 hl2
        clear HLH HLX HHH HXF HXL
        have HLH : Hid (ht.length = 4) := hide (by rw [HHT.out]; rfl)
        have HLX : Hid (ts.length = 4) := hide (by rw [HTS.out]; rfl)
        have HHH := HHT
        have HXF : Hid (∀ x ∈ ts, (enT x).length ≤ 1008) := hide (fun x hx => by unfold enT; rw [List.length_append, sb_len]; have h1 := intL_le x.length; have h3 := HTB.out x hx; omega)
        have HXL : Hid (∀ {j : Nat}, ∀ x ∈ ts.take j, (enT x).length ≤ 1008) := hide (fun x hx => HXF.out x (List.mem_of_mem_take hx))
        go_upto_region 15 with (first | (go_at_call 150; refine (texts_any _ _).mono ?_; rintro e w6 ⟨rfl, hY⟩; unfold ptsT))
        replace HQ := hide (range_below HQ.out hY)
        replace HG := hide (HG.out.trans (Gw.of va2 hY hB1))
        replace HO := hide (HO.out.below hY)
        replace HZ := hide (Nat.lt_of_lt_of_le HZ.out hY.size)
        replace hB1 := Nat.le_trans hB1 hY.size
        clear hY
        have hvb : va2.ownBlock ≠ some w.heap.size := HVB.out
        go_loopw [0, 54] (fun b i wr => ∃ (j : Nat), j ≤ 4 ∧ i = .int .i64 (j : Int) ∧ Hid (Ow B wr b (lb2 ++ encs enT (ht.take j) (ts.take j))) ∧ Hid (Gw B w6 wr va2 b)) (fun _ i _ => 4 - (intOf i).toNat)
        case atStart => exact ⟨0, Nat.zero_le _, rfl, hide (by simpa [encs] using HO.out), hide (Gw.refl _ _ _)⟩
        case round =>
          obtain ⟨j, hj, rfl, HOj, HGj⟩ := hrel
          by_cases hlt : j < 4
          · have hltI : (j : Int) < 4 := by omega
            have hix := idxT w.heap.size j hlt
            have hcj := cellT (HGj.out.range HQ.out HVB.out) j hlt
            rw [← HTS.out] at hcj
            have hSl := HTB.out _ (getD_mem ts [] j 4 HLX.out hlt)
            have hBr : B ≤ wr.heap.size := Nat.le_trans hB1 HGj.out.grown.size
            have HH := hide (fun W => bhas_any (sbj k) (512 * 2 ^ j % 4294967296) W)
            rw [bitT HK.out j hlt] at HH
            have hen : (lb2 ++ encs enT (ht.take j) (ts.take j)).length ≤ 705000 := by
              have := encs_le enT 1008 (ht.take j) (ts.take j) HXL.out
              rw [List.length_append]
              have h4 : (ts.take j).length ≤ 4 := by rw [List.length_take]; omega
              have := Nat.mul_le_mul_left 1008 h4
              omega
            have HE : Hid (encs enT (ht.take (j + 1)) (ts.take (j + 1)) = encs enT (ht.take j) (ts.take j) ++ (if ht.getD j false then enT (ts.getD j []) else [])) := hide (by rw [encs_take enT ht ts j (by rw [HLH.out]; omega) (by rw [HLH.out, HLX.out])]; simp [List.getD, HLH.out, HLX.out, hlt])
            rw [← HHH.out] at HH
            generalize ts.getD j [] = S at *
            generalize ht.getD j false = hb at *
            obtain ⟨cur, hrw, htk⟩ := id HOj.out
            have HRW := hide hrw
            have HTK := hide htk
            clear hrw htk
            have hbl := fun g (hg : u0.ownBlock = some g) => ow_lt HOj.out hg
            have HBL := hide hbl
            clear hbl
            cases hb with
            | true =>
              obtain ⟨cap, w4, hcv, hcell, hb4, hsz4, hcp⟩ := bytes_of S wr
              have HSL := hide (sb_sl hcp hcell)
              have HB4 := hide hb4
              have HOFF : Hid (0 < (sb S).length → ∀ b o k c, Value.slice (some ⟨wr.heap.size, 0, none⟩) S.length cap = .slice (some ⟨b, o, none⟩) k c → u0.ownBlock ≠ some b) := hide (fun _ b o k c e q => by cases e; have := (HBL.out _ q).1; omega)
              have hsb : (sb S).length ≤ 4000 := by rw [sb_len]; omega
              have hB4 : B ≤ w4.heap.size := by omega
              clear hcell hb4
              go_wp2_with (first | (go_at_call 139; refine (HH.out _).mono ?_; rintro e w1 ⟨rfl, hw1⟩; rw [hw1]; clear hw1 w1) | (go_at_call 76; refine (wtext_anyg B _ _ _ cur (sb S) _ (HRW.out.below HB4.out) hB4 (by omega) hsb HSL.out HOFF.out).mono ?_; rintro e w5 ⟨v5, rfl, hown, hbl5, hgr5, hbk5⟩))
              have HO5 := hide (Ow.owns (by rw [List.length_append]) HTK.out hown)
              have HG5 := hide (HGj.out.trans ((Gw.of u0 HB4.out hBr).trans ⟨hbl5, hgr5, hbk5⟩))
              clear hown hbl5 hgr5 hbk5
              go_roundw
              case rel => exact ⟨j + 1, by omega, by go_num, hide (by have e := HE.out; simp only [↓reduceIte] at e; rw [e, ← List.append_assoc]; have h5 := HO5.out; rw [sb_len] at h5; exact h5), HG5⟩
              case measure => simp [intOf]; omega
            | false =>
              go_wp2_with (first | (go_at_call 139; refine (HH.out _).mono ?_; rintro e w1 ⟨rfl, hw1⟩; rw [hw1]; clear hw1 w1))
              go_roundw
              case rel => exact ⟨j + 1, by omega, by go_num, hide (by rw [HE.out]; simpa using HOj.out), HGj⟩
              case measure => simp [intOf]; omega
          · obtain rfl : j = 4 := by omega
            clear hlt hj
            have HO2 : Hid (Ow B wr u0 (lb2 ++ encs enT ht ts)) := hide (by have := HOj.out; rwa [List.take_of_length_le (by rw [HLH.out]; omega), List.take_of_length_le (by rw [HLX.out]; omega)] at this)
            have HG2 := hide (HG.out.trans HGj.out)
            have HVB2 : Hid (u0.ownBlock ≠ some w.heap.size) := hide (fun e => by rcases HGj.out.blk with q | q; (rw [q] at e; exact HVB.out e); (have := q _ e; have := HZ.out; omega))
            have HQ2 := hide (HGj.out.range HQ.out HVB.out)
            have HZ2 := hide (Nat.lt_of_lt_of_le HZ.out HGj.out.grown.size)
            have hB2 : B ≤ wr.heap.size := Nat.le_trans hB1 HGj.out.grown.size
            have hl2 : (lb2 ++ encs enT ht ts).length ≤ 705000 := by
              have := encs_le enT 1008 ht ts HXF.out
              rw [HLX.out] at this
              rw [List.length_append]
              omega
            obtain ⟨lb3, hlb⟩ : ∃ x, x = lb2 ++ encs enT ht ts := ⟨_, rfl⟩
            rw [← hlb] at HO2 hl2
            have HLB3 := hide hlb
            clear HOj HGj HO HG HVB hvb HQ HZ hB1 hll hlb
            obtain ⟨wa3, rfl⟩ : ∃ x : World, x = wr := ⟨_, rfl⟩
            obtain ⟨va3, rfl⟩ : ∃ x : Value, x = u0 := ⟨_, rfl⟩
            have HO := HO2
            have HG := HG2
            have HVB := HVB2
            have HQ := HQ2
            have HZ := HZ2
            have hB1 := hB2
            have hll := hl2
            clear HO2 HG2 HVB2 HQ2 HZ2 hB2 hl2
            clear HLH HLX HHH HXF HXL
            have HLH : Hid (hr.length = 4) := hide (by rw [HHR.out]; rfl)
            have HLX : Hid (rs.length = 4) := hide hrl
            have HHH := HHR
            have HXF : Hid (∀ x ∈ rs, (enR x).length ≤ 8008) := hide (fun x hx => by unfold enR; rw [List.length_append]; have h1 := intL_le x.length; have h2 := rowL_le x; have h3 := (HRI.out x hx).1; omega)
            have HXL : Hid (∀ {j : Nat}, ∀ x ∈ rs.take j, (enR x).length ≤ 8008) := hide (fun x hx => HXF.out x (List.mem_of_mem_take hx))
            go_upto_region 21 with (first | (go_at_call 151; refine (rows_any _ _).mono ?_; rintro e w7 ⟨rfl, hY⟩; unfold ptsR))
            replace HQ := hide (range_below HQ.out hY)
            replace HG := hide (HG.out.trans (Gw.of va3 hY hB1))
            replace HO := hide (HO.out.below hY)
            replace HZ := hide (Nat.lt_of_lt_of_le HZ.out hY.size)
            replace hB1 := Nat.le_trans hB1 hY.size
            clear hY
            have hvb : va3.ownBlock ≠ some w.heap.size := HVB.out
            go_loopw [0, 70] (fun b i wr => ∃ (j : Nat), j ≤ 4 ∧ i = .int .i64 (j : Int) ∧ Hid (Ow B wr b (lb3 ++ encs enR (hr.take j) (rs.take j))) ∧ Hid (Gw B w7 wr va3 b)) (fun _ i _ => 4 - (intOf i).toNat)
            case atStart => exact ⟨0, Nat.zero_le _, rfl, hide (by simpa [encs] using HO.out), hide (Gw.refl _ _ _)⟩
            case round =>
              obtain ⟨j, hj, rfl, HOj, HGj⟩ := hrel
              by_cases hlt : j < 4
              · have hltI : (j : Int) < 4 := by omega
                have hix := idxR w.heap.size j hlt
                have hcj := cellW (HGj.out.range HQ.out HVB.out) j hlt
                rw [← HUS.out] at hcj
                have HSLR := hide ((HRB.out j hlt).imp (ok' := fun b => b < B) (W' := wr) (fun _ _ q => q) (fun b i _ ok => ((HG.out.trans HGj.out).below.cell (p := ⟨b, i, none⟩) ok)))
                have hRl := HRI.out _ (getD_mem rs [] j 4 HLX.out hlt)
                have hRl1 := hRl.1
                have HI64 := hide (fun i (h : i < (rs.getD j []).length) => hRl.2 _ (List.getElem_mem h))
                clear hRl
                have hBr : B ≤ wr.heap.size := Nat.le_trans hB1 HGj.out.grown.size
                have HH := hide (fun W => bhas_any (sbj k) (8192 * 2 ^ j % 4294967296) W)
                rw [bitR HK.out j hlt] at HH
                have hen : (lb3 ++ encs enR (hr.take j) (rs.take j)).length ≤ 738000 := by
                  have := encs_le enR 8008 (hr.take j) (rs.take j) HXL.out
                  rw [List.length_append]
                  have h4 : (rs.take j).length ≤ 4 := by rw [List.length_take]; omega
                  have := Nat.mul_le_mul_left 8008 h4
                  omega
                have HE : Hid (encs enR (hr.take (j + 1)) (rs.take (j + 1)) = encs enR (hr.take j) (rs.take j) ++ (if hr.getD j false then enR (rs.getD j []) else [])) := hide (by rw [encs_take enR hr rs j (by rw [HLH.out]; omega) (by rw [HLH.out, HLX.out])]; simp [List.getD, HLH.out, HLX.out, hlt])
                rw [← HHH.out] at HH
                generalize rs.getD j [] = R at *
                generalize us.getD j (.slice none 0 0) = U at *
                generalize hr.getD j false = hb at *
                obtain ⟨cur, hrw, htk⟩ := id HOj.out
                have HRW := hide hrw
                have HTK := hide htk
                clear hrw htk
                have hbl := fun g (hg : u0.ownBlock = some g) => ow_lt HOj.out hg
                have HBL := hide hbl
                clear hbl
                cases hb with
                | true =>
                  go_wp2_with (first | (go_at_call 139; refine (HH.out _).mono ?_; rintro e w1 ⟨rfl, hw1⟩; rw [hw1]; clear hw1 w1) | (go_at_call 152; refine (wrow_any B _ _ _ cur R _ HRW.out hBr (by omega) (by omega) HI64.out HSLR.out.sl (sli_off HSLR.out HBL.out)).mono ?_; rintro e w5 ⟨v5, cur5, rfl, hp⟩))
                  have HO5 := hide (Ow.put HTK.out hp)
                  have HG5 := hide (HGj.out.trans (Gw.put hp))
                  clear hp
                  go_roundw
                  case rel => exact ⟨j + 1, by omega, by go_num, hide (by have e := HE.out; simp only [↓reduceIte] at e; rw [e, ← List.append_assoc]; exact HO5.out), HG5⟩
                  case measure => simp [intOf]; omega
                | false =>
                  go_wp2_with (first | (go_at_call 139; refine (HH.out _).mono ?_; rintro e w1 ⟨rfl, hw1⟩; rw [hw1]; clear hw1 w1))
                  go_roundw
                  case rel => exact ⟨j + 1, by omega, by go_num, hide (by rw [HE.out]; simpa using HOj.out), HGj⟩
                  case measure => simp [intOf]; omega
              · obtain rfl : j = 4 := by omega
                clear hlt hj
                have HO2 : Hid (Ow B wr u0 (lb3 ++ encs enR hr rs)) := hide (by have := HOj.out; rwa [List.take_of_length_le (by rw [HLH.out]; omega), List.take_of_length_le (by rw [HLX.out]; omega)] at this)
                have HG2 := hide (HG.out.trans HGj.out)
                have HVB2 : Hid (u0.ownBlock ≠ some w.heap.size) := hide (fun e => by rcases HGj.out.blk with q | q; (rw [q] at e; exact HVB.out e); (have := q _ e; have := HZ.out; omega))
                have HQ2 := hide (HGj.out.range HQ.out HVB.out)
                have HZ2 := hide (Nat.lt_of_lt_of_le HZ.out HGj.out.grown.size)
                have hB2 : B ≤ wr.heap.size := Nat.le_trans hB1 HGj.out.grown.size
                have hl2 : (lb3 ++ encs enR hr rs).length ≤ 738000 := by
                  have := encs_le enR 8008 hr rs HXF.out
                  rw [HLX.out] at this
                  rw [List.length_append]
                  omega
                obtain ⟨lb4, hlb⟩ : ∃ x, x = lb3 ++ encs enR hr rs := ⟨_, rfl⟩
                rw [← hlb] at HO2 hl2
                have HLB4 := hide hlb
                clear HOj HGj HO HG HVB hvb HQ HZ hB1 hll hlb
                go_wp2_with fail
                exact bodyPost_ret (v := .tuple #[u0, .nilIface]) (by simp [results, Tryz.results114, go_sem]) rfl ⟨u0, rfl, by have h9 := HO2.out; rw [HLB4.out, HLB3.out, HLB2.out, HLB1.out, HL0.out] at h9; simp only [List.append_assoc] at h9; exact h9, HG2.out⟩
/-- A record that may be, behind any bytes. -/
theorem cput_ok (B : Nat) (u : Value) (l0 : List Int) (r : Rc) (v : Value) (w : World) (hu : Ow B w u l0) (hl0 : l0.length ≤ 700000) (hB : B ≤ w.heap.size) (hv : IsR (fun b => b < B) w v r) (hc : (chk r).2.2 = 0) :
    Calls Tryz.prog 114 #[u, v] w fun e w' => ∃ v', e = .returned (.tuple #[v', .nilIface]) ∧ Ow B w' v' (l0 ++ putL r) ∧ Gw B w w' u v' := by
  have hi := chk_is hc
  have ho := hi.ok
  have n1 : r.nm.length ≤ 256 := by have := nameA_asks hi.nm; split at this; (exact this); (rw [this]; simp)
  have n2 : r.ky.length ≤ 256 := by have := nameA_asks hi.ky; split at this; (exact this); (rw [this]; simp)
  have n4 : r.rk.length ≤ 256 := by have := nameA_asks hi.rk; split at this; (exact this); (rw [this]; simp)
  have n3 := hi.va
  have hrow : ∀ (l : List Int) (h : Bool), rowB l h = true → l.length ≤ 1000 ∧ ∀ y ∈ l, y ≤ 9223372036854775807 := fun l h e => by
    have := rowB_asks e
    split at this
    · exact ⟨by omega, fun y hy => by have := this.2 y hy; omega⟩
    · rw [this]; exact ⟨by simp, fun y hy => by simp at hy⟩
  have hnum : ∀ (x lo hi : Int) (h : Bool), numB x h lo hi = true → hi ≤ 1073741824 → x ≤ 9223372036854775807 := fun x lo hi h e q => by
    have := numB_asks e
    split at this <;> omega
  have HC := hide (fun W (h : Below w.heap.size w W) => ccheck_any r v W (hv.below h) ⟨by omega, by omega, by omega, by omega⟩)
  rw [show erN (chk r).1 (chk r).2.1 (chk r).2.2 = .nilIface from if_pos hc] at HC
  obtain ⟨a14, a15, a16, a17, c14, c15, c16, c17, rfl, h⟩ := hv
  refine cput_go B u l0 r.k r.br r.ep r.tp r.pa r.le r.cl r.se r.co r.fl r.nm r.ky r.va r.rk a14 a15 a16 a17 c14 c15 c16 c17 r.ids r.isr r.ad r.dr w r.ns r.ts r.rs _ (hN r.k) (hF r.k) (hT r.k) (hR r.k) hu hl0 hB hi.k1 hi.k2 (hide rfl) (hide rfl) (hide rfl) (hide rfl) (hide rfl) (hide rfl) (hide rfl) (hide ?_) (hide ?_) rfl (hide ?_) (hide ?_) HC
  · intro j hj
    match j, hj with
    | 0, _ => exact hnum _ _ _ _ hi.br (by decide)
    | 1, _ => exact hnum _ _ _ _ hi.ep (by decide)
    | 2, _ => exact hnum _ _ _ _ hi.tp (by decide)
    | 3, _ => exact hnum _ _ _ _ hi.pa (by decide)
    | 4, _ => exact hnum _ _ _ _ hi.le (by decide)
    | 5, _ => exact hnum _ _ _ _ hi.cl (by decide)
    | 6, _ => exact hnum _ _ _ _ hi.se (by decide)
    | 7, _ => exact hnum _ _ _ _ hi.co (by decide)
    | n + 8, h => exact absurd h (by omega)
  · intro x hx
    simp only [Rc.ts, List.mem_cons, List.not_mem_nil, or_false] at hx
    rcases hx with rfl | rfl | rfl | rfl <;> omega
  · intro j hj
    match j, hj with
    | 0, _ => exact h.h14
    | 1, _ => exact h.h15
    | 2, _ => exact h.h16
    | 3, _ => exact h.h17
    | n + 4, h => exact absurd h (by omega)
  · intro x hx
    simp only [Rc.rs, List.mem_cons, List.not_mem_nil, or_false] at hx
    rcases hx with rfl | rfl | rfl | rfl
    · exact hrow _ _ hi.ids
    · exact hrow _ _ hi.isr
    · exact hrow _ _ hi.ad
    · exact hrow _ _ hi.dr
end Go.Proofs.YtkpknkhacmggnaaGreatDoor
