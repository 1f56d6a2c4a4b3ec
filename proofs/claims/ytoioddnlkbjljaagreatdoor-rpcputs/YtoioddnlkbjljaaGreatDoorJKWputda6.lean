/-
  A TEXT WRITTEN BEHIND BYTES (wire.Text). Conditions: the bytes are nil or a row of their own, and fewer than a million; the text has at most four thousand and does not lie in that row.
  A ROW WRITTEN BEHIND BYTES (wire.Row). Conditions: the bytes are nil or a row of their own, and fewer than a million; the row has at most four thousand numbers and does not lie in that row.
  A RECORD AS BYTES, OR WHAT IS WRONG WITH IT (record.Put): what the document says. Conditions: its rows' cells hold them, texts of no more than a thousand letters; the bytes that are ahead are nil or a row of their own, the record's rows lie ahead of it.
  A RECORD AS BYTES, behind any others (record.Put, of a record that may be).
  WHAT IS READ OF A RECORD BEHIND ITS KIND (record.fields). Conditions: the bytes' cells hold them, each is a byte, no more than ten thousand, they don't lie in the reader, and the reader is within them.
  WHAT IS READ OF A RECORD BEHIND ITS KIND (record.fields): the walk.
-/
import Derived.Test.YtoioddnlkbjljaaGreatDoorJKFrameReca6
import Derived.Test.YtoioddnlkbjljaaGreatDoorJKRecChca2
namespace Go.Proofs.YtoioddnlkbjljaaGreatDoor
open Go.RowKit

theorem szL_intL (l : Nat) (h : l ≤ 4000) : szL l = (intL l).length := by
  unfold szL intL
  rw [if_neg (by omega), show capN (l : Int) = l from if_neg (by omega)]
theorem szL_pos (n : Int) : 0 < szL n := by
  unfold szL numL
  split
  · simp
  · split
    · simp
    · split <;> simp
/-- The row behind it: what was there, how long the text is, the text. -/
theorem text_row {B m S g : Nat} {w2 w3 : World} {cur c2 cur' : List Value} {l : List Int} {v' : Value} {N : List Int} (hN : N.length = S) (hroom : m + (S + l.length) ≤ c2.length) (hmx : c2.length ≤ maxLen) (hBg : B ≤ g) (htk : c2.take m = cur.take m) (hcm : m ≤ cur.length)
    (hp : Put B w2 (.slice (some ⟨g, 0, none⟩) m c2.length) m (splice c2 (m + S) (l.map bc)) w3 v' S cur' (bv N)) :
    v' = .slice (some ⟨g, 0, none⟩) (m + S) c2.length ∧ w3.ownsRow B 5 1 (.slice (some ⟨g, 0, none⟩) (m + S + l.length) c2.length) (m + S + l.length) (cur.take m ++ bv (N ++ l)) := by
  have hsl : (splice c2 (m + S) (l.map bc)).length = c2.length := length_splice _ _ _ (by simp; omega)
  obtain ⟨f1, f2, f3⟩ := hp.fit (by rw [hsl]; omega)
  obtain ⟨r1, r2, r3⟩ := hp.rw
  rw [hsl] at f2
  rcases r3 with ⟨rfl, rfl⟩ | ⟨g', rfl, a2, a3⟩
  · cases f1
  · have hg : g' = g := by
      have : some g' = some g := f1
      exact Option.some.inj this
    subst hg
    refine ⟨by rw [f2], ⟨?_, .inr ⟨g', c2.length, cur'.toArray, rfl, hBg, a3, by omega, hmx, by simp [f2], ?_⟩⟩⟩
    · rw [List.length_append, List.length_take, Nat.min_eq_left hcm]
      simp [bv]; omega
    · have e1 := hp.tk
      have e2 : (splice c2 (m + S) (l.map bc)).take m = cur.take m := by
        rw [← htk]
        unfold splice
        rw [List.take_append_of_le_length (by simp; omega), List.take_take, Nat.min_eq_left (by omega)]
      have e3 : (splice c2 (m + S) (l.map bc)).drop (m + S) = l.map bc ++ c2.drop (m + S + (l.map bc).length) := by
        unfold splice
        rw [List.drop_append, List.drop_eq_nil_of_le (by simp; omega), List.nil_append]
        have : m + S - (c2.take (m + S)).length = 0 := by simp; omega
        rw [this, List.drop_zero]
      rw [e2] at e1
      rw [e3] at f3
      simp only [Nat.mul_one]
      have e4 : (l.map bc ++ c2.drop (m + S + (l.map bc).length)).take l.length = l.map bc := by
        rw [List.take_append_of_le_length (by simp)]
        exact List.take_of_length_le (by simp)
      rw [List.take_add, e1, f3, e4]
      simp [bv_eq]
/-- What has grown: the row alone, by way of a row with room. -/
theorem grown_text {w w1 w2 w3 : World} {g : Nat} {ob : Option Nat} (hb : Below w.heap.size w w1) (h2 : ∀ k, k ≠ g → w2.heap[k]? = w1.heap[k]?) (hs : w2.heap.size = w1.heap.size) (e1 : w2.os = w1.os) (e2 : w2.tape = w1.tape) (e3 : w2.output = w1.output) (hg : w2.grownBy w3 (some g)) (hblk : ob = some g ∨ w.heap.size ≤ g) : w.grownBy w3 ob :=
  ⟨hg.os.trans (e1.trans hb.os), hg.tape.trans (e2.trans hb.tape), hg.output.trans (e3.trans hb.output), Nat.le_trans hb.size (by rw [← hs]; exact hg.size), fun k hk hne => by
    have hkg : k ≠ g := by
      rintro rfl
      rcases hblk with q | q
      · exact hne q.symm
      · omega
    rw [hg.block k (by rw [hs]; exact Nat.lt_of_lt_of_le hk hb.size) (fun q => hkg (Option.some.inj q)), h2 k hkg, hb.block k hk]⟩
set_option maxRecDepth 100000 in
set_option maxHeartbeats 8000000 in
theorem wtext_some (B : Nat) (v : Value) (m S : Nat) (cur : List Value) (b o sc : Nat) (l : List Int) (w : World) (hr : Rw B w v m cur) (hB : B ≤ w.heap.size) (hm : m ≤ 800000) (hl : l.length ≤ 4000) (hS : (intL (l.length : Nat)).length = S) (h0 : 0 < l.length) (hne : v.ownBlock ≠ some b) (h3 : ∀ i (h : i < l.length), w.cell? ⟨b, o + i, none⟩ = some (bc l[i])) :
    Calls Tryz.prog 60 #[v, .slice (some ⟨b, o, none⟩) l.length sc] w fun e w' => ∃ v', e = .returned v' ∧ w'.ownsRow B 5 1 v' (m + S + l.length) (cur.take m ++ bv (intL (l.length : Nat) ++ l)) ∧ Below B w w' ∧ w.grownBy w' v.ownBlock ∧ (v'.ownBlock = v.ownBlock ∨ ∀ g, v'.ownBlock = some g → w.heap.size ≤ g) := by
  have hS1 : 0 < S := by have h := szL_pos (l.length : Nat); rw [szL_intL _ hl] at h; omega
  have hS8 : S ≤ 8 := by rw [← hS]; exact intL_le _
  have HG := hide (fun W (h : Rw B W v m cur) => grow_any B v m (S + l.length) cur W h)
  obtain ⟨ao, rfl, hn, hs⟩ := rw_form hr
  have HN := hide (fun W => natural_any (l.length : Nat) W (by omega))
  rw [show abv' ((l.length : Nat) : Int) = (l.length : Nat) by unfold abv'; rw [if_neg (by omega)]] at HN
  have HS := hide (wsize_any (l.length : Nat))
  rw [show szL (l.length : Nat) = (S : Int) by rw [szL_intL _ hl, hS]] at HS
  have HR := hide hr
  have HL := hide hS
  have H3 := hide h3
  clear h3
  clear hs hn hr hS
  go_enter Tryz.func60, Tryz.ntmps60
  go_wp2_with (first
    | (go_at_call 92; refine (HN.out _).mono ?_; rintro e w' ⟨rfl, rfl⟩)
    | (go_at_call 93; refine (HS.out _).mono ?_; rintro e w' ⟨rfl, rfl⟩))
  rw [show ((m : Int) + (S : Int) + (l.length : Int) - (m : Int)) = ((S + l.length : Nat) : Int) by omega]
  refine (HG.out _ HR.out hB (by omega) (by omega)).mono ?_
  rintro e w1 ⟨g, c2, rfl, hh, hBg, hblk, hroom, hmx, htk, hb⟩
  have hmx' : c2.length ≤ 9223372036854775807 := by unfold maxLen at hmx; omega
  have HH := hide hh
  have HB := hide hb
  have HT := hide htk
  clear hh hb htk HN HS HG
  have hneC : ¬ c2.length = m + S := by omega
  have hbg : b ≠ g := by
    intro e
    subst e
    rcases hblk with q | q
    · exact hne q
    · have := cell_block (H3.out 0 h0)
      simp at this
      omega
  have HCS := hide (fun j u (hj : (l.map bc)[j]? = some u) => show w1.cell? ((⟨b, o, none⟩ : Addr).add j) = some u from Sl.news (f := bc) (w := w1) (b := b) (o := o) (l := l) (fun i hi => by rw [HB.out.cell (p := ⟨b, o + i, none⟩) (cell_block (H3.out i hi))]; exact H3.out i hi) j u hj)
  obtain ⟨CS, hCS⟩ : ∃ CS, CS = l.map bc := ⟨_, rfl⟩
  have HCE := hide hCS
  have hCL : CS.length = l.length := by rw [hCS]; simp
  rw [← hCS] at HCS
  clear hCS
  have hrow := run_copy_row (P := Tryz.prog) w1 23 23 3 5 g (m + S) l.length (c2.length - (m + S)) ⟨b, o, none⟩ l.length sc c2.toArray 5 CS Tryz.underlying23 size5 HH.out (by rw [hCL]; exact (Nat.min_self _).symm) HCS.out (by simp; omega) (by rw [HCE.out]; exact Sl.one (fun _ => rfl) l)
  rw [hCL] at hrow
  obtain ⟨w2, hw2⟩ : ∃ w2, w2 = w1.setRow g (c2.toArray.toList.take (m + S) ++ CS ++ c2.toArray.toList.drop (m + S + l.length)).toArray := ⟨_, rfl⟩
  rw [← hw2] at hrow
  have hg2 : w2.heap[g]? = some (.cells (splice c2 (m + S) (l.map bc)).toArray 5 (0, 0)) := by
    rw [hw2]
    have := setRow_heap w1 g c2.toArray (c2.toArray.toList.take (m + S) ++ CS ++ c2.toArray.toList.drop (m + S + l.length)).toArray 5 _ HH.out
    rw [this]
    unfold splice
    rw [HCE.out]
    simp [List.append_assoc]
  have hb2 : Below B w' w2 := by rw [hw2]; exact below_setRow (HB.out.mono hB) hBg _
  have hsz2 : B ≤ w2.heap.size := by have := hb2.size; omega
  have hsl : (splice c2 (m + S) (l.map bc)).length = c2.length := length_splice _ _ _ (by simp; omega)
  have HI := hide (wint_any B (.slice (some ⟨g, 0, none⟩) m c2.length) m (splice c2 (m + S) (l.map bc)) l.length w2 ⟨by omega, by omega, .inr ⟨g, by rw [hsl], hBg, hg2⟩⟩ hsz2 (by omega) (by omega))
  have HB2 := hide hb2
  have hcm := HR.out.1
  have HGT : Hid (∀ w3, w2.grownBy w3 (some g) → w'.grownBy w3 (Value.slice ao m cur.length).ownBlock) := hide (fun w3 h => by rw [hw2] at h; exact grown_text HB.out (fun k hk => setRow_other w1 g k _ hk) (by simp) rfl rfl rfl h hblk)
  clear hw2 hg2 hb2 hsl HCS HCE
  go_wp2_with fail
  refine (HI.out).mono ?_
  rintro e w3 ⟨v', cur', rfl, hp⟩
  rw [HL.out] at hp
  obtain ⟨rfl, hown⟩ := text_row (cur := cur) (l := l) HL.out hroom hmx hBg HT.out hcm hp
  have HO := hide hown
  have HB3 := hide (HB2.out.trans hp.below)
  have HG3 := hide (HGT.out _ hp.grown)
  have HK : Hid ((some g = (Value.slice ao m cur.length).ownBlock) ∨ ∀ g', some g = some g' → w'.heap.size ≤ g') := hide (hblk.imp (fun q => q.symm) (fun q g' e => by cases e; exact q))
  clear hown hp HI
  go_wp2_with fail
  go_ret
  exact ⟨_, rfl, HO.out, HB3.out, HG3.out, HK.out⟩
set_option maxRecDepth 100000 in
set_option maxHeartbeats 8000000 in
theorem wtext_none (B : Nat) (v : Value) (m : Nat) (cur : List Value) (sp : Option Addr) (sc : Nat) (w : World) (hr : Rw B w v m cur) (hB : B ≤ w.heap.size) (hm : m ≤ 800000) :
    Calls Tryz.prog 60 #[v, .slice sp 0 sc] w fun e w' => ∃ v', e = .returned v' ∧ w'.ownsRow B 5 1 v' (m + 1 + 0) (cur.take m ++ bv (intL 0 ++ [])) ∧ Below B w w' ∧ w.grownBy w' v.ownBlock ∧ (v'.ownBlock = v.ownBlock ∨ ∀ g, v'.ownBlock = some g → w.heap.size ≤ g) := by
  have HG := hide (fun W (h : Rw B W v m cur) => grow_any B v m 1 cur W h)
  obtain ⟨ao, rfl, hn, hs⟩ := rw_form hr
  have HN := hide (fun W => natural_any 0 W (by omega))
  rw [show abv' 0 = 0 by decide] at HN
  have HS := hide (wsize_any 0)
  rw [show szL 0 = 1 by decide] at HS
  have HR := hide hr
  have HL := hide (show (intL 0).length = 1 by decide)
  clear hs hn hr
  go_enter Tryz.func60, Tryz.ntmps60
  go_wp2_with (first
    | (go_at_call 92; refine (HN.out _).mono ?_; rintro e w' ⟨rfl, rfl⟩)
    | (go_at_call 93; refine (HS.out _).mono ?_; rintro e w' ⟨rfl, rfl⟩))
  rw [show ((m : Int) + 1 - (m : Int)) = ((1 : Nat) : Int) by omega]
  refine (HG.out _ HR.out hB (by omega) (by omega)).mono ?_
  rintro e w1 ⟨g, c2, rfl, hh, hBg, hblk, hroom, hmx, htk, hb⟩
  have hsl : (splice c2 (m + 1) (([] : List Int).map bc)).length = c2.length := length_splice _ _ _ (by simp; omega)
  have HG2 := hide (show w1.heap[g]? = some (.cells (splice c2 (m + 1) (([] : List Int).map bc)).toArray 5 (0, 0)) by simpa [splice] using hh)
  have hcn : ∀ dp dCap, (Builtin.copy_ #[23, 23] 3 #[.slice dp 0 dCap, .slice sp 0 sc]).run Tryz.prog w1 = .ok (goInt 0) w1 := fun dp dCap => run_copy_none (P := Tryz.prog) w1 23 23 3 5 dp sp 0 dCap 0 sc Tryz.underlying23 size5 rfl
  have hsz2 : B ≤ w1.heap.size := by have := hb.size; omega
  have hmx' : c2.length ≤ 9223372036854775807 := by unfold maxLen at hmx; omega
  have HB := hide hb
  have HT := hide htk
  have hcm := HR.out.1
  clear hh hb htk HN HS HG
  obtain ⟨C, hCC⟩ : ∃ C, c2.length = C := ⟨_, rfl⟩
  rw [hCC] at hroom hmx hmx' ⊢
  have HCC := hide hCC
  clear hCC
  by_cases hC : C = m + 1
  · subst hC
    have HI := hide (wint_any B (.slice (some ⟨g, 0, none⟩) m (m + 1)) m (splice c2 (m + 1) (([] : List Int).map bc)) 0 w1 ⟨by rw [hsl, HCC.out]; omega, by rw [hsl, HCC.out]; exact hmx, .inr ⟨g, by rw [hsl, HCC.out], hBg, HG2.out⟩⟩ hsz2 (by omega) (by omega))
    go_wp2_with fail
    refine (HI.out).mono ?_
    rintro e w3 ⟨v', cur', rfl, hp⟩
    rw [HL.out] at hp
    have ht := text_row (cur := cur) (l := []) (N := intL 0) HL.out (by simp; rw [HCC.out]; omega) (by rw [HCC.out]; exact hmx) hBg HT.out hcm (by rw [HCC.out]; exact hp)
    rw [HCC.out] at ht
    obtain ⟨rfl, hown⟩ := ht
    have HO := hide hown
    have HB3 := hide ((HB.out.mono hB).trans hp.below)
    have HG3 := hide (grown_text HB.out (fun _ _ => rfl) rfl rfl rfl rfl hp.grown hblk)
    have HK : Hid ((some g = (Value.slice ao m cur.length).ownBlock) ∨ ∀ g', some g = some g' → w'.heap.size ≤ g') := hide (hblk.imp (fun q => q.symm) (fun q g' e => by cases e; exact q))
    clear hown hp HI
    go_wp2_with fail
    go_ret
    exact ⟨_, rfl, HO.out, HB3.out, HG3.out, HK.out⟩
  · have HI := hide (wint_any B (.slice (some ⟨g, 0, none⟩) m C) m (splice c2 (m + 1) (([] : List Int).map bc)) 0 w1 ⟨by rw [hsl, HCC.out]; omega, by rw [hsl, HCC.out]; exact hmx, .inr ⟨g, by rw [hsl, HCC.out], hBg, HG2.out⟩⟩ hsz2 (by omega) (by omega))
    go_wp2_with fail
    refine (HI.out).mono ?_
    rintro e w3 ⟨v', cur', rfl, hp⟩
    rw [HL.out] at hp
    have ht := text_row (cur := cur) (l := []) (N := intL 0) HL.out (by simp; rw [HCC.out]; omega) (by rw [HCC.out]; exact hmx) hBg HT.out hcm (by rw [HCC.out]; exact hp)
    rw [HCC.out] at ht
    obtain ⟨rfl, hown⟩ := ht
    have HO := hide hown
    have HB3 := hide ((HB.out.mono hB).trans hp.below)
    have HG3 := hide (grown_text HB.out (fun _ _ => rfl) rfl rfl rfl rfl hp.grown hblk)
    have HK : Hid ((some g = (Value.slice ao m cur.length).ownBlock) ∨ ∀ g', some g = some g' → w'.heap.size ≤ g') := hide (hblk.imp (fun q => q.symm) (fun q g' e => by cases e; exact q))
    clear hown hp HI
    go_wp2_with fail
    go_ret
    exact ⟨_, rfl, HO.out, HB3.out, HG3.out, HK.out⟩
theorem wtext_anyg (B : Nat) (v u : Value) (m : Nat) (cur : List Value) (l : List Int) (w : World) (hr : Rw B w v m cur) (hB : B ≤ w.heap.size) (hm : m ≤ 800000) (hl : l.length ≤ 4000) (hu : Sl bc w u l) (hoff : 0 < l.length → ∀ b o k c, u = .slice (some ⟨b, o, none⟩) k c → v.ownBlock ≠ some b) :
    Calls Tryz.prog 60 #[v, u] w fun e w' => ∃ v', e = .returned v' ∧ w'.ownsRow B 5 1 v' (m + (intL l.length ++ l).length) (cur.take m ++ bv (intL l.length ++ l)) ∧ Below B w w' ∧ w.grownBy w' v.ownBlock ∧ (v'.ownBlock = v.ownBlock ∨ ∀ g, v'.ownBlock = some g → w.heap.size ≤ g) := by
  rw [List.length_append, ← Nat.add_assoc]
  by_cases h0 : 0 < l.length
  · rcases hu with ⟨ao, cap, rfl, rfl⟩ | ⟨b, o, cap, rfl, h2, h3⟩
    · simp at h0
    · exact wtext_some B v m _ cur b o cap l w hr hB hm hl rfl h0 (hoff h0 b o _ _ rfl) h3
  · obtain rfl : l = [] := List.eq_nil_of_length_eq_zero (by omega)
    obtain ⟨ao, cap, rfl⟩ := hu.form
    exact wtext_none B v m cur ao cap w hr hB hm
end Go.Proofs.YtoioddnlkbjljaaGreatDoor
namespace Go.Proofs.YtoioddnlkbjljaaGreatDoor
open Go.RowKit

set_option maxRecDepth 100000 in
set_option maxHeartbeats 8000000 in
theorem wrow_some (B : Nat) (v : Value) (m : Nat) (cur : List Value) (b o sc : Nat) (l : List Int) (w : World) (hr : Rw B w v m cur) (hB : B ≤ w.heap.size) (hm : m ≤ 800000) (hl : l.length ≤ 4000) (hi64 : ∀ i (h : i < l.length), l[i] ≤ 9223372036854775807) (hne : v.ownBlock ≠ some b) (h3 : ∀ i (h : i < l.length), w.cell? ⟨b, o + i, none⟩ = some (ic l[i])) :
    Calls Tryz.prog 131 #[v, .slice (some ⟨b, o, none⟩) l.length sc] w fun e w' => ∃ v' cur', e = .returned v' ∧ Put B w v m cur w' v' (intL l.length ++ rowL l).length cur' (bv (intL l.length ++ rowL l)) := by
  have HC := hide (wint_any B v m cur l.length w hr hB (by omega) (by omega))
  have HI := hide hi64
  have H3 := hide h3
  clear h3 hi64 hr
  go_enter Tryz.func131, Tryz.ntmps131
  go_wp2_with (first
    | (go_at_call 57; refine (HC.out).mono ?_; rintro e w1 ⟨v1, cur1, rfl, hp1⟩))
  have HP1 := hide hp1
  clear hp1 HC
  go_loopw [0, 13] (fun u i wr => ∃ (j : Nat) (c : List Value), j ≤ l.length ∧ i = .int .i64 j ∧ Put B w v m cur wr u (intL l.length ++ rowL (l.take j)).length c (bv (intL l.length ++ rowL (l.take j)))) (fun _ i _ => l.length - (intOf i).toNat)
  case atStart => exact ⟨0, cur1, Nat.zero_le _, rfl, by simpa [rowL] using HP1.out⟩
  case round =>
    obtain ⟨j, c, hj, rfl, hp⟩ := hrel
    by_cases hlt : j < l.length
    · have hc : wr.cell? ⟨b, o + j, none⟩ = some (.int .i64 l[j]) := by
        have := H3.out j hlt
        exact hp.grown.cell this (fun e => hne e.symm)
      have hsz := hp.below.size
      have hlen : (intL l.length ++ rowL (l.take j)).length ≤ 40000 := by
        have h1 := intL_le l.length
        have h2 := rowL_le (l.take j)
        rw [List.length_take] at h2
        rw [List.length_append]
        omega
      have HJ := hide (wint_any B _ _ c l[j] wr hp.rw (by omega) (by omega) (HI.out j hlt))
      have HS := hide (rowL_snoc l j hlt)
      have HP := hide hp
      generalize l[j] = x at *
      clear hp
      go_wp2_with (first
        | (go_at_call 57; refine (HJ.out).mono ?_; rintro e w2 ⟨v2, c2, rfl, hp2⟩))
      have HP2 := hide (HP.out.trans hp2)
      clear hp2 HJ
      go_wp2_with fail
      go_roundw
      case rel =>
        refine ⟨j + 1, c2, by omega, by go_num, ?_⟩
        rw [HS.out, ← List.append_assoc, List.length_append, bv_eq, List.map_append]
        exact HP2.out
      case measure => simp [intOf]; omega
    · obtain rfl : j = l.length := by omega
      rw [List.take_length] at hp
      have HP := hide hp
      clear hp
      go_wp2_with fail
      go_ret
      exact ⟨_, _, rfl, HP.out⟩
set_option maxRecDepth 100000 in
set_option maxHeartbeats 8000000 in
theorem wrow_none (B : Nat) (v : Value) (m : Nat) (cur : List Value) (sp : Option Addr) (sc : Nat) (w : World) (hr : Rw B w v m cur) (hB : B ≤ w.heap.size) (hm : m ≤ 800000) :
    Calls Tryz.prog 131 #[v, .slice sp 0 sc] w fun e w' => ∃ v' cur', e = .returned v' ∧ Put B w v m cur w' v' 1 cur' (bv [0]) := by
  have HC := hide (wint_any B v m cur 0 w hr hB (by omega) (by omega))
  rw [show intL 0 = [0] by decide] at HC
  clear hr
  go_enter Tryz.func131, Tryz.ntmps131
  go_wp2_with (first
    | (go_at_call 57; refine (HC.out).mono ?_; rintro e w1 ⟨v1, cur1, rfl, hp1⟩))
  have HP1 := hide hp1
  clear hp1 HC
  refine wp_loop_rounds 1 ?_
  rw [rounds_succ]
  go_wp2_with fail
  go_ret
  exact ⟨_, _, rfl, HP1.out⟩
theorem wrow_any (B : Nat) (v u : Value) (m : Nat) (cur : List Value) (l : List Int) (w : World) (hr : Rw B w v m cur) (hB : B ≤ w.heap.size) (hm : m ≤ 800000) (hl : l.length ≤ 4000) (hi64 : ∀ i (h : i < l.length), l[i] ≤ 9223372036854775807) (hu : Sl ic w u l) (hoff : 0 < l.length → ∀ b o k c, u = .slice (some ⟨b, o, none⟩) k c → v.ownBlock ≠ some b) :
    Calls Tryz.prog 131 #[v, u] w fun e w' => ∃ v' cur', e = .returned v' ∧ Put B w v m cur w' v' (intL l.length ++ rowL l).length cur' (bv (intL l.length ++ rowL l)) := by
  by_cases h0 : 0 < l.length
  · rcases hu with ⟨ao, cap, rfl, rfl⟩ | ⟨b, o, cap, rfl, h2, h3⟩
    · simp at h0
    · exact wrow_some B v m cur b o cap l w hr hB hm hl hi64 (hoff h0 b o _ _ rfl) h3
  · obtain rfl : l = [] := List.eq_nil_of_length_eq_zero (by omega)
    obtain ⟨ao, cap, rfl⟩ := hu.form
    exact wrow_none B v m cur ao cap w hr hB hm
end Go.Proofs.YtoioddnlkbjljaaGreatDoor
namespace Go.Proofs.YtoioddnlkbjljaaGreatDoor
open Go.RowKit

/-- The slice v is nil, or the head of a row of its own, with the bytes l. -/
def Ow (B : Nat) (W : World) (v : Value) (l : List Int) : Prop := ∃ cur, Rw B W v l.length cur ∧ cur.take l.length = bv l
theorem Ow.below {B : Nat} {W W' : World} {v : Value} {l : List Int} (h : Ow B W v l) (hb : Below W.heap.size W W') : Ow B W' v l := by
  obtain ⟨cur, h1, h2⟩ := h
  exact ⟨cur, h1.below hb, h2⟩
theorem Ow.put {B : Nat} {W W' : World} {v v' : Value} {l news : List Int} {cur cur' : List Value} {m : Nat} (h2 : cur.take l.length = bv l) (hp : Put B W v l.length cur W' v' m cur' (bv news)) : Ow B W' v' (l ++ news) := by
  have hm : m = news.length := by rw [← hp.len]; simp [bv]
  subst hm
  refine ⟨cur', ?_, ?_⟩
  · rw [List.length_append]; exact hp.rw
  · rw [List.length_append, hp.tk, h2]; simp [bv]
theorem Ow.owns {B : Nat} {W' : World} {v' : Value} {l news : List Int} {cur : List Value} {n : Nat} (hn : n = l.length + news.length) (h2 : cur.take l.length = bv l) (hp : W'.ownsRow B 5 1 v' n (cur.take l.length ++ bv news)) : Ow B W' v' (l ++ news) := by
  subst hn
  obtain ⟨cur', h1, h3⟩ := Rw.of hp
  exact ⟨cur', by rw [List.length_append]; exact h1, by rw [List.length_append, h3, h2]; simp [bv]⟩
theorem Ow.sl {B : Nat} {W : World} {v : Value} {l : List Int} (h : Ow B W v l) : Sl bc W v l := by
  obtain ⟨cur, h1, h2⟩ := h
  have := h1.owns
  rw [h2] at this
  exact sl_of_owns (base := B) (e := 5) (by simpa [bv_eq] using this)
theorem ow_nil (B : Nat) (W : World) : Ow B W (.slice none 0 0) [] := ⟨[], rw_nil B W, rfl⟩
/-- What has turned: the row, and new memory. -/
structure Gw (B : Nat) (w W : World) (u v : Value) : Prop where
  below : Below B w W
  grown : w.grownBy W u.ownBlock
  blk : v.ownBlock = u.ownBlock ∨ ∀ g, v.ownBlock = some g → w.heap.size ≤ g
theorem Gw.refl (B : Nat) (w : World) (u : Value) : Gw B w w u u := ⟨Below.refl _ _, ⟨rfl, rfl, rfl, Nat.le_refl _, fun _ _ _ => rfl⟩, .inl rfl⟩
theorem Gw.trans {B : Nat} {w w1 w2 : World} {u v v2 : Value} (h : Gw B w w1 u v) (k : Gw B w1 w2 v v2) : Gw B w w2 u v2 := by
  refine ⟨h.below.trans k.below, ⟨k.grown.os.trans h.grown.os, k.grown.tape.trans h.grown.tape, k.grown.output.trans h.grown.output, Nat.le_trans h.grown.size k.grown.size, fun i hi hp => ?_⟩, ?_⟩
  · refine (k.grown.block i (Nat.lt_of_lt_of_le hi h.grown.size) ?_).trans (h.grown.block i hi hp)
    rcases h.blk with q | q
    · rw [q]; exact hp
    · intro e
      have := q i e.symm
      omega
  · rcases k.blk with q | q
    · rw [q]; exact h.blk
    · exact .inr fun g hg => Nat.le_trans h.grown.size (q g hg)
theorem Gw.of {B : Nat} {w W : World} (u : Value) (h : Below w.heap.size w W) (hB : B ≤ w.heap.size) : Gw B w W u u :=
  ⟨h.mono hB, ⟨h.os, h.tape, h.output, h.size, fun k hk _ => h.block k hk⟩, .inl rfl⟩
theorem Gw.put {B : Nat} {W W' : World} {v v' : Value} {n m : Nat} {cur cur' news : List Value} (hp : Put B W v n cur W' v' m cur' news) : Gw B W W' v v' := ⟨hp.below, hp.grown, hp.blk⟩
theorem Gw.cell {B : Nat} {w W : World} {u v : Value} (h : Gw B w W u v) {b : Nat} (hb : b < w.heap.size) (hn : u.ownBlock ≠ some b) (i : Nat) : W.cell? ⟨b, i, none⟩ = w.cell? ⟨b, i, none⟩ :=
  World.cell?_of_block (h.grown.block b hb (fun e => hn e.symm))
theorem Gw.range {B : Nat} {w W : World} {u v : Value} {p : Nat} {x : Value} {xs : List Value} (h : Gw B w W u v) (hr : w.rangeAt p 0 (x :: xs)) (hn : u.ownBlock ≠ some p) : W.rangeAt p 0 (x :: xs) := fun j y hy =>
  (h.cell (cell_block (hr 0 _ rfl) : p < w.heap.size) hn (0 + j)).trans (hr j y hy)
theorem encs_take {α : Type} (en : α → List Int) (hs : List Bool) (xs : List α) (j : Nat) (hj : j < hs.length) (hl : hs.length = xs.length) : encs en (hs.take (j + 1)) (xs.take (j + 1)) = encs en (hs.take j) (xs.take j) ++ (if hs[j] then en (xs[j]'(by omega)) else []) := by
  rw [List.take_succ_eq_append_getElem hj, List.take_succ_eq_append_getElem (show j < xs.length by omega)]
  exact encs_snoc en _ _ _ _ (by simp [hl])
end Go.Proofs.YtoioddnlkbjljaaGreatDoor
namespace Go.Proofs.YtoioddnlkbjljaaGreatDoor
open Go.RowKit

theorem idx8 (p j : Nat) (hj : j < 8) (W : World) : (Instr.index 196 (.agg #[.pointer (some ⟨p, 1, none⟩), .pointer (some ⟨p, 2, none⟩), .pointer (some ⟨p, 3, none⟩), .pointer (some ⟨p, 4, none⟩), .pointer (some ⟨p, 5, none⟩), .pointer (some ⟨p, 6, none⟩), .pointer (some ⟨p, 7, none⟩), .pointer (some ⟨p, 8, none⟩)]) (.int .i64 (j : Int))).run Tryz.prog W = .ok (.pointer (some ⟨p, j + 1, none⟩)) W := by
  have e0 : (Instr.index 196 (.agg #[.pointer (some ⟨p, 1, none⟩), .pointer (some ⟨p, 2, none⟩), .pointer (some ⟨p, 3, none⟩), .pointer (some ⟨p, 4, none⟩), .pointer (some ⟨p, 5, none⟩), .pointer (some ⟨p, 6, none⟩), .pointer (some ⟨p, 7, none⟩), .pointer (some ⟨p, 8, none⟩)]) (.int .i64 0)).run Tryz.prog W = .ok (.pointer (some ⟨p, 1, none⟩)) W := by kernel_rfl
  have e1 : (Instr.index 196 (.agg #[.pointer (some ⟨p, 1, none⟩), .pointer (some ⟨p, 2, none⟩), .pointer (some ⟨p, 3, none⟩), .pointer (some ⟨p, 4, none⟩), .pointer (some ⟨p, 5, none⟩), .pointer (some ⟨p, 6, none⟩), .pointer (some ⟨p, 7, none⟩), .pointer (some ⟨p, 8, none⟩)]) (.int .i64 1)).run Tryz.prog W = .ok (.pointer (some ⟨p, 2, none⟩)) W := by kernel_rfl
  have e2 : (Instr.index 196 (.agg #[.pointer (some ⟨p, 1, none⟩), .pointer (some ⟨p, 2, none⟩), .pointer (some ⟨p, 3, none⟩), .pointer (some ⟨p, 4, none⟩), .pointer (some ⟨p, 5, none⟩), .pointer (some ⟨p, 6, none⟩), .pointer (some ⟨p, 7, none⟩), .pointer (some ⟨p, 8, none⟩)]) (.int .i64 2)).run Tryz.prog W = .ok (.pointer (some ⟨p, 3, none⟩)) W := by kernel_rfl
  have e3 : (Instr.index 196 (.agg #[.pointer (some ⟨p, 1, none⟩), .pointer (some ⟨p, 2, none⟩), .pointer (some ⟨p, 3, none⟩), .pointer (some ⟨p, 4, none⟩), .pointer (some ⟨p, 5, none⟩), .pointer (some ⟨p, 6, none⟩), .pointer (some ⟨p, 7, none⟩), .pointer (some ⟨p, 8, none⟩)]) (.int .i64 3)).run Tryz.prog W = .ok (.pointer (some ⟨p, 4, none⟩)) W := by kernel_rfl
  have e4 : (Instr.index 196 (.agg #[.pointer (some ⟨p, 1, none⟩), .pointer (some ⟨p, 2, none⟩), .pointer (some ⟨p, 3, none⟩), .pointer (some ⟨p, 4, none⟩), .pointer (some ⟨p, 5, none⟩), .pointer (some ⟨p, 6, none⟩), .pointer (some ⟨p, 7, none⟩), .pointer (some ⟨p, 8, none⟩)]) (.int .i64 4)).run Tryz.prog W = .ok (.pointer (some ⟨p, 5, none⟩)) W := by kernel_rfl
  have e5 : (Instr.index 196 (.agg #[.pointer (some ⟨p, 1, none⟩), .pointer (some ⟨p, 2, none⟩), .pointer (some ⟨p, 3, none⟩), .pointer (some ⟨p, 4, none⟩), .pointer (some ⟨p, 5, none⟩), .pointer (some ⟨p, 6, none⟩), .pointer (some ⟨p, 7, none⟩), .pointer (some ⟨p, 8, none⟩)]) (.int .i64 5)).run Tryz.prog W = .ok (.pointer (some ⟨p, 6, none⟩)) W := by kernel_rfl
  have e6 : (Instr.index 196 (.agg #[.pointer (some ⟨p, 1, none⟩), .pointer (some ⟨p, 2, none⟩), .pointer (some ⟨p, 3, none⟩), .pointer (some ⟨p, 4, none⟩), .pointer (some ⟨p, 5, none⟩), .pointer (some ⟨p, 6, none⟩), .pointer (some ⟨p, 7, none⟩), .pointer (some ⟨p, 8, none⟩)]) (.int .i64 6)).run Tryz.prog W = .ok (.pointer (some ⟨p, 7, none⟩)) W := by kernel_rfl
  have e7 : (Instr.index 196 (.agg #[.pointer (some ⟨p, 1, none⟩), .pointer (some ⟨p, 2, none⟩), .pointer (some ⟨p, 3, none⟩), .pointer (some ⟨p, 4, none⟩), .pointer (some ⟨p, 5, none⟩), .pointer (some ⟨p, 6, none⟩), .pointer (some ⟨p, 7, none⟩), .pointer (some ⟨p, 8, none⟩)]) (.int .i64 7)).run Tryz.prog W = .ok (.pointer (some ⟨p, 8, none⟩)) W := by kernel_rfl
  have hc : j = 0 ∨ j = 1 ∨ j = 2 ∨ j = 3 ∨ j = 4 ∨ j = 5 ∨ j = 6 ∨ j = 7 := by omega
  rcases hc with rfl | rfl | rfl | rfl | rfl | rfl | rfl | rfl
  · exact (by simpa using e0)
  · exact (by simpa using e1)
  · exact (by simpa using e2)
  · exact (by simpa using e3)
  · exact (by simpa using e4)
  · exact (by simpa using e5)
  · exact (by simpa using e6)
  · exact (by simpa using e7)
theorem idxT (p j : Nat) (hj : j < 4) (W : World) : (Instr.index 200 (.agg #[.pointer (some ⟨p, 10, none⟩), .pointer (some ⟨p, 11, none⟩), .pointer (some ⟨p, 12, none⟩), .pointer (some ⟨p, 13, none⟩)]) (.int .i64 (j : Int))).run Tryz.prog W = .ok (.pointer (some ⟨p, j + 10, none⟩)) W := by
  have e0 : (Instr.index 200 (.agg #[.pointer (some ⟨p, 10, none⟩), .pointer (some ⟨p, 11, none⟩), .pointer (some ⟨p, 12, none⟩), .pointer (some ⟨p, 13, none⟩)]) (.int .i64 0)).run Tryz.prog W = .ok (.pointer (some ⟨p, 10, none⟩)) W := by kernel_rfl
  have e1 : (Instr.index 200 (.agg #[.pointer (some ⟨p, 10, none⟩), .pointer (some ⟨p, 11, none⟩), .pointer (some ⟨p, 12, none⟩), .pointer (some ⟨p, 13, none⟩)]) (.int .i64 1)).run Tryz.prog W = .ok (.pointer (some ⟨p, 11, none⟩)) W := by kernel_rfl
  have e2 : (Instr.index 200 (.agg #[.pointer (some ⟨p, 10, none⟩), .pointer (some ⟨p, 11, none⟩), .pointer (some ⟨p, 12, none⟩), .pointer (some ⟨p, 13, none⟩)]) (.int .i64 2)).run Tryz.prog W = .ok (.pointer (some ⟨p, 12, none⟩)) W := by kernel_rfl
  have e3 : (Instr.index 200 (.agg #[.pointer (some ⟨p, 10, none⟩), .pointer (some ⟨p, 11, none⟩), .pointer (some ⟨p, 12, none⟩), .pointer (some ⟨p, 13, none⟩)]) (.int .i64 3)).run Tryz.prog W = .ok (.pointer (some ⟨p, 13, none⟩)) W := by kernel_rfl
  have hc : j = 0 ∨ j = 1 ∨ j = 2 ∨ j = 3 := by omega
  rcases hc with rfl | rfl | rfl | rfl
  · exact (by simpa using e0)
  · exact (by simpa using e1)
  · exact (by simpa using e2)
  · exact (by simpa using e3)
theorem idxR (p j : Nat) (hj : j < 4) (W : World) : (Instr.index 203 (.agg #[.pointer (some ⟨p, 14, none⟩), .pointer (some ⟨p, 15, none⟩), .pointer (some ⟨p, 16, none⟩), .pointer (some ⟨p, 17, none⟩)]) (.int .i64 (j : Int))).run Tryz.prog W = .ok (.pointer (some ⟨p, j + 14, none⟩)) W := by
  have e0 : (Instr.index 203 (.agg #[.pointer (some ⟨p, 14, none⟩), .pointer (some ⟨p, 15, none⟩), .pointer (some ⟨p, 16, none⟩), .pointer (some ⟨p, 17, none⟩)]) (.int .i64 0)).run Tryz.prog W = .ok (.pointer (some ⟨p, 14, none⟩)) W := by kernel_rfl
  have e1 : (Instr.index 203 (.agg #[.pointer (some ⟨p, 14, none⟩), .pointer (some ⟨p, 15, none⟩), .pointer (some ⟨p, 16, none⟩), .pointer (some ⟨p, 17, none⟩)]) (.int .i64 1)).run Tryz.prog W = .ok (.pointer (some ⟨p, 15, none⟩)) W := by kernel_rfl
  have e2 : (Instr.index 203 (.agg #[.pointer (some ⟨p, 14, none⟩), .pointer (some ⟨p, 15, none⟩), .pointer (some ⟨p, 16, none⟩), .pointer (some ⟨p, 17, none⟩)]) (.int .i64 2)).run Tryz.prog W = .ok (.pointer (some ⟨p, 16, none⟩)) W := by kernel_rfl
  have e3 : (Instr.index 203 (.agg #[.pointer (some ⟨p, 14, none⟩), .pointer (some ⟨p, 15, none⟩), .pointer (some ⟨p, 16, none⟩), .pointer (some ⟨p, 17, none⟩)]) (.int .i64 3)).run Tryz.prog W = .ok (.pointer (some ⟨p, 17, none⟩)) W := by kernel_rfl
  have hc : j = 0 ∨ j = 1 ∨ j = 2 ∨ j = 3 := by omega
  rcases hc with rfl | rfl | rfl | rfl
  · exact (by simpa using e0)
  · exact (by simpa using e1)
  · exact (by simpa using e2)
  · exact (by simpa using e3)
theorem cell8 {W : World} {p : Nat} {x0 x9 x10 x11 x12 x13 x14 x15 x16 x17 : Value} {n1 n2 n3 n4 n5 n6 n7 n8 : Int} (h : W.rangeAt p 0 [x0, .int .i64 n1, .int .i64 n2, .int .i64 n3, .int .i64 n4, .int .i64 n5, .int .i64 n6, .int .i64 n7, .int .i64 n8, x9, x10, x11, x12, x13, x14, x15, x16, x17]) (j : Nat) (hj : j < 8) : W.cell? ⟨p, j + 1, none⟩ = some (.int .i64 ([n1, n2, n3, n4, n5, n6, n7, n8].getD j 0)) := by
  match j, hj with
  | 0, _ => exact (by simpa using h 1 _ rfl)
  | 1, _ => exact (by simpa using h 2 _ rfl)
  | 2, _ => exact (by simpa using h 3 _ rfl)
  | 3, _ => exact (by simpa using h 4 _ rfl)
  | 4, _ => exact (by simpa using h 5 _ rfl)
  | 5, _ => exact (by simpa using h 6 _ rfl)
  | 6, _ => exact (by simpa using h 7 _ rfl)
  | 7, _ => exact (by simpa using h 8 _ rfl)
  | n + 8, h => exact absurd h (by omega)
theorem cellT {W : World} {p : Nat} {x0 x1 x2 x3 x4 x5 x6 x7 x8 x9 x14 x15 x16 x17 : Value} {n1 n2 n3 n4 : List UInt8} (h : W.rangeAt p 0 [x0, x1, x2, x3, x4, x5, x6, x7, x8, x9, .string ⟨n1.toArray⟩, .string ⟨n2.toArray⟩, .string ⟨n3.toArray⟩, .string ⟨n4.toArray⟩, x14, x15, x16, x17]) (j : Nat) (hj : j < 4) : W.cell? ⟨p, j + 10, none⟩ = some (.string ⟨([n1, n2, n3, n4].getD j []).toArray⟩) := by
  match j, hj with
  | 0, _ => exact (by simpa using h 10 _ rfl)
  | 1, _ => exact (by simpa using h 11 _ rfl)
  | 2, _ => exact (by simpa using h 12 _ rfl)
  | 3, _ => exact (by simpa using h 13 _ rfl)
  | n + 4, h => exact absurd h (by omega)
theorem cellW {W : World} {p : Nat} {x0 x1 x2 x3 x4 x5 x6 x7 x8 x9 x10 x11 x12 x13 x14 x15 x16 x17 : Value} (h : W.rangeAt p 0 [x0, x1, x2, x3, x4, x5, x6, x7, x8, x9, x10, x11, x12, x13, x14, x15, x16, x17]) (j : Nat) (hj : j < 4) : W.cell? ⟨p, j + 14, none⟩ = some ([x14, x15, x16, x17].getD j (.slice none 0 0)) := by
  match j, hj with
  | 0, _ => exact (by simpa using h 14 _ rfl)
  | 1, _ => exact (by simpa using h 15 _ rfl)
  | 2, _ => exact (by simpa using h 16 _ rfl)
  | 3, _ => exact (by simpa using h 17 _ rfl)
  | n + 4, h => exact absurd h (by omega)
theorem bit8 {k : Int} (hk : 1 ≤ k ∧ k ≤ 12) (j : Nat) (hj : j < 8) : bitB (sbj k) (2 ^ j % 4294967296) = (hN k).getD j false := by
  have q := bit_has hk
  match j, hj with
  | 0, _ => exact q.1
  | 1, _ => exact q.2.1
  | 2, _ => exact q.2.2.1
  | 3, _ => exact q.2.2.2.1
  | 4, _ => exact q.2.2.2.2.1
  | 5, _ => exact q.2.2.2.2.2.1
  | 6, _ => exact q.2.2.2.2.2.2.1
  | 7, _ => exact q.2.2.2.2.2.2.2.1
  | n + 8, h => exact absurd h (by omega)
theorem bitT {k : Int} (hk : 1 ≤ k ∧ k ≤ 12) (j : Nat) (hj : j < 4) : bitB (sbj k) (512 * 2 ^ j % 4294967296) = (hT k).getD j false := by
  have q := bit_has hk
  match j, hj with
  | 0, _ => exact q.2.2.2.2.2.2.2.2.2.1
  | 1, _ => exact q.2.2.2.2.2.2.2.2.2.2.1
  | 2, _ => exact q.2.2.2.2.2.2.2.2.2.2.2.1
  | 3, _ => exact q.2.2.2.2.2.2.2.2.2.2.2.2.1
  | n + 4, h => exact absurd h (by omega)
theorem bitR {k : Int} (hk : 1 ≤ k ∧ k ≤ 12) (j : Nat) (hj : j < 4) : bitB (sbj k) (8192 * 2 ^ j % 4294967296) = (hR k).getD j false := by
  have q := bit_has hk
  match j, hj with
  | 0, _ => exact q.2.2.2.2.2.2.2.2.2.2.2.2.2.1
  | 1, _ => exact q.2.2.2.2.2.2.2.2.2.2.2.2.2.2.1
  | 2, _ => exact q.2.2.2.2.2.2.2.2.2.2.2.2.2.2.2.1
  | 3, _ => exact q.2.2.2.2.2.2.2.2.2.2.2.2.2.2.2.2
  | n + 4, h => exact absurd h (by omega)
theorem encs_le {α : Type} (en : α → List Int) (c : Nat) : ∀ (hs : List Bool) (xs : List α), (∀ x ∈ xs, (en x).length ≤ c) → (encs en hs xs).length ≤ c * xs.length
  | [], xs, _ => by simp [encs]
  | h :: hs, [], _ => by simp [encs]
  | h :: hs, x :: xs, hx => by
    have h1 := encs_le en c hs xs (fun y hy => hx y (List.mem_cons_of_mem _ hy))
    have h2 := hx x (List.mem_cons_self ..)
    have h3 : (if h then en x else []).length ≤ c := by cases h <;> simp <;> omega
    show ((if h then en x else []) ++ encs en hs xs).length ≤ c * (xs.length + 1)
    rw [List.length_append, Nat.mul_add]
    omega
theorem ow_lt {B : Nat} {W : World} {v : Value} {l : List Int} (h : Ow B W v l) {g : Nat} (hg : v.ownBlock = some g) : g < W.heap.size ∧ B ≤ g := by
  obtain ⟨cur, h1, _⟩ := h
  rcases h1.2.2 with ⟨rfl, _⟩ | ⟨g', rfl, h2, h3⟩
  · cases hg
  · have e : g' = g := Option.some.inj hg
    have := (Array.getElem?_eq_some_iff.1 h3).1
    omega
theorem Ow.text {B : Nat} {W' : World} {v' : Value} {l news : List Int} {cur : List Value} (hn : ∃ n, n = l.length + news.length ∧ W'.ownsRow B 5 1 v' n (cur.take l.length ++ bv news)) (h2 : cur.take l.length = bv l) : Ow B W' v' (l ++ news) := by
  obtain ⟨n, h, hp⟩ := hn
  exact Ow.owns h h2 hp
theorem sli_off {B : Nat} {W : World} {U v : Value} {R : List Int} (h : Sli (fun b => b < B) W U R) (hv : ∀ g, v.ownBlock = some g → g < W.heap.size ∧ B ≤ g) : 0 < R.length → ∀ b o k c, U = .slice (some ⟨b, o, none⟩) k c → v.ownBlock ≠ some b := by
  intro hp b o k c e q
  have := (hv b q).2
  rcases h with ⟨_, _, h2, _⟩ | ⟨b', o', c', h3, _, h4, _⟩
  · rw [h2] at hp; simp at hp
  · rw [e] at h3; cases h3
    omega
theorem getD_mem {α : Type} (l : List α) (d : α) (j n : Nat) (hl : l.length = n) (hj : j < n) : l.getD j d ∈ l := by
  rw [show l.getD j d = l[j]'(by omega) by simp [List.getD, hl, hj]]
  exact List.getElem_mem _
theorem sb_sl {W : World} {b cap : Nat} {S : List UInt8} (hc : S.length ≤ cap) (h : ∀ i (h : i < S.length), W.cell? ⟨b, 0 + i, none⟩ = some (uc S[i])) : Sl bc W (.slice (some ⟨b, 0, none⟩) S.length cap) (sb S) :=
  .inr ⟨b, 0, cap, by rw [sb_len], by rw [sb_len]; exact hc, fun i hi => by
    rw [h i (by rwa [sb_len] at hi)]
    simp [sb, bc, uc]⟩
set_option maxRecDepth 100000 in
set_option maxHeartbeats 16000000 in
theorem cput_go (B : Nat) (u : Value) (l0 : List Int) (k br ep tp pa le cl se co : Int) (fl : Bool) (nm ky va rk : List UInt8) (a14 a15 a16 a17 : Option Addr) (c14 c15 c16 c17 : Nat) (ids isr ad dr : List Int) (w : World) (ns : List Int) (ts : List (List UInt8)) (rs : List (List Int)) (us : List Value) (h8 hf ht hr : List Bool)
    (hu : Ow B w u l0) (hl0 : l0.length ≤ 700000) (hB : B ≤ w.heap.size) (hk1 : 1 ≤ k) (hk2 : k ≤ 12) (HNS : Hid (ns = [br, ep, tp, pa, le, cl, se, co])) (HTS : Hid (ts = [nm, ky, va, rk])) (HUS : Hid (us = [.slice a14 ids.length c14, .slice a15 isr.length c15, .slice a16 ad.length c16, .slice a17 dr.length c17])) (HH8 : Hid (h8 = hN k)) (HHF : Hid (hf = hF k)) (HHT : Hid (ht = hT k)) (HHR : Hid (hr = hR k))
    (HNB : Hid (∀ j, j < 8 → ns.getD j 0 ≤ 9223372036854775807)) (HTB : Hid (∀ x ∈ ts, x.length ≤ 1000)) (hrl : rs.length = 4) (HRB : Hid (∀ j, j < 4 → Sli (fun b => b < B) w (us.getD j (.slice none 0 0)) (rs.getD j []))) (HRI : Hid (∀ x ∈ rs, x.length ≤ 1000 ∧ ∀ y ∈ x, y ≤ 9223372036854775807))
    (HC : Hid (∀ W, Below w.heap.size w W → Calls Tryz.prog 122 #[.agg #[.int .i64 k, .int .i64 br, .int .i64 ep, .int .i64 tp, .int .i64 pa, .int .i64 le, .int .i64 cl, .int .i64 se, .int .i64 co, .bool fl, .string ⟨nm.toArray⟩, .string ⟨ky.toArray⟩, .string ⟨va.toArray⟩, .string ⟨rk.toArray⟩, .slice a14 ids.length c14, .slice a15 isr.length c15, .slice a16 ad.length c16, .slice a17 dr.length c17]] W fun e w' => e = .returned .nilIface ∧ Below W.heap.size W w')) :
    Calls Tryz.prog 95 #[u, .agg #[.int .i64 k, .int .i64 br, .int .i64 ep, .int .i64 tp, .int .i64 pa, .int .i64 le, .int .i64 cl, .int .i64 se, .int .i64 co, .bool fl, .string ⟨nm.toArray⟩, .string ⟨ky.toArray⟩, .string ⟨va.toArray⟩, .string ⟨rk.toArray⟩, .slice a14 ids.length c14, .slice a15 isr.length c15, .slice a16 ad.length c16, .slice a17 dr.length c17]] w fun e w' => ∃ v', e = .returned (.tuple #[v', .nilIface]) ∧ Ow B w' v' (l0 ++ ([k] ++ (encs intL h8 ns ++ (encs (fun f => [flB f]) hf [fl] ++ (encs enT ht ts ++ encs enR hr rs))))) ∧ Gw B w w' u v' := by
  have hub : u.ownBlock ≠ some w.heap.size := fun e => by have := (ow_lt hu e).1; omega
  have HK := hide (And.intro hk1 hk2)
  have HS := hide (fun W => subj_any k W)
  have HQ : Hid ((w.alloc (.cells #[.int .i64 k, .int .i64 br, .int .i64 ep, .int .i64 tp, .int .i64 pa, .int .i64 le, .int .i64 cl, .int .i64 se, .int .i64 co, .bool fl, .string ⟨nm.toArray⟩, .string ⟨ky.toArray⟩, .string ⟨va.toArray⟩, .string ⟨rk.toArray⟩, .slice a14 ids.length c14, .slice a15 isr.length c15, .slice a16 ad.length c16, .slice a17 dr.length c17] 55)).rangeAt w.heap.size 0 [.int .i64 k, .int .i64 br, .int .i64 ep, .int .i64 tp, .int .i64 pa, .int .i64 le, .int .i64 cl, .int .i64 se, .int .i64 co, .bool fl, .string ⟨nm.toArray⟩, .string ⟨ky.toArray⟩, .string ⟨va.toArray⟩, .string ⟨rk.toArray⟩, .slice a14 ids.length c14, .slice a15 isr.length c15, .slice a16 ad.length c16, .slice a17 dr.length c17]) := hide (range_new w _ _)
  have HB : Hid (Below w.heap.size w (w.alloc (.cells #[.int .i64 k, .int .i64 br, .int .i64 ep, .int .i64 tp, .int .i64 pa, .int .i64 le, .int .i64 cl, .int .i64 se, .int .i64 co, .bool fl, .string ⟨nm.toArray⟩, .string ⟨ky.toArray⟩, .string ⟨va.toArray⟩, .string ⟨rk.toArray⟩, .slice a14 ids.length c14, .slice a15 isr.length c15, .slice a16 ad.length c16, .slice a17 dr.length c17] 55))) := hide ((Below.refl _ _).alloc (Nat.le_refl _) _)
  have HZ : Hid (w.heap.size < (w.alloc (.cells #[.int .i64 k, .int .i64 br, .int .i64 ep, .int .i64 tp, .int .i64 pa, .int .i64 le, .int .i64 cl, .int .i64 se, .int .i64 co, .bool fl, .string ⟨nm.toArray⟩, .string ⟨ky.toArray⟩, .string ⟨va.toArray⟩, .string ⟨rk.toArray⟩, .slice a14 ids.length c14, .slice a15 isr.length c15, .slice a16 ad.length c16, .slice a17 dr.length c17] 55)).heap.size) := hide (by simp)
  go_enter Tryz.func95, Tryz.ntmps95
  go_upto_region 1 with fail
  generalize w.alloc (.cells #[.int .i64 k, .int .i64 br, .int .i64 ep, .int .i64 tp, .int .i64 pa, .int .i64 le, .int .i64 cl, .int .i64 se, .int .i64 co, .bool fl, .string ⟨nm.toArray⟩, .string ⟨ky.toArray⟩, .string ⟨va.toArray⟩, .string ⟨rk.toArray⟩, .slice a14 ids.length c14, .slice a15 isr.length c15, .slice a16 ad.length c16, .slice a17 dr.length c17] 55) = X at HQ HB HZ ⊢
  go_upto_region 4 with (first | (refine wpList_load_mid rfl _ _ rfl _ _ rfl _ _ HQ.out Tryz.underlying55 rfl (by kernel_rfl) ?_) | (go_at_call 122; refine (HC.out _ HB.out).mono ?_; rintro e Y ⟨rfl, hY⟩))
  replace HQ := hide (range_below HQ.out hY)
  replace HB := hide (HB.out.trans (hY.mono HB.out.size))
  replace HZ := hide (Nat.lt_of_lt_of_le HZ.out hY.size)
  clear hY
  clear X
  have g0 := (C18.of HQ.out).c0
  obtain ⟨cur, hrw, htk⟩ := id (hu.below HB.out)
  have HRW := hide hrw
  have HTK := hide htk
  have hBY : B ≤ Y.heap.size := Nat.le_trans hB HB.out.size
  clear hrw htk
  have hkw : IntKind.u8.wrap k = k := by rw [IntKind.wrap_u8]; omega
  go_upto_region 6 with (first | (go_at_call 126; refine (HS.out _).mono ?_; rintro e w1 ⟨rfl, hw1⟩; rw [hw1]; clear hw1 w1) | (at_builtin; refine wpList_append_rw _ rfl _ _ rfl B _ l0.length cur rfl (HRW.out.below ((Below.refl _ _).alloc (Nat.le_refl _) _)) (by simp; omega) _ 1 1 (bv [k]) rfl rfl (by omega) (cells_at _ _ _) (one_bytes _) (by omega) ?_; intro w1 v1 cur1 hp1))
  have HG := hide ((Gw.of u HB.out hB).trans (Gw.put (hp1.pre (w := Y) hBY ((Below.refl _ _).alloc (Nat.le_refl _) _))))
  have hgY : Gw B Y w1 u v1 := Gw.put (hp1.pre (w := Y) hBY ((Below.refl _ _).alloc (Nat.le_refl _) _))
  have HO := hide (Ow.put HTK.out hp1)
  replace HQ := hide (hgY.range HQ.out hub)
  have HVB : Hid (v1.ownBlock ≠ some w.heap.size) := hide (fun e => by
    rcases hgY.blk with q | q
    · rw [q] at e; exact hub e
    · have h1 := q _ e
      have := HZ.out
      omega)
  replace HZ := hide (Nat.lt_of_lt_of_le HZ.out hgY.grown.size)
  have hB1 : B ≤ w1.heap.size := Nat.le_trans hBY hgY.grown.size
  obtain ⟨lb, hlb⟩ : ∃ lb, lb = l0 ++ [k] := ⟨_, rfl⟩
  rw [← hlb] at HO
  have HL0 := hide hlb
  have hll : lb.length ≤ 700001 := by rw [hlb]; simp; omega
  clear hp1 hgY HRW HTK g0 cur hlb
  clear HB hBY HC HS hu hkw cur1
  have HLH : Hid (h8.length = 8) := hide (by rw [HH8.out]; rfl)
  have HLX : Hid (ns.length = 8) := hide (by rw [HNS.out]; rfl)
  have HHH := HH8
  have HXL : Hid (∀ {j : Nat}, ∀ x ∈ ns.take j, (intL x).length ≤ 8) := hide (fun x _ => intL_le x)
  have HXF : Hid (∀ x ∈ ns, (intL x).length ≤ 8) := hide (fun x _ => intL_le x)
  go_upto_region 7 with (first | (go_at_call 127; refine (numbers_pts _ _).mono ?_; rintro e w2 ⟨rfl, hY⟩; unfold pts8))
  replace HQ := hide (range_below HQ.out hY)
  replace HG := hide (HG.out.trans (Gw.of v1 hY hB1))
  replace HO := hide (HO.out.below hY)
  replace HZ := hide (Nat.lt_of_lt_of_le HZ.out hY.size)
  replace hB1 := Nat.le_trans hB1 hY.size
  clear hY
  have hvb : v1.ownBlock ≠ some w.heap.size := HVB.out
  go_loopw [0, 33] (fun b i wr => ∃ (j : Nat), j ≤ 8 ∧ i = .int .i64 (j : Int) ∧ Hid (Ow B wr b (lb ++ encs intL (h8.take j) (ns.take j))) ∧ Hid (Gw B w2 wr v1 b)) (fun _ i _ => 8 - (intOf i).toNat)
  case atStart => exact ⟨0, Nat.zero_le _, rfl, hide (by simpa [encs] using HO.out), hide (Gw.refl _ _ _)⟩
  case round =>
    obtain ⟨j, hj, rfl, HOj, HGj⟩ := hrel
    by_cases hlt : j < 8
    · have hltI : (j : Int) < 8 := by omega
      have hix := idx8 w.heap.size j hlt
      have hcj := cell8 (HGj.out.range HQ.out HVB.out) j hlt
      rw [← HNS.out] at hcj
      have hxb := HNB.out j hlt
      have hBr : B ≤ wr.heap.size := Nat.le_trans hB1 HGj.out.grown.size
      have HH := hide (fun W => bhas_any (sbj k) (2 ^ j % 4294967296) W)
      rw [bit8 HK.out j hlt] at HH
      have hen : (lb ++ encs intL (h8.take j) (ns.take j)).length ≤ 700100 := by
        have := encs_le intL 8 (h8.take j) (ns.take j) HXL.out
        rw [List.length_append]
        have h4 : (ns.take j).length ≤ 8 := by rw [List.length_take]; omega
        have := Nat.mul_le_mul_left 8 h4
        omega
      have HE : Hid (encs intL (h8.take (j + 1)) (ns.take (j + 1)) = encs intL (h8.take j) (ns.take j) ++ (if h8.getD j false then intL (ns.getD j 0) else [])) := hide (by rw [encs_take intL h8 ns j (by rw [HLH.out]; omega) (by rw [HLH.out, HLX.out])]; simp [List.getD, HLH.out, HLX.out, hlt])
      rw [← HHH.out] at HH
      generalize ns.getD j 0 = x at *
      generalize h8.getD j false = hb at *
      obtain ⟨cur, hrw, htk⟩ := id HOj.out
      have HRW := hide hrw
      have HTK := hide htk
      clear hrw htk
      have hbl := fun g (hg : u0.ownBlock = some g) => ow_lt HOj.out hg
      have HBL := hide hbl
      clear hbl
      cases hb with
      | true =>
        go_wp2_with (first | (go_at_call 128; refine (HH.out _).mono ?_; rintro e w1 ⟨rfl, hw1⟩; rw [hw1]; clear hw1 w1) | (go_at_call 57; refine (wint_any B _ _ cur _ _ HRW.out hBr (by omega) hxb).mono ?_; rintro e w5 ⟨v5, cur5, rfl, hp⟩))
        have HO5 := hide (Ow.put HTK.out hp)
        have HG5 := hide (HGj.out.trans (Gw.put hp))
        clear hp
        go_roundw
        case rel => exact ⟨j + 1, by omega, by go_num, hide (by have e := HE.out; simp only [↓reduceIte] at e; rw [e, ← List.append_assoc]; exact HO5.out), HG5⟩
        case measure => simp [intOf]; omega
      | false =>
        go_wp2_with (first | (go_at_call 128; refine (HH.out _).mono ?_; rintro e w1 ⟨rfl, hw1⟩; rw [hw1]; clear hw1 w1))
        go_roundw
        case rel => exact ⟨j + 1, by omega, by go_num, hide (by rw [HE.out]; simpa using HOj.out), HGj⟩
        case measure => simp [intOf]; omega
    · obtain rfl : j = 8 := by omega
      clear hlt hj
      have HO2 : Hid (Ow B wr u0 (lb ++ encs intL h8 ns)) := hide (by have := HOj.out; rwa [List.take_of_length_le (by rw [HLH.out]; omega), List.take_of_length_le (by rw [HLX.out]; omega)] at this)
      have HG2 := hide (HG.out.trans HGj.out)
      have HVB2 : Hid (u0.ownBlock ≠ some w.heap.size) := hide (fun e => by rcases HGj.out.blk with q | q; (rw [q] at e; exact HVB.out e); (have := q _ e; have := HZ.out; omega))
      have HQ2 := hide (HGj.out.range HQ.out HVB.out)
      have HZ2 := hide (Nat.lt_of_lt_of_le HZ.out HGj.out.grown.size)
      have hB2 : B ≤ wr.heap.size := Nat.le_trans hB1 HGj.out.grown.size
      have hl2 : (lb ++ encs intL h8 ns).length ≤ 700100 := by
        have := encs_le intL 8 h8 ns HXF.out
        rw [HLX.out] at this
        rw [List.length_append]
        omega
      obtain ⟨lb1, hlb⟩ : ∃ x, x = lb ++ encs intL h8 ns := ⟨_, rfl⟩
      rw [← hlb] at HO2 hl2
      have HLB1 := hide hlb
      clear HOj HGj HO HG HVB hvb HQ HZ hB1 hll hlb
      obtain ⟨wa1, rfl⟩ : ∃ x : World, x = wr := ⟨_, rfl⟩
      obtain ⟨va1, rfl⟩ : ∃ x : Value, x = u0 := ⟨_, rfl⟩
      have HO := HO2
      have HG := HG2
      have HVB := HVB2
      have HQ := HQ2
      have HZ := HZ2
      have hB1 := hB2
      have hll := hl2
      clear HO2 HG2 HVB2 HQ2 HZ2 hB2 hl2
      have HFB := hide (fun W => bhas_any (sbj k) 256 W)
      rw [(bit_has HK.out).2.2.2.2.2.2.2.2.1] at HFB
      have HFE : Hid (hf = [hasL k 102]) := hide HHF.out
      generalize hasL k 102 = hb at *
      cases hb with
      | true =>
        obtain ⟨cur, hrw, htk⟩ := id HO.out
        have HRW := hide hrw
        have HTK := hide htk
        clear hrw htk
        have g9 := (C18.of HQ.out).c9
        go_upto_region 14 with (first | (go_at_call 128; refine (HFB.out _).mono ?_; rintro e w1 ⟨rfl, hw1⟩; rw [hw1]; clear hw1 w1) | (go_at_call 58; refine (wflag_any B _ _ cur _ _ HRW.out hB1 (by omega)).mono ?_; rintro e w5 ⟨v5, cur5, rfl, hp⟩))
        have HGp := hide (Gw.put hp)
        have HO2 := hide (Ow.put (news := [flB fl]) HTK.out hp)
        have HG2 := hide (HG.out.trans HGp.out)
        have HVB2 : Hid (v5.ownBlock ≠ some w.heap.size) := hide (fun e => by rcases HGp.out.blk with q | q; (rw [q] at e; exact HVB.out e); (have := q _ e; have := HZ.out; omega))
        have HQ2 := hide (HGp.out.range HQ.out HVB.out)
        have HZ2 := hide (Nat.lt_of_lt_of_le HZ.out HGp.out.grown.size)
        have hB2 : B ≤ w5.heap.size := Nat.le_trans hB1 HGp.out.grown.size
        have hl2 : (lb1 ++ [flB fl]).length ≤ 700101 := by rw [List.length_append]; simp; omega
        obtain ⟨lb2, hlb⟩ : ∃ x, x = lb1 ++ [flB fl] := ⟨_, rfl⟩
        rw [← hlb] at HO2 hl2
        have HLB2 : Hid (lb2 = lb1 ++ encs (fun f => [flB f]) hf [fl]) := hide (by rw [hlb, HFE.out]; rfl)
        clear hp HGp HRW HTK g9 cur cur5 HO HG HVB HQ HZ hB1 hll hlb
        obtain ⟨wa2, rfl⟩ : ∃ x : World, x = w5 := ⟨_, rfl⟩
        obtain ⟨va2, rfl⟩ : ∃ x : Value, x = v5 := ⟨_, rfl⟩
        have HO := HO2
        have HG := HG2
        have HVB := HVB2
        have HQ := HQ2
        have HZ := HZ2
        have hB1 := hB2
        have hll := hl2
        clear HO2 HG2 HVB2 HQ2 HZ2 hB2 hl2
        clear HLH HLX HHH HXF HXL
        have HLH : Hid (ht.length = 4) := hide (by rw [HHT.out]; rfl)
        have HLX : Hid (ts.length = 4) := hide (by rw [HTS.out]; rfl)
        have HHH := HHT
        have HXF : Hid (∀ x ∈ ts, (enT x).length ≤ 1008) := hide (fun x hx => by unfold enT; rw [List.length_append, sb_len]; have h1 := intL_le x.length; have h3 := HTB.out x hx; omega)
        have HXL : Hid (∀ {j : Nat}, ∀ x ∈ ts.take j, (enT x).length ≤ 1008) := hide (fun x hx => HXF.out x (List.mem_of_mem_take hx))
        go_upto_region 15 with (first | (go_at_call 129; refine (texts_any _ _).mono ?_; rintro e w6 ⟨rfl, hY⟩; unfold ptsT))
        replace HQ := hide (range_below HQ.out hY)
        replace HG := hide (HG.out.trans (Gw.of va2 hY hB1))
        replace HO := hide (HO.out.below hY)
        replace HZ := hide (Nat.lt_of_lt_of_le HZ.out hY.size)
        replace hB1 := Nat.le_trans hB1 hY.size
        clear hY
        have hvb : va2.ownBlock ≠ some w.heap.size := HVB.out
        go_loopw [0, 54] (fun b i wr => ∃ (j : Nat), j ≤ 4 ∧ i = .int .i64 (j : Int) ∧ Hid (Ow B wr b (lb2 ++ encs enT (ht.take j) (ts.take j))) ∧ Hid (Gw B w6 wr va2 b)) (fun _ i _ => 4 - (intOf i).toNat)
        case atStart => exact ⟨0, Nat.zero_le _, rfl, hide (by simpa [encs] using HO.out), hide (Gw.refl _ _ _)⟩
        case round =>
          obtain ⟨j, hj, rfl, HOj, HGj⟩ := hrel
          by_cases hlt : j < 4
          · have hltI : (j : Int) < 4 := by omega
            have hix := idxT w.heap.size j hlt
            have hcj := cellT (HGj.out.range HQ.out HVB.out) j hlt
            rw [← HTS.out] at hcj
            have hSl := HTB.out _ (getD_mem ts [] j 4 HLX.out hlt)
            have hBr : B ≤ wr.heap.size := Nat.le_trans hB1 HGj.out.grown.size
            have HH := hide (fun W => bhas_any (sbj k) (512 * 2 ^ j % 4294967296) W)
            rw [bitT HK.out j hlt] at HH
            have hen : (lb2 ++ encs enT (ht.take j) (ts.take j)).length ≤ 705000 := by
              have := encs_le enT 1008 (ht.take j) (ts.take j) HXL.out
              rw [List.length_append]
              have h4 : (ts.take j).length ≤ 4 := by rw [List.length_take]; omega
              have := Nat.mul_le_mul_left 1008 h4
              omega
            have HE : Hid (encs enT (ht.take (j + 1)) (ts.take (j + 1)) = encs enT (ht.take j) (ts.take j) ++ (if ht.getD j false then enT (ts.getD j []) else [])) := hide (by rw [encs_take enT ht ts j (by rw [HLH.out]; omega) (by rw [HLH.out, HLX.out])]; simp [List.getD, HLH.out, HLX.out, hlt])
            rw [← HHH.out] at HH
            generalize ts.getD j [] = S at *
            generalize ht.getD j false = hb at *
            obtain ⟨cur, hrw, htk⟩ := id HOj.out
            have HRW := hide hrw
            have HTK := hide htk
            clear hrw htk
            have hbl := fun g (hg : u0.ownBlock = some g) => ow_lt HOj.out hg
            have HBL := hide hbl
            clear hbl
            cases hb with
            | true =>
              obtain ⟨cap, w4, hcv, hcell, hb4, hsz4, hcp⟩ := bytes_of S wr
              have HSL := hide (sb_sl hcp hcell)
              have HB4 := hide hb4
              have HOFF : Hid (0 < (sb S).length → ∀ b o k c, Value.slice (some ⟨wr.heap.size, 0, none⟩) S.length cap = .slice (some ⟨b, o, none⟩) k c → u0.ownBlock ≠ some b) := hide (fun _ b o k c e q => by cases e; have := (HBL.out _ q).1; omega)
              have hsb : (sb S).length ≤ 4000 := by rw [sb_len]; omega
              have hB4 : B ≤ w4.heap.size := by omega
              clear hcell hb4
              go_wp2_with (first | (go_at_call 128; refine (HH.out _).mono ?_; rintro e w1 ⟨rfl, hw1⟩; rw [hw1]; clear hw1 w1) | (go_at_call 60; refine (wtext_anyg B _ _ _ cur (sb S) _ (HRW.out.below HB4.out) hB4 (by omega) hsb HSL.out HOFF.out).mono ?_; rintro e w5 ⟨v5, rfl, hown, hbl5, hgr5, hbk5⟩))
              have HO5 := hide (Ow.owns (by rw [List.length_append]) HTK.out hown)
              have HG5 := hide (HGj.out.trans ((Gw.of u0 HB4.out hBr).trans ⟨hbl5, hgr5, hbk5⟩))
              clear hown hbl5 hgr5 hbk5
              go_roundw
              case rel => exact ⟨j + 1, by omega, by go_num, hide (by have e := HE.out; simp only [↓reduceIte] at e; rw [e, ← List.append_assoc]; have h5 := HO5.out; rw [sb_len] at h5; exact h5), HG5⟩
              case measure => simp [intOf]; omega
            | false =>
              go_wp2_with (first | (go_at_call 128; refine (HH.out _).mono ?_; rintro e w1 ⟨rfl, hw1⟩; rw [hw1]; clear hw1 w1))
              go_roundw
              case rel => exact ⟨j + 1, by omega, by go_num, hide (by rw [HE.out]; simpa using HOj.out), HGj⟩
              case measure => simp [intOf]; omega
          · obtain rfl : j = 4 := by omega
            clear hlt hj
            have HO2 : Hid (Ow B wr u0 (lb2 ++ encs enT ht ts)) := hide (by have := HOj.out; rwa [List.take_of_length_le (by rw [HLH.out]; omega), List.take_of_length_le (by rw [HLX.out]; omega)] at this)
            have HG2 := hide (HG.out.trans HGj.out)
            have HVB2 : Hid (u0.ownBlock ≠ some w.heap.size) := hide (fun e => by rcases HGj.out.blk with q | q; (rw [q] at e; exact HVB.out e); (have := q _ e; have := HZ.out; omega))
            have HQ2 := hide (HGj.out.range HQ.out HVB.out)
            have HZ2 := hide (Nat.lt_of_lt_of_le HZ.out HGj.out.grown.size)
            have hB2 : B ≤ wr.heap.size := Nat.le_trans hB1 HGj.out.grown.size
            have hl2 : (lb2 ++ encs enT ht ts).length ≤ 705000 := by
              have := encs_le enT 1008 ht ts HXF.out
              rw [HLX.out] at this
              rw [List.length_append]
              omega
            obtain ⟨lb3, hlb⟩ : ∃ x, x = lb2 ++ encs enT ht ts := ⟨_, rfl⟩
            rw [← hlb] at HO2 hl2
            have HLB3 := hide hlb
            clear HOj HGj HO HG HVB hvb HQ HZ hB1 hll hlb
            obtain ⟨wa3, rfl⟩ : ∃ x : World, x = wr := ⟨_, rfl⟩
            obtain ⟨va3, rfl⟩ : ∃ x : Value, x = u0 := ⟨_, rfl⟩
            have HO := HO2
            have HG := HG2
            have HVB := HVB2
            have HQ := HQ2
            have HZ := HZ2
            have hB1 := hB2
            have hll := hl2
            clear HO2 HG2 HVB2 HQ2 HZ2 hB2 hl2
            clear HLH HLX HHH HXF HXL
            have HLH : Hid (hr.length = 4) := hide (by rw [HHR.out]; rfl)
            have HLX : Hid (rs.length = 4) := hide hrl
            have HHH := HHR
            have HXF : Hid (∀ x ∈ rs, (enR x).length ≤ 8008) := hide (fun x hx => by unfold enR; rw [List.length_append]; have h1 := intL_le x.length; have h2 := rowL_le x; have h3 := (HRI.out x hx).1; omega)
            have HXL : Hid (∀ {j : Nat}, ∀ x ∈ rs.take j, (enR x).length ≤ 8008) := hide (fun x hx => HXF.out x (List.mem_of_mem_take hx))
            go_upto_region 21 with (first | (go_at_call 130; refine (rows_any _ _).mono ?_; rintro e w7 ⟨rfl, hY⟩; unfold ptsR))
            replace HQ := hide (range_below HQ.out hY)
            replace HG := hide (HG.out.trans (Gw.of va3 hY hB1))
            replace HO := hide (HO.out.below hY)
            replace HZ := hide (Nat.lt_of_lt_of_le HZ.out hY.size)
            replace hB1 := Nat.le_trans hB1 hY.size
            clear hY
            have hvb : va3.ownBlock ≠ some w.heap.size := HVB.out
            go_loopw [0, 70] (fun b i wr => ∃ (j : Nat), j ≤ 4 ∧ i = .int .i64 (j : Int) ∧ Hid (Ow B wr b (lb3 ++ encs enR (hr.take j) (rs.take j))) ∧ Hid (Gw B w7 wr va3 b)) (fun _ i _ => 4 - (intOf i).toNat)
            case atStart => exact ⟨0, Nat.zero_le _, rfl, hide (by simpa [encs] using HO.out), hide (Gw.refl _ _ _)⟩
            case round =>
              obtain ⟨j, hj, rfl, HOj, HGj⟩ := hrel
              by_cases hlt : j < 4
              · have hltI : (j : Int) < 4 := by omega
                have hix := idxR w.heap.size j hlt
                have hcj := cellW (HGj.out.range HQ.out HVB.out) j hlt
                rw [← HUS.out] at hcj
                have HSLR := hide ((HRB.out j hlt).imp (ok' := fun b => b < B) (W' := wr) (fun _ _ q => q) (fun b i _ ok => ((HG.out.trans HGj.out).below.cell (p := ⟨b, i, none⟩) ok)))
                have hRl := HRI.out _ (getD_mem rs [] j 4 HLX.out hlt)
                have hRl1 := hRl.1
                have HI64 := hide (fun i (h : i < (rs.getD j []).length) => hRl.2 _ (List.getElem_mem h))
                clear hRl
                have hBr : B ≤ wr.heap.size := Nat.le_trans hB1 HGj.out.grown.size
                have HH := hide (fun W => bhas_any (sbj k) (8192 * 2 ^ j % 4294967296) W)
                rw [bitR HK.out j hlt] at HH
                have hen : (lb3 ++ encs enR (hr.take j) (rs.take j)).length ≤ 738000 := by
                  have := encs_le enR 8008 (hr.take j) (rs.take j) HXL.out
                  rw [List.length_append]
                  have h4 : (rs.take j).length ≤ 4 := by rw [List.length_take]; omega
                  have := Nat.mul_le_mul_left 8008 h4
                  omega
                have HE : Hid (encs enR (hr.take (j + 1)) (rs.take (j + 1)) = encs enR (hr.take j) (rs.take j) ++ (if hr.getD j false then enR (rs.getD j []) else [])) := hide (by rw [encs_take enR hr rs j (by rw [HLH.out]; omega) (by rw [HLH.out, HLX.out])]; simp [List.getD, HLH.out, HLX.out, hlt])
                rw [← HHH.out] at HH
                generalize rs.getD j [] = R at *
                generalize us.getD j (.slice none 0 0) = U at *
                generalize hr.getD j false = hb at *
                obtain ⟨cur, hrw, htk⟩ := id HOj.out
                have HRW := hide hrw
                have HTK := hide htk
                clear hrw htk
                have hbl := fun g (hg : u0.ownBlock = some g) => ow_lt HOj.out hg
                have HBL := hide hbl
                clear hbl
                cases hb with
                | true =>
                  go_wp2_with (first | (go_at_call 128; refine (HH.out _).mono ?_; rintro e w1 ⟨rfl, hw1⟩; rw [hw1]; clear hw1 w1) | (go_at_call 131; refine (wrow_any B _ _ _ cur R _ HRW.out hBr (by omega) (by omega) HI64.out HSLR.out.sl (sli_off HSLR.out HBL.out)).mono ?_; rintro e w5 ⟨v5, cur5, rfl, hp⟩))
                  have HO5 := hide (Ow.put HTK.out hp)
                  have HG5 := hide (HGj.out.trans (Gw.put hp))
                  clear hp
                  go_roundw
                  case rel => exact ⟨j + 1, by omega, by go_num, hide (by have e := HE.out; simp only [↓reduceIte] at e; rw [e, ← List.append_assoc]; exact HO5.out), HG5⟩
                  case measure => simp [intOf]; omega
                | false =>
                  go_wp2_with (first | (go_at_call 128; refine (HH.out _).mono ?_; rintro e w1 ⟨rfl, hw1⟩; rw [hw1]; clear hw1 w1))
                  go_roundw
                  case rel => exact ⟨j + 1, by omega, by go_num, hide (by rw [HE.out]; simpa using HOj.out), HGj⟩
                  case measure => simp [intOf]; omega
              · obtain rfl : j = 4 := by omega
                clear hlt hj
                have HO2 : Hid (Ow B wr u0 (lb3 ++ encs enR hr rs)) := hide (by have := HOj.out; rwa [List.take_of_length_le (by rw [HLH.out]; omega), List.take_of_length_le (by rw [HLX.out]; omega)] at this)
                have HG2 := hide (HG.out.trans HGj.out)
                have HVB2 : Hid (u0.ownBlock ≠ some w.heap.size) := hide (fun e => by rcases HGj.out.blk with q | q; (rw [q] at e; exact HVB.out e); (have := q _ e; have := HZ.out; omega))
                have HQ2 := hide (HGj.out.range HQ.out HVB.out)
                have HZ2 := hide (Nat.lt_of_lt_of_le HZ.out HGj.out.grown.size)
                have hB2 : B ≤ wr.heap.size := Nat.le_trans hB1 HGj.out.grown.size
                have hl2 : (lb3 ++ encs enR hr rs).length ≤ 738000 := by
                  have := encs_le enR 8008 hr rs HXF.out
                  rw [HLX.out] at this
                  rw [List.length_append]
                  omega
                obtain ⟨lb4, hlb⟩ : ∃ x, x = lb3 ++ encs enR hr rs := ⟨_, rfl⟩
                rw [← hlb] at HO2 hl2
                have HLB4 := hide hlb
                clear HOj HGj HO HG HVB hvb HQ HZ hB1 hll hlb
                go_wp2_with fail
                exact bodyPost_ret (v := .tuple #[u0, .nilIface]) (by simp [results, Tryz.results95, go_sem]) rfl ⟨u0, rfl, by have h9 := HO2.out; rw [HLB4.out, HLB3.out, HLB2.out, HLB1.out, HL0.out] at h9; simp only [List.append_assoc] at h9; exact h9, HG2.out⟩
      | false =>
        go_upto_region 14 with (first | (go_at_call 128; refine (HFB.out _).mono ?_; rintro e w1 ⟨rfl, hw1⟩; rw [hw1]; clear hw1 w1))
        have HO2 := HO
        have HG2 := HG
        have HVB2 := HVB
        have HQ2 := HQ
        have HZ2 := HZ
        have hB2 := hB1
        have hl2 : lb1.length ≤ 700101 := by omega
        obtain ⟨lb2, hlb⟩ : ∃ x, x = lb1 := ⟨_, rfl⟩
        rw [← hlb] at HO2 hl2
        have HLB2 : Hid (lb2 = lb1 ++ encs (fun f => [flB f]) hf [fl]) := hide (by rw [hlb, HFE.out]; simp [encs])
        clear HO HG HVB HQ HZ hB1 hll hlb
        obtain ⟨wa2, rfl⟩ : ∃ x : World, x = wa1 := ⟨_, rfl⟩
        obtain ⟨va2, rfl⟩ : ∃ x : Value, x = va1 := ⟨_, rfl⟩
        have HO := HO2
        have HG := HG2
        have HVB := HVB2
        have HQ := HQ2
        have HZ := HZ2
        have hB1 := hB2
        have hll := hl2
        clear HO2 HG2 HVB2 HQ2 HZ2 hB2 hl2
        clear HLH HLX HHH HXF HXL
        have HLH : Hid (ht.length = 4) := hide (by rw [HHT.out]; rfl)
        have HLX : Hid (ts.length = 4) := hide (by rw [HTS.out]; rfl)
        have HHH := HHT
        have HXF : Hid (∀ x ∈ ts, (enT x).length ≤ 1008) := hide (fun x hx => by unfold enT; rw [List.length_append, sb_len]; have h1 := intL_le x.length; have h3 := HTB.out x hx; omega)
        have HXL : Hid (∀ {j : Nat}, ∀ x ∈ ts.take j, (enT x).length ≤ 1008) := hide (fun x hx => HXF.out x (List.mem_of_mem_take hx))
        go_upto_region 15 with (first | (go_at_call 129; refine (texts_any _ _).mono ?_; rintro e w6 ⟨rfl, hY⟩; unfold ptsT))
        replace HQ := hide (range_below HQ.out hY)
        replace HG := hide (HG.out.trans (Gw.of va2 hY hB1))
        replace HO := hide (HO.out.below hY)
        replace HZ := hide (Nat.lt_of_lt_of_le HZ.out hY.size)
        replace hB1 := Nat.le_trans hB1 hY.size
        clear hY
        have hvb : va2.ownBlock ≠ some w.heap.size := HVB.out
        go_loopw [0, 54] (fun b i wr => ∃ (j : Nat), j ≤ 4 ∧ i = .int .i64 (j : Int) ∧ Hid (Ow B wr b (lb2 ++ encs enT (ht.take j) (ts.take j))) ∧ Hid (Gw B w6 wr va2 b)) (fun _ i _ => 4 - (intOf i).toNat)
        case atStart => exact ⟨0, Nat.zero_le _, rfl, hide (by simpa [encs] using HO.out), hide (Gw.refl _ _ _)⟩
        case round =>
          obtain ⟨j, hj, rfl, HOj, HGj⟩ := hrel
          by_cases hlt : j < 4
          · have hltI : (j : Int) < 4 := by omega
            have hix := idxT w.heap.size j hlt
            have hcj := cellT (HGj.out.range HQ.out HVB.out) j hlt
            rw [← HTS.out] at hcj
            have hSl := HTB.out _ (getD_mem ts [] j 4 HLX.out hlt)
            have hBr : B ≤ wr.heap.size := Nat.le_trans hB1 HGj.out.grown.size
            have HH := hide (fun W => bhas_any (sbj k) (512 * 2 ^ j % 4294967296) W)
            rw [bitT HK.out j hlt] at HH
            have hen : (lb2 ++ encs enT (ht.take j) (ts.take j)).length ≤ 705000 := by
              have := encs_le enT 1008 (ht.take j) (ts.take j) HXL.out
              rw [List.length_append]
              have h4 : (ts.take j).length ≤ 4 := by rw [List.length_take]; omega
              have := Nat.mul_le_mul_left 1008 h4
              omega
            have HE : Hid (encs enT (ht.take (j + 1)) (ts.take (j + 1)) = encs enT (ht.take j) (ts.take j) ++ (if ht.getD j false then enT (ts.getD j []) else [])) := hide (by rw [encs_take enT ht ts j (by rw [HLH.out]; omega) (by rw [HLH.out, HLX.out])]; simp [List.getD, HLH.out, HLX.out, hlt])
            rw [← HHH.out] at HH
            generalize ts.getD j [] = S at *
            generalize ht.getD j false = hb at *
            obtain ⟨cur, hrw, htk⟩ := id HOj.out
            have HRW := hide hrw
            have HTK := hide htk
            clear hrw htk
            have hbl := fun g (hg : u0.ownBlock = some g) => ow_lt HOj.out hg
            have HBL := hide hbl
            clear hbl
            cases hb with
            | true =>
              obtain ⟨cap, w4, hcv, hcell, hb4, hsz4, hcp⟩ := bytes_of S wr
              have HSL := hide (sb_sl hcp hcell)
              have HB4 := hide hb4
              have HOFF : Hid (0 < (sb S).length → ∀ b o k c, Value.slice (some ⟨wr.heap.size, 0, none⟩) S.length cap = .slice (some ⟨b, o, none⟩) k c → u0.ownBlock ≠ some b) := hide (fun _ b o k c e q => by cases e; have := (HBL.out _ q).1; omega)
              have hsb : (sb S).length ≤ 4000 := by rw [sb_len]; omega
              have hB4 : B ≤ w4.heap.size := by omega
              clear hcell hb4
              go_wp2_with (first | (go_at_call 128; refine (HH.out _).mono ?_; rintro e w1 ⟨rfl, hw1⟩; rw [hw1]; clear hw1 w1) | (go_at_call 60; refine (wtext_anyg B _ _ _ cur (sb S) _ (HRW.out.below HB4.out) hB4 (by omega) hsb HSL.out HOFF.out).mono ?_; rintro e w5 ⟨v5, rfl, hown, hbl5, hgr5, hbk5⟩))
              have HO5 := hide (Ow.owns (by rw [List.length_append]) HTK.out hown)
              have HG5 := hide (HGj.out.trans ((Gw.of u0 HB4.out hBr).trans ⟨hbl5, hgr5, hbk5⟩))
              clear hown hbl5 hgr5 hbk5
              go_roundw
              case rel => exact ⟨j + 1, by omega, by go_num, hide (by have e := HE.out; simp only [↓reduceIte] at e; rw [e, ← List.append_assoc]; have h5 := HO5.out; rw [sb_len] at h5; exact h5), HG5⟩
              case measure => simp [intOf]; omega
            | false =>
              go_wp2_with (first | (go_at_call 128; refine (HH.out _).mono ?_; rintro e w1 ⟨rfl, hw1⟩; rw [hw1]; clear hw1 w1))
              go_roundw
              case rel => exact ⟨j + 1, by omega, by go_num, hide (by rw [HE.out]; simpa using HOj.out), HGj⟩
              case measure => simp [intOf]; omega
          · obtain rfl : j = 4 := by omega
            clear hlt hj
            have HO2 : Hid (Ow B wr u0 (lb2 ++ encs enT ht ts)) := hide (by have := HOj.out; rwa [List.take_of_length_le (by rw [HLH.out]; omega), List.take_of_length_le (by rw [HLX.out]; omega)] at this)
            have HG2 := hide (HG.out.trans HGj.out)
            have HVB2 : Hid (u0.ownBlock ≠ some w.heap.size) := hide (fun e => by rcases HGj.out.blk with q | q; (rw [q] at e; exact HVB.out e); (have := q _ e; have := HZ.out; omega))
            have HQ2 := hide (HGj.out.range HQ.out HVB.out)
            have HZ2 := hide (Nat.lt_of_lt_of_le HZ.out HGj.out.grown.size)
            have hB2 : B ≤ wr.heap.size := Nat.le_trans hB1 HGj.out.grown.size
            have hl2 : (lb2 ++ encs enT ht ts).length ≤ 705000 := by
              have := encs_le enT 1008 ht ts HXF.out
              rw [HLX.out] at this
              rw [List.length_append]
              omega
            obtain ⟨lb3, hlb⟩ : ∃ x, x = lb2 ++ encs enT ht ts := ⟨_, rfl⟩
            rw [← hlb] at HO2 hl2
            have HLB3 := hide hlb
            clear HOj HGj HO HG HVB hvb HQ HZ hB1 hll hlb
            obtain ⟨wa3, rfl⟩ : ∃ x : World, x = wr := ⟨_, rfl⟩
            obtain ⟨va3, rfl⟩ : ∃ x : Value, x = u0 := ⟨_, rfl⟩
            have HO := HO2
            have HG := HG2
            have HVB := HVB2
            have HQ := HQ2
            have HZ := HZ2
            have hB1 := hB2
            have hll := hl2
            clear HO2 HG2 HVB2 HQ2 HZ2 hB2 hl2
            clear HLH HLX HHH HXF HXL
            have HLH : Hid (hr.length = 4) := hide (by rw [HHR.out]; rfl)
            have HLX : Hid (rs.length = 4) := hide hrl
            have HHH := HHR
            have HXF : Hid (∀ x ∈ rs, (enR x).length ≤ 8008) := hide (fun x hx => by unfold enR; rw [List.length_append]; have h1 := intL_le x.length; have h2 := rowL_le x; have h3 := (HRI.out x hx).1; omega)
            have HXL : Hid (∀ {j : Nat}, ∀ x ∈ rs.take j, (enR x).length ≤ 8008) := hide (fun x hx => HXF.out x (List.mem_of_mem_take hx))
            go_upto_region 21 with (first | (go_at_call 130; refine (rows_any _ _).mono ?_; rintro e w7 ⟨rfl, hY⟩; unfold ptsR))
            replace HQ := hide (range_below HQ.out hY)
            replace HG := hide (HG.out.trans (Gw.of va3 hY hB1))
            replace HO := hide (HO.out.below hY)
            replace HZ := hide (Nat.lt_of_lt_of_le HZ.out hY.size)
            replace hB1 := Nat.le_trans hB1 hY.size
            clear hY
            have hvb : va3.ownBlock ≠ some w.heap.size := HVB.out
            go_loopw [0, 70] (fun b i wr => ∃ (j : Nat), j ≤ 4 ∧ i = .int .i64 (j : Int) ∧ Hid (Ow B wr b (lb3 ++ encs enR (hr.take j) (rs.take j))) ∧ Hid (Gw B w7 wr va3 b)) (fun _ i _ => 4 - (intOf i).toNat)
            case atStart => exact ⟨0, Nat.zero_le _, rfl, hide (by simpa [encs] using HO.out), hide (Gw.refl _ _ _)⟩
            case round =>
              obtain ⟨j, hj, rfl, HOj, HGj⟩ := hrel
              by_cases hlt : j < 4
              · have hltI : (j : Int) < 4 := by omega
                have hix := idxR w.heap.size j hlt
                have hcj := cellW (HGj.out.range HQ.out HVB.out) j hlt
                rw [← HUS.out] at hcj
                have HSLR := hide ((HRB.out j hlt).imp (ok' := fun b => b < B) (W' := wr) (fun _ _ q => q) (fun b i _ ok => ((HG.out.trans HGj.out).below.cell (p := ⟨b, i, none⟩) ok)))
                have hRl := HRI.out _ (getD_mem rs [] j 4 HLX.out hlt)
                have hRl1 := hRl.1
                have HI64 := hide (fun i (h : i < (rs.getD j []).length) => hRl.2 _ (List.getElem_mem h))
                clear hRl
                have hBr : B ≤ wr.heap.size := Nat.le_trans hB1 HGj.out.grown.size
                have HH := hide (fun W => bhas_any (sbj k) (8192 * 2 ^ j % 4294967296) W)
                rw [bitR HK.out j hlt] at HH
                have hen : (lb3 ++ encs enR (hr.take j) (rs.take j)).length ≤ 738000 := by
                  have := encs_le enR 8008 (hr.take j) (rs.take j) HXL.out
                  rw [List.length_append]
                  have h4 : (rs.take j).length ≤ 4 := by rw [List.length_take]; omega
                  have := Nat.mul_le_mul_left 8008 h4
                  omega
                have HE : Hid (encs enR (hr.take (j + 1)) (rs.take (j + 1)) = encs enR (hr.take j) (rs.take j) ++ (if hr.getD j false then enR (rs.getD j []) else [])) := hide (by rw [encs_take enR hr rs j (by rw [HLH.out]; omega) (by rw [HLH.out, HLX.out])]; simp [List.getD, HLH.out, HLX.out, hlt])
                rw [← HHH.out] at HH
                generalize rs.getD j [] = R at *
                generalize us.getD j (.slice none 0 0) = U at *
                generalize hr.getD j false = hb at *
                obtain ⟨cur, hrw, htk⟩ := id HOj.out
                have HRW := hide hrw
                have HTK := hide htk
                clear hrw htk
                have hbl := fun g (hg : u0.ownBlock = some g) => ow_lt HOj.out hg
                have HBL := hide hbl
                clear hbl
                cases hb with
                | true =>
                  go_wp2_with (first | (go_at_call 128; refine (HH.out _).mono ?_; rintro e w1 ⟨rfl, hw1⟩; rw [hw1]; clear hw1 w1) | (go_at_call 131; refine (wrow_any B _ _ _ cur R _ HRW.out hBr (by omega) (by omega) HI64.out HSLR.out.sl (sli_off HSLR.out HBL.out)).mono ?_; rintro e w5 ⟨v5, cur5, rfl, hp⟩))
                  have HO5 := hide (Ow.put HTK.out hp)
                  have HG5 := hide (HGj.out.trans (Gw.put hp))
                  clear hp
                  go_roundw
                  case rel => exact ⟨j + 1, by omega, by go_num, hide (by have e := HE.out; simp only [↓reduceIte] at e; rw [e, ← List.append_assoc]; exact HO5.out), HG5⟩
                  case measure => simp [intOf]; omega
                | false =>
                  go_wp2_with (first | (go_at_call 128; refine (HH.out _).mono ?_; rintro e w1 ⟨rfl, hw1⟩; rw [hw1]; clear hw1 w1))
                  go_roundw
                  case rel => exact ⟨j + 1, by omega, by go_num, hide (by rw [HE.out]; simpa using HOj.out), HGj⟩
                  case measure => simp [intOf]; omega
              · obtain rfl : j = 4 := by omega
                clear hlt hj
                have HO2 : Hid (Ow B wr u0 (lb3 ++ encs enR hr rs)) := hide (by have := HOj.out; rwa [List.take_of_length_le (by rw [HLH.out]; omega), List.take_of_length_le (by rw [HLX.out]; omega)] at this)
                have HG2 := hide (HG.out.trans HGj.out)
                have HVB2 : Hid (u0.ownBlock ≠ some w.heap.size) := hide (fun e => by rcases HGj.out.blk with q | q; (rw [q] at e; exact HVB.out e); (have := q _ e; have := HZ.out; omega))
                have HQ2 := hide (HGj.out.range HQ.out HVB.out)
                have HZ2 := hide (Nat.lt_of_lt_of_le HZ.out HGj.out.grown.size)
                have hB2 : B ≤ wr.heap.size := Nat.le_trans hB1 HGj.out.grown.size
                have hl2 : (lb3 ++ encs enR hr rs).length ≤ 738000 := by
                  have := encs_le enR 8008 hr rs HXF.out
                  rw [HLX.out] at this
                  rw [List.length_append]
                  omega
                obtain ⟨lb4, hlb⟩ : ∃ x, x = lb3 ++ encs enR hr rs := ⟨_, rfl⟩
                rw [← hlb] at HO2 hl2
                have HLB4 := hide hlb
                clear HOj HGj HO HG HVB hvb HQ HZ hB1 hll hlb
                go_wp2_with fail
                exact bodyPost_ret (v := .tuple #[u0, .nilIface]) (by simp [results, Tryz.results95, go_sem]) rfl ⟨u0, rfl, by have h9 := HO2.out; rw [HLB4.out, HLB3.out, HLB2.out, HLB1.out, HL0.out] at h9; simp only [List.append_assoc] at h9; exact h9, HG2.out⟩
/-- A record that may be, behind any bytes. -/
theorem cput_ok (B : Nat) (u : Value) (l0 : List Int) (r : Rc) (v : Value) (w : World) (hu : Ow B w u l0) (hl0 : l0.length ≤ 700000) (hB : B ≤ w.heap.size) (hv : IsR (fun b => b < B) w v r) (hc : (chk r).2.2 = 0) :
    Calls Tryz.prog 95 #[u, v] w fun e w' => ∃ v', e = .returned (.tuple #[v', .nilIface]) ∧ Ow B w' v' (l0 ++ putL r) ∧ Gw B w w' u v' := by
  have hi := chk_is hc
  have ho := hi.ok
  have n1 : r.nm.length ≤ 256 := by have := nameA_asks hi.nm; split at this; (exact this); (rw [this]; simp)
  have n2 : r.ky.length ≤ 256 := by have := nameA_asks hi.ky; split at this; (exact this); (rw [this]; simp)
  have n4 : r.rk.length ≤ 256 := by have := nameA_asks hi.rk; split at this; (exact this); (rw [this]; simp)
  have n3 := hi.va
  have hrow : ∀ (l : List Int) (h : Bool), rowB l h = true → l.length ≤ 1000 ∧ ∀ y ∈ l, y ≤ 9223372036854775807 := fun l h e => by
    have := rowB_asks e
    split at this
    · exact ⟨by omega, fun y hy => by have := this.2 y hy; omega⟩
    · rw [this]; exact ⟨by simp, fun y hy => by simp at hy⟩
  have hnum : ∀ (x lo hi : Int) (h : Bool), numB x h lo hi = true → hi ≤ 1073741824 → x ≤ 9223372036854775807 := fun x lo hi h e q => by
    have := numB_asks e
    split at this <;> omega
  have HC := hide (fun W (h : Below w.heap.size w W) => ccheck_any r v W (hv.below h) ⟨by omega, by omega, by omega, by omega⟩)
  rw [show erN (chk r).1 (chk r).2.1 (chk r).2.2 = .nilIface from if_pos hc] at HC
  obtain ⟨a14, a15, a16, a17, c14, c15, c16, c17, rfl, h⟩ := hv
  refine cput_go B u l0 r.k r.br r.ep r.tp r.pa r.le r.cl r.se r.co r.fl r.nm r.ky r.va r.rk a14 a15 a16 a17 c14 c15 c16 c17 r.ids r.isr r.ad r.dr w r.ns r.ts r.rs _ (hN r.k) (hF r.k) (hT r.k) (hR r.k) hu hl0 hB hi.k1 hi.k2 (hide rfl) (hide rfl) (hide rfl) (hide rfl) (hide rfl) (hide rfl) (hide rfl) (hide ?_) (hide ?_) rfl (hide ?_) (hide ?_) HC
  · intro j hj
    match j, hj with
    | 0, _ => exact hnum _ _ _ _ hi.br (by decide)
    | 1, _ => exact hnum _ _ _ _ hi.ep (by decide)
    | 2, _ => exact hnum _ _ _ _ hi.tp (by decide)
    | 3, _ => exact hnum _ _ _ _ hi.pa (by decide)
    | 4, _ => exact hnum _ _ _ _ hi.le (by decide)
    | 5, _ => exact hnum _ _ _ _ hi.cl (by decide)
    | 6, _ => exact hnum _ _ _ _ hi.se (by decide)
    | 7, _ => exact hnum _ _ _ _ hi.co (by decide)
    | n + 8, h => exact absurd h (by omega)
  · intro x hx
    simp only [Rc.ts, List.mem_cons, List.not_mem_nil, or_false] at hx
    rcases hx with rfl | rfl | rfl | rfl <;> omega
  · intro j hj
    match j, hj with
    | 0, _ => exact h.h14
    | 1, _ => exact h.h15
    | 2, _ => exact h.h16
    | 3, _ => exact h.h17
    | n + 4, h => exact absurd h (by omega)
  · intro x hx
    simp only [Rc.rs, List.mem_cons, List.not_mem_nil, or_false] at hx
    rcases hx with rfl | rfl | rfl | rfl
    · exact hrow _ _ hi.ids
    · exact hrow _ _ hi.isr
    · exact hrow _ _ hi.ad
    · exact hrow _ _ hi.dr
end Go.Proofs.YtoioddnlkbjljaaGreatDoor
namespace Go.Proofs.YtoioddnlkbjljaaGreatDoor
open Go.RowKit

theorem mkS_pt {c : Int} {op : ByteArray} {n a L : Nat} (h1 : n ≤ L) (h2 : a ≤ L) : (mkS c op n a).pt ≤ L := by
  unfold mkS; split
  · exact h1
  · exact h2
theorem gN_pt {m : Int} {l : List Int} {s : Gs} (hb : Byt l) (hs : s.pt ≤ l.length) : (gN m l s).1.pt ≤ l.length := by
  unfold gN; split
  · refine mkS_pt ?_ hs
    have := numS_next (most := m) (hb.drop s.pt)
    rw [List.length_drop] at this
    omega
  · exact hs
theorem gF_pt {l : List Int} {s : Gs} (hb : Byt l) (hs : s.pt ≤ l.length) : (gF l s).1.pt ≤ l.length := by
  unfold gF; split
  · exact mkS_pt (askS_next l s.pt 2 0 0 hb hs) hs
  · exact hs
theorem gT_pt {l : List Int} {s : Gs} (hb : Byt l) (hs : s.pt ≤ l.length) : (gT l s).1.pt ≤ l.length := by
  unfold gT; split
  · exact mkS_pt (askS_next l s.pt 3 256 0 hb hs) hs
  · exact hs
theorem gR_pt {l : List Int} {s : Gs} (hb : Byt l) (hs : s.pt ≤ l.length) : (gR l s).1.pt ≤ l.length := by
  unfold gR; split
  · exact mkS_pt (askS_next l s.pt 4 7 64 hb hs) (askS_next l s.pt 4 7 64 hb hs)
  · exact hs
theorem fL_pt {α : Type} (z : α) (g : Gs → Gs × α) (L : Nat) (hg : ∀ s, s.pt ≤ L → (g s).1.pt ≤ L) : ∀ (hs : List Bool) (s : Gs), s.pt ≤ L → (fL z g hs s).1.pt ≤ L
  | [], s, h => h
  | b :: hs, s, h => fL_pt z g L hg hs _ (by cases b; (exact h); (exact hg s h))
theorem fL_take {α : Type} (z : α) (g : Gs → Gs × α) (hs : List Bool) (s : Gs) (j : Nat) (hj : j < hs.length) : fL z g (hs.take (j + 1)) s = ((if hs.getD j false then g (fL z g (hs.take j) s).1 else ((fL z g (hs.take j) s).1, z)).1, (fL z g (hs.take j) s).2 ++ [(if hs.getD j false then g (fL z g (hs.take j) s).1 else ((fL z g (hs.take j) s).1, z)).2]) := by
  rw [List.take_succ_eq_append_getElem hj, show hs.getD j false = hs[j] by simp [List.getD, hj]]
  exact fL_snoc z g _ _ _
theorem Bx.fresh {p X i : Nat} {a b : World} {x : Value} (h : Bx p a b) (hX : a.heap.size ≤ X) : Bx p a (b.setCell ⟨X, i, none⟩ x) :=
  ⟨h.os, h.tape, h.output, by simpa [World.setCell] using h.size, fun k hk hp => (Below.heap_setCell _ _ _ _ (fun e => by simp at e; omega)).trans (h.block k hk hp)⟩
theorem getD_snoc {α : Type} (l : List α) (x d : α) (i : Nat) : (l ++ [x]).getD i d = if i = l.length then x else l.getD i d := by
  by_cases h : i = l.length
  · subst h; simp [List.getD]
  · rw [if_neg h]
    by_cases h2 : i < l.length
    · simp [List.getD, List.getElem?_append_left h2]
    · simp [List.getD, List.getElem?_eq_none (show (l ++ [x]).length ≤ i by simp; omega), List.getElem?_eq_none (show l.length ≤ i by omega)]
theorem getD_pad {α : Type} (l : List α) (d : α) (i : Nat) : (l ++ [d]).getD i d = l.getD i d := by
  rw [getD_snoc]
  split
  · rename_i h; subst h; simp [List.getD]
  · rfl
/-- A record that is being read, in its cells. -/
structure Fi (p R X : Nat) (w W : World) (v : Value) (s : Gs) (n : List Int) (f : List Bool) (t : List (List UInt8)) (r : List Value) (rs : List (List Int)) : Prop where
  rd : RdG W p v s
  c0 : W.cell? ⟨X, 0, none⟩ = some (.int .i64 0)
  cn : ∀ i, i < 8 → W.cell? ⟨X, i + 1, none⟩ = some (.int .i64 (n.getD i 0))
  cf : W.cell? ⟨X, 9, none⟩ = some (.bool (f.getD 0 false))
  ct : ∀ i, i < 4 → W.cell? ⟨X, i + 10, none⟩ = some (.string ⟨(t.getD i []).toArray⟩)
  cr : ∀ i, i < 4 → W.cell? ⟨X, i + 14, none⟩ = some (r.getD i (.slice none 0 0))
  fz : ∀ i, W.frozen? ⟨X, i, none⟩ = false
  th : W.there R 0 18
  rw : ∀ i, i < 4 → Sli (fun b => X < b) W (r.getD i (.slice none 0 0)) (rs.getD i [])
  bx : Bx p w W
  hp : p < w.heap.size
  hR : R = w.heap.size
  hX : X = w.heap.size + 1
section
variable {p R X : Nat} {w W W' : World} {v : Value} {s s' : Gs} {n : List Int} {f : List Bool} {t : List (List UInt8)} {r : List Value} {rs : List (List Int)}
theorem Fi.sz (h : Fi p R X w W v s n f t r rs) : X < W.heap.size := cell_block h.c0
theorem Fi.step (h : Fi p R X w W v s n f t r rs) (hr : RdG W' p v s') (hb : Bx p W W') : Fi p R X w W' v s' n f t r rs := by
  have hXl := h.sz
  have hXp : X ≠ p := by have := h.hp; have := h.hX; omega
  have hRp : R ≠ p := by have := h.hp; have := h.hR; omega
  have hRl : R < W.heap.size := by have := h.hR; have := h.hX; omega
  have hc : ∀ i, W'.cell? ⟨X, i, none⟩ = W.cell? ⟨X, i, none⟩ := fun i => hb.cell hXl hXp
  refine ⟨hr, by rw [hc]; exact h.c0, fun i hi => by rw [hc]; exact h.cn i hi, by rw [hc]; exact h.cf, fun i hi => by rw [hc]; exact h.ct i hi, fun i hi => by rw [hc]; exact h.cr i hi, fun i => by rw [hb.frozen hXl hXp]; exact h.fz i, fun j hj => by rw [hb.cell hRl hRp, hb.frozen hRl hRp]; exact h.th j hj, fun i hi => (h.rw i hi).imp (fun _ _ q => q) (fun b j hl hk => hb.cell hl (by have := h.hp; have := h.hX; omega)), h.bx.trans hb, h.hp, h.hR, h.hX⟩
theorem Fi.below (h : Fi p R X w W v s n f t r rs) (hb : Below W.heap.size W W') : Fi p R X w W' v s n f t r rs := h.step (h.rd.below hb) (Bx.of hb)
theorem rdG_set {i : Nat} {x : Value} (h : RdG W p v s) (hX : X ≠ p) : RdG (W.setCell ⟨X, i, none⟩ x) p v s := by
  have o : ∀ j, (W.setCell ⟨X, i, none⟩ x).cell? ⟨p, j, none⟩ = W.cell? ⟨p, j, none⟩ := fun j => World.cell?_setCell_other _ _ _ _ (fun q => hX (congrArg Addr.block q))
  exact ⟨by rw [o]; exact h.c0, by rw [o]; exact h.c1, by rw [o]; exact h.c2, fun j => by simp [h.fz j]⟩
theorem cell_off {i j : Nat} {x : Value} (h : ¬ i = j) : (W.setCell ⟨X, i, none⟩ x).cell? ⟨X, j, none⟩ = W.cell? ⟨X, j, none⟩ := World.cell?_setCell_other _ _ _ _ (fun q => h (congrArg Addr.off q))
/-- A store into one of its cells. -/
theorem Fi.set {i : Nat} {x : Value} {n' : List Int} {f' : List Bool} {t' : List (List UInt8)} {r' : List Value} {rs' : List (List Int)} (h : Fi p R X w W v s n f t r rs) (h0 : 0 < i)
    (cn : ∀ j, j < 8 → (W.setCell ⟨X, i, none⟩ x).cell? ⟨X, j + 1, none⟩ = some (.int .i64 (n'.getD j 0))) (cf : (W.setCell ⟨X, i, none⟩ x).cell? ⟨X, 9, none⟩ = some (.bool (f'.getD 0 false)))
    (ct : ∀ j, j < 4 → (W.setCell ⟨X, i, none⟩ x).cell? ⟨X, j + 10, none⟩ = some (.string ⟨(t'.getD j []).toArray⟩)) (cr : ∀ j, j < 4 → (W.setCell ⟨X, i, none⟩ x).cell? ⟨X, j + 14, none⟩ = some (r'.getD j (.slice none 0 0)))
    (hrw : ∀ j, j < 4 → Sli (fun b => X < b) W (r'.getD j (.slice none 0 0)) (rs'.getD j [])) : Fi p R X w (W.setCell ⟨X, i, none⟩ x) v s n' f' t' r' rs' := by
  have hXp : X ≠ p := by have := h.hp; have := h.hX; omega
  have ho : ∀ b j, b ≠ X → (W.setCell ⟨X, i, none⟩ x).cell? ⟨b, j, none⟩ = W.cell? ⟨b, j, none⟩ := fun b j hb => World.cell?_setCell_other _ _ _ _ (fun q => hb (congrArg Addr.block q).symm)
  refine ⟨rdG_set h.rd hXp, by rw [cell_off (by omega)]; exact h.c0, cn, cf, ct, cr, fun j => by simp [h.fz j], fun j hj => by rw [ho _ _ (by have := h.hR; have := h.hX; omega)]; simpa using h.th j hj, fun j hj => (hrw j hj).imp (fun _ _ q => q) (fun b j _ hk => ho b j (by omega)), h.bx.fresh (by have := h.hX; omega), h.hp, h.hR, h.hX⟩
theorem Fi.setN {j : Nat} {x : Int} (h : Fi p R X w W v s n f t r rs) (hn : n.length = j) (hj : j < 8) : Fi p R X w (W.setCell ⟨X, j + 1, none⟩ (.int .i64 x)) v s (n ++ [x]) f t r rs := by
  refine h.set (by omega) (fun i hi => ?_) (by rw [cell_off (by omega)]; exact h.cf) (fun i hi => by rw [cell_off (by omega)]; exact h.ct i hi) (fun i hi => by rw [cell_off (by omega)]; exact h.cr i hi) h.rw
  rw [getD_snoc]
  by_cases e : i = j
  · subst e
    rw [if_pos hn.symm]
    exact World.cell?_setCell_same _ _ _ (h.cn i hi)
  · rw [if_neg (by omega), cell_off (by omega)]
    exact h.cn i hi
theorem Fi.setF {b : Bool} (h : Fi p R X w W v s n [] t r rs) : Fi p R X w (W.setCell ⟨X, 9, none⟩ (.bool b)) v s n [b] t r rs :=
  h.set (by omega) (fun i hi => by rw [cell_off (by omega)]; exact h.cn i hi) (World.cell?_setCell_same _ _ _ h.cf) (fun i hi => by rw [cell_off (by omega)]; exact h.ct i hi) (fun i hi => by rw [cell_off (by omega)]; exact h.cr i hi) h.rw
theorem Fi.setT {j : Nat} {x : List UInt8} (h : Fi p R X w W v s n f t r rs) (hn : t.length = j) (hj : j < 4) : Fi p R X w (W.setCell ⟨X, j + 10, none⟩ (.string ⟨x.toArray⟩)) v s n f (t ++ [x]) r rs := by
  refine h.set (by omega) (fun i hi => by rw [cell_off (by omega)]; exact h.cn i hi) (by rw [cell_off (by omega)]; exact h.cf) (fun i hi => ?_) (fun i hi => by rw [cell_off (by omega)]; exact h.cr i hi) h.rw
  rw [getD_snoc]
  by_cases e : i = j
  · subst e
    rw [if_pos hn.symm]
    exact World.cell?_setCell_same _ _ _ (h.ct i hi)
  · rw [if_neg (by omega), cell_off (by omega)]
    exact h.ct i hi
theorem Fi.setR {j : Nat} {u : Value} {x : List Int} (h : Fi p R X w W v s n f t r rs) (hn : r.length = j) (hn2 : rs.length = j) (hj : j < 4) (hu : Sli (fun b => X < b) W u x) : Fi p R X w (W.setCell ⟨X, j + 14, none⟩ u) v s n f t (r ++ [u]) (rs ++ [x]) := by
  refine h.set (by omega) (fun i hi => by rw [cell_off (by omega)]; exact h.cn i hi) (by rw [cell_off (by omega)]; exact h.cf) (fun i hi => by rw [cell_off (by omega)]; exact h.ct i hi) (fun i hi => ?_) (fun i hi => ?_)
  · rw [getD_snoc]
    by_cases e : i = j
    · subst e
      rw [if_pos hn.symm]
      exact World.cell?_setCell_same _ _ _ (h.cr i hi)
    · rw [if_neg (by omega), cell_off (by omega)]
      exact h.cr i hi
  · rw [getD_snoc, getD_snoc]
    by_cases e : i = j
    · rw [if_pos (by omega), if_pos (by omega)]
      exact hu
    · rw [if_neg (by omega), if_neg (by omega)]
      exact h.rw i hi
theorem Fi.padN (h : Fi p R X w W v s n f t r rs) : Fi p R X w W v s (n ++ [0]) f t r rs :=
  ⟨h.rd, h.c0, fun i hi => by rw [getD_pad]; exact h.cn i hi, h.cf, h.ct, h.cr, h.fz, h.th, h.rw, h.bx, h.hp, h.hR, h.hX⟩
theorem Fi.padF (h : Fi p R X w W v s n [] t r rs) : Fi p R X w W v s n [false] t r rs :=
  ⟨h.rd, h.c0, h.cn, h.cf, h.ct, h.cr, h.fz, h.th, h.rw, h.bx, h.hp, h.hR, h.hX⟩
theorem Fi.padT (h : Fi p R X w W v s n f t r rs) : Fi p R X w W v s n f (t ++ [[]]) r rs :=
  ⟨h.rd, h.c0, h.cn, h.cf, fun i hi => by rw [getD_pad]; exact h.ct i hi, h.cr, h.fz, h.th, h.rw, h.bx, h.hp, h.hR, h.hX⟩
theorem Fi.padR (h : Fi p R X w W v s n f t r rs) : Fi p R X w W v s n f t (r ++ [.slice none 0 0]) (rs ++ [[]]) :=
  ⟨h.rd, h.c0, h.cn, h.cf, h.ct, fun i hi => by rw [getD_pad]; exact h.cr i hi, h.fz, h.th, fun i hi => by rw [getD_pad, getD_pad]; exact h.rw i hi, h.bx, h.hp, h.hR, h.hX⟩
end
end Go.Proofs.YtoioddnlkbjljaaGreatDoor
namespace Go.Proofs.YtoioddnlkbjljaaGreatDoor
open Go.RowKit

/-- Its cells, eighteen of them. -/
theorem Fi.range {p R X : Nat} {w W : World} {v : Value} {s : Gs} {n : List Int} {f : List Bool} {t : List (List UInt8)} {r : List Value} {rs : List (List Int)} (h : Fi p R X w W v s n f t r rs) :
    W.rangeAt X 0 [.int .i64 0, .int .i64 (n.getD 0 0), .int .i64 (n.getD 1 0), .int .i64 (n.getD 2 0), .int .i64 (n.getD 3 0), .int .i64 (n.getD 4 0), .int .i64 (n.getD 5 0), .int .i64 (n.getD 6 0), .int .i64 (n.getD 7 0), .bool (f.getD 0 false), .string ⟨(t.getD 0 []).toArray⟩, .string ⟨(t.getD 1 []).toArray⟩, .string ⟨(t.getD 2 []).toArray⟩, .string ⟨(t.getD 3 []).toArray⟩, r.getD 0 (.slice none 0 0), r.getD 1 (.slice none 0 0), r.getD 2 (.slice none 0 0), r.getD 3 (.slice none 0 0)] := fun j x hx => by
  match j, hx with
  | 0, hx => cases hx; exact h.c0
  | 1, hx => cases hx; exact h.cn 0 (by decide)
  | 2, hx => cases hx; exact h.cn 1 (by decide)
  | 3, hx => cases hx; exact h.cn 2 (by decide)
  | 4, hx => cases hx; exact h.cn 3 (by decide)
  | 5, hx => cases hx; exact h.cn 4 (by decide)
  | 6, hx => cases hx; exact h.cn 5 (by decide)
  | 7, hx => cases hx; exact h.cn 6 (by decide)
  | 8, hx => cases hx; exact h.cn 7 (by decide)
  | 9, hx => cases hx; exact h.cf
  | 10, hx => cases hx; exact h.ct 0 (by decide)
  | 11, hx => cases hx; exact h.ct 1 (by decide)
  | 12, hx => cases hx; exact h.ct 2 (by decide)
  | 13, hx => cases hx; exact h.ct 3 (by decide)
  | 14, hx => cases hx; exact h.cr 0 (by decide)
  | 15, hx => cases hx; exact h.cr 1 (by decide)
  | 16, hx => cases hx; exact h.cr 2 (by decide)
  | 17, hx => cases hx; exact h.cr 3 (by decide)
  | _ + 18, hx => cases hx
/-- A store of many cells into one block. -/
theorem Bx.many {p X : Nat} {a : World} (hX : a.heap.size ≤ X) : ∀ (vs : List Value) (o : Nat) {b : World}, Bx p a b → Bx p a (b.setCells X o vs)
  | [], _, _, h => h
  | _ :: vs, o, _, h => by
    rw [World.setCells]
    exact Bx.many hX vs (o + 1) (h.fresh hX)
theorem rdG_many {p X : Nat} {v : Value} {s : Gs} (hX : X ≠ p) : ∀ (vs : List Value) (o : Nat) {b : World}, RdG b p v s → RdG (b.setCells X o vs) p v s
  | [], _, _, h => h
  | _ :: vs, o, _, h => by
    rw [World.setCells]
    exact rdG_many hX vs (o + 1) (rdG_set h hX)
theorem cell_many {X b j : Nat} {W : World} (hb : b ≠ X) (vs : List Value) (o : Nat) : (W.setCells X o vs).cell? ⟨b, j, none⟩ = W.cell? ⟨b, j, none⟩ :=
  World.cell?_setCells_out X vs o W ⟨b, j, none⟩ (fun q _ => absurd q hb)
theorem cellsR_one (r : Rc) (a14 a15 a16 a17 : Option Addr) (c14 c15 c16 c17 : Nat) : (cellsR r a14 a15 a16 a17 c14 c15 c16 c17).toArray.all (·.oneCell') = true :=
  all_oneCell_toArray (fun v hv => by
    simp only [cellsR, List.mem_cons, List.not_mem_nil, or_false] at hv
    rcases hv with rfl | rfl | rfl | rfl | rfl | rfl | rfl | rfl | rfl | rfl | rfl | rfl | rfl | rfl | rfl | rfl | rfl | rfl <;> rfl)
/-- A result that lies in many cells. -/
theorem results_mid {P : Program} {fn : Func} {q : Tmp} {ty : TypeId} (h : fn.results = #[.cell q ty]) (tmps : Array Value) (w : World) (b : Nat) (cs : List Value) (d : TypeDesc) (hp : tmps.getD q undef = .pointer (some ⟨b, 0, none⟩)) (hc : w.rangeAt b 0 cs) (hu : P.underlying ty = some d) (hd : d.isRow = true) (hi : (P.info? ty).map (·.size) = some cs.length) :
    (results fn tmps).run P w = .ok (.agg cs.toArray) w := by
  have hp' : tmps[q]?.getD undef = .pointer (some ⟨b, 0, none⟩) := by simpa using hp
  simp [results, h, hp', asAddr, run_loadVar_mid w b 0 ty cs d hc hu hd hi]
/-- A record without its kind. -/
def Rc.k0 (x : Rc) : Rc := { x with k := 0 }
set_option maxRecDepth 100000 in
set_option maxHeartbeats 16000000 in
theorem fields_go (p : Nat) (v : Value) (l : List Int) (s : Gs) (k : Int) (w : World) (h8 hf ht hr : List Bool) (hrd : RdG w p v s) (hv : Slx p bc w v l) (hl : l.length ≤ 100000) (hby : Byt l) (hs : s.pt ≤ l.length) (hk : 1 ≤ k ∧ k ≤ 12) (HH8 : Hid (h8 = hN k)) (HHF : Hid (hf = [hasL k 102])) (HHT : Hid (ht = hT k)) (HHR : Hid (hr = hR k)) :
    Calls Tryz.prog 145 #[.pointer (some ⟨p, 0, none⟩), .int .u32 (sbj k)] w fun e w' => ∃ vx n f t r s1 s2 s3 s4, e = .returned vx ∧ Hid (fL 0 (gN 1073741824 l) h8 s = (s1, n)) ∧ Hid (fL false (gF l) hf s1 = (s2, f)) ∧ Hid (fL [] (gT l) ht s2 = (s3, t)) ∧ Hid (fL [] (gR l) hr s3 = (s4, r)) ∧ IsR (fun b => w.heap.size ≤ b) w' vx (mkR 0 n f t r) ∧ RdG w' p v s4 ∧ Bx p w w' := by
  have HK := hide hk
  have HBY := hide hby
  have HS := hide hs
  have HV := hide hv
  have hp : p < w.heap.size := hrd.lt
  have HF0 : Hid (Fi p w.heap.size (w.heap.size + 1) w ((w.alloc (.cells #[.int .i64 0, .int .i64 0, .int .i64 0, .int .i64 0, .int .i64 0, .int .i64 0, .int .i64 0, .int .i64 0, .int .i64 0, .bool false, .string ⟨#[]⟩, .string ⟨#[]⟩, .string ⟨#[]⟩, .string ⟨#[]⟩, .slice none 0 0, .slice none 0 0, .slice none 0 0, .slice none 0 0] 55)).alloc (.cells #[.int .i64 0, .int .i64 0, .int .i64 0, .int .i64 0, .int .i64 0, .int .i64 0, .int .i64 0, .int .i64 0, .int .i64 0, .bool false, .string ⟨#[]⟩, .string ⟨#[]⟩, .string ⟨#[]⟩, .string ⟨#[]⟩, .slice none 0 0, .slice none 0 0, .slice none 0 0, .slice none 0 0] 55)) v s [] [] [] [] []) := by
    have hbl : Below w.heap.size w ((w.alloc (.cells #[.int .i64 0, .int .i64 0, .int .i64 0, .int .i64 0, .int .i64 0, .int .i64 0, .int .i64 0, .int .i64 0, .int .i64 0, .bool false, .string ⟨#[]⟩, .string ⟨#[]⟩, .string ⟨#[]⟩, .string ⟨#[]⟩, .slice none 0 0, .slice none 0 0, .slice none 0 0, .slice none 0 0] 55)).alloc (.cells #[.int .i64 0, .int .i64 0, .int .i64 0, .int .i64 0, .int .i64 0, .int .i64 0, .int .i64 0, .int .i64 0, .int .i64 0, .bool false, .string ⟨#[]⟩, .string ⟨#[]⟩, .string ⟨#[]⟩, .string ⟨#[]⟩, .slice none 0 0, .slice none 0 0, .slice none 0 0, .slice none 0 0] 55)) := ((Below.refl _ _).alloc (Nat.le_refl _) _).alloc (by simp) _
    have hrg := C18.of (range_new (w.alloc (.cells #[.int .i64 0, .int .i64 0, .int .i64 0, .int .i64 0, .int .i64 0, .int .i64 0, .int .i64 0, .int .i64 0, .int .i64 0, .bool false, .string ⟨#[]⟩, .string ⟨#[]⟩, .string ⟨#[]⟩, .string ⟨#[]⟩, .slice none 0 0, .slice none 0 0, .slice none 0 0, .slice none 0 0] 55)) [.int .i64 0, .int .i64 0, .int .i64 0, .int .i64 0, .int .i64 0, .int .i64 0, .int .i64 0, .int .i64 0, .int .i64 0, .bool false, .string ⟨#[]⟩, .string ⟨#[]⟩, .string ⟨#[]⟩, .string ⟨#[]⟩, .slice none 0 0, .slice none 0 0, .slice none 0 0, .slice none 0 0] 55)
    have hsz : (w.alloc (.cells #[.int .i64 0, .int .i64 0, .int .i64 0, .int .i64 0, .int .i64 0, .int .i64 0, .int .i64 0, .int .i64 0, .int .i64 0, .bool false, .string ⟨#[]⟩, .string ⟨#[]⟩, .string ⟨#[]⟩, .string ⟨#[]⟩, .slice none 0 0, .slice none 0 0, .slice none 0 0, .slice none 0 0] 55)).heap.size = w.heap.size + 1 := by simp
    rw [hsz] at hrg
    refine hide ⟨hrd.below hbl, hrg.c0, fun i hi => ?_, hrg.c9, fun i hi => ?_, fun i hi => ?_, fun i => by simp, fun j hj => ?_, fun i hi => ?_, Bx.of hbl, hp, rfl, rfl⟩
    · have hc : i = 0 ∨ i = 1 ∨ i = 2 ∨ i = 3 ∨ i = 4 ∨ i = 5 ∨ i = 6 ∨ i = 7 := by omega
      rcases hc with rfl | rfl | rfl | rfl | rfl | rfl | rfl | rfl
      · exact hrg.c1
      · exact hrg.c2
      · exact hrg.c3
      · exact hrg.c4
      · exact hrg.c5
      · exact hrg.c6
      · exact hrg.c7
      · exact hrg.c8
    · have hc : i = 0 ∨ i = 1 ∨ i = 2 ∨ i = 3 := by omega
      rcases hc with rfl | rfl | rfl | rfl
      · exact hrg.c10
      · exact hrg.c11
      · exact hrg.c12
      · exact hrg.c13
    · have hc : i = 0 ∨ i = 1 ∨ i = 2 ∨ i = 3 := by omega
      rcases hc with rfl | rfl | rfl | rfl
      · exact hrg.c14
      · exact hrg.c15
      · exact hrg.c16
      · exact hrg.c17
    · refine World.there_alloc (o := 0) (n := 18) (fun j hj => ⟨?_, by simp⟩) _ j hj
      have hr2 := range_new w [.int .i64 0, .int .i64 0, .int .i64 0, .int .i64 0, .int .i64 0, .int .i64 0, .int .i64 0, .int .i64 0, .int .i64 0, .bool false, .string ⟨#[]⟩, .string ⟨#[]⟩, .string ⟨#[]⟩, .string ⟨#[]⟩, .slice none 0 0, .slice none 0 0, .slice none 0 0, .slice none 0 0] 55
      exact hr2.isSome j hj
    · simp only [List.getD_nil]; exact Sli.nil _ _ _ _
  clear hrd hv hby hs hk
  go_enter Tryz.func145, Tryz.ntmps145
  go_upto_region 2 with fail
  generalize (w.alloc (.cells #[.int .i64 0, .int .i64 0, .int .i64 0, .int .i64 0, .int .i64 0, .int .i64 0, .int .i64 0, .int .i64 0, .int .i64 0, .bool false, .string ⟨#[]⟩, .string ⟨#[]⟩, .string ⟨#[]⟩, .string ⟨#[]⟩, .slice none 0 0, .slice none 0 0, .slice none 0 0, .slice none 0 0] 55)).alloc (.cells #[.int .i64 0, .int .i64 0, .int .i64 0, .int .i64 0, .int .i64 0, .int .i64 0, .int .i64 0, .int .i64 0, .int .i64 0, .bool false, .string ⟨#[]⟩, .string ⟨#[]⟩, .string ⟨#[]⟩, .string ⟨#[]⟩, .slice none 0 0, .slice none 0 0, .slice none 0 0, .slice none 0 0] 55) = X0 at HF0 ⊢
  have HLH : Hid (h8.length = 8) := hide (by rw [HH8.out]; rfl)
  go_upto_region 3 with (first | (go_at_call 127; refine (numbers_pts _ _).mono ?_; rintro e w2 ⟨rfl, hY⟩; unfold pts8))
  have HF1 := hide (HF0.out.below hY)
  clear HF0 hY
  go_loopw [13] (fun i wr => ∃ (j : Nat), j ≤ 8 ∧ i = .int .i64 (j : Int) ∧ Hid (Fi p w.heap.size (w.heap.size + 1) w wr v (fL 0 (gN 1073741824 l) (h8.take j) s).1 (fL 0 (gN 1073741824 l) (h8.take j) s).2 [] [] [] [])) (fun i _ => 8 - (intOf i).toNat)
  case atStart => exact ⟨0, Nat.zero_le _, rfl, HF1⟩
  case round =>
    obtain ⟨j, hj, rfl, HFj⟩ := hrel
    by_cases hlt : j < 8
    · have hltI : (j : Int) < 8 := by omega
      have hix := idx8 (w.heap.size + 1) j hlt
      have HH := hide (fun W => bhas_any (sbj k) (2 ^ j % 4294967296) W)
      rw [bit8 HK.out j hlt, ← HH8.out] at HH
      have HE := hide (fL_take 0 (gN 1073741824 l) h8 s j (by rw [HLH.out]; exact hlt))
      have hlen : (fL 0 (gN 1073741824 l) (h8.take j) s).2.length = j := by rw [fL_len, List.length_take, HLH.out]; omega
      have hpt : (fL 0 (gN 1073741824 l) (h8.take j) s).1.pt ≤ l.length := fL_pt 0 (gN 1073741824 l) l.length (fun s hs => gN_pt HBY.out hs) (h8.take j) s HS.out
      generalize h8.getD j false = hb at *
      generalize fL 0 (gN 1073741824 l) (h8.take j) s = Q at *
      obtain ⟨sq, nq'⟩ := Q
      simp only at HFj HE hlen hpt
      have HVj := hide (HV.out.bx HFj.out.bx)
      cases hb with
      | true =>
        have HC := hide (rint_gs p v l 1073741824 sq wr HFj.out.rd HVj.out hl HBY.out hpt (by decide) (by decide))
        have HE2 := HE.out
        simp only [↓reduceIte] at HE2
        have HE3 := hide HE2
        clear HE2 HE
        generalize gN 1073741824 l sq = Q2 at *
        obtain ⟨sq2, xq⟩ := Q2
        simp only at HC HE3
        go_wp2_with (first | (go_at_call 128; refine (HH.out _).mono ?_; rintro e w1 ⟨rfl, hw1⟩; rw [hw1]; clear hw1 w1) | (go_at_call 74; refine HC.out.mono ?_; rintro e w5 ⟨rfl, hr5, hb5⟩; have HF5 := hide (HFj.out.step hr5 hb5); clear hr5 hb5; have c5 := HF5.out.cn j hlt; have f5 := HF5.out.fz (j + 1)))
        have HF6 := hide (HF5.out.setN (x := xq) hlen hlt)
        go_roundw
        case rel => exact ⟨j + 1, by omega, by go_num, hide (by rw [HE3.out]; exact HF6.out)⟩
        case measure => simp [intOf]; omega
      | false =>
        have HE2 := HE.out
        simp only [Bool.false_eq_true, ↓reduceIte] at HE2
        have HE3 := hide HE2
        clear HE2 HE
        go_wp2_with (first | (go_at_call 128; refine (HH.out _).mono ?_; rintro e w1 ⟨rfl, hw1⟩; rw [hw1]; clear hw1 w1))
        go_roundw
        case rel => exact ⟨j + 1, by omega, by go_num, hide (by rw [HE3.out]; exact HFj.out.padN)⟩
        case measure => simp [intOf]; omega
    · obtain rfl : j = 8 := by omega
      clear hlt hj
      have HT : Hid (h8.take 8 = h8) := hide (List.take_of_length_le (by rw [HLH.out]; omega))
      rw [HT.out] at HFj
      have hpt : (fL 0 (gN 1073741824 l) h8 s).1.pt ≤ l.length := fL_pt 0 (gN 1073741824 l) l.length (fun s hs => gN_pt HBY.out hs) h8 s HS.out
      rcases hQ : fL 0 (gN 1073741824 l) h8 s with ⟨s1, n1⟩
      rw [hQ] at HFj hpt
      have HQ8 := hide hQ
      have HS := hide hpt
      simp only at HFj HS
      clear hQ hpt HT HLH
      obtain ⟨wa8, rfl⟩ : ∃ x : World, x = wr := ⟨_, rfl⟩
      have HF0 := HFj
      clear HFj HF1
      have HFB := hide (fun W => bhas_any (sbj k) 256 W)
      rw [(bit_has HK.out).2.2.2.2.2.2.2.2.1] at HFB
      generalize hasL k 102 = hb at *
      cases hb with
      | true =>
        have HVj := hide (HV.out.bx HF0.out.bx)
        have HC := hide (rflag_gs p v l s1 wa8 HF0.out.rd HVj.out hl HS.out)
        have HQF : Hid (fL false (gF l) hf s1 = ((gF l s1).1, [(gF l s1).2])) := hide (by rw [HHF.out]; rfl)
        have HS2 := hide (gF_pt HBY.out HS.out)
        generalize gF l s1 = Q2 at *
        obtain ⟨s2, x2⟩ := Q2
        simp only at HC HQF HS2
        clear HS
        have HS := HS2
        clear HS2
        go_upto_region 10 with (first | (go_at_call 128; refine (HFB.out _).mono ?_; rintro e w1 ⟨rfl, hw1⟩; rw [hw1]; clear hw1 w1) | (go_at_call 75; refine HC.out.mono ?_; rintro e w5 ⟨rfl, hr5, hb5⟩; have HF5 := hide (HF0.out.step hr5 hb5); clear hr5 hb5; have c5 := HF5.out.cf; have f5 := HF5.out.fz 9))
        have HF6 := hide (HF5.out.setF (b := x2))
        clear HF0
        have HF0 := HF6
        clear HF6 HF5 c5 f5
        obtain ⟨f1, hf1⟩ : ∃ x, x = [x2] := ⟨_, rfl⟩
        rw [← hf1] at HF0 HQF
        clear hf1
        have HLH : Hid (ht.length = 4) := hide (by rw [HHT.out]; rfl)
        go_upto_region 11 with (first | (go_at_call 129; refine (texts_any _ _).mono ?_; rintro e w6 ⟨rfl, hY⟩; unfold ptsT))
        have HF1 := hide (HF0.out.below hY)
        clear HF0 hY
        go_loopw [32] (fun i wr => ∃ (j : Nat), j ≤ 4 ∧ i = .int .i64 (j : Int) ∧ Hid (Fi p w.heap.size (w.heap.size + 1) w wr v (fL [] (gT l) (ht.take j) s2).1 n1 f1 (fL [] (gT l) (ht.take j) s2).2 [] [])) (fun i _ => 4 - (intOf i).toNat)
        case atStart => exact ⟨0, Nat.zero_le _, rfl, HF1⟩
        case round =>
          obtain ⟨j, hj, rfl, HFj⟩ := hrel
          by_cases hlt : j < 4
          · have hltI : (j : Int) < 4 := by omega
            have hix := idxT (w.heap.size + 1) j hlt
            have HH := hide (fun W => bhas_any (sbj k) (512 * 2 ^ j % 4294967296) W)
            rw [bitT HK.out j hlt, ← HHT.out] at HH
            have HE := hide (fL_take [] (gT l) ht s2 j (by rw [HLH.out]; exact hlt))
            have hlen : (fL [] (gT l) (ht.take j) s2).2.length = j := by rw [fL_len, List.length_take, HLH.out]; omega
            have hpt : (fL [] (gT l) (ht.take j) s2).1.pt ≤ l.length := fL_pt [] (gT l) l.length (fun s hs => gT_pt HBY.out hs) (ht.take j) s2 HS.out
            generalize ht.getD j false = hb at *
            generalize fL [] (gT l) (ht.take j) s2 = Q at *
            obtain ⟨sq, nq'⟩ := Q
            simp only at HFj HE hlen hpt
            have HVj := hide (HV.out.bx HFj.out.bx)
            cases hb with
            | true =>
              have HC := hide (rtext_gs p v l sq wr HFj.out.rd HVj.out hl HBY.out hpt)
              have HE2 := HE.out
              simp only [↓reduceIte] at HE2
              have HE3 := hide HE2
              clear HE2 HE
              generalize gT l sq = Q2 at *
              obtain ⟨sq2, xq⟩ := Q2
              simp only at HC HE3
              go_wp2_with (first | (go_at_call 128; refine (HH.out _).mono ?_; rintro e w1 ⟨rfl, hw1⟩; rw [hw1]; clear hw1 w1) | (go_at_call 76; refine HC.out.mono ?_; rintro e w5 ⟨u5, rfl, hcv, hr5, hb5⟩; have HF5 := hide (HFj.out.step hr5 hb5); clear hr5 hb5; have c5 := HF5.out.ct j hlt; have f5 := HF5.out.fz (j + 10)))
              have HF6 := hide (HF5.out.setT (x := xq) hlen hlt)
              go_roundw
              case rel => exact ⟨j + 1, by omega, by go_num, hide (by rw [HE3.out]; exact HF6.out)⟩
              case measure => simp [intOf]; omega
            | false =>
              have HE2 := HE.out
              simp only [Bool.false_eq_true, ↓reduceIte] at HE2
              have HE3 := hide HE2
              clear HE2 HE
              go_wp2_with (first | (go_at_call 128; refine (HH.out _).mono ?_; rintro e w1 ⟨rfl, hw1⟩; rw [hw1]; clear hw1 w1))
              go_roundw
              case rel => exact ⟨j + 1, by omega, by go_num, hide (by rw [HE3.out]; exact HFj.out.padT)⟩
              case measure => simp [intOf]; omega
          · obtain rfl : j = 4 := by omega
            clear hlt hj
            have HT : Hid (ht.take 4 = ht) := hide (List.take_of_length_le (by rw [HLH.out]; omega))
            rw [HT.out] at HFj
            have hpt : (fL [] (gT l) ht s2).1.pt ≤ l.length := fL_pt [] (gT l) l.length (fun s hs => gT_pt HBY.out hs) ht s2 HS.out
            rcases hQ : fL [] (gT l) ht s2 with ⟨s3, t1⟩
            rw [hQ] at HFj hpt
            have HQT := hide hQ
            have HS := hide hpt
            simp only at HFj HS
            clear hQ hpt HT HLH
            obtain ⟨waT, rfl⟩ : ∃ x : World, x = wr := ⟨_, rfl⟩
            have HF0 := HFj
            clear HFj HF1
            have HLH : Hid (hr.length = 4) := hide (by rw [HHR.out]; rfl)
            go_upto_region 17 with (first | (go_at_call 130; refine (rows_any _ _).mono ?_; rintro e w7 ⟨rfl, hY⟩; unfold ptsR))
            have HF1 := hide (HF0.out.below hY)
            clear HF0 hY
            go_loopw [47] (fun i wr => ∃ (j : Nat) (r : List Value), j ≤ 4 ∧ i = .int .i64 (j : Int) ∧ r.length = j ∧ Hid (Fi p w.heap.size (w.heap.size + 1) w wr v (fL [] (gR l) (hr.take j) s3).1 n1 f1 t1 r (fL [] (gR l) (hr.take j) s3).2)) (fun i _ => 4 - (intOf i).toNat)
            case atStart => exact ⟨0, [], Nat.zero_le _, rfl, rfl, HF1⟩
            case round =>
              obtain ⟨j, r, hj, rfl, hrl, HFj⟩ := hrel
              by_cases hlt : j < 4
              · have hltI : (j : Int) < 4 := by omega
                have hix := idxR (w.heap.size + 1) j hlt
                have HH := hide (fun W => bhas_any (sbj k) (8192 * 2 ^ j % 4294967296) W)
                rw [bitR HK.out j hlt, ← HHR.out] at HH
                have HE := hide (fL_take [] (gR l) hr s3 j (by rw [HLH.out]; exact hlt))
                have hlen : (fL [] (gR l) (hr.take j) s3).2.length = j := by rw [fL_len, List.length_take, HLH.out]; omega
                have hpt : (fL [] (gR l) (hr.take j) s3).1.pt ≤ l.length := fL_pt [] (gR l) l.length (fun s hs => gR_pt HBY.out hs) (hr.take j) s3 HS.out
                generalize hr.getD j false = hb at *
                generalize fL [] (gR l) (hr.take j) s3 = Q at *
                obtain ⟨sq, nq'⟩ := Q
                simp only at HFj HE hlen hpt
                have HVj := hide (HV.out.bx HFj.out.bx)
                cases hb with
                | true =>
                  have HC := hide (rrow_gs p v l sq wr HFj.out.rd HVj.out hl HBY.out hpt)
                  have HE2 := HE.out
                  simp only [↓reduceIte] at HE2
                  have HE3 := hide HE2
                  clear HE2 HE
                  generalize gR l sq = Q2 at *
                  obtain ⟨sq2, xq⟩ := Q2
                  simp only at HC HE3
                  go_wp2_with (first | (go_at_call 128; refine (HH.out _).mono ?_; rintro e w1 ⟨rfl, hw1⟩; rw [hw1]; clear hw1 w1) | (go_at_call 163; refine HC.out.mono ?_; rintro e w5 ⟨u5, rfl, hsl5, hr5, hb5⟩; obtain ⟨ao5, cap5, rfl⟩ := hsl5.sl.form; have HF5 := hide (HFj.out.step hr5 hb5); have HU5 := hide hsl5; clear hr5 hb5 hsl5; have c5 := HF5.out.cr j hlt; have f5 := HF5.out.fz (j + 14)))
                  have HF6 := hide (HF5.out.setR (x := xq) hrl hlen hlt (HU5.out.imp (fun b _ q => by have := HFj.out.sz; omega) (fun _ _ _ _ => rfl)))
                  go_roundw
                  case rel => exact ⟨j + 1, r ++ [.slice ao5 xq.length cap5], by omega, by go_num, by rw [List.length_append, hrl]; rfl, hide (by rw [HE3.out]; exact HF6.out)⟩
                  case measure => simp [intOf]; omega
                | false =>
                  have HE2 := HE.out
                  simp only [Bool.false_eq_true, ↓reduceIte] at HE2
                  have HE3 := hide HE2
                  clear HE2 HE
                  go_wp2_with (first | (go_at_call 128; refine (HH.out _).mono ?_; rintro e w1 ⟨rfl, hw1⟩; rw [hw1]; clear hw1 w1))
                  go_roundw
                  case rel => exact ⟨j + 1, r ++ [.slice none 0 0], by omega, by go_num, by rw [List.length_append, hrl]; rfl, hide (by rw [HE3.out]; exact HFj.out.padR)⟩
                  case measure => simp [intOf]; omega
              · obtain rfl : j = 4 := by omega
                clear hlt hj
                have HT : Hid (hr.take 4 = hr) := hide (List.take_of_length_le (by rw [HLH.out]; omega))
                rw [HT.out] at HFj
                have hpt : (fL [] (gR l) hr s3).1.pt ≤ l.length := fL_pt [] (gR l) l.length (fun s hs => gR_pt HBY.out hs) hr s3 HS.out
                have hlenR : (fL [] (gR l) hr s3).2.length = 4 := by rw [fL_len, HLH.out]
                rcases hQ : fL [] (gR l) hr s3 with ⟨s4, rs1⟩
                rw [hQ] at HFj hpt hlenR
                have HQR := hide hQ
                have HS := hide hpt
                simp only at HFj HS
                clear hQ hpt HT HLH
                obtain ⟨waR, rfl⟩ : ∃ x : World, x = wr := ⟨_, rfl⟩
                have HF0 := HFj
                clear HFj HF1
                obtain ⟨b14, d14, e14⟩ := (HF0.out.rw 0 (by decide)).sl.form
                obtain ⟨b15, d15, e15⟩ := (HF0.out.rw 1 (by decide)).sl.form
                obtain ⟨b16, d16, e16⟩ := (HF0.out.rw 2 (by decide)).sl.form
                obtain ⟨b17, d17, e17⟩ := (HF0.out.rw 3 (by decide)).sl.form
                have hrg := HF0.out.range
                have hw14 := HF0.out.rw 0 (by decide)
                have hw15 := HF0.out.rw 1 (by decide)
                have hw16 := HF0.out.rw 2 (by decide)
                have hw17 := HF0.out.rw 3 (by decide)
                rw [e14, e15, e16, e17] at hrg
                rw [e14] at hw14
                rw [e15] at hw15
                rw [e16] at hw16
                rw [e17] at hw17
                have HRG := hide hrg
                have HTH := hide HF0.out.th
                have hRX : w.heap.size + 1 ≠ w.heap.size := by omega
                have HIS : Hid (IsR (fun b => w.heap.size ≤ b) (waR.setCells w.heap.size 0 (cellsR (mkR 0 n1 f1 t1 rs1) b14 b15 b16 b17 d14 d15 d16 d17)) (.agg (cellsR (mkR 0 n1 f1 t1 rs1) b14 b15 b16 b17 d14 d15 d16 d17).toArray) (mkR 0 n1 f1 t1 rs1)) := hide ⟨b14, b15, b16, b17, d14, d15, d16, d17, rfl, hw14.imp (fun _ _ q => by omega) (fun b i _ q => cell_many (by omega) _ _), hw15.imp (fun _ _ q => by omega) (fun b i _ q => cell_many (by omega) _ _), hw16.imp (fun _ _ q => by omega) (fun b i _ q => cell_many (by omega) _ _), hw17.imp (fun _ _ q => by omega) (fun b i _ q => cell_many (by omega) _ _)⟩
                have HRD : Hid (RdG (waR.setCells w.heap.size 0 (cellsR (mkR 0 n1 f1 t1 rs1) b14 b15 b16 b17 d14 d15 d16 d17)) p v s4) := hide (rdG_many (by have := HF0.out.hp; omega) _ _ HF0.out.rd)
                have HBX : Hid (Bx p w (waR.setCells w.heap.size 0 (cellsR (mkR 0 n1 f1 t1 rs1) b14 b15 b16 b17 d14 d15 d16 d17))) := hide (Bx.many (Nat.le_refl _) _ _ HF0.out.bx)
                have HRR : Hid ((waR.setCells w.heap.size 0 (cellsR (mkR 0 n1 f1 t1 rs1) b14 b15 b16 b17 d14 d15 d16 d17)).rangeAt w.heap.size 0 (cellsR (mkR 0 n1 f1 t1 rs1) b14 b15 b16 b17 d14 d15 d16 d17)) := hide (World.rangeAt_setCells_same _ _ _ _ HF0.out.th)
                clear hrg hw14 hw15 hw16 hw17 e14 e15 e16 e17 HF0
                go_wp2_with (first | (refine wpList_load_mid rfl _ _ rfl _ _ rfl _ _ HRG.out Tryz.underlying55 rfl (by kernel_rfl) ?_) | (refine wpList_store_mid rfl _ _ _ rfl w.heap.size 0 (cellsR (mkR 0 n1 f1 t1 rs1) b14 b15 b16 b17 d14 d15 d16 d17).toArray rfl rfl HTH.out (by kernel_rfl) (cellsR_one _ _ _ _ _ _ _ _ _) ?_))
                exact bodyPost_ret (v := .agg (cellsR (mkR 0 n1 f1 t1 rs1) b14 b15 b16 b17 d14 d15 d16 d17).toArray) (results_mid Tryz.results145 _ _ w.heap.size _ _ rfl HRR.out Tryz.underlying55 rfl (by kernel_rfl)) rfl ⟨_, rfl, n1, f1, t1, rs1, s1, HQ8, s2, HQF, s3, HQT, s4, HQR, HIS.out, HRD.out, HBX.out⟩
      | false =>
        have HQF : Hid (fL false (gF l) hf s1 = (s1, [false])) := hide (by rw [HHF.out]; rfl)
        go_upto_region 10 with (first | (go_at_call 128; refine (HFB.out _).mono ?_; rintro e w1 ⟨rfl, hw1⟩; rw [hw1]; clear hw1 w1))
        have HF6 := hide HF0.out.padF
        clear HF0
        have HF0 := HF6
        clear HF6
        obtain ⟨f1, hf1⟩ : ∃ x, x = [false] := ⟨_, rfl⟩
        rw [← hf1] at HF0 HQF
        clear hf1
        obtain ⟨s2, hs2⟩ : ∃ x, x = s1 := ⟨_, rfl⟩
        rw [← hs2] at HF0 HS
        rw [show fL false (gF l) hf s1 = (s1, f1) ↔ fL false (gF l) hf s1 = (s2, f1) by rw [hs2]] at HQF
        clear hs2
        have HLH : Hid (ht.length = 4) := hide (by rw [HHT.out]; rfl)
        go_upto_region 11 with (first | (go_at_call 129; refine (texts_any _ _).mono ?_; rintro e w6 ⟨rfl, hY⟩; unfold ptsT))
        have HF1 := hide (HF0.out.below hY)
        clear HF0 hY
        go_loopw [32] (fun i wr => ∃ (j : Nat), j ≤ 4 ∧ i = .int .i64 (j : Int) ∧ Hid (Fi p w.heap.size (w.heap.size + 1) w wr v (fL [] (gT l) (ht.take j) s2).1 n1 f1 (fL [] (gT l) (ht.take j) s2).2 [] [])) (fun i _ => 4 - (intOf i).toNat)
        case atStart => exact ⟨0, Nat.zero_le _, rfl, HF1⟩
        case round =>
          obtain ⟨j, hj, rfl, HFj⟩ := hrel
          by_cases hlt : j < 4
          · have hltI : (j : Int) < 4 := by omega
            have hix := idxT (w.heap.size + 1) j hlt
            have HH := hide (fun W => bhas_any (sbj k) (512 * 2 ^ j % 4294967296) W)
            rw [bitT HK.out j hlt, ← HHT.out] at HH
            have HE := hide (fL_take [] (gT l) ht s2 j (by rw [HLH.out]; exact hlt))
            have hlen : (fL [] (gT l) (ht.take j) s2).2.length = j := by rw [fL_len, List.length_take, HLH.out]; omega
            have hpt : (fL [] (gT l) (ht.take j) s2).1.pt ≤ l.length := fL_pt [] (gT l) l.length (fun s hs => gT_pt HBY.out hs) (ht.take j) s2 HS.out
            generalize ht.getD j false = hb at *
            generalize fL [] (gT l) (ht.take j) s2 = Q at *
            obtain ⟨sq, nq'⟩ := Q
            simp only at HFj HE hlen hpt
            have HVj := hide (HV.out.bx HFj.out.bx)
            cases hb with
            | true =>
              have HC := hide (rtext_gs p v l sq wr HFj.out.rd HVj.out hl HBY.out hpt)
              have HE2 := HE.out
              simp only [↓reduceIte] at HE2
              have HE3 := hide HE2
              clear HE2 HE
              generalize gT l sq = Q2 at *
              obtain ⟨sq2, xq⟩ := Q2
              simp only at HC HE3
              go_wp2_with (first | (go_at_call 128; refine (HH.out _).mono ?_; rintro e w1 ⟨rfl, hw1⟩; rw [hw1]; clear hw1 w1) | (go_at_call 76; refine HC.out.mono ?_; rintro e w5 ⟨u5, rfl, hcv, hr5, hb5⟩; have HF5 := hide (HFj.out.step hr5 hb5); clear hr5 hb5; have c5 := HF5.out.ct j hlt; have f5 := HF5.out.fz (j + 10)))
              have HF6 := hide (HF5.out.setT (x := xq) hlen hlt)
              go_roundw
              case rel => exact ⟨j + 1, by omega, by go_num, hide (by rw [HE3.out]; exact HF6.out)⟩
              case measure => simp [intOf]; omega
            | false =>
              have HE2 := HE.out
              simp only [Bool.false_eq_true, ↓reduceIte] at HE2
              have HE3 := hide HE2
              clear HE2 HE
              go_wp2_with (first | (go_at_call 128; refine (HH.out _).mono ?_; rintro e w1 ⟨rfl, hw1⟩; rw [hw1]; clear hw1 w1))
              go_roundw
              case rel => exact ⟨j + 1, by omega, by go_num, hide (by rw [HE3.out]; exact HFj.out.padT)⟩
              case measure => simp [intOf]; omega
          · obtain rfl : j = 4 := by omega
            clear hlt hj
            have HT : Hid (ht.take 4 = ht) := hide (List.take_of_length_le (by rw [HLH.out]; omega))
            rw [HT.out] at HFj
            have hpt : (fL [] (gT l) ht s2).1.pt ≤ l.length := fL_pt [] (gT l) l.length (fun s hs => gT_pt HBY.out hs) ht s2 HS.out
            rcases hQ : fL [] (gT l) ht s2 with ⟨s3, t1⟩
            rw [hQ] at HFj hpt
            have HQT := hide hQ
            have HS := hide hpt
            simp only at HFj HS
            clear hQ hpt HT HLH
            obtain ⟨waT, rfl⟩ : ∃ x : World, x = wr := ⟨_, rfl⟩
            have HF0 := HFj
            clear HFj HF1
            have HLH : Hid (hr.length = 4) := hide (by rw [HHR.out]; rfl)
            go_upto_region 17 with (first | (go_at_call 130; refine (rows_any _ _).mono ?_; rintro e w7 ⟨rfl, hY⟩; unfold ptsR))
            have HF1 := hide (HF0.out.below hY)
            clear HF0 hY
            go_loopw [47] (fun i wr => ∃ (j : Nat) (r : List Value), j ≤ 4 ∧ i = .int .i64 (j : Int) ∧ r.length = j ∧ Hid (Fi p w.heap.size (w.heap.size + 1) w wr v (fL [] (gR l) (hr.take j) s3).1 n1 f1 t1 r (fL [] (gR l) (hr.take j) s3).2)) (fun i _ => 4 - (intOf i).toNat)
            case atStart => exact ⟨0, [], Nat.zero_le _, rfl, rfl, HF1⟩
            case round =>
              obtain ⟨j, r, hj, rfl, hrl, HFj⟩ := hrel
              by_cases hlt : j < 4
              · have hltI : (j : Int) < 4 := by omega
                have hix := idxR (w.heap.size + 1) j hlt
                have HH := hide (fun W => bhas_any (sbj k) (8192 * 2 ^ j % 4294967296) W)
                rw [bitR HK.out j hlt, ← HHR.out] at HH
                have HE := hide (fL_take [] (gR l) hr s3 j (by rw [HLH.out]; exact hlt))
                have hlen : (fL [] (gR l) (hr.take j) s3).2.length = j := by rw [fL_len, List.length_take, HLH.out]; omega
                have hpt : (fL [] (gR l) (hr.take j) s3).1.pt ≤ l.length := fL_pt [] (gR l) l.length (fun s hs => gR_pt HBY.out hs) (hr.take j) s3 HS.out
                generalize hr.getD j false = hb at *
                generalize fL [] (gR l) (hr.take j) s3 = Q at *
                obtain ⟨sq, nq'⟩ := Q
                simp only at HFj HE hlen hpt
                have HVj := hide (HV.out.bx HFj.out.bx)
                cases hb with
                | true =>
                  have HC := hide (rrow_gs p v l sq wr HFj.out.rd HVj.out hl HBY.out hpt)
                  have HE2 := HE.out
                  simp only [↓reduceIte] at HE2
                  have HE3 := hide HE2
                  clear HE2 HE
                  generalize gR l sq = Q2 at *
                  obtain ⟨sq2, xq⟩ := Q2
                  simp only at HC HE3
                  go_wp2_with (first | (go_at_call 128; refine (HH.out _).mono ?_; rintro e w1 ⟨rfl, hw1⟩; rw [hw1]; clear hw1 w1) | (go_at_call 163; refine HC.out.mono ?_; rintro e w5 ⟨u5, rfl, hsl5, hr5, hb5⟩; obtain ⟨ao5, cap5, rfl⟩ := hsl5.sl.form; have HF5 := hide (HFj.out.step hr5 hb5); have HU5 := hide hsl5; clear hr5 hb5 hsl5; have c5 := HF5.out.cr j hlt; have f5 := HF5.out.fz (j + 14)))
                  have HF6 := hide (HF5.out.setR (x := xq) hrl hlen hlt (HU5.out.imp (fun b _ q => by have := HFj.out.sz; omega) (fun _ _ _ _ => rfl)))
                  go_roundw
                  case rel => exact ⟨j + 1, r ++ [.slice ao5 xq.length cap5], by omega, by go_num, by rw [List.length_append, hrl]; rfl, hide (by rw [HE3.out]; exact HF6.out)⟩
                  case measure => simp [intOf]; omega
                | false =>
                  have HE2 := HE.out
                  simp only [Bool.false_eq_true, ↓reduceIte] at HE2
                  have HE3 := hide HE2
                  clear HE2 HE
                  go_wp2_with (first | (go_at_call 128; refine (HH.out _).mono ?_; rintro e w1 ⟨rfl, hw1⟩; rw [hw1]; clear hw1 w1))
                  go_roundw
                  case rel => exact ⟨j + 1, r ++ [.slice none 0 0], by omega, by go_num, by rw [List.length_append, hrl]; rfl, hide (by rw [HE3.out]; exact HFj.out.padR)⟩
                  case measure => simp [intOf]; omega
              · obtain rfl : j = 4 := by omega
                clear hlt hj
                have HT : Hid (hr.take 4 = hr) := hide (List.take_of_length_le (by rw [HLH.out]; omega))
                rw [HT.out] at HFj
                have hpt : (fL [] (gR l) hr s3).1.pt ≤ l.length := fL_pt [] (gR l) l.length (fun s hs => gR_pt HBY.out hs) hr s3 HS.out
                have hlenR : (fL [] (gR l) hr s3).2.length = 4 := by rw [fL_len, HLH.out]
                rcases hQ : fL [] (gR l) hr s3 with ⟨s4, rs1⟩
                rw [hQ] at HFj hpt hlenR
                have HQR := hide hQ
                have HS := hide hpt
                simp only at HFj HS
                clear hQ hpt HT HLH
                obtain ⟨waR, rfl⟩ : ∃ x : World, x = wr := ⟨_, rfl⟩
                have HF0 := HFj
                clear HFj HF1
                obtain ⟨b14, d14, e14⟩ := (HF0.out.rw 0 (by decide)).sl.form
                obtain ⟨b15, d15, e15⟩ := (HF0.out.rw 1 (by decide)).sl.form
                obtain ⟨b16, d16, e16⟩ := (HF0.out.rw 2 (by decide)).sl.form
                obtain ⟨b17, d17, e17⟩ := (HF0.out.rw 3 (by decide)).sl.form
                have hrg := HF0.out.range
                have hw14 := HF0.out.rw 0 (by decide)
                have hw15 := HF0.out.rw 1 (by decide)
                have hw16 := HF0.out.rw 2 (by decide)
                have hw17 := HF0.out.rw 3 (by decide)
                rw [e14, e15, e16, e17] at hrg
                rw [e14] at hw14
                rw [e15] at hw15
                rw [e16] at hw16
                rw [e17] at hw17
                have HRG := hide hrg
                have HTH := hide HF0.out.th
                have hRX : w.heap.size + 1 ≠ w.heap.size := by omega
                have HIS : Hid (IsR (fun b => w.heap.size ≤ b) (waR.setCells w.heap.size 0 (cellsR (mkR 0 n1 f1 t1 rs1) b14 b15 b16 b17 d14 d15 d16 d17)) (.agg (cellsR (mkR 0 n1 f1 t1 rs1) b14 b15 b16 b17 d14 d15 d16 d17).toArray) (mkR 0 n1 f1 t1 rs1)) := hide ⟨b14, b15, b16, b17, d14, d15, d16, d17, rfl, hw14.imp (fun _ _ q => by omega) (fun b i _ q => cell_many (by omega) _ _), hw15.imp (fun _ _ q => by omega) (fun b i _ q => cell_many (by omega) _ _), hw16.imp (fun _ _ q => by omega) (fun b i _ q => cell_many (by omega) _ _), hw17.imp (fun _ _ q => by omega) (fun b i _ q => cell_many (by omega) _ _)⟩
                have HRD : Hid (RdG (waR.setCells w.heap.size 0 (cellsR (mkR 0 n1 f1 t1 rs1) b14 b15 b16 b17 d14 d15 d16 d17)) p v s4) := hide (rdG_many (by have := HF0.out.hp; omega) _ _ HF0.out.rd)
                have HBX : Hid (Bx p w (waR.setCells w.heap.size 0 (cellsR (mkR 0 n1 f1 t1 rs1) b14 b15 b16 b17 d14 d15 d16 d17))) := hide (Bx.many (Nat.le_refl _) _ _ HF0.out.bx)
                have HRR : Hid ((waR.setCells w.heap.size 0 (cellsR (mkR 0 n1 f1 t1 rs1) b14 b15 b16 b17 d14 d15 d16 d17)).rangeAt w.heap.size 0 (cellsR (mkR 0 n1 f1 t1 rs1) b14 b15 b16 b17 d14 d15 d16 d17)) := hide (World.rangeAt_setCells_same _ _ _ _ HF0.out.th)
                clear hrg hw14 hw15 hw16 hw17 e14 e15 e16 e17 HF0
                go_wp2_with (first | (refine wpList_load_mid rfl _ _ rfl _ _ rfl _ _ HRG.out Tryz.underlying55 rfl (by kernel_rfl) ?_) | (refine wpList_store_mid rfl _ _ _ rfl w.heap.size 0 (cellsR (mkR 0 n1 f1 t1 rs1) b14 b15 b16 b17 d14 d15 d16 d17).toArray rfl rfl HTH.out (by kernel_rfl) (cellsR_one _ _ _ _ _ _ _ _ _) ?_))
                exact bodyPost_ret (v := .agg (cellsR (mkR 0 n1 f1 t1 rs1) b14 b15 b16 b17 d14 d15 d16 d17).toArray) (results_mid Tryz.results145 _ _ w.heap.size _ _ rfl HRR.out Tryz.underlying55 rfl (by kernel_rfl)) rfl ⟨_, rfl, n1, f1, t1, rs1, s1, HQ8, s2, HQF, s3, HQT, s4, HQR, HIS.out, HRD.out, HBX.out⟩
/-- What is read of a record behind its kind, by the program. -/
theorem fields_any (p : Nat) (v : Value) (l : List Int) (s : Gs) (k : Int) (w : World) (hrd : RdG w p v s) (hv : Slx p bc w v l) (hl : l.length ≤ 100000) (hby : Byt l) (hs : s.pt ≤ l.length) (hk : 1 ≤ k ∧ k ≤ 12) :
    Calls Tryz.prog 145 #[.pointer (some ⟨p, 0, none⟩), .int .u32 (sbj k)] w fun e w' => ∃ vx, e = .returned vx ∧ IsR (fun b => w.heap.size ≤ b) w' vx (bodyG l k s).2.k0 ∧ RdG w' p v (bodyG l k s).1 ∧ Bx p w w' := by
  refine (fields_go p v l s k w (hN k) (hF k) (hT k) (hR k) hrd hv hl hby hs hk (hide rfl) (hide rfl) (hide rfl) (hide rfl)).mono ?_
  rintro e w' ⟨vx, n, f, t, r, s1, s2, s3, s4, rfl, h1, h2, h3, h4, h5, h6, h7⟩
  have hb : bodyG l k s = (s4, mkR k n f t r) := by
    unfold bodyG
    simp only
    rw [h1.out]
    simp only
    rw [h2.out]
    simp only
    rw [h3.out]
    simp only
    rw [h4.out]
  rw [hb]
  exact ⟨vx, rfl, h5, h6, h7⟩
end Go.Proofs.YtoioddnlkbjljaaGreatDoor
