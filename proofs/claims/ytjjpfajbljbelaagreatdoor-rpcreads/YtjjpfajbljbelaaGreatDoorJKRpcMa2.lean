/-
  MESSAGES AS BYTES (layer rpc), the mathematics of what lies behind their kind: bytes of messages, what is read of them, there and back.
  RECORDS IN A ROW, EIGHTEEN CELLS EACH, AND BATCHES: their cells; what stays where other memory is written. No condition.
-/
import Derived.Test.YtjjpfajbljbelaaGreatDoorJKRecWkaa5
namespace Go.Proofs.YtjjpfajbljbelaaGreatDoor
def lettersM (k : Int) : List UInt8 :=
 if k = 1 then [97, 112] else if k = 2 then [97, 103, 108] else if k = 3 then [112] else if k = 4 then [108, 112, 104, 99, 98] else if k = 5 then [108] else if k = 6 then [108] else if k = 7 then [112, 111] else if k = 8 then [108, 112, 99, 115, 111, 100] else []
def hasM (k : Int) (c : Int) : Bool := (lettersM k).any fun y => decide ((y.toNat : Int) = c)
def gD (l : List Int) (s : Gs) : Gs × List Int :=
 if s.c = 0 then (mkS (textS l s.pt 512).1 (textS l s.pt 512).2.1 (textS l s.pt 512).2.2.1 s.pt, (textS l s.pt 512).2.2.2) else (s, [])
def enD (D : List Int) : List Int := intL D.length ++ D
theorem textD_can {l : List Int} {a : Nat} (h : (textS l a 512).1 = 0) : ∃ k N, numS (l.drop a) 512 = (0, k, N) ∧ ¬ ((l.length - (a + k) : Nat) : Int) < N ∧ textS l a 512 = (0, ⟨#[110, 117, 109]⟩, a + k + N.toNat, (l.drop (a + k)).take N.toNat) := by
 unfold textS at h ⊢
 rw [show abv' 512 = 512 from rfl] at h ⊢
 rcases hq : numS (l.drop a) 512 with ⟨c, k, N⟩
 rw [hq] at h
 simp only at h ⊢
 by_cases hc : c = 0
 ·subst hc
  simp only [if_true] at h ⊢
  by_cases hs : ((l.length - (a + k) : Nat) : Int) < N
  ·rw [if_pos hs] at h; simp at h
  ·exact ⟨k, N, rfl, hs, by rw [if_neg hs]⟩
 ·rw [if_neg hc] at h; exact absurd h hc
theorem fldD : Fld ([] : List Int) gD enD (fun D => D.length ≤ 512 ∧ Byt D) where
 stay l s h := if_neg h
 can l a h := by
  simp only [gD, okS, if_true] at h ⊢
  exact (mkS_can h).1
 back P S Q h := by
  simp only [gD, okS, if_true]
  unfold enD
  rw [textS_back P S Q (by omega) (by omega)]
  simp only [mkS_zero, okS, List.length_append]
 once l a b x hb ha h := by
  simp only [gD, okS, if_true] at h
  obtain ⟨h1, h2⟩ := Prod.mk.inj h
  have hc : (mkS (textS l a 512).1 (textS l a 512).2.1 (textS l a 512).2.2.1 a).c = 0 := by rw [h1]
  obtain ⟨k, N, hq, hs, ht⟩ := textD_can (mkS_can hc).2
  rw [ht] at h1 h2
  simp only [mkS_zero] at h1 h2
  have hbd : Byt (l.drop a) := fun x hx => hb x (List.mem_of_mem_drop hx)
  obtain ⟨e1, e2, e3, e4, e5, e6⟩ := numS_once hbd hq
  rw [List.length_drop] at e6
  obtain rfl : a + k + N.toNat = b := okS_inj h1
  have hby2 : Byt ((l.drop (a + k)).take N.toNat) := fun x hx => hb x (List.mem_of_mem_drop (List.mem_of_mem_take hx))
  have hlen : x.length = N.toNat := by rw [← h2, List.length_take, List.length_drop]; omega
  refine ⟨⟨by rw [hlen]; omega, by rw [← h2]; exact hby2⟩, by omega, by omega, ?_⟩
  unfold enD
  rw [hlen, show ((N.toNat : Nat) : Int) = N by omega, intL_num e3 e4, ← h2, List.append_assoc, drop_once e1]
  congr 1
  exact drop_once rfl
 cut l a n b x h ha := by
  simp only [gD, okS, if_true] at h ⊢
  obtain ⟨h1, h2⟩ := Prod.mk.inj h
  have hc : (mkS (textS l a 512).1 (textS l a 512).2.1 (textS l a 512).2.2.1 a).c = 0 := by rw [h1]
  obtain ⟨k, N, hq, hs, ht⟩ := textD_can (mkS_can hc).2
  rw [ht] at h1 h2
  simp only [mkS_zero] at h1 h2
  obtain rfl : a + k + N.toNat = b := okS_inj h1
  have hq2 := numS_cut hq n ha
  unfold textS
  rw [show abv' 512 = 512 from rfl, hq2]
  by_cases hk : a + k ≤ n
  ·rw [if_pos hk]
   simp only [if_true]
   by_cases hn : a + k + N.toNat ≤ n
   ·rw [if_neg (by rw [List.length_take]; omega)]
    refine .inl ⟨hn, ?_⟩
    simp only [mkS_zero]
    rw [List.drop_take, List.take_take, show min N.toNat (n - (a + k)) = N.toNat by omega, h2]
    rfl
   ·rw [if_pos (by rw [List.length_take]; omega)]
    exact .inr ⟨by omega, mkS_c _ _ _ _⟩
  ·rw [if_neg hk]
   exact .inr ⟨by omega, mkS_c _ _ _ _⟩
structure Ms where
 k : Int
 fr : Int
 tn : Int
 t : Int
 pre : Bool
 ok : Bool
 ld : Int
 pa : Int
 pt : Int
 hi : Int
 co : Int
 sz : Int
 po : Int
 da : List Int
 bs : List Bt
def Ms.zero : Ms := ⟨0, 0, 0, 0, false, false, 0, 0, 0, 0, 0, 0, 0, [], []⟩
def Ms.n3 (m : Ms) : List Int := [m.fr, m.tn, m.t]
def Ms.n7 (m : Ms) : List Int := [m.ld, m.pa, m.pt, m.hi, m.co, m.sz, m.po]
def mkM (k : Int) (a : List Int) (f : List Bool) (n : List Int) (d : List (List Int)) (b : List Bt) : Ms :=
 ⟨k, a.getD 0 0, a.getD 1 0, a.getD 2 0, f.getD 0 false, f.getD 1 false, n.getD 0 0, n.getD 1 0, n.getD 2 0, n.getD 3 0, n.getD 4 0, n.getD 5 0, n.getD 6 0, d.getD 0 [], b⟩
def h3 : List Bool := [true, true, true]
def hF2 (k : Int) : List Bool := [hasM k 97, hasM k 103]
def hN7 (k : Int) : List Bool := [hasM k 108, hasM k 112, hasM k 112, hasM k 104, hasM k 99, hasM k 115, hasM k 111]
def batsL (bs : List Bt) : List Int := bs.flatMap bytL
theorem batsL_app (a b : List Bt) : batsL (a ++ b) = batsL a ++ batsL b := by unfold batsL; exact List.flatMap_append
theorem batsL_cons (x : Bt) (bs : List Bt) : batsL (x :: bs) = bytL x ++ batsL bs := by simp [batsL]
theorem batsL_snoc (bs : List Bt) (j : Nat) (h : j < bs.length) : batsL (bs.take (j + 1)) = batsL (bs.take j) ++ bytL bs[j] := by
 rw [List.take_succ_eq_append_getElem h, batsL_app, batsL_cons]
 simp only [show batsL [] = [] from rfl, List.append_nil]
theorem next_stay {l : List Int} {s : Gs} (h : s.c ≠ 0) : nextG l s = (s, Bt.zero) := by
 have hr : ∀ op c, refS op c s = s := fun op c => if_neg h
 have hs : ∀ m, gN m l s = (s, 0) := fun m => if_neg h
 unfold nextG
 simp only
 rw [hs]
 simp only
 rw [hs]
 simp only
 rw [hs]
 simp only [true_or, if_true, hr]
 rw [recs_stay h]
 simp only [hr, ite_self]
 rw [if_neg h]
def batsG (l : List Int) : Nat → Gs → Gs × List Bt
 | 0, s => (s, [])
 | n + 1, s => let q := batsG l n s; let r := nextG l q.1; (r.1, q.2 ++ [r.2])
theorem batsG_succ (l : List Int) (n : Nat) (s : Gs) : batsG l (n + 1) s = ((nextG l (batsG l n s).1).1, (batsG l n s).2 ++ [(nextG l (batsG l n s).1).2]) := rfl
theorem bats_len (l : List Int) (s : Gs) : ∀ n, (batsG l n s).2.length = n
 | 0 => rfl
 | n + 1 => by rw [batsG_succ]; simp [bats_len l s n]
theorem bats_stay {l : List Int} {s : Gs} (h : s.c ≠ 0) : ∀ n, (batsG l n s).1 = s
 | 0 => rfl
 | n + 1 => by rw [batsG_succ, bats_stay h n]; simp only [next_stay h]
theorem bats_stop {l : List Int} {s : Gs} {j : Nat} (h : (batsG l j s).1.c ≠ 0) : ∀ n, (batsG l (j + n) s).1 = (batsG l j s).1
 | 0 => rfl
 | n + 1 => by
  rw [← Nat.add_assoc, batsG_succ, bats_stop h n]
  simp only [next_stay h]
theorem bats_pt {l : List Int} {s : Gs} (hb : Byt l) (hs : s.pt ≤ l.length) : ∀ n, (batsG l n s).1.pt ≤ l.length
 | 0 => hs
 | n + 1 => next_pt hb (bats_pt hb hs n)
theorem bats_back : ∀ (bs : List Bt) (P Q : List Int), (∀ x ∈ bs, (bw x).c = 0 ∧ (bytL x).length ≤ 16384) → ∀ j, j ≤ bs.length → batsG (P ++ (batsL bs ++ Q)) j (okS P.length) = (okS (P.length + (batsL (bs.take j)).length), bs.take j) := by
 intro bs P Q h j
 induction j with
 | zero => intro _; simp [batsG, batsL]
 | succ j ih =>
  intro hj
  have hlt : j < bs.length := by omega
  rw [batsG_succ, ih (by omega)]
  simp only
  have hs : batsL bs = batsL (bs.take j) ++ (bytL bs[j] ++ batsL (bs.drop (j + 1))) := by
   have : bs = bs.take j ++ (bs[j] :: bs.drop (j + 1)) := by rw [← List.drop_eq_getElem_cons hlt, List.take_append_drop]
   rw [← batsL_cons]
   conv => lhs; rw [this]
   rw [batsL_app]
  have hl : P ++ (batsL bs ++ Q) = (P ++ batsL (bs.take j)) ++ (bytL bs[j] ++ (batsL (bs.drop (j + 1)) ++ Q)) := by rw [hs]; simp only [List.append_assoc]
  obtain ⟨g1, g2⟩ := h _ (List.getElem_mem hlt)
  have hb := next_back bs[j] g1 g2 (P ++ batsL (bs.take j)) (batsL (bs.drop (j + 1)) ++ Q)
  rw [List.length_append] at hb
  rw [hl, hb, batsL_snoc bs j hlt, List.length_append, List.take_succ_eq_append_getElem hlt, Nat.add_assoc]
theorem bats_once (l : List Int) (hb : Byt l) (a : Nat) (ha : a ≤ l.length) : ∀ n, (batsG l n (okS a)).1.c = 0 → (∀ x ∈ (batsG l n (okS a)).2, (bw x).c = 0 ∧ (bytL x).length ≤ 16384) ∧ ∃ b, (batsG l n (okS a)).1 = okS b ∧ a ≤ b ∧ b ≤ l.length ∧ l.drop a = batsL (batsG l n (okS a)).2 ++ l.drop b
 | 0, _ => ⟨fun r hr => by simp [batsG] at hr, a, rfl, Nat.le_refl _, ha, by simp [batsG, batsL]⟩
 | n + 1, h => by
  have h0 : (batsG l n (okS a)).1.c = 0 := by
   by_cases q : (batsG l n (okS a)).1.c = 0
   ·exact q
   ·have := bats_stop q 1
    rw [this] at h
    exact h
  obtain ⟨i1, b, i2, i3, i4, i5⟩ := bats_once l hb a ha n h0
  rw [batsG_succ] at h ⊢
  simp only at h ⊢
  rw [i2] at h ⊢
  obtain ⟨c1, b', c2, c3, c4, c6, c5⟩ := next_once l hb b i4 h
  have hlen : (bytL (nextG l (okS b)).2).length ≤ 16384 := by
   have := congrArg List.length c5
   rw [List.length_append, List.length_drop, List.length_drop] at this
   omega
  refine ⟨fun r hr => ?_, b', by rw [c2], by omega, c4, ?_⟩
  ·rcases List.mem_append.1 hr with q | q
   ·exact i1 r q
   ·simp at q; subst q; exact ⟨c1, hlen⟩
  ·rw [i5, c5, batsL_app, batsL_cons]
   simp only [show batsL [] = [] from rfl, List.append_nil, List.append_assoc]
def tailM (m : Ms) : List Int := encs intL h3 m.n3 ++ (encs (fun f => [flB f]) (hF2 m.k) [m.pre, m.ok] ++ (encs intL (hN7 m.k) m.n7 ++ (encs enD [hasM m.k 100] [m.da] ++ (encs intL [hasM m.k 98] [(m.bs.length : Int)] ++ batsL m.bs))))
def bodyM (l : List Int) (k : Int) (s : Gs) : Gs × Ms :=
 let a := fL 0 (gN 1073741824 l) h3 s
 let f := fL false (gF l) (hF2 k) a.1
 let n := fL 0 (gN 1073741824 l) (hN7 k) f.1
 let d := fL [] (gD l) [hasM k 100] n.1
 let c := fL 0 (gN 8 l) [hasM k 98] d.1
 let b := batsG l (c.2.getD 0 0).toNat c.1
 (b.1, mkM k a.2 f.2 n.2 d.2 b.2)
structure MsOk (m : Ms) : Prop where
 n3 : Ok2 0 (fun x => 0 ≤ x ∧ x ≤ 1073741824) h3 m.n3
 fl : Ok2 false (fun _ => True) (hF2 m.k) [m.pre, m.ok]
 n7 : Ok2 0 (fun x => 0 ≤ x ∧ x ≤ 1073741824) (hN7 m.k) m.n7
 da : Ok2 [] (fun D => D.length ≤ 512 ∧ Byt D) [hasM m.k 100] [m.da]
 ct : Ok2 0 (fun x => 0 ≤ x ∧ x ≤ 8) [hasM m.k 98] [(m.bs.length : Int)]
 bs : ∀ x ∈ m.bs, (bw x).c = 0 ∧ (bytL x).length ≤ 16384
theorem F8 : Fld (0 : Int) (gN 8) intL (fun x => 0 ≤ x ∧ x ≤ 8) := fldN _ (by decide)
theorem bodyM_back (m : Ms) (h : MsOk m) (P Q : List Int) : bodyM (P ++ (tailM m ++ Q)) m.k (okS P.length) = (okS (P.length + (tailM m).length), m) := by
 obtain ⟨h1, h2, h3', h4, h5, h6⟩ := h
 unfold bodyM tailM
 simp only
 generalize hA : encs intL h3 m.n3 = A
 generalize hB : encs (fun f => [flB f]) (hF2 m.k) [m.pre, m.ok] = B
 generalize hC : encs intL (hN7 m.k) m.n7 = C
 generalize hD : encs enD [hasM m.k 100] [m.da] = D
 generalize hE : encs intL [hasM m.k 98] [(m.bs.length : Int)] = E
 have e1 := fL_back F30 h3 m.n3 P (B ++ (C ++ (D ++ (E ++ (batsL m.bs ++ Q))))) h1
 have e2 := fL_back fldF (hF2 m.k) [m.pre, m.ok] (P ++ A) (C ++ (D ++ (E ++ (batsL m.bs ++ Q)))) h2
 have e3 := fL_back F30 (hN7 m.k) m.n7 (P ++ (A ++ B)) (D ++ (E ++ (batsL m.bs ++ Q))) h3'
 have e4 := fL_back fldD [hasM m.k 100] [m.da] (P ++ (A ++ (B ++ C))) (E ++ (batsL m.bs ++ Q)) h4
 have e5 := fL_back F8 [hasM m.k 98] [(m.bs.length : Int)] (P ++ (A ++ (B ++ (C ++ D)))) (batsL m.bs ++ Q) h5
 have e6 := bats_back m.bs (P ++ (A ++ (B ++ (C ++ (D ++ E))))) Q h6 m.bs.length (Nat.le_refl _)
 rw [List.take_length] at e6
 rw [hA] at e1
 rw [hB] at e2
 rw [hC] at e3
 rw [hD] at e4
 rw [hE] at e5
 simp only [List.append_assoc, List.length_append, Nat.add_assoc] at e1 e2 e3 e4 e5 e6 ⊢
 rw [e1]
 simp only
 rw [e2]
 simp only
 rw [e3]
 simp only
 rw [e4]
 simp only
 rw [e5]
 simp only [List.getD_cons_zero, Int.toNat_natCast]
 rw [e6]
 rfl
theorem bodyM_run (l : List Int) (hb : Byt l) (k : Int) (a : Nat) (ha : a ≤ l.length) (h : (bodyM l k (okS a)).1.c = 0) : ∃ b, (bodyM l k (okS a)).1 = okS b ∧ (bodyM l k (okS a)).2.k = k ∧ a ≤ b ∧ b ≤ l.length ∧ l.drop a = tailM (bodyM l k (okS a)).2 ++ l.drop b ∧ MsOk (bodyM l k (okS a)).2 := by
 unfold bodyM at h ⊢
 simp only at h ⊢
 rcases hq1 : fL 0 (gN 1073741824 l) h3 (okS a) with ⟨s1, v1⟩
 rw [hq1] at h
 simp only at h ⊢
 rcases hq2 : fL false (gF l) (hF2 k) s1 with ⟨s2, v2⟩
 rw [hq2] at h
 simp only at h ⊢
 rcases hq3 : fL 0 (gN 1073741824 l) (hN7 k) s2 with ⟨s3, v3⟩
 rw [hq3] at h
 simp only at h ⊢
 rcases hq4 : fL [] (gD l) [hasM k 100] s3 with ⟨s4, v4⟩
 rw [hq4] at h
 simp only at h ⊢
 rcases hq5 : fL 0 (gN 8 l) [hasM k 98] s4 with ⟨s5, v5⟩
 rw [hq5] at h
 simp only at h ⊢
 have z5 : s5.c = 0 := by
  by_cases q : s5.c = 0
  ·exact q
  ·have := bats_stay (l := l) q (v5.getD 0 0).toNat
   rw [this] at h
   exact absurd h q
 have z4 : s4.c = 0 := by
  by_cases q : s4.c = 0
  ·exact q
  ·have := fL_stay F8 l [hasM k 98] s4 q
   rw [hq5] at this
   simp only at this
   rw [this] at z5
   exact absurd z5 q
 have z3 : s3.c = 0 := by
  by_cases q : s3.c = 0
  ·exact q
  ·have := fL_stay fldD l [hasM k 100] s3 q
   rw [hq4] at this
   simp only at this
   rw [this] at z4
   exact absurd z4 q
 have z2 : s2.c = 0 := by
  by_cases q : s2.c = 0
  ·exact q
  ·have := fL_stay F30 l (hN7 k) s2 q
   rw [hq3] at this
   simp only at this
   rw [this] at z3
   exact absurd z3 q
 have z1 : s1.c = 0 := by
  by_cases q : s1.c = 0
  ·exact q
  ·have := fL_stay fldF l (hF2 k) s1 q
   rw [hq2] at this
   simp only at this
   rw [this] at z2
   exact absurd z2 q
 obtain ⟨p1, rfl⟩ : ∃ p, s1 = okS p := ⟨_, by have := fL_can F30 l h3 a (by rw [hq1]; exact z1); rw [hq1] at this; exact this⟩
 obtain ⟨o1, a1, b1, d1⟩ := fL_once F30 l hb h3 a p1 v1 ha hq1
 obtain ⟨p2, rfl⟩ : ∃ p, s2 = okS p := ⟨_, by have := fL_can fldF l (hF2 k) p1 (by rw [hq2]; exact z2); rw [hq2] at this; exact this⟩
 obtain ⟨o2, a2, b2, d2⟩ := fL_once fldF l hb (hF2 k) p1 p2 v2 b1 hq2
 obtain ⟨p3, rfl⟩ : ∃ p, s3 = okS p := ⟨_, by have := fL_can F30 l (hN7 k) p2 (by rw [hq3]; exact z3); rw [hq3] at this; exact this⟩
 obtain ⟨o3, a3, b3, d3⟩ := fL_once F30 l hb (hN7 k) p2 p3 v3 b2 hq3
 obtain ⟨p4, rfl⟩ : ∃ p, s4 = okS p := ⟨_, by have := fL_can fldD l [hasM k 100] p3 (by rw [hq4]; exact z4); rw [hq4] at this; exact this⟩
 obtain ⟨o4, a4, b4, d4⟩ := fL_once fldD l hb [hasM k 100] p3 p4 v4 b3 hq4
 obtain ⟨p5, rfl⟩ : ∃ p, s5 = okS p := ⟨_, by have := fL_can F8 l [hasM k 98] p4 (by rw [hq5]; exact z5); rw [hq5] at this; exact this⟩
 obtain ⟨o5, a5, b5, d5⟩ := fL_once F8 l hb [hasM k 98] p4 p5 v5 b4 hq5
 obtain ⟨i1, b', i2, i3, i4, i5⟩ := bats_once l hb p5 b5 (v5.getD 0 0).toNat h
 have hlb := bats_len l (okS p5) (v5.getD 0 0).toNat
 have l1 := fL_len (0 : Int) (gN 1073741824 l) h3 (okS a)
 have l2 := fL_len false (gF l) (hF2 k) (okS p1)
 have l3 := fL_len (0 : Int) (gN 1073741824 l) (hN7 k) (okS p2)
 have l4 := fL_len ([] : List Int) (gD l) [hasM k 100] (okS p3)
 have l5 := fL_len (0 : Int) (gN 8 l) [hasM k 98] (okS p4)
 rw [hq1] at l1
 rw [hq2] at l2
 rw [hq3] at l3
 rw [hq4] at l4
 rw [hq5] at l5
 simp only at l1 l2 l3 l4 l5
 rw [i2]
 generalize (batsG l (v5.getD 0 0).toNat (okS p5)).2 = vb at *
 obtain ⟨x0, x1, x2, rfl⟩ : ∃ x0 x1 x2, v1 = [x0, x1, x2] := by
  rcases v1 with _ | ⟨x0, _ | ⟨x1, _ | ⟨x2, _ | ⟨x3, r⟩⟩⟩⟩ <;> simp [h3] at l1
  exact ⟨_, _, _, rfl⟩
 obtain ⟨f0, f1, rfl⟩ : ∃ f0 f1, v2 = [f0, f1] := by
  rcases v2 with _ | ⟨x0, _ | ⟨x1, _ | ⟨x2, r⟩⟩⟩ <;> simp [hF2] at l2
  exact ⟨_, _, rfl⟩
 obtain ⟨y0, y1, y2, y3, y4, y5, y6, rfl⟩ : ∃ y0 y1 y2 y3 y4 y5 y6, v3 = [y0, y1, y2, y3, y4, y5, y6] := by
  rcases v3 with _ | ⟨x0, _ | ⟨x1, _ | ⟨x2, _ | ⟨x3, _ | ⟨x4, _ | ⟨x5, _ | ⟨x6, _ | ⟨x7, r⟩⟩⟩⟩⟩⟩⟩⟩ <;> simp [hN7] at l3
  exact ⟨_, _, _, _, _, _, _, rfl⟩
 obtain ⟨w0, rfl⟩ : ∃ w0, v4 = [w0] := by
  rcases v4 with _ | ⟨x0, _ | ⟨x1, r⟩⟩ <;> simp at l4
  exact ⟨_, rfl⟩
 obtain ⟨c0, rfl⟩ : ∃ c0, v5 = [c0] := by
  rcases v5 with _ | ⟨x0, _ | ⟨x1, r⟩⟩ <;> simp at l5
  exact ⟨_, rfl⟩
 have hc : c0 = (vb.length : Int) := by
  rw [hlb]
  have hh := o5.1
  simp only [List.getD_cons_zero]
  split at hh
  ·omega
  ·rw [hh]; rfl
 rw [hc] at o5 d5
 refine ⟨b', rfl, rfl, by omega, i4, ?_, ⟨o1, o2, o3, o4, o5, i1⟩⟩
 show l.drop a = (encs intL h3 [x0, x1, x2] ++ (encs (fun f => [flB f]) (hF2 k) [f0, f1] ++ (encs intL (hN7 k) [y0, y1, y2, y3, y4, y5, y6] ++ (encs enD [hasM k 100] [w0] ++ (encs intL [hasM k 98] [(vb.length : Int)] ++ batsL vb))))) ++ l.drop b'
 rw [d1, d2, d3, d4, d5, i5]
 simp only [List.append_assoc]
open Go.RowKit
structure Pl where
 a14 : Option Addr
 a15 : Option Addr
 a16 : Option Addr
 a17 : Option Addr
 c14 : Nat
 c15 : Nat
 c16 : Nat
 c17 : Nat
abbrev Rp := Rc × Pl
def cel (p : Rp) : List Value := cellsR p.1 p.2.a14 p.2.a15 p.2.a16 p.2.a17 p.2.c14 p.2.c15 p.2.c16 p.2.c17
def RwP (ok : Nat → Prop) (W : World) (p : Rp) : Prop := RwsR ok W p.1 p.2.a14 p.2.a15 p.2.a16 p.2.a17 p.2.c14 p.2.c15 p.2.c16 p.2.c17
theorem cel_len (p : Rp) : (cel p).length = 18 := rfl
theorem cel_one (p : Rp) : ∀ u ∈ cel p, u.oneCell' = true := fun v hv => by
 simp only [cel, cellsR, List.mem_cons, List.not_mem_nil, or_false] at hv
 rcases hv with rfl | rfl | rfl | rfl | rfl | rfl | rfl | rfl | rfl | rfl | rfl | rfl | rfl | rfl | rfl | rfl | rfl | rfl <;> rfl
theorem cel_all (p : Rp) : (cel p).toArray.all (·.oneCell') = true := all_oneCell_toArray (cel_one p)
theorem RwP.is {ok : Nat → Prop} {W : World} {p : Rp} (h : RwP ok W p) : IsR ok W (.agg (cel p).toArray) p.1 := ⟨_, _, _, _, _, _, _, _, rfl, h⟩
theorem RwP.imp {ok ok' : Nat → Prop} {W W' : World} {p : Rp} (h : RwP ok W p) (hk : ∀ b, b < W.heap.size → ok b → ok' b) (hc : ∀ b i, b < W.heap.size → ok b → W'.cell? ⟨b, i, none⟩ = W.cell? ⟨b, i, none⟩) : RwP ok' W' p :=
 ⟨h.h14.imp hk hc, h.h15.imp hk hc, h.h16.imp hk hc, h.h17.imp hk hc⟩
theorem RwP.below {ok : Nat → Prop} {W W' : World} {p : Rp} (h : RwP ok W p) (hb : Below W.heap.size W W') : RwP ok W' p := RwsR.below h hb
theorem isR_rp {ok : Nat → Prop} {W : World} {v : Value} {r : Rc} (h : IsR ok W v r) : ∃ p : Rp, p.1 = r ∧ v = .agg (cel p).toArray ∧ RwP ok W p := by
 obtain ⟨a14, a15, a16, a17, c14, c15, c16, c17, h1, h2⟩ := h
 exact ⟨(r, ⟨a14, a15, a16, a17, c14, c15, c16, c17⟩), rfl, h1, h2⟩
def rcs (ps : List Rp) : List Value := ps.flatMap cel
theorem rcs_cons (p : Rp) (ps : List Rp) : rcs (p :: ps) = cel p ++ rcs ps := by simp [rcs]
theorem rcs_app (ps qs : List Rp) : rcs (ps ++ qs) = rcs ps ++ rcs qs := by simp [rcs, List.flatMap_append]
theorem rcs_one (p : Rp) : rcs [p] = cel p := by simp [rcs]
theorem rcs_len (ps : List Rp) : (rcs ps).length = ps.length * 18 := by
 induction ps with
 | nil => rfl
 | cons p ps ih => rw [rcs_cons, List.length_append, ih, cel_len, List.length_cons]; omega
theorem rcs_all (ps : List Rp) : ∀ u ∈ rcs ps, u.oneCell' = true := fun u hu => by
 obtain ⟨p, _, h⟩ := List.mem_flatMap.1 hu
 exact cel_one p u h
theorem rcs_get : ∀ (ps : List Rp) (i : Nat) (h : i < ps.length) (j : Nat) (u : Value), (cel ps[i])[j]? = some u → (rcs ps)[i * 18 + j]? = some u
 | [], i, h, _, _, _ => by simp at h
 | p :: ps, 0, _, j, u, hj => by
  have hl : j < (cel p).length := (List.getElem?_eq_some_iff.1 hj).1
  rw [rcs_cons, Nat.zero_mul, Nat.zero_add, List.getElem?_append_left hl]
  exact hj
 | p :: ps, i + 1, h, j, u, hj => by
  rw [rcs_cons, List.getElem?_append_right (by rw [cel_len]; omega), cel_len, show (i + 1) * 18 + j - 18 = i * 18 + j by omega]
  exact rcs_get ps i (by simpa using h) j u hj
theorem range_at {W : World} {b o : Nat} {ps : List Rp} (h : W.rangeAt b o (rcs ps)) {i : Nat} (hi : i < ps.length) : W.rangeAt b (o + i * 18) (cel ps[i]) := fun j u hu => by
 rw [Nat.add_assoc]
 exact h _ u (rcs_get ps i hi j u hu)
theorem range_bel {W W' : World} {b o : Nat} {cs : List Value} (h : W.rangeAt b o cs) (hb : Below W.heap.size W W') : W'.rangeAt b o cs := fun j u hu =>
 (hb.cell (p := ⟨b, o + j, none⟩) (cell_block (h j u hu) : b < W.heap.size)).trans (h j u hu)
theorem range_imp {W W' : World} {b o : Nat} {cs : List Value} (h : W.rangeAt b o cs) (hc : ∀ i, b < W.heap.size → W'.cell? ⟨b, i, none⟩ = W.cell? ⟨b, i, none⟩) : W'.rangeAt b o cs := fun j u hu =>
 (hc _ (cell_block (h j u hu) : b < W.heap.size)).trans (h j u hu)
def Rl (okb ok : Nat → Prop) (W : World) (v : Value) (ps : List Rp) : Prop :=
 ((∃ ao cap, ps = [] ∧ v = .slice ao 0 cap) ∨ (∃ b o cap, v = .slice (some ⟨b, o, none⟩) ps.length cap ∧ ps.length ≤ cap ∧ okb b ∧ 0 < ps.length ∧ W.rangeAt b o (rcs ps))) ∧ ∀ p ∈ ps, RwP ok W p
theorem Rl.nil (okb ok : Nat → Prop) (W : World) (ao : Option Addr) (cap : Nat) : Rl okb ok W (.slice ao 0 cap) [] := ⟨.inl ⟨_, _, rfl, rfl⟩, fun p hp => by simp at hp⟩
theorem Rl.form {okb ok : Nat → Prop} {W : World} {v : Value} {ps : List Rp} (h : Rl okb ok W v ps) : ∃ ao cap, v = .slice ao ps.length cap := by
 rcases h.1 with ⟨ao, cap, rfl, rfl⟩ | ⟨b, o, cap, rfl, _⟩ <;> exact ⟨_, _, rfl⟩
theorem Rl.imp {okb ok okb' ok' : Nat → Prop} {W W' : World} {v : Value} {ps : List Rp} (h : Rl okb ok W v ps) (hkb : ∀ b, b < W.heap.size → okb b → okb' b) (hk : ∀ b, b < W.heap.size → ok b → ok' b) (hc : ∀ b i, b < W.heap.size → okb b ∨ ok b → W'.cell? ⟨b, i, none⟩ = W.cell? ⟨b, i, none⟩) : Rl okb' ok' W' v ps := by
 refine ⟨?_, fun p hp => (h.2 p hp).imp hk (fun b i hl q => hc b i hl (.inr q))⟩
 rcases h.1 with h1 | ⟨b, o, cap, h1, h2, h3, h4, h5⟩
 ·exact .inl h1
 ·have hl : b < W.heap.size := cell_block (h5 0 _ (List.getElem?_eq_getElem (by rw [rcs_len]; omega)))
  exact .inr ⟨b, o, cap, h1, h2, hkb b hl h3, h4, range_imp h5 (fun i hl => hc b i hl (.inl h3))⟩
theorem Rl.below {okb ok : Nat → Prop} {W W' : World} {v : Value} {ps : List Rp} (h : Rl okb ok W v ps) (hb : Below W.heap.size W W') : Rl okb ok W' v ps :=
 h.imp (fun _ _ q => q) (fun _ _ q => q) (fun b i hl _ => hb.cell (p := ⟨b, i, none⟩) hl)
theorem Rl.any {okb ok : Nat → Prop} {W : World} {v : Value} {ps : List Rp} (h : Rl okb ok W v ps) : Rl (fun _ => True) (fun _ => True) W v ps :=
 h.imp (fun _ _ _ => trivial) (fun _ _ _ => trivial) (fun _ _ _ _ => rfl)
theorem Rl.rg {okb ok : Nat → Prop} {w : World} {ao : Option Addr} {n cap : Nat} {ps : List Rp} (h : Rl okb ok w (.slice ao n cap) ps) : 0 < ps.length → ∃ b o, ao = some ⟨b, o, none⟩ ∧ w.rangeAt b o (rcs ps) := fun hp => by
 rcases h.1 with ⟨_, _, rfl, _⟩ | ⟨b, o, cap', e, _, _, _, h3⟩
 ·simp at hp
 ·cases e; exact ⟨b, o, rfl, h3⟩
def rcl (ps : List Rp) : List Rc := ps.map (·.1)
theorem rcl_len (ps : List Rp) : (rcl ps).length = ps.length := by simp [rcl]
def IsB (okb ok : Nat → Prop) (W : World) (v : Value) (x : Bt) : Prop := ∃ u ps, v = .agg #[.int .i64 x.t, .int .i64 x.b, u] ∧ Rl okb ok W u ps ∧ rcl ps = x.rs
theorem IsB.imp {okb ok okb' ok' : Nat → Prop} {W W' : World} {v : Value} {x : Bt} (h : IsB okb ok W v x) (hkb : ∀ b, b < W.heap.size → okb b → okb' b) (hk : ∀ b, b < W.heap.size → ok b → ok' b) (hc : ∀ b i, b < W.heap.size → okb b ∨ ok b → W'.cell? ⟨b, i, none⟩ = W.cell? ⟨b, i, none⟩) : IsB okb' ok' W' v x := by
 obtain ⟨u, ps, h1, h2, h3⟩ := h
 exact ⟨u, ps, h1, h2.imp hkb hk hc, h3⟩
theorem IsB.below {okb ok : Nat → Prop} {W W' : World} {v : Value} {x : Bt} (h : IsB okb ok W v x) (hb : Below W.heap.size W W') : IsB okb ok W' v x :=
 h.imp (fun _ _ q => q) (fun _ _ q => q) (fun b i hl _ => hb.cell (p := ⟨b, i, none⟩) hl)
theorem IsB.any {okb ok : Nat → Prop} {W : World} {v : Value} {x : Bt} (h : IsB okb ok W v x) : IsB (fun _ => True) (fun _ => True) W v x :=
 h.imp (fun _ _ _ => trivial) (fun _ _ _ => trivial) (fun _ _ _ _ => rfl)
theorem isB_zero (okb ok : Nat → Prop) (W : World) : IsB okb ok W (.agg #[.int .i64 0, .int .i64 0, .slice none 0 0]) Bt.zero := ⟨_, [], rfl, Rl.nil _ _ _ _ _, rfl⟩
theorem ret_b {a b : Bool} (h : a = b) : Ending.returned (.bool b) = .returned (.bool a) := by rw [h]
end Go.Proofs.YtjjpfajbljbelaaGreatDoor
